/-
  Contracts of package wire: Query, Reply.
-/
import Derived.Test.YtongceljdgmbdaaGreatDoorWireC
namespace Go.Proofs.YtongceljdgmbdaaGreatDoor
open Go.RowKit Go.Pantry

abbrev qryCells (h : Hd) (u b : Value) : Array Value := #[strV h.first, strV h.second, .int .i64 (h.minor : Int), u, b]
abbrev rplCells (h : Hd) (u b : Value) : Array Value := #[.int .i64 (h.status : Int), strV h.first, .int .i64 (h.minor : Int), u, b]
abbrev qryZero : Array Value := #[.string ⟨#[]⟩, .string ⟨#[]⟩, .int .i64 0, .slice none 0 0, .slice none 0 0]
abbrev rplZero : Array Value := #[.int .i64 0, .string ⟨#[]⟩, .int .i64 0, .slice none 0 0, .slice none 0 0]
/-- what a message's taking tells and leaves -/
def MsgPost (cells : Hd → Value → Value → Array Value) (zero : Array Value) (g : Nat) (v : Value) (w : World) (x : Except Nat (Hd × List UInt8) × Rd) (e : Ending) (w' : World) : Prop :=
  (match x.1 with
    | .error k => k ≠ 0 ∧ e = .returned (.tuple #[.agg zero, .int .i64 (k : Int)])
    | .ok (h, b) => ∃ vl vb, e = .returned (.tuple #[.agg (cells h vl vb), .int .i64 0]) ∧ w'.ownsRow w.heap.size 104 2 vl h.flds.length (fldCells h.flds) ∧ w'.ownsRow w.heap.size 5 1 vb b.length (b.map byteV)) ∧
  ∃ v', RdAt w' g v' x.2 ∧ Kept (Fp g v) w w' ∧ In (fun k => v.ownBlock = some k) v'
theorem infoQry : (Tryz.prog.info? 42).map (·.size) = some 5 := by kernel_rfl
theorem infoRpl : (Tryz.prog.info? 55).map (·.size) = some 5 := by kernel_rfl
theorem one5q (a b : List UInt8) (z : Int) (ao ap : Option Addr) (n c m d : Nat) : (#[strV a, strV b, .int .i64 z, .slice ao n c, .slice ap m d] : Array Value).all (·.oneCell') = true := by simp [Value.oneCell']
theorem one5r (y z : Int) (a : List UInt8) (ao ap : Option Addr) (n c m d : Nat) : (#[.int .i64 y, strV a, .int .i64 z, .slice ao n c, .slice ap m d] : Array Value).all (·.oneCell') = true := by simp [Value.oneCell']
set_option maxRecDepth 100000 in
set_option maxHeartbeats 4000000 in
theorem query_any (g : Nat) (v : Value) (s : Rd) (w : World) (hr : RdAt w g v s) (hm : MaxOk w) (hl : s.came.length ≤ 8192) :
    Calls Tryz.prog 14 #[.pointer (some ⟨g, 0, none⟩)] w fun e w' => MsgPost qryCells qryZero g v w (queryX s) e w' := by
  obtain ⟨W0, hW0⟩ : ∃ W, W = w.alloc (.cells qryZero 42) := ⟨_, rfl⟩
  have hb0 : Below w.heap.size w W0 := by rw [hW0]; exact below_alloc _ _
  have hres : rowIs W0 w.heap.size qryZero 42 := by rw [hW0]; exact rowIs_new _ _ _
  have hrd : RdAt W0 g v s := hr.below hb0
  have hx0 : ¬ Fp g v w.heap.size := fun h => by have := Fp.lt hr h; omega
  have c1 := nextReq_any g v s W0 hrd (hm.below hb0) hl
  change Calls _ _ _ W0 (fun e w' => NextPost _ _ g v W0 (queryX s) e w') at c1
  have hkp : Kept (Fp g v) w W0 := Kept.of_below hb0
  have hs0 : w.heap.size < W0.heap.size := hres.lt
  have hlt := fun k (hk : Fp g v k) => Fp.lt hr hk
  have C1 := hid c1
  have HX0 := hid hx0
  have HLT := hid hlt
  generalize queryX s = x at C1 ⊢
  clear c1 hrd hm hl hb0 hr hx0 hlt
  go_enter Tryz.func14, Tryz.ntmps14
  go_wp2_with fail
  rw [← hW0]
  clear hW0
  refine C1.out.mono ?_
  rintro e w1 ⟨hx, v', hrd1, hk1, hin⟩
  have hres1 := hres.kept hk1 HX0.out
  have hkA := hkp.trans hk1 (fun k hk _ => hk)
  have hs1 : W0.heap.size ≤ w1.heap.size := hk1.size
  clear C1 hres hkp hk1
  obtain ⟨y, s'⟩ := x
  cases y with
  | error k =>
    obtain ⟨hk0, rfl⟩ := hx
    obtain ⟨W2, hW2⟩ : ∃ W, W = w1.alloc (.cells #[.string ⟨#[]⟩, .string ⟨#[]⟩, .int .i64 0, .slice none 0 0] 40) := ⟨_, rfl⟩
    have hb2 : Below w1.heap.size w1 W2 := by rw [hW2]; exact below_alloc _ _
    have hres2 := hres1.below hb2
    have hrd2 := hrd1.below hb2
    have hkB := hkA.then hb2
    rw [hW2] at hres2 hrd2 hkB
    have HF := hid (And.intro hres2 (And.intro hrd2 hkB))
    have HK := hid (And.intro hk0 hin)
    clear hres1 hrd1 hkA hb2 hW2 hres2 hrd2 hkB hk0 hin
    go_wp2_with (refine wpList_store_row rfl 42 _ _ rfl w.heap.size qryZero rfl rfl 42 qryZero HF.out.1 infoQry rfl (one5q [] [] 0 none none 0 0 0 0) ?_)
    refine bodyPost_ret (results_row2 Tryz.results14 _ _ w.heap.size _ rfl (HF.out.1.setRow qryZero) Tryz.underlying42 rfl infoQry) rfl ?_
    exact ⟨⟨HK.out.1, rfl⟩, v', HF.out.2.1.kept ((Kept.refl (fun b => b = w.heap.size) _).setRow (.inl rfl) _) (fun b hb e => by
      rcases hb with hb | hb
      · exact HX0.out (by rw [← e]; exact .inl hb)
      · exact HX0.out (by rw [← e]; exact .inr (HK.out.2 _ hb))), HF.out.2.2.setRow (.inr (Nat.le_refl _)) _, HK.out.2⟩
  | ok p =>
    obtain ⟨h, b⟩ := p
    obtain ⟨vl, vb, rfl, hol, hob⟩ := hx
    obtain ⟨aol, cl, rfl⟩ := ownsRow_form hol
    obtain ⟨aob, cb, rfl⟩ := ownsRow_bytes_form hob
    obtain ⟨W2, hW2⟩ : ∃ W, W = w1.alloc (.cells #[strV h.first, strV h.second, .int .i64 (h.minor : Int), .slice aol h.flds.length cl] 40) := ⟨_, rfl⟩
    have hb2 : Below w1.heap.size w1 W2 := by rw [hW2]; exact below_alloc _ _
    have hres2 := hres1.below hb2
    have hrd2 := hrd1.below hb2
    have hkB := hkA.then hb2
    have hol2 := hol.below hb2
    have hob2 := hob.below hb2
    rw [hW2] at hres2 hrd2 hkB hol2 hob2
    have HF := hid (And.intro hres2 (And.intro hrd2 (And.intro hkB (And.intro hol2 hob2))))
    have HK := hid hin
    clear hres1 hrd1 hkA hb2 hW2 hres2 hrd2 hkB hin hol hob hol2 hob2
    unfold reqCells
    go_wp2_with (refine wpList_store_row rfl 42 _ _ rfl w.heap.size (qryCells h (.slice aol h.flds.length cl) (.slice aob b.length cb)) rfl rfl 42 qryZero HF.out.1 infoQry rfl (one5q _ _ _ _ _ _ _ _ _) ?_)
    refine bodyPost_ret (results_row2 Tryz.results14 _ _ w.heap.size _ rfl (HF.out.1.setRow (qryCells h (.slice aol h.flds.length cl) (.slice aob b.length cb))) Tryz.underlying42 rfl infoQry) rfl ?_
    obtain ⟨hres2, hrd2, hkB, hol2, hob2⟩ := HF.out
    have hkR := (Kept.refl (fun k => k = w.heap.size) (w1.alloc (.cells #[strV h.first, strV h.second, .int .i64 (h.minor : Int), .slice aol h.flds.length cl] 40))).setRow (.inl rfl) (qryCells h (.slice aol h.flds.length cl) (.slice aob b.length cb))
    refine ⟨⟨_, _, rfl, ?_, ?_⟩, v', hrd2.kept hkR (fun k hb e => by
      rcases hb with hb | hb
      · exact HX0.out (by rw [← e]; exact .inl hb)
      · exact HX0.out (by rw [← e]; exact .inr (HK.out _ hb))), hkB.setRow (.inr (Nat.le_refl _)) _, HK.out⟩
    · exact (ownsRow_kept hol2 hkR ((ownsRow_in hol2).mono fun k hk => by have := hk.1; omega)).base (by omega)
    · exact (ownsRow_kept hob2 hkR ((ownsRow_in hob2).mono fun k hk => by have := hk.1; omega)).base (by omega)
set_option maxRecDepth 100000 in
set_option maxHeartbeats 4000000 in
theorem frame1_any (mb : Nat) (mt : List UInt8) (st : Int) (m : List UInt8) (z : Int) (u : Value) (L : List Fld) (w : World) (hc : w.cell? ⟨mb, 0, none⟩ = some (strV mt)) (hr : Reads2 w u L) (hk : okFs L) :
    Calls Tryz.prog 38 #[.agg #[.int .i64 st, strV m, .int .i64 z, u], .pointer (some ⟨mb, 0, none⟩)] w fun e w' => FrameIs (if bareX (mt == [72, 69, 65, 68]) st then .ok (0, 0) else frameX z 3 L) e ∧ Below w.heap.size w w' := by
  obtain ⟨ao, cap, rfl⟩ := hr.form
  obtain ⟨W0, hW0⟩ : ∃ W, W = (w.alloc (.cells #[.int .i64 st, strV m, .int .i64 z, .slice ao L.length cap] 53)).alloc (.cells #[.int .i64 0, .int .i64 0] 96) := ⟨_, rfl⟩
  have hb0 : Below w.heap.size w W0 := by rw [hW0]; exact (below_alloc _ _).alloc (by simp) _
  have hin : rowIs W0 w.heap.size #[.int .i64 st, strV m, .int .i64 z, .slice ao L.length cap] 53 := by rw [hW0]; exact (rowIs_new _ _ _).below (below_alloc _ _)
  have hres : rowIs W0 (w.heap.size + 1) #[.int .i64 0, .int .i64 0] 96 := by rw [hW0]; exact rowIs_new_at _ _ _ _ (by simp)
  have hc0 := kept hc hb0
  have c1 := OfResponse_any mt m st z (.slice ao L.length cap) L W0 (hr.below hb0) hk
  generalize (if bareX (mt == [72, 69, 65, 68]) st then Except.ok (0, 0) else frameX z 3 L) = x at c1 ⊢
  have C1 := hid c1
  have g0 := hin.cell 0
  have g1 := hin.cell 1
  have g2 := hin.cell 2
  have g3 := hin.cell 3
  rw [hW0] at hc0 g0 g1 g2 g3
  have HR := hid hres
  clear c1 hr hc hin hres
  go_enter Tryz.func38, Tryz.ntmps38
  go_wp2_with fail
  rw [← hW0]
  clear hW0 hc0 g0 g1 g2 g3
  refine C1.out.mono ?_
  rintro e w1 ⟨hf, hb1⟩
  obtain ⟨t1, t2, t3, ht, rfl⟩ := hf.form
  have HR1 := hid (HR.out.below hb1)
  have HB := hid (chain2 hb0 hb0.size hb1)
  have HT := hid ht
  clear C1 HR hb0 hb1 hf ht
  go_wp2_with (refine wpList_store_row rfl 96 _ _ rfl (w.heap.size + 1) _ rfl rfl 96 #[.int .i64 0, .int .i64 0] HR1.out infoFrS rfl (oneF t1 t2) ?_)
  refine bodyPost_ret (results_row2 Tryz.results38 _ _ (w.heap.size + 1) _ rfl (HR1.out.setRow #[.int .i64 t1, .int .i64 t2]) Tryz.underlying96 rfl infoFrS) rfl ?_
  exact ⟨by unfold FrameIs; rw [HT.out]; rfl, below_setRow HB.out (Nat.le_succ _) _⟩
/-- how many bytes the reader at g has -/
def lenAt (w : World) (g : Nat) : Nat := match w.cell? ⟨g, 0, none⟩ with | some (.slice _ n _) => n | _ => 0
theorem RdAt.len {w : World} {g : Nat} {v : Value} {s : Rd} (h : RdAt w g v s) : lenAt w g = s.came.length := by
  obtain ⟨ao, c, rfl⟩ := h.form
  unfold lenAt
  rw [h.row.cell 0]
  rfl
set_option maxRecDepth 100000 in
set_option maxHeartbeats 8000000 in
theorem reply_any (g : Nat) (v : Value) (s : Rd) (mt : List UInt8) (w0 w : World) (hr : RdAt w g v s) (hm : MaxOk w0) (hbw : Below w0.heap.size w0 w) (hF : ∀ k, Fp g v k → w0.heap.size ≤ k) (hl : s.came.length ≤ 8192) :
    Calls Tryz.prog 18 #[.pointer (some ⟨g, 0, none⟩), strV mt] w fun e w' => MsgPost rplCells rplZero g v w (replyX (mt == [72, 69, 65, 68]) (s.came.length + 1) s) e w' := by
  obtain ⟨R, hR⟩ : ∃ R, replyX (mt == [72, 69, 65, 68]) (s.came.length + 1) s = R := ⟨_, rfl⟩
  rw [hR]
  obtain ⟨W0, hW0⟩ : ∃ W, W = (w.alloc (.cells #[strV mt] 9)).alloc (.cells rplZero 55) := ⟨_, rfl⟩
  have hb0 : Below w.heap.size w W0 := by rw [hW0]; exact (below_alloc _ _).alloc (by simp) _
  have hmb : rowIs W0 w.heap.size #[strV mt] 9 := by rw [hW0]; exact (rowIs_new _ _ _).below (below_alloc _ _)
  have hres : rowIs W0 (w.heap.size + 1) rplZero 55 := by rw [hW0]; exact rowIs_new_at _ _ _ _ (by simp)
  have hlt := fun k (hk : Fp g v k) => Fp.lt hr hk
  have HLT := hid hlt
  have HI : Hid (∃ v' s' k, RdAt W0 g v' s' ∧ Kept (Fp g v) w W0 ∧ In (fun k => v.ownBlock = some k) v' ∧ rowIs W0 w.heap.size #[strV mt] 9 ∧ rowIs W0 (w.heap.size + 1) rplZero 55 ∧ s'.came.length < k ∧ replyX (mt == [72, 69, 65, 68]) k s' = R ∧ s'.came.length ≤ 8192) :=
    ⟨v, s, _, hr.below hb0, Kept.of_below hb0, fun k hk => hk, hmb, hres, by omega, hR, hl⟩
  have HM := hid (And.intro hm (And.intro hbw hF))
  clear hb0 hmb hres hlt hR hm hl hr hbw hF
  go_enter Tryz.func18, Tryz.ntmps18
  go_wp2_with fail
  rw [← hW0]
  clear hW0
  go_loopw [] (fun wr => ∃ v' s' k, RdAt wr g v' s' ∧ Kept (Fp g v) w wr ∧ In (fun k => v.ownBlock = some k) v' ∧ rowIs wr w.heap.size #[strV mt] 9 ∧ rowIs wr (w.heap.size + 1) rplZero 55 ∧ s'.came.length < k ∧ replyX (mt == [72, 69, 65, 68]) k s' = R ∧ s'.came.length ≤ 8192) (fun wr => lenAt wr g)
  case atStart => exact HI.out
  case round =>
    clear HI
    obtain ⟨v', s', k, hrd, hkp, hin, hmb, hres, hk, hR, hl⟩ := hrel
    have hxx : ∀ b, w.heap.size ≤ b → ¬ Fp g v' b := fun b hb h => by
      rcases h with h | h
      · have := HLT.out b (.inl h); omega
      · have := HLT.out b (.inr (hin b h)); omega
    obtain ⟨k, rfl⟩ : ∃ j, k = j + 1 := ⟨k - 1, by omega⟩
    rw [replyX] at hR
    have hmr : MaxOk wr := HM.out.1.below (HM.out.2.1.trans (hkp.below (fun k hk _ => HM.out.2.2 k hk) HM.out.2.1.size))
    have c1 := nextRes_any w.heap.size (mt == [72, 69, 65, 68]) g v' s' wr hrd hmr hl (fun W st m z u L hk h1 h2 => frame1_any w.heap.size mt st m z u L W ((hmb.kept hk (hxx _ (Nat.le_refl _))).cell 0) h1 h2)
    have hlen := hrd.len
    have hc1 : ∀ y t, respX (mt == [72, 69, 65, 68]) s' = (.ok y, t) → t.came.length < s'.came.length := fun y t h => (nextX_ok h).1
    change Calls _ _ _ wr (fun e w' => NextPost _ _ g v' wr (respX (mt == [72, 69, 65, 68]) s') e w') at c1
    generalize respX (mt == [72, 69, 65, 68]) s' = X at *
    obtain ⟨y, s2⟩ := X
    have C1 := hid c1
    have HXX := hid hxx
    have HR := hid hR
    have HC := hid hc1
    have HIN := hid hin
    have hws : w.heap.size + 2 ≤ wr.heap.size := hres.lt
    clear c1 hxx hR hc1 hmr hin hrd
    go_wp2_with fail
    refine C1.out.mono ?_
    rintro e w1 ⟨hx, v2, hrd1, hk1, hin2⟩
    have hmb1 := hmb.kept hk1 (HXX.out _ (Nat.le_refl _))
    have hres1 := hres.kept hk1 (HXX.out _ (Nat.le_succ _))
    have hkA := hkp.trans hk1 (fun b hb _ => by
      rcases hb with hb | hb
      · exact .inl hb
      · exact .inr (HIN.out b hb))
    have hinA : In (fun k => v.ownBlock = some k) v2 := fun b hb => HIN.out b (hin2 b hb)
    have hs1 : wr.heap.size ≤ w1.heap.size := hk1.size
    have hx2 : ∀ b, w.heap.size ≤ b → ¬ Fp g v2 b := fun b hb h => by
      rcases h with h | h
      · have := HLT.out b (.inl h); omega
      · have := HLT.out b (.inr (hinA b h)); omega
    have HX2 := hid hx2
    clear C1 hres hmb hkp hk1 hin2 hx2
    cases y with
    | error k =>
      obtain ⟨hk0, rfl⟩ := hx
      obtain ⟨W2, hW2⟩ : ∃ W, W = w1.alloc (.cells #[.int .i64 0, .string ⟨#[]⟩, .int .i64 0, .slice none 0 0] 53) := ⟨_, rfl⟩
      have hb2 : Below w1.heap.size w1 W2 := by rw [hW2]; exact below_alloc _ _
      have hres2 := hres1.below hb2
      have hrd2 := hrd1.below hb2
      have hkB := hkA.then hb2
      rw [hW2] at hres2 hrd2 hkB
      have hc0 : ((k : Int) != 0) = true := by simp; omega
      have HF := hid (And.intro hres2 (And.intro hrd2 hkB))
      have HK := hid (And.intro hk0 hinA)
      clear hres1 hrd1 hkA hb2 hW2 hres2 hrd2 hkB hk0 hinA hmb1
      go_wp2_with (refine wpList_store_row rfl 55 _ _ rfl (w.heap.size + 1) rplZero rfl rfl 55 rplZero HF.out.1 infoRpl rfl (one5r 0 0 [] none none 0 0 0 0) ?_)
      refine bodyPost_ret (results_row2 Tryz.results18 _ _ (w.heap.size + 1) _ rfl (HF.out.1.setRow rplZero) Tryz.underlying55 rfl infoRpl) rfl ?_
      rw [← HR.out]
      exact ⟨⟨HK.out.1, rfl⟩, v2, HF.out.2.1.kept ((Kept.refl (fun b => b = w.heap.size + 1) _).setRow (.inl rfl) _) (fun b hb e => by subst e; exact HX2.out _ (Nat.le_succ _) hb), HF.out.2.2.setRow (.inr (Nat.le_succ _)) _, HK.out.2⟩
    | ok p =>
      obtain ⟨h, b⟩ := p
      obtain ⟨vl, vb, rfl, hol, hob⟩ := hx
      obtain ⟨aol, cl, rfl⟩ := ownsRow_form hol
      obtain ⟨aob, cb, rfl⟩ := ownsRow_bytes_form hob
      obtain ⟨W2, hW2⟩ : ∃ W, W = w1.alloc (.cells #[.int .i64 (h.status : Int), strV h.first, .int .i64 (h.minor : Int), .slice aol h.flds.length cl] 53) := ⟨_, rfl⟩
      have hb2 : Below w1.heap.size w1 W2 := by rw [hW2]; exact below_alloc _ _
      have hres2 := hres1.below hb2
      have hmb2 := hmb1.below hb2
      have hrd2 := hrd1.below hb2
      have hkB := hkA.then hb2
      have hol2 := hol.below hb2
      have hob2 := hob.below hb2
      rw [hW2] at hres2 hrd2 hkB hol2 hob2 hmb2
      have HF := hid (And.intro hres2 (And.intro hrd2 (And.intro hkB (And.intro hol2 hob2))))
      have HK := hid (And.intro hinA hmb2)
      clear hres1 hrd1 hkA hb2 hW2 hres2 hrd2 hkB hinA hol hob hol2 hob2 hmb1 hmb2
      unfold resCells
      by_cases hst : h.status < 200
      · have hz : ¬ (200 : Int) ≤ (h.status : Int) := by omega
        have hR := HR.out
        simp only at hR
        rw [if_pos hst] at hR
        have hcl := HC.out _ _ rfl
        have HZ := hid (And.intro hR hcl)
        clear hR hcl hst HR HC
        go_wp2_with fail
        go_roundw
        case rel => exact ⟨v2, s2, k, HF.out.2.1, HF.out.2.2.1, HK.out.1, HK.out.2, HF.out.1, by have := HZ.out.2; omega, HZ.out.1, by have := HZ.out.2; omega⟩
        case measure =>
          rw [HF.out.2.1.len, hlen]
          exact HZ.out.2
      · have hz : (200 : Int) ≤ (h.status : Int) := by omega
        have hR := HR.out
        simp only at hR
        rw [if_neg hst] at hR
        have HZ := hid hR
        clear hR hst HR HC
        go_wp2_with (refine wpList_store_row rfl 55 _ _ rfl (w.heap.size + 1) (rplCells h (.slice aol h.flds.length cl) (.slice aob b.length cb)) rfl rfl 55 rplZero HF.out.1 infoRpl rfl (one5r _ _ _ _ _ _ _ _ _) ?_)
        refine bodyPost_ret (results_row2 Tryz.results18 _ _ (w.heap.size + 1) _ rfl (HF.out.1.setRow (rplCells h (.slice aol h.flds.length cl) (.slice aob b.length cb))) Tryz.underlying55 rfl infoRpl) rfl ?_
        rw [← HZ.out]
        obtain ⟨hres2, hrd2, hkB, hol2, hob2⟩ := HF.out
        have hkR := (Kept.refl (fun k => k = w.heap.size + 1) (w1.alloc (.cells #[.int .i64 (h.status : Int), strV h.first, .int .i64 (h.minor : Int), .slice aol h.flds.length cl] 53))).setRow (.inl rfl) (rplCells h (.slice aol h.flds.length cl) (.slice aob b.length cb))
        refine ⟨⟨_, _, rfl, ?_, ?_⟩, v2, hrd2.kept hkR (fun b hb e => by subst e; exact HX2.out _ (Nat.le_succ _) hb), hkB.setRow (.inr (Nat.le_succ _)) _, HK.out.1⟩
        · exact (ownsRow_kept hol2 hkR ((ownsRow_in hol2).mono fun k hk => by have := hk.1; omega)).base (by omega)
        · exact (ownsRow_kept hob2 hkR ((ownsRow_in hob2).mono fun k hk => by have := hk.1; omega)).base (by omega)
end Go.Proofs.YtongceljdgmbdaaGreatDoor
