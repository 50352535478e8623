/-
  Several texts in one: WireB, WireC, WireD.
-/
import Derived.Test.YtefplhkjcclppaaGreatDoorW8f03
import Derived.Test.YtefplhkjcclppaaGreatDoorW8f09
import Derived.Test.YtefplhkjcclppaaGreatDoorW8fBodyE
import Derived.Test.YtefplhkjcclppaaGreatDoorPureAll2
/-
  Contracts of package wire: next, of requests and of responses.
-/
namespace Go.Proofs.YtefplhkjcclppaaGreatDoor
open Go.RowKit Go.Pantry

theorem slice_gives {P : Program} {ρ : Operand → Value} {o : Oper} {t : TypeId} {x lo : Operand} (ho : o.op = .slice t x (some lo) none none) {vx vl vr : Value} (hx : ρ x = vx) (hl : ρ lo = vl) (ht : P.underlying t = some (.slice (P.elem t))) {W : World}
    (hr : (Instr.slice t vx (some vl) none none).run P W = .ok vr W) : (execOp ρ o).run P W = .ok (.value vr) W := by
  unfold execOp
  simp only [ho, hx, hl, Option.map_some, Option.map_none, Sem.run_bind, run_sliceAt_slice W t vx (some vl) none none ht, hr, Sem.run_pure, Result.andThen_ok]
theorem resFr_err {hd : Bool} {h : Hd} {k : Nat} (hf : resFr hd h = .error k) : k ≠ 0 := by
  unfold resFr at hf
  split at hf
  · cases hf
  · have := frameX_err hf; omega
def reqCells (h : Hd) (u : Value) : Array Value := #[strV h.first, strV h.second, .int .i64 (h.minor : Int), u]
def resCells (h : Hd) (u : Value) : Array Value := #[.int .i64 (h.status : Int), strV h.first, .int .i64 (h.minor : Int), u]
/-- what next tells and leaves -/
def NextPost (cells : Hd → Value → Array Value) (zero : Array Value) (g : Nat) (v : Value) (w : World) (x : Except Nat (Hd × List UInt8) × Rd) (e : Ending) (w' : World) : Prop :=
  (match x.1 with
    | .error k => k ≠ 0 ∧ e = .returned (.tuple #[.agg zero, .slice none 0 0, .int .i64 (k : Int)])
    | .ok (h, b) => ∃ vl vb, e = .returned (.tuple #[.agg (cells h vl), vb, .int .i64 0]) ∧ w'.ownsRow w.heap.size 110 2 vl h.flds.length (fldCells h.flds) ∧ w'.ownsRow w.heap.size 5 1 vb b.length (b.map byteV)) ∧
  ∃ v', RdAt w' g v' x.2 ∧ Kept (Fp g v) w w' ∧ In (fun k => v.ownBlock = some k) v'
theorem headE_ne (closed : Bool) (came : List UInt8) {k : Nat} (h : k ≠ 0) : headE closed came k ≠ 0 := by
  unfold headE
  split
  · split <;> decide
  · exact h
theorem okFs_right {L : List Fld} (h : rightFs L = true) : okFs L := by
  unfold rightFs at h
  simp only [Bool.and_eq_true, decide_eq_true_eq] at h
  refine ⟨by omega, fun f hf => ?_⟩
  have := List.all_eq_true.1 h.2 f hf
  unfold rightF at this
  simp only [Bool.and_eq_true, decide_eq_true_eq] at this
  omega
theorem okFs_read {first : List UInt8 → Except Nat Hd} {s : List UInt8} {h : Hd} {n : Nat} (hr : readL first s = .ok (h, n)) : okFs h.flds := by
  obtain ⟨i, a, l, g, h1, h2, h3, h4, h5, h6, h7⟩ := readL_ok hr
  exact okFs_right (flds_right h6)
theorem okFs_read_q {s : List UInt8} {h : Hd} {n : Nat} (hr : readL reqL s = .ok (h, n)) : okFs h.flds := okFs_read hr
theorem okFs_read_s {s : List UInt8} {h : Hd} {n : Nat} (hr : readL resL s = .ok (h, n)) : okFs h.flds := okFs_read hr
theorem bodyX_readF (k m : Nat) (c : Bool) (l : List UInt8) : readF (k : Int) (m : Int) c l = bodyX k m c l := by
  unfold readF bodyX
  have e1 : (((m : Int) < 0) ∨ (2048 < (m : Int))) ↔ 2048 < m := by omega
  have e2 : ((k : Int) = 0) ↔ k = 0 := by omega
  have e3 : ((k : Int) = 1) ↔ k = 1 := by omega
  have e4 : ((k : Int) = 2) ↔ k = 2 := by omega
  have e5 : ((k : Int) = 3) ↔ k = 3 := by omega
  have e6 : ((l.length : Int) < (m : Int)) ↔ l.length < m := by omega
  simp only [e1, e2, e3, e4, e5, e6, Int.toNat_natCast]
  have e7 : lackN c = lackW c := rfl
  rw [e7]
  have e8 : ∀ x, readOf l.length x = ofChunks l.length x := fun x => by cases x <;> rfl
  rw [e8]
set_option maxRecDepth 100000 in
set_option maxHeartbeats 8000000 in
theorem nextReq_any (g : Nat) (v : Value) (s : Rd) (w : World) (hr : RdAt w g v s) (hm : MaxOk w) (hl : s.came.length ≤ 8192) :
    Calls Tryz.prog 17 #[.pointer (some ⟨g, 0, none⟩), (.func (.func 18) #[] #[]), (.func (.func 19) #[] #[])] w fun e w' => NextPost reqCells #[.string ⟨#[]⟩, .string ⟨#[]⟩, .int .i64 0, .slice none 0 0] g v w (nextX (readL reqL) reqFr s) e w' := by
  obtain ⟨came, closed, wrong⟩ := s
  simp only at hl
  obtain ⟨ao, cap, rfl⟩ := hr.form
  obtain ⟨W0, hW0⟩ : ∃ W, W = (w.alloc (.cells #[.string ⟨#[]⟩, .string ⟨#[]⟩, .int .i64 0, .slice none 0 0] 40)).alloc (.cells #[.string ⟨#[]⟩, .string ⟨#[]⟩, .int .i64 0, .slice none 0 0] 40) := ⟨_, rfl⟩
  have hb0 : Below w.heap.size w W0 := by rw [hW0]; exact (below_alloc _ _).alloc (by simp) _
  have hres : rowIs W0 w.heap.size #[.string ⟨#[]⟩, .string ⟨#[]⟩, .int .i64 0, .slice none 0 0] 40 := by rw [hW0]; exact (rowIs_new _ _ _).below (below_alloc _ _)
  have hno : rowIs W0 (w.heap.size + 1) #[.string ⟨#[]⟩, .string ⟨#[]⟩, .int .i64 0, .slice none 0 0] 40 := by rw [hW0]; exact rowIs_new_at _ _ _ _ (by simp)
  have hrd : RdAt W0 g (.slice ao came.length cap) ⟨came, closed, wrong⟩ := hr.below hb0
  have hx0 : ¬ Fp g (.slice ao came.length cap) w.heap.size := fun h => by have := Fp.lt hr h; omega
  have hx1 : ¬ Fp g (.slice ao came.length cap) (w.heap.size + 1) := fun h => by have := Fp.lt hr h; omega
  have hkp : Kept (Fp g (.slice ao came.length cap)) w W0 := Kept.of_below hb0
  have HX0 := hid hx0
  have HX1 := hid hx1
  have HLT := hid (fun k hk => Fp.lt hr (k := k) hk)
  have h2 := hrd.row.cell 2
  have hm0 := hm.below hb0
  clear hx0 hx1 hr hm
  by_cases hw : wrong = 0
  · subst hw
    have CO := hid (fun k W h => ofHead_any g (.slice ao came.length cap) ⟨came, closed, 0⟩ k W h)
    have CT := hid (fun k W h => tell_any g (.slice ao came.length cap) ⟨came, closed, 0⟩ k W h rfl)
    have h0 := hrd.row.cell 0
    obtain ⟨X, hX⟩ : ∃ X, nextX (readL reqL) reqFr ⟨came, closed, 0⟩ = X := ⟨_, rfl⟩
    rw [hX]
    unfold nextX at hX
    simp only [ne_eq, not_true_eq_false, if_false] at hX
    have hrr := (bytesRead hrd.bytes)
    have hro : came.length ≤ cap := by obtain ⟨_, _, e, hc⟩ := bytes_form hrd.bytes; cases e; exact hc
    have c1 := ReadRequest_any ao cap came W0 hrr hro hm0
    clear hrr hm0
    cases hread : readL reqL came with
    | error k =>
      rw [hread] at c1 hX
      simp only at hX
      have C1 := hid c1
      have HX := hid hX
      clear c1 hX hread
      have s0 := h0
      have s2 := h2
      rw [hW0] at s0 s2
      go_enter Tryz.func17, Tryz.ntmps17
      go_wp2_with fail
      rw [← hW0]
      clear hW0 s0 s2
      refine C1.out.mono ?_
      rintro e w3 ⟨⟨hk0, rfl⟩, hb3⟩
      have hc0 : ((k : Int) != 0) = true := by simp; omega
      obtain ⟨W4, hW4⟩ : ∃ W, W = w3.alloc (.cells #[.string ⟨#[]⟩, .string ⟨#[]⟩, .int .i64 0, .slice none 0 0] 40) := ⟨_, rfl⟩
      have hb4 : Below W0.heap.size W0 W4 := hb3.trans (by rw [hW4]; exact (below_alloc _ _).mono hb3.size)
      have hrd4 := hrd.below hb4
      have hres4 := hres.below hb4
      have hno4 := hno.below hb4
      have hkp4 := hkp.then hb4
      clear hrd hres hno hkp h0 h2 hb0 hb3 hb4 C1
      go_wp2_with fail
      rw [← hW4]
      clear hW4
      have hrd := hrd4.drew
      have hres : rowIs W4.drew w.heap.size #[.string ⟨#[]⟩, .string ⟨#[]⟩, .int .i64 0, .slice none 0 0] 40 := hres4
      have hno := hno4
      have hkp := hkp4.drew
      clear hrd4 hres4 hno4 hkp4
      refine wp_region_held_drew (S := fun W => rowIs W (w.heap.size + 1) #[.string ⟨#[]⟩, .string ⟨#[]⟩, .int .i64 0, .slice none 0 0] 40) (by kernel_rfl) (show rowIs _ _ _ _ from hno) (fun hH => ?_)
      refine wpAnyH_take (i := 0) (v := (.agg #[.string ⟨#[]⟩, .string ⟨#[]⟩, .int .i64 0, .slice none 0 0])) rfl (by kernel_rfl) (by kernel_rfl) (by kernel_rfl) (fun _ _ _ h => h) (Or.inl ⟨by kernel_rfl, ?_⟩) hH ?_
      · intro W hS
        exact load_gives rfl (w.heap.size + 1) rfl hS Tryz.underlying40 rfl infoReqS
      simp only [Act.put, List.getElem_toArray, List.getElem_cons_zero, List.setIfInBounds_toArray, List.set_cons_zero, List.set_cons_succ]
      refine wpAnyH_take (i := 1) (v := ?_) rfl (by kernel_rfl) (by kernel_rfl) (by kernel_rfl) (fun _ _ _ h => h) (Or.inl ⟨by kernel_rfl, ?_⟩) hH ?_
      rotate_left
      · intro W hS
        go_simp
        first | done | with_reducible rfl
      simp only [Act.put, List.getElem_toArray, List.getElem_cons_succ, List.getElem_cons_zero, List.setIfInBounds_toArray, List.set_cons_zero, List.set_cons_succ]
      refine wpAnyH_take (i := 2) (v := ?_) rfl (by kernel_rfl) (by kernel_rfl) (by kernel_rfl) (fun _ _ _ h => h) (Or.inl ⟨by kernel_rfl, ?_⟩) hH ?_
      rotate_left
      · intro W hS
        go_simp
        first | done | with_reducible rfl
      simp only [Act.put, List.getElem_toArray, List.getElem_cons_succ, List.getElem_cons_zero, List.setIfInBounds_toArray, List.set_cons_zero, List.set_cons_succ]
      refine wpAnyH_take (i := 3) (v := ?_) rfl (by kernel_rfl) (by kernel_rfl) (by kernel_rfl) (fun _ _ _ h => h) (Or.inl ⟨by kernel_rfl, ?_⟩) hH ?_
      rotate_left
      · intro W hS
        go_simp
        first | done | with_reducible rfl
      simp only [Act.put, List.getElem_toArray, List.getElem_cons_succ, List.getElem_cons_zero, List.setIfInBounds_toArray, List.set_cons_zero, List.set_cons_succ]
      refine wpAnyH_ready (rs := [4]) (by kernel_rfl) (by simp) ?_
      refine AllReadyH.cons rfl (fun K hK => ?_) AllReadyH.nil
      go_simp
      refine (CO.out _ _ hrd).mono ?_
      rintro e w9 ⟨rfl, rfl⟩
      refine hK.out _ _ hH (fun hH => ?_)
      clear hK K
      try simp only [Act.put, List.getElem_toArray, List.getElem_cons_succ, List.getElem_cons_zero, List.setIfInBounds_toArray, List.set_cons_zero, List.set_cons_succ]
      refine wpAnyH_ready (rs := [5]) (by kernel_rfl) (by simp) ?_
      refine AllReadyH.cons rfl (fun K hK => ?_) AllReadyH.nil
      go_simp
      refine (CT.out _ _ hrd).mono ?_
      rintro e w9 ⟨rfl, hrd9, hkp9, hsz9⟩
      have hH1 := hH.kept hkp9 HX1.out
      have hres1 := hres.kept hkp9 HX0.out
      have hkA := hkp.trans hkp9 (fun k hk _ => hk)
      clear hkp9 hsz9 hrd hkp hres
      rename rowIs w9 w.heap.size _ _ => hres
      refine hK.out _ _ hH1 (fun hH => ?_)
      clear hK K
      try simp only [Act.put, List.getElem_toArray, List.getElem_cons_succ, List.getElem_cons_zero, List.setIfInBounds_toArray, List.set_cons_zero, List.set_cons_succ]
      refine wpAnyH_ready (rs := [6]) (by kernel_rfl) (by simp) ?_
      refine AllReadyH.cons rfl (fun K hK => ?_) AllReadyH.nil
      refine wp_store_row 40 _ _ rfl w.heap.size #[.string ⟨#[]⟩, .string ⟨#[]⟩, .int .i64 0, .slice none 0 0] rfl rfl 40 #[.string ⟨#[]⟩, .string ⟨#[]⟩, .int .i64 0, .slice none 0 0] hres infoReqS rfl (one4 [] [] 0 none 0 0) ?_
      have hH2 := hH.setRow_other (#[.string ⟨#[]⟩, .string ⟨#[]⟩, .int .i64 0, .slice none 0 0] : Array Value) (g := w.heap.size + 1) (k := w.heap.size) (by omega)
      refine hK.out _ _ hH2 (fun hH => ?_)
      clear hK K
      try simp only [Act.put, List.getElem_toArray, List.getElem_cons_succ, List.getElem_cons_zero]
      refine wpAnyH_take (i := 7) (v := ?_) rfl (by kernel_rfl) (by kernel_rfl) (by kernel_rfl) (fun _ _ _ h => h) (Or.inl ⟨by kernel_rfl, ?_⟩) hH ?_
      rotate_left
      · intro W hS
        go_simp
        first | done | with_reducible rfl
      simp only [Act.put, List.getElem_toArray, List.getElem_cons_succ, List.getElem_cons_zero, List.setIfInBounds_toArray, List.set_cons_zero, List.set_cons_succ]
      refine wpAnyH_take (i := 8) (v := ?_) rfl (by kernel_rfl) (by kernel_rfl) (by kernel_rfl) (fun _ _ _ h => h) (Or.inl ⟨by kernel_rfl, ?_⟩) hH ?_
      rotate_left
      · intro W hS
        go_simp
        first | done | with_reducible rfl
      simp only [Act.put, List.getElem_toArray, List.getElem_cons_succ, List.getElem_cons_zero, List.setIfInBounds_toArray, List.set_cons_zero, List.set_cons_succ]
      refine wpAnyH_done (by kernel_rfl) ?_ _
      go_wp2_with fail
      refine bodyPost_ret (results_row3 Tryz.results17 _ _ w.heap.size _ rfl (hres.setRow #[.string ⟨#[]⟩, .string ⟨#[]⟩, .int .i64 0, .slice none 0 0]) Tryz.underlying40 rfl infoReqS) rfl ?_
      rw [← HX.out]
      refine ⟨⟨?_, rfl⟩, _, hrd9.kept ((Kept.refl (fun b => b = w.heap.size) _).setRow (.inl rfl) _) (fun b hb e => ?_), hkA.setRow (.inr (Nat.le_refl _)) _, fun b hb => hb⟩
      · have := headE_ne closed came hk0
        exact this
      · subst e; exact HX0.out hb
    | ok p =>
      obtain ⟨h, n⟩ := p
      have hpos := readL_pos hread
      have hfl : okFs h.flds := okFs_read_q hread
      rw [hread] at c1 hX
      simp only at hX
      have c2 := fun W u h1 => OfRequest_any h.first h.second (h.minor : Int) u h.flds W h1 hfl
      have C1 := hid c1
      have C2 := hid c2
      have HXo := hid hX
      have HP := hid hpos
      have HFL := hid hfl
      clear c1 c2 hX hread hpos hfl
      have s0 := h0
      have s2 := h2
      rw [hW0] at s0 s2
      go_enter Tryz.func17, Tryz.ntmps17
      go_wp2_with fail
      rw [← hW0]
      clear hW0 s0 s2
      refine C1.out.mono ?_
      rintro e w3 ⟨⟨vl, rfl, hol⟩, hb3⟩
      obtain ⟨aol, cl, rfl⟩ := ownsRow_form hol
      obtain ⟨W4, hW4⟩ : ∃ W, W = w3.alloc (.cells #[strV h.first, strV h.second, .int .i64 (h.minor : Int), .slice aol h.flds.length cl] 40) := ⟨_, rfl⟩
      have hb34 : Below w3.heap.size w3 W4 := by rw [hW4]; exact below_alloc _ _
      have hb4 : Below W0.heap.size W0 W4 := chain2 hb3 hb3.size hb34
      have hhb : rowIs W4 w3.heap.size #[strV h.first, strV h.second, .int .i64 (h.minor : Int), .slice aol h.flds.length cl] 40 := by rw [hW4]; exact rowIs_new _ _ _
      have hol4 := hol.below hb34
      have hs3 : W0.heap.size ≤ w3.heap.size := hb3.size
      have hs0 : w.heap.size + 2 ≤ W0.heap.size := hno.lt
      have hrd4 := hrd.below hb4
      have hres4 := hres.below hb4
      have hno4 := hno.below hb4
      have hkp4 := hkp.then hb4
      have hlw : W0.heap.size ≤ W4.heap.size := hb4.size
      clear hrd hres hno hkp h0 h2 hb0 hb3 hb4 C1 hol hb34
      go_wp2_with fail
      rw [← hW4]
      clear hW4
      have g0 := hhb.cell 0
      have g1 := hhb.cell 1
      have g2 := hhb.cell 2
      have g3 := hhb.cell 3
      have OL := hid hol4
      clear hol4
      go_wp2_with fail
      refine (C2.out _ _ (OL.out.reads2).2).mono ?_
      rintro e w5 ⟨hf, hb5⟩
      obtain ⟨t1, t2, t3, ht, rfl⟩ := hf.form
      have hrdA := hrd4.below hb5
      have hresA := hres4.below hb5
      have hnoA := hno4.below hb5
      have hkpA := hkp4.then hb5
      have hhbA := hhb.below hb5
      have holA := OL.out.below hb5
      have hls := hhb.lt
      have hl5 : W4.heap.size ≤ w5.heap.size := hb5.size
      clear hrd4 hres4 hno4 hkp4 hhb OL hb5 hf C2 g0 g1 g2 g3
      obtain ⟨W6, hW6⟩ : ∃ W, W = w5.alloc (.cells #[.int .i64 t1, .int .i64 t2] 80) := ⟨_, rfl⟩
      have hb56 : Below w5.heap.size w5 W6 := by rw [hW6]; exact below_alloc _ _
      have hfb : rowIs W6 w5.heap.size #[.int .i64 t1, .int .i64 t2] 80 := by rw [hW6]; exact rowIs_new _ _ _
      have hrd6 := hrdA.below hb56
      have hres6 := hresA.below hb56
      have hno6 := hnoA.below hb56
      have hkp6 := hkpA.then hb56
      have hhb6 := hhbA.below hb56
      have hol6 := holA.below hb56
      have hl6 : w5.heap.size < W6.heap.size := hfb.lt
      clear hrdA hresA hnoA hkpA hhbA holA hb56
      have HT := hid ht
      clear ht
      cases hfx : reqFr h with
      | error k =>
        have ht := HT.out
        change fK (reqFr h) = _ at ht
        rw [hfx] at ht
        simp only [fK, Prod.mk.injEq] at ht
        obtain ⟨rfl, rfl, rfl⟩ := ht
        have hX := HXo.out
        rw [hfx] at hX
        have HX := hid hX
        have hk0 : k ≠ 0 := by have := frameX_err hfx; omega
        have hc0 : ((k : Int) != 0) = true := by simp; omega
        have HK := hid hk0
        clear hX HXo HT hfx hk0
        go_wp2_with fail
        rw [← hW6]
        clear hW6
        have hrd := hrd6.drew
        have hres : rowIs W6.drew w.heap.size #[.string ⟨#[]⟩, .string ⟨#[]⟩, .int .i64 0, .slice none 0 0] 40 := hres6
        have hno := hno6
        have hkp := hkp6.drew
        clear hrd6 hres6 hno6 hkp6 hhb6 hol6 hfb
        refine wp_region_held_drew (S := fun W => rowIs W (w.heap.size + 1) #[.string ⟨#[]⟩, .string ⟨#[]⟩, .int .i64 0, .slice none 0 0] 40) (by kernel_rfl) (show rowIs _ _ _ _ from hno) (fun hH => ?_)
        refine wpAnyH_take (i := 0) (v := (.agg #[.string ⟨#[]⟩, .string ⟨#[]⟩, .int .i64 0, .slice none 0 0])) rfl (by kernel_rfl) (by kernel_rfl) (by kernel_rfl) (fun _ _ _ h => h) (Or.inl ⟨by kernel_rfl, ?_⟩) hH ?_
        · intro W hS
          exact load_gives rfl (w.heap.size + 1) rfl hS Tryz.underlying40 rfl infoReqS
        simp only [Act.put, List.getElem_toArray, List.getElem_cons_zero, List.setIfInBounds_toArray, List.set_cons_zero, List.set_cons_succ]
        refine wpAnyH_take (i := 1) (v := ?_) rfl (by kernel_rfl) (by kernel_rfl) (by kernel_rfl) (fun _ _ _ h => h) (Or.inl ⟨by kernel_rfl, ?_⟩) hH ?_
        rotate_left
        · intro W hS
          go_simp
          first | done | with_reducible rfl
        simp only [Act.put, List.getElem_toArray, List.getElem_cons_succ, List.getElem_cons_zero, List.setIfInBounds_toArray, List.set_cons_zero, List.set_cons_succ]
        refine wpAnyH_take (i := 2) (v := ?_) rfl (by kernel_rfl) (by kernel_rfl) (by kernel_rfl) (fun _ _ _ h => h) (Or.inl ⟨by kernel_rfl, ?_⟩) hH ?_
        rotate_left
        · intro W hS
          go_simp
          first | done | with_reducible rfl
        simp only [Act.put, List.getElem_toArray, List.getElem_cons_succ, List.getElem_cons_zero, List.setIfInBounds_toArray, List.set_cons_zero, List.set_cons_succ]
        refine wpAnyH_ready (rs := [3]) (by kernel_rfl) (by simp) ?_
        refine AllReadyH.cons rfl (fun K hK => ?_) AllReadyH.nil
        go_simp
        refine (CT.out _ _ hrd).mono ?_
        rintro e w9 ⟨rfl, hrd9, hkp9, hsz9⟩
        have hH1 := hH.kept hkp9 HX1.out
        have hres1 := hres.kept hkp9 HX0.out
        have hkA := hkp.trans hkp9 (fun k hk _ => hk)
        clear hkp9 hsz9 hrd hkp hres
        rename rowIs w9 w.heap.size _ _ => hres
        refine hK.out _ _ hH1 (fun hH => ?_)
        clear hK K
        try simp only [Act.put, List.getElem_toArray, List.getElem_cons_succ, List.getElem_cons_zero, List.setIfInBounds_toArray, List.set_cons_zero, List.set_cons_succ]
        refine wpAnyH_ready (rs := [4]) (by kernel_rfl) (by simp) ?_
        refine AllReadyH.cons rfl (fun K hK => ?_) AllReadyH.nil
        refine wp_store_row 40 _ _ rfl w.heap.size #[.string ⟨#[]⟩, .string ⟨#[]⟩, .int .i64 0, .slice none 0 0] rfl rfl 40 #[.string ⟨#[]⟩, .string ⟨#[]⟩, .int .i64 0, .slice none 0 0] hres infoReqS rfl (one4 [] [] 0 none 0 0) ?_
        have hH2 := hH.setRow_other (#[.string ⟨#[]⟩, .string ⟨#[]⟩, .int .i64 0, .slice none 0 0] : Array Value) (g := w.heap.size + 1) (k := w.heap.size) (by omega)
        refine hK.out _ _ hH2 (fun hH => ?_)
        clear hK K
        try simp only [Act.put, List.getElem_toArray, List.getElem_cons_succ, List.getElem_cons_zero]
        refine wpAnyH_take (i := 5) (v := ?_) rfl (by kernel_rfl) (by kernel_rfl) (by kernel_rfl) (fun _ _ _ h => h) (Or.inl ⟨by kernel_rfl, ?_⟩) hH ?_
        rotate_left
        · intro W hS
          go_simp
          first | done | with_reducible rfl
        simp only [Act.put, List.getElem_toArray, List.getElem_cons_succ, List.getElem_cons_zero, List.setIfInBounds_toArray, List.set_cons_zero, List.set_cons_succ]
        refine wpAnyH_take (i := 6) (v := ?_) rfl (by kernel_rfl) (by kernel_rfl) (by kernel_rfl) (fun _ _ _ h => h) (Or.inl ⟨by kernel_rfl, ?_⟩) hH ?_
        rotate_left
        · intro W hS
          go_simp
          first | done | with_reducible rfl
        simp only [Act.put, List.getElem_toArray, List.getElem_cons_succ, List.getElem_cons_zero, List.setIfInBounds_toArray, List.set_cons_zero, List.set_cons_succ]
        refine wpAnyH_done (by kernel_rfl) ?_ _
        go_wp2_with fail
        refine bodyPost_ret (results_row3 Tryz.results17 _ _ w.heap.size _ rfl (hres.setRow #[.string ⟨#[]⟩, .string ⟨#[]⟩, .int .i64 0, .slice none 0 0]) Tryz.underlying40 rfl infoReqS) rfl ?_
        rw [← HX.out]
        refine ⟨⟨HK.out, rfl⟩, _, hrd9.kept ((Kept.refl (fun b => b = w.heap.size) _).setRow (.inl rfl) _) (fun b hb e => ?_), hkA.setRow (.inr (Nat.le_refl _)) _, fun b hb => hb⟩
        subst e; exact HX0.out hb
      | ok q =>
        obtain ⟨kk, m⟩ := q
        have ht := HT.out
        change fK (reqFr h) = _ at ht
        rw [hfx] at ht
        simp only [fK, Prod.mk.injEq] at ht
        obtain ⟨rfl, rfl, rfl⟩ := ht
        have hX := HXo.out
        rw [hfx] at hX
        simp only at hX
        have c3 := fun W u hu => Read_any (kk : Int) (m : Int) u (came.drop n) closed W hu (by rw [List.length_drop]; omega)
        simp only [bodyX_readF] at c3
        obtain ⟨aoL, capL, hlow, hbyL⟩ := bytes_low (P := Tryz.prog) 27 (by kernel_rfl) (fun _ => by kernel_rfl) hrd6.bytes n HP.out.2
        have hlowr := hlow
        have HLOW := hid hlow
        have HBYL := hid hbyL
        have C3 := hid c3
        have HX := hid hX
        have HRW := hid (And.intro hrd6.row hfb)
        clear hX HXo HT hfx c3 hlow hlowr hbyL
        go_wp2_with fail
        rw [← hW6]
        clear hW6
        refine wp_region_held_drew (S := fun W => rowIs W w5.heap.size #[.int .i64 (kk : Int), .int .i64 (m : Int)] 80 ∧ rowIs W g (rdRow (.slice ao came.length cap) closed 0) 63) (by kernel_rfl) ⟨hfb, hrd6.row⟩ (fun hH => ?_)
        refine wpAnyH_take (i := 0) (v := (.agg #[.int .i64 (kk : Int), .int .i64 (m : Int)])) rfl (by kernel_rfl) (by kernel_rfl) (by kernel_rfl) (fun _ _ _ h => h) (Or.inl ⟨by kernel_rfl, ?_⟩) hH ?_
        · intro W hS
          exact load_gives rfl w5.heap.size rfl hS.1 Tryz.underlying80 rfl infoFrS
        simp only [Act.put, List.getElem_toArray, List.getElem_cons_zero, List.setIfInBounds_toArray, List.set_cons_zero, List.set_cons_succ]
        refine wpAnyH_take (i := 1) (v := ?_) rfl (by kernel_rfl) (by kernel_rfl) (by kernel_rfl) (fun _ _ _ h => h) (Or.inl ⟨by kernel_rfl, ?_⟩) hH ?_
        rotate_left
        · intro W hS
          have q0 := hS.2.cell 0
          have q1 := hS.2.cell 1
          go_simp
          first | done | with_reducible rfl
        simp only [Act.put, List.getElem_toArray, List.getElem_cons_succ, List.getElem_cons_zero, List.setIfInBounds_toArray, List.set_cons_zero, List.set_cons_succ]
        refine wpAnyH_take (i := 2) (v := ?_) rfl (by kernel_rfl) (by kernel_rfl) (by kernel_rfl) (fun _ _ _ h => h) (Or.inl ⟨by kernel_rfl, ?_⟩) hH ?_
        rotate_left
        · intro W hS
          have q0 := hS.2.cell 0
          have q1 := hS.2.cell 1
          go_simp
          first | done | with_reducible rfl
        simp only [Act.put, List.getElem_toArray, List.getElem_cons_succ, List.getElem_cons_zero, List.setIfInBounds_toArray, List.set_cons_zero, List.set_cons_succ]
        refine wpAnyH_take (i := 3) (v := ?_) rfl (by kernel_rfl) (by kernel_rfl) (by kernel_rfl) (fun _ _ _ h => h) (Or.inl ⟨by kernel_rfl, ?_⟩) hH ?_
        rotate_left
        · intro W hS
          have q0 := hS.2.cell 0
          have q1 := hS.2.cell 1
          go_simp
          first | done | with_reducible rfl
        simp only [Act.put, List.getElem_toArray, List.getElem_cons_succ, List.getElem_cons_zero, List.setIfInBounds_toArray, List.set_cons_zero, List.set_cons_succ]
        refine wpAnyH_take (i := 4) (v := ?_) rfl (by kernel_rfl) (by kernel_rfl) (by kernel_rfl) (fun _ _ _ h => h) (Or.inl ⟨by kernel_rfl, ?_⟩) hH ?_
        rotate_left
        · intro W hS
          have q0 := hS.2.cell 0
          have q1 := hS.2.cell 1
          go_simp
          first | done | with_reducible rfl
        simp only [Act.put, List.getElem_toArray, List.getElem_cons_succ, List.getElem_cons_zero, List.setIfInBounds_toArray, List.set_cons_zero, List.set_cons_succ]
        refine wpAnyH_take (i := 5) (v := ?_) rfl (by kernel_rfl) (by kernel_rfl) (by kernel_rfl) (fun _ _ _ h => h) (Or.inl ⟨by kernel_rfl, ?_⟩) hH ?_
        rotate_left
        · intro W hS
          have q0 := hS.2.cell 0
          have q1 := hS.2.cell 1
          go_simp
          first | done | with_reducible rfl
        simp only [Act.put, List.getElem_toArray, List.getElem_cons_succ, List.getElem_cons_zero, List.setIfInBounds_toArray, List.set_cons_zero, List.set_cons_succ]
        refine wpAnyH_take (i := 6) (v := (.slice aoL (came.length - n) capL)) rfl (by kernel_rfl) (by kernel_rfl) (by kernel_rfl) (fun _ _ _ h => h) (Or.inl ⟨by kernel_rfl, ?_⟩) hH ?_
        · intro W hS
          exact slice_gives rfl rfl rfl (by kernel_rfl) (HLOW.out _)
        simp only [Act.put, List.getElem_toArray, List.getElem_cons_succ, List.getElem_cons_zero, List.setIfInBounds_toArray, List.set_cons_zero, List.set_cons_succ]
        refine wpAnyH_take (i := 7) (v := ?_) rfl (by kernel_rfl) (by kernel_rfl) (by kernel_rfl) (fun _ _ _ h => h) (Or.inl ⟨by kernel_rfl, ?_⟩) hH ?_
        rotate_left
        · intro W hS
          have q0 := hS.2.cell 0
          have q1 := hS.2.cell 1
          go_simp
          first | done | with_reducible rfl
        simp only [Act.put, List.getElem_toArray, List.getElem_cons_succ, List.getElem_cons_zero, List.setIfInBounds_toArray, List.set_cons_zero, List.set_cons_succ]
        refine wpAnyH_take (i := 8) (v := ?_) rfl (by kernel_rfl) (by kernel_rfl) (by kernel_rfl) (fun _ _ _ h => h) (Or.inl ⟨by kernel_rfl, ?_⟩) hH ?_
        rotate_left
        · intro W hS
          have q0 := hS.2.cell 0
          have q1 := hS.2.cell 1
          go_simp
          first | done | with_reducible rfl
        simp only [Act.put, List.getElem_toArray, List.getElem_cons_succ, List.getElem_cons_zero, List.setIfInBounds_toArray, List.set_cons_zero, List.set_cons_succ]
        refine wpAnyH_take (i := 9) (v := ?_) rfl (by kernel_rfl) (by kernel_rfl) (by kernel_rfl) (fun _ _ _ h => h) (Or.inl ⟨by kernel_rfl, ?_⟩) hH ?_
        rotate_left
        · intro W hS
          have q0 := hS.2.cell 0
          have q1 := hS.2.cell 1
          go_simp
          first | done | with_reducible rfl
        simp only [Act.put, List.getElem_toArray, List.getElem_cons_succ, List.getElem_cons_zero, List.setIfInBounds_toArray, List.set_cons_zero, List.set_cons_succ]
        refine wpAnyH_take (i := 10) (v := ?_) rfl (by kernel_rfl) (by kernel_rfl) (by kernel_rfl) (fun _ _ _ h => h) (Or.inl ⟨by kernel_rfl, ?_⟩) hH ?_
        rotate_left
        · intro W hS
          have q0 := hS.2.cell 0
          have q1 := hS.2.cell 1
          go_simp
          first | done | with_reducible rfl
        simp only [Act.put, List.getElem_toArray, List.getElem_cons_succ, List.getElem_cons_zero, List.setIfInBounds_toArray, List.set_cons_zero, List.set_cons_succ]
        refine wpAnyH_ready (rs := [11]) (by kernel_rfl) (by simp) ?_
        refine AllReadyH.cons rfl (fun K hK => ?_) AllReadyH.nil
        go_simp
        refine (C3.out W6.drew _ (bytes_below HBYL.out ((Below.refl _ _).drew))).mono ?_
        rintro e w7 ⟨hp7, hb7⟩
        obtain ⟨v7, n7, k7, rfl, -⟩ := hp7.form
        have hH1 := And.intro (hH.1.below hb7) (hH.2.below hb7)
        refine hK.out _ _ hH1 (fun hH => ?_)
        clear hK K
        try simp only [Act.put, List.getElem_toArray, List.getElem_cons_succ, List.getElem_cons_zero, List.setIfInBounds_toArray, List.set_cons_zero, List.set_cons_succ]
        refine wpAnyH_take (i := 12) (v := ?_) rfl (by kernel_rfl) (by kernel_rfl) (by kernel_rfl) (fun _ _ _ h => h) (Or.inl ⟨by kernel_rfl, ?_⟩) hH ?_
        rotate_left
        · intro W hS
          have q0 := hS.2.cell 0
          have q1 := hS.2.cell 1
          go_simp
          first | done | with_reducible rfl
        simp only [Act.put, List.getElem_toArray, List.getElem_cons_succ, List.getElem_cons_zero, List.setIfInBounds_toArray, List.set_cons_zero, List.set_cons_succ]
        refine wpAnyH_take (i := 13) (v := ?_) rfl (by kernel_rfl) (by kernel_rfl) (by kernel_rfl) (fun _ _ _ h => h) (Or.inl ⟨by kernel_rfl, ?_⟩) hH ?_
        rotate_left
        · intro W hS
          have q0 := hS.2.cell 0
          have q1 := hS.2.cell 1
          go_simp
          first | done | with_reducible rfl
        simp only [Act.put, List.getElem_toArray, List.getElem_cons_succ, List.getElem_cons_zero, List.setIfInBounds_toArray, List.set_cons_zero, List.set_cons_succ]
        refine wpAnyH_take (i := 14) (v := ?_) rfl (by kernel_rfl) (by kernel_rfl) (by kernel_rfl) (fun _ _ _ h => h) (Or.inl ⟨by kernel_rfl, ?_⟩) hH ?_
        rotate_left
        · intro W hS
          have q0 := hS.2.cell 0
          have q1 := hS.2.cell 1
          go_simp
          first | done | with_reducible rfl
        simp only [Act.put, List.getElem_toArray, List.getElem_cons_succ, List.getElem_cons_zero, List.setIfInBounds_toArray, List.set_cons_zero, List.set_cons_succ]
        refine wpAnyH_take (i := 15) (v := ?_) rfl (by kernel_rfl) (by kernel_rfl) (by kernel_rfl) (fun _ _ _ h => h) (Or.inl ⟨by kernel_rfl, ?_⟩) hH ?_
        rotate_left
        · intro W hS
          have q0 := hS.2.cell 0
          have q1 := hS.2.cell 1
          go_simp
          first | done | with_reducible rfl
        simp only [Act.put, List.getElem_toArray, List.getElem_cons_succ, List.getElem_cons_zero, List.setIfInBounds_toArray, List.set_cons_zero, List.set_cons_succ]
        refine wpAnyH_take (i := 16) (v := ?_) rfl (by kernel_rfl) (by kernel_rfl) (by kernel_rfl) (fun _ _ _ h => h) (Or.inl ⟨by kernel_rfl, ?_⟩) hH ?_
        rotate_left
        · intro W hS
          have q0 := hS.2.cell 0
          have q1 := hS.2.cell 1
          go_simp
          first | done | with_reducible rfl
        simp only [Act.put, List.getElem_toArray, List.getElem_cons_succ, List.getElem_cons_zero, List.setIfInBounds_toArray, List.set_cons_zero, List.set_cons_succ]
        refine wpAnyH_take (i := 17) (v := ?_) rfl (by kernel_rfl) (by kernel_rfl) (by kernel_rfl) (fun _ _ _ h => h) (Or.inl ⟨by kernel_rfl, ?_⟩) hH ?_
        rotate_left
        · intro W hS
          have q0 := hS.2.cell 0
          have q1 := hS.2.cell 1
          go_simp
          first | done | with_reducible rfl
        simp only [Act.put, List.getElem_toArray, List.getElem_cons_succ, List.getElem_cons_zero, List.setIfInBounds_toArray, List.set_cons_zero, List.set_cons_succ]
        refine wpAnyH_take (i := 18) (v := ?_) rfl (by kernel_rfl) (by kernel_rfl) (by kernel_rfl) (fun _ _ _ h => h) (Or.inl ⟨by kernel_rfl, ?_⟩) hH ?_
        rotate_left
        · intro W hS
          have q0 := hS.2.cell 0
          have q1 := hS.2.cell 1
          go_simp
          first | done | with_reducible rfl
        simp only [Act.put, List.getElem_toArray, List.getElem_cons_succ, List.getElem_cons_zero, List.setIfInBounds_toArray, List.set_cons_zero, List.set_cons_succ]
        refine wpAnyH_done (by kernel_rfl) ?_ _
        have hrd7 := (hrd6.drew).below hb7
        have hres7 := (show rowIs W6.drew w.heap.size #[.string ⟨#[]⟩, .string ⟨#[]⟩, .int .i64 0, .slice none 0 0] 40 from hres6).below hb7
        have hno7 := (show rowIs W6.drew (w.heap.size + 1) #[.string ⟨#[]⟩, .string ⟨#[]⟩, .int .i64 0, .slice none 0 0] 40 from hno6).below hb7
        have hkp7 := (hkp6.drew).then hb7
        have hhb7 := (show rowIs W6.drew w3.heap.size #[strV h.first, strV h.second, .int .i64 (h.minor : Int), .slice aol h.flds.length cl] 40 from hhb6).below hb7
        have hol7 := (hol6.below ((Below.refl _ _).drew)).below hb7
        have hsz7 : W6.heap.size ≤ w7.heap.size := hb7.size
        clear hrd6 hres6 hno6 hkp6 hhb6 hol6 hfb hb7 HRW hH HLOW HBYL C3
        have hp := hp7
        clear hp7
        cases hbx : bodyX kk m closed (came.drop n) with
        | error k =>
          rw [hbx] at hp
          obtain ⟨hk0, hpe⟩ := hp
          cases hpe
          have hX := HX.out
          rw [hbx] at hX
          have HX := hid hX
          have hc0 : ((k : Int) != 0) = true := by simp; omega
          have HK := hid hk0
          clear hX hbx hk0
          go_wp2_with fail
          have hrd := hrd7.drew
          have hres : rowIs w7.drew w.heap.size #[.string ⟨#[]⟩, .string ⟨#[]⟩, .int .i64 0, .slice none 0 0] 40 := hres7
          have hno := hno7
          have hkp := hkp7.drew
          clear hrd7 hres7 hno7 hkp7 hhb7 hol7
          refine wp_region_held_drew (S := fun W => rowIs W (w.heap.size + 1) #[.string ⟨#[]⟩, .string ⟨#[]⟩, .int .i64 0, .slice none 0 0] 40) (by kernel_rfl) (show rowIs _ _ _ _ from hno) (fun hH => ?_)
          refine wpAnyH_take (i := 0) (v := (.agg #[.string ⟨#[]⟩, .string ⟨#[]⟩, .int .i64 0, .slice none 0 0])) rfl (by kernel_rfl) (by kernel_rfl) (by kernel_rfl) (fun _ _ _ h => h) (Or.inl ⟨by kernel_rfl, ?_⟩) hH ?_
          · intro W hS
            exact load_gives rfl (w.heap.size + 1) rfl hS Tryz.underlying40 rfl infoReqS
          simp only [Act.put, List.getElem_toArray, List.getElem_cons_zero, List.setIfInBounds_toArray, List.set_cons_zero, List.set_cons_succ]
          refine wpAnyH_take (i := 1) (v := ?_) rfl (by kernel_rfl) (by kernel_rfl) (by kernel_rfl) (fun _ _ _ h => h) (Or.inl ⟨by kernel_rfl, ?_⟩) hH ?_
          rotate_left
          · intro W hS
            go_simp
            first | done | with_reducible rfl
          simp only [Act.put, List.getElem_toArray, List.getElem_cons_succ, List.getElem_cons_zero, List.setIfInBounds_toArray, List.set_cons_zero, List.set_cons_succ]
          refine wpAnyH_take (i := 2) (v := ?_) rfl (by kernel_rfl) (by kernel_rfl) (by kernel_rfl) (fun _ _ _ h => h) (Or.inl ⟨by kernel_rfl, ?_⟩) hH ?_
          rotate_left
          · intro W hS
            go_simp
            first | done | with_reducible rfl
          simp only [Act.put, List.getElem_toArray, List.getElem_cons_succ, List.getElem_cons_zero, List.setIfInBounds_toArray, List.set_cons_zero, List.set_cons_succ]
          refine wpAnyH_ready (rs := [3]) (by kernel_rfl) (by simp) ?_
          refine AllReadyH.cons rfl (fun K hK => ?_) AllReadyH.nil
          go_simp
          refine (CT.out _ _ hrd).mono ?_
          rintro e w9 ⟨rfl, hrd9, hkp9, hsz9⟩
          have hH1 := hH.kept hkp9 HX1.out
          have hres1 := hres.kept hkp9 HX0.out
          have hkA := hkp.trans hkp9 (fun k hk _ => hk)
          clear hkp9 hsz9 hrd hkp hres
          rename rowIs w9 w.heap.size _ _ => hres
          refine hK.out _ _ hH1 (fun hH => ?_)
          clear hK K
          try simp only [Act.put, List.getElem_toArray, List.getElem_cons_succ, List.getElem_cons_zero, List.setIfInBounds_toArray, List.set_cons_zero, List.set_cons_succ]
          refine wpAnyH_ready (rs := [4]) (by kernel_rfl) (by simp) ?_
          refine AllReadyH.cons rfl (fun K hK => ?_) AllReadyH.nil
          refine wp_store_row 40 _ _ rfl w.heap.size #[.string ⟨#[]⟩, .string ⟨#[]⟩, .int .i64 0, .slice none 0 0] rfl rfl 40 #[.string ⟨#[]⟩, .string ⟨#[]⟩, .int .i64 0, .slice none 0 0] hres infoReqS rfl (one4 [] [] 0 none 0 0) ?_
          have hH2 := hH.setRow_other (#[.string ⟨#[]⟩, .string ⟨#[]⟩, .int .i64 0, .slice none 0 0] : Array Value) (g := w.heap.size + 1) (k := w.heap.size) (by omega)
          refine hK.out _ _ hH2 (fun hH => ?_)
          clear hK K
          try simp only [Act.put, List.getElem_toArray, List.getElem_cons_succ, List.getElem_cons_zero]
          refine wpAnyH_take (i := 5) (v := ?_) rfl (by kernel_rfl) (by kernel_rfl) (by kernel_rfl) (fun _ _ _ h => h) (Or.inl ⟨by kernel_rfl, ?_⟩) hH ?_
          rotate_left
          · intro W hS
            go_simp
            first | done | with_reducible rfl
          simp only [Act.put, List.getElem_toArray, List.getElem_cons_succ, List.getElem_cons_zero, List.setIfInBounds_toArray, List.set_cons_zero, List.set_cons_succ]
          refine wpAnyH_take (i := 6) (v := ?_) rfl (by kernel_rfl) (by kernel_rfl) (by kernel_rfl) (fun _ _ _ h => h) (Or.inl ⟨by kernel_rfl, ?_⟩) hH ?_
          rotate_left
          · intro W hS
            go_simp
            first | done | with_reducible rfl
          simp only [Act.put, List.getElem_toArray, List.getElem_cons_succ, List.getElem_cons_zero, List.setIfInBounds_toArray, List.set_cons_zero, List.set_cons_succ]
          refine wpAnyH_done (by kernel_rfl) ?_ _
          go_wp2_with fail
          refine bodyPost_ret (results_row3 Tryz.results17 _ _ w.heap.size _ rfl (hres.setRow #[.string ⟨#[]⟩, .string ⟨#[]⟩, .int .i64 0, .slice none 0 0]) Tryz.underlying40 rfl infoReqS) rfl ?_
          rw [← HX.out]
          refine ⟨⟨HK.out, rfl⟩, _, hrd9.kept ((Kept.refl (fun b => b = w.heap.size) _).setRow (.inl rfl) _) (fun b hb e => ?_), hkA.setRow (.inr (Nat.le_refl _)) _, fun b hb => hb⟩
          subst e; exact HX0.out hb
        | ok q =>
          obtain ⟨b, u⟩ := q
          rw [hbx] at hp
          obtain ⟨vb, hpe, hob⟩ := hp
          cases hpe
          obtain ⟨aob, cb, rfl⟩ := ownsRow_bytes_form hob
          have hX := HX.out
          rw [hbx] at hX
          have hul := (bodyX_len hbx).1
          rw [List.length_drop] at hul
          have hpp := HP.out
          have hku : n + u ≤ came.length := by omega
          obtain ⟨ag, rfl⟩ : ∃ a, ao = some ⟨a, 0, none⟩ := by
            rcases hrd7.own.2 with ⟨hv, hn⟩ | ⟨g', cap', cur, hv, _⟩
            · simp only at hn; omega
            · cases hv; exact ⟨_, rfl⟩
          have c4 := fun W hw => delete_any ag cap came (n + u) W hw hku
          simp only [Int.natCast_add] at c4
          have C4 := hid c4
          have hwr : IntKind.i64.wrap ((n : Int) + (u : Int)) = ((n + u : Nat) : Int) := by rw [IntWalk.i64_in _ (by omega)]; simp
          have q0 := hrd7.row.cell 0
          have HX := hid hX
          clear hX hbx hul hpp hku c4
          go_wp2_with fail
          refine (C4.out _ hrd7.own).mono ?_
          rintro e w8 ⟨rfl, ho8, hk8, hs8⟩
          have hag : ag ≠ g := hrd7.apart ag rfl
          have hagl : ag < w.heap.size := HLT.out ag (.inr rfl)
          have hgl : g < w.heap.size := HLT.out g (.inl rfl)
          have hrow8 := hrd7.row.kept hk8 (Ne.symm hag)
          have hres8 := hres7.kept hk8 (by show ¬ w.heap.size = ag; omega)
          have hhb8 := hhb7.kept hk8 (by show ¬ w3.heap.size = ag; omega)
          have hol8 := ownsRow_kept hol7 hk8 ((ownsRow_in hol7).mono fun k hk => by have := hk.1; omega)
          have hob8 := ownsRow_kept hob hk8 ((ownsRow_in hob).mono fun k hk => by have h1 : W6.heap.size ≤ k := hk.1; omega)
          have hkp8 := hkp7.trans hk8 (fun k hk _ => by subst hk; exact .inr rfl)
          have r0 := hrow8.cell 0
          have r1 := hrow8.free 0
          have hrow9 := hrow8.setCell 0 (.slice (some ⟨ag, 0, none⟩) (came.length - (n + u)) cap)
          have hres9 := hres8.setCell_block (g' := g) (by omega) 0 (.slice (some ⟨ag, 0, none⟩) (came.length - (n + u)) cap)
          have hhb9 := hhb8.setCell_block (g' := g) (by omega) 0 (.slice (some ⟨ag, 0, none⟩) (came.length - (n + u)) cap)
          have hkS := (Kept.refl (fun b => b = g) w8).setCell (i := 0) (.inl rfl) (.slice (some ⟨ag, 0, none⟩) (came.length - (n + u)) cap)
          have hol9 := ownsRow_kept hol8 hkS ((ownsRow_in hol8).mono fun k hk => by have := hk.1; omega)
          have hob9 := ownsRow_kept hob8 hkS ((ownsRow_in hob8).mono fun k hk => by have h1 : W6.heap.size ≤ k := hk.1; omega)
          have ho9 := ownsRow_kept ho8 hkS (fun k hk => by cases hk; exact hag)
          have hkp9 := hkp8.setCell (g := g) (i := 0) (.inl (.inl rfl)) (.slice (some ⟨ag, 0, none⟩) (came.length - (n + u)) cap)
          have d0 := hhb9.cell 0
          have d1 := hhb9.cell 1
          have d2 := hhb9.cell 2
          have d3 := hhb9.cell 3
          have HF := hid (And.intro hrow9 (And.intro hol9 (And.intro hob9 (And.intro ho9 hkp9))))
          have HG := hid (And.intro hag (And.intro hagl hgl))
          have HR9 := hid hres9
          clear hrow8 hres8 hhb8 hol8 hob8 hkp8 hrow9 hres9 hhb9 hkS hol9 hob9 ho9 hkp9 hk8 hs8 ho8 hrd7 hres7 hno7 hkp7 hhb7 hol7 hob q0 C4 hwr hag hagl hgl
          go_wp2_with (refine wpList_store_row rfl 40 _ _ rfl w.heap.size _ rfl rfl 40 #[.string ⟨#[]⟩, .string ⟨#[]⟩, .int .i64 0, .slice none 0 0] HR9.out infoReqS rfl (one4 h.first h.second (h.minor : Int) aol h.flds.length cl) ?_)
          refine bodyPost_ret (results_row3 Tryz.results17 _ _ w.heap.size _ rfl (HR9.out.setRow #[strV h.first, strV h.second, .int .i64 (h.minor : Int), .slice aol h.flds.length cl]) Tryz.underlying40 rfl infoReqS) rfl ?_
          rw [← HX.out]
          obtain ⟨hrow9, hol9, hob9, ho9, hkp9⟩ := HF.out
          obtain ⟨hag, hagl, hgl⟩ := HG.out
          have hkR := (Kept.refl (fun b => b = w.heap.size) (w8.setCell ⟨g, 0, none⟩ (.slice (some ⟨ag, 0, none⟩) (came.length - (n + u)) cap))).setRow (.inl rfl) #[strV h.first, strV h.second, .int .i64 (h.minor : Int), .slice aol h.flds.length cl]
          refine ⟨⟨_, _, rfl, ?_, ?_⟩, .slice (some ⟨ag, 0, none⟩) (came.length - (n + u)) cap, ⟨hrow9.kept hkR (by omega), ownsRow_kept ho9 hkR (fun k hk => by cases hk; show ¬ ag = w.heap.size; omega), fun k hk => by cases hk; exact hag⟩, hkp9.setRow (.inr (Nat.le_refl _)) _, fun k hk => hk⟩
          · exact (ownsRow_kept hol9 hkR ((ownsRow_in hol9).mono fun k hk => by have := hk.1; omega)).base (by omega)
          · exact (ownsRow_kept hob9 hkR ((ownsRow_in hob9).mono fun k hk => by have h1 : W6.heap.size ≤ k := hk.1; omega)).base (by show w.heap.size ≤ W6.heap.size; omega)
  · have hz : ((wrong : Int) != 0) = true := by simp; omega
    have hX : nextX (readL reqL) reqFr ⟨came, closed, wrong⟩ = (.error wrong, ⟨came, closed, wrong⟩) := by unfold nextX; rw [if_pos hw]
    rw [hX]
    have hrow := hrd.row
    have HRD := hid hrd
    have HW := hid hw
    clear hX hm0 hrd hw
    have s2 := h2
    rw [hW0] at s2
    go_enter Tryz.func17, Tryz.ntmps17
    go_wp2_with fail
    rw [← hW0]
    clear hW0 s2
    refine wp_region_held_drew (S := fun W => rowIs W (w.heap.size + 1) #[.string ⟨#[]⟩, .string ⟨#[]⟩, .int .i64 0, .slice none 0 0] 40 ∧ rowIs W g (rdRow (.slice ao came.length cap) closed wrong) 63) (by kernel_rfl) ⟨hno, hrow⟩ (fun hH => ?_)
    refine wpAnyH_take (i := 0) (v := (.agg #[.string ⟨#[]⟩, .string ⟨#[]⟩, .int .i64 0, .slice none 0 0])) rfl (by kernel_rfl) (by kernel_rfl) (by kernel_rfl) (fun _ _ _ h => h) (Or.inl ⟨by kernel_rfl, ?_⟩) hH ?_
    · intro W hS
      exact load_gives rfl (w.heap.size + 1) rfl hS.1 Tryz.underlying40 rfl infoReqS
    simp only [Act.put, List.getElem_toArray, List.getElem_cons_zero, List.setIfInBounds_toArray, List.set_cons_zero, List.set_cons_succ]
    refine wpAnyH_take (i := 1) (v := ?_) rfl (by kernel_rfl) (by kernel_rfl) (by kernel_rfl) (fun _ _ _ h => h) (Or.inl ⟨by kernel_rfl, ?_⟩) hH ?_
    rotate_left
    · intro W hS
      have h2 := hS.2.cell 2
      go_simp
      first | done | with_reducible rfl
    simp only [Act.put, List.getElem_toArray, List.getElem_cons_succ, List.getElem_cons_zero, List.setIfInBounds_toArray, List.set_cons_zero, List.set_cons_succ]
    refine wpAnyH_take (i := 2) (v := ?_) rfl (by kernel_rfl) (by kernel_rfl) (by kernel_rfl) (fun _ _ _ h => h) (Or.inl ⟨by kernel_rfl, ?_⟩) hH ?_
    rotate_left
    · intro W hS
      have h2 := hS.2.cell 2
      go_simp
      first | done | with_reducible rfl
    simp only [Act.put, List.getElem_toArray, List.getElem_cons_succ, List.getElem_cons_zero, List.setIfInBounds_toArray, List.set_cons_zero, List.set_cons_succ]
    refine wpAnyH_take (i := 3) (v := ?_) rfl (by kernel_rfl) (by kernel_rfl) (by kernel_rfl) (fun _ _ _ h => h) (Or.inl ⟨by kernel_rfl, ?_⟩) hH ?_
    rotate_left
    · intro W hS
      have h2 := hS.2.cell 2
      go_simp
      first | done | with_reducible rfl
    simp only [Act.put, List.getElem_toArray, List.getElem_cons_succ, List.getElem_cons_zero, List.setIfInBounds_toArray, List.set_cons_zero, List.set_cons_succ]
    refine wpAnyH_take (i := 4) (v := ?_) rfl (by kernel_rfl) (by kernel_rfl) (by kernel_rfl) (fun _ _ _ h => h) (Or.inl ⟨by kernel_rfl, ?_⟩) hH ?_
    rotate_left
    · intro W hS
      have h2 := hS.2.cell 2
      go_simp
      first | done | with_reducible rfl
    simp only [Act.put, List.getElem_toArray, List.getElem_cons_succ, List.getElem_cons_zero, List.setIfInBounds_toArray, List.set_cons_zero, List.set_cons_succ]
    refine wpAnyH_ready (rs := [5]) (by kernel_rfl) (by simp) ?_
    refine AllReadyH.cons rfl (fun K hK => ?_) AllReadyH.nil
    refine wp_store_row 40 _ _ rfl w.heap.size #[.string ⟨#[]⟩, .string ⟨#[]⟩, .int .i64 0, .slice none 0 0] rfl rfl 40 #[.string ⟨#[]⟩, .string ⟨#[]⟩, .int .i64 0, .slice none 0 0] (show rowIs W0.drew _ _ _ from hres) infoReqS rfl (one4 [] [] 0 none 0 0) ?_
    have hgr : g ≠ w.heap.size := fun e => HX0.out (by rw [← e]; exact .inl rfl)
    refine hK.out _ _ ⟨hH.1.setRow_other _ (by omega), hH.2.setRow_other _ hgr⟩ (fun hH => ?_)
    clear hK K
    try simp only [Act.put, List.getElem_toArray, List.getElem_cons_succ, List.getElem_cons_zero]
    refine wpAnyH_take (i := 6) (v := ?_) rfl (by kernel_rfl) (by kernel_rfl) (by kernel_rfl) (fun _ _ _ h => h) (Or.inl ⟨by kernel_rfl, ?_⟩) hH ?_
    rotate_left
    · intro W hS
      have h2 := hS.2.cell 2
      go_simp
      first | done | with_reducible rfl
    simp only [Act.put, List.getElem_toArray, List.getElem_cons_succ, List.getElem_cons_zero, List.setIfInBounds_toArray, List.set_cons_zero, List.set_cons_succ]
    refine wpAnyH_take (i := 7) (v := ?_) rfl (by kernel_rfl) (by kernel_rfl) (by kernel_rfl) (fun _ _ _ h => h) (Or.inl ⟨by kernel_rfl, ?_⟩) hH ?_
    rotate_left
    · intro W hS
      have h2 := hS.2.cell 2
      go_simp
      first | done | with_reducible rfl
    simp only [Act.put, List.getElem_toArray, List.getElem_cons_succ, List.getElem_cons_zero, List.setIfInBounds_toArray, List.set_cons_zero, List.set_cons_succ]
    refine wpAnyH_done (by kernel_rfl) ?_ _
    go_wp2_with fail
    refine bodyPost_ret (results_row3 Tryz.results17 _ _ w.heap.size _ rfl ((show rowIs W0.drew w.heap.size #[.string ⟨#[]⟩, .string ⟨#[]⟩, .int .i64 0, .slice none 0 0] 40 from hres).setRow #[.string ⟨#[]⟩, .string ⟨#[]⟩, .int .i64 0, .slice none 0 0]) Tryz.underlying40 rfl infoReqS) rfl ?_
    refine ⟨⟨HW.out, rfl⟩, _, (HRD.out.drew).kept ((Kept.refl (fun b => b = w.heap.size) _).setRow (.inl rfl) _) (fun b hb e => ?_), (hkp.drew).setRow (.inr (Nat.le_refl _)) _, fun b hb => hb⟩
    subst e; exact HX0.out hb
end Go.Proofs.YtefplhkjcclppaaGreatDoor
/-
  Contract of package wire: next, of responses.
-/
namespace Go.Proofs.YtefplhkjcclppaaGreatDoor
open Go.RowKit Go.Pantry

set_option maxRecDepth 100000 in
set_option maxHeartbeats 8000000 in
theorem nextRes_any (mb : Nat) (hd : Bool) (g : Nat) (v : Value) (s : Rd) (w : World) (hr : RdAt w g v s) (hm : MaxOk w) (hl : s.came.length ≤ 8192) (hfr : ∀ (W : World) (st : Int) (m : List UInt8) (z : Int) (u : Value) (L : List Fld), Kept (Fp g v) w W → Reads2 W u L → okFs L → Calls Tryz.prog 27 #[.agg #[.int .i64 st, strV m, .int .i64 z, u], .pointer (some ⟨mb, 0, none⟩)] W fun e w' => FrameIs (if bareX hd st then .ok (0, 0) else frameX z 3 L) e ∧ Below W.heap.size W w') :
    Calls Tryz.prog 29 #[.pointer (some ⟨g, 0, none⟩), (.func (.func 30) #[] #[]), (.func (.func 27) #[] #[.pointer (some ⟨mb, 0, none⟩)])] w fun e w' => NextPost resCells #[.int .i64 0, .string ⟨#[]⟩, .int .i64 0, .slice none 0 0] g v w (nextX (readL resL) (resFr hd) s) e w' := by
  obtain ⟨came, closed, wrong⟩ := s
  simp only at hl
  obtain ⟨ao, cap, rfl⟩ := hr.form
  obtain ⟨W0, hW0⟩ : ∃ W, W = (w.alloc (.cells #[.int .i64 0, .string ⟨#[]⟩, .int .i64 0, .slice none 0 0] 53)).alloc (.cells #[.int .i64 0, .string ⟨#[]⟩, .int .i64 0, .slice none 0 0] 53) := ⟨_, rfl⟩
  have hb0 : Below w.heap.size w W0 := by rw [hW0]; exact (below_alloc _ _).alloc (by simp) _
  have hres : rowIs W0 w.heap.size #[.int .i64 0, .string ⟨#[]⟩, .int .i64 0, .slice none 0 0] 53 := by rw [hW0]; exact (rowIs_new _ _ _).below (below_alloc _ _)
  have hno : rowIs W0 (w.heap.size + 1) #[.int .i64 0, .string ⟨#[]⟩, .int .i64 0, .slice none 0 0] 53 := by rw [hW0]; exact rowIs_new_at _ _ _ _ (by simp)
  have hrd : RdAt W0 g (.slice ao came.length cap) ⟨came, closed, wrong⟩ := hr.below hb0
  have hx0 : ¬ Fp g (.slice ao came.length cap) w.heap.size := fun h => by have := Fp.lt hr h; omega
  have hx1 : ¬ Fp g (.slice ao came.length cap) (w.heap.size + 1) := fun h => by have := Fp.lt hr h; omega
  have hkp : Kept (Fp g (.slice ao came.length cap)) w W0 := Kept.of_below hb0
  have HX0 := hid hx0
  have HX1 := hid hx1
  have HLT := hid (fun k hk => Fp.lt hr (k := k) hk)
  have h2 := hrd.row.cell 2
  have hm0 := hm.below hb0
  clear hx0 hx1 hr hm
  by_cases hw : wrong = 0
  · subst hw
    have CO := hid (fun k W h => ofHead_any g (.slice ao came.length cap) ⟨came, closed, 0⟩ k W h)
    have CT := hid (fun k W h => tell_any g (.slice ao came.length cap) ⟨came, closed, 0⟩ k W h rfl)
    have h0 := hrd.row.cell 0
    obtain ⟨X, hX⟩ : ∃ X, nextX (readL resL) (resFr hd) ⟨came, closed, 0⟩ = X := ⟨_, rfl⟩
    rw [hX]
    unfold nextX at hX
    simp only [ne_eq, not_true_eq_false, if_false] at hX
    have hrr := (bytesRead hrd.bytes)
    have hro : came.length ≤ cap := by obtain ⟨_, _, e, hc⟩ := bytes_form hrd.bytes; cases e; exact hc
    have c1 := ReadResponse_any ao cap came W0 hrr hro hm0
    clear hrr hm0
    cases hread : readL resL came with
    | error k =>
      rw [hread] at c1 hX
      simp only at hX
      have C1 := hid c1
      have HX := hid hX
      clear c1 hX hread
      have s0 := h0
      have s2 := h2
      rw [hW0] at s0 s2
      go_enter Tryz.func29, Tryz.ntmps29
      go_wp2_with fail
      rw [← hW0]
      clear hW0 s0 s2
      refine C1.out.mono ?_
      rintro e w3 ⟨⟨hk0, rfl⟩, hb3⟩
      have hc0 : ((k : Int) != 0) = true := by simp; omega
      obtain ⟨W4, hW4⟩ : ∃ W, W = w3.alloc (.cells #[.int .i64 0, .string ⟨#[]⟩, .int .i64 0, .slice none 0 0] 53) := ⟨_, rfl⟩
      have hb4 : Below W0.heap.size W0 W4 := hb3.trans (by rw [hW4]; exact (below_alloc _ _).mono hb3.size)
      have hrd4 := hrd.below hb4
      have hres4 := hres.below hb4
      have hno4 := hno.below hb4
      have hkp4 := hkp.then hb4
      clear hrd hres hno hkp h0 h2 hb0 hb3 hb4 C1
      go_wp2_with fail
      rw [← hW4]
      clear hW4
      have hrd := hrd4.drew
      have hres : rowIs W4.drew w.heap.size #[.int .i64 0, .string ⟨#[]⟩, .int .i64 0, .slice none 0 0] 53 := hres4
      have hno := hno4
      have hkp := hkp4.drew
      clear hrd4 hres4 hno4 hkp4
      refine wp_region_held_drew (S := fun W => rowIs W (w.heap.size + 1) #[.int .i64 0, .string ⟨#[]⟩, .int .i64 0, .slice none 0 0] 53) (by kernel_rfl) (show rowIs _ _ _ _ from hno) (fun hH => ?_)
      refine wpAnyH_take (i := 0) (v := (.agg #[.int .i64 0, .string ⟨#[]⟩, .int .i64 0, .slice none 0 0])) rfl (by kernel_rfl) (by kernel_rfl) (by kernel_rfl) (fun _ _ _ h => h) (Or.inl ⟨by kernel_rfl, ?_⟩) hH ?_
      · intro W hS
        exact load_gives rfl (w.heap.size + 1) rfl hS Tryz.underlying53 rfl infoResS
      simp only [Act.put, List.getElem_toArray, List.getElem_cons_zero, List.setIfInBounds_toArray, List.set_cons_zero, List.set_cons_succ]
      refine wpAnyH_take (i := 1) (v := ?_) rfl (by kernel_rfl) (by kernel_rfl) (by kernel_rfl) (fun _ _ _ h => h) (Or.inl ⟨by kernel_rfl, ?_⟩) hH ?_
      rotate_left
      · intro W hS
        go_simp
        first | done | with_reducible rfl
      simp only [Act.put, List.getElem_toArray, List.getElem_cons_succ, List.getElem_cons_zero, List.setIfInBounds_toArray, List.set_cons_zero, List.set_cons_succ]
      refine wpAnyH_take (i := 2) (v := ?_) rfl (by kernel_rfl) (by kernel_rfl) (by kernel_rfl) (fun _ _ _ h => h) (Or.inl ⟨by kernel_rfl, ?_⟩) hH ?_
      rotate_left
      · intro W hS
        go_simp
        first | done | with_reducible rfl
      simp only [Act.put, List.getElem_toArray, List.getElem_cons_succ, List.getElem_cons_zero, List.setIfInBounds_toArray, List.set_cons_zero, List.set_cons_succ]
      refine wpAnyH_take (i := 3) (v := ?_) rfl (by kernel_rfl) (by kernel_rfl) (by kernel_rfl) (fun _ _ _ h => h) (Or.inl ⟨by kernel_rfl, ?_⟩) hH ?_
      rotate_left
      · intro W hS
        go_simp
        first | done | with_reducible rfl
      simp only [Act.put, List.getElem_toArray, List.getElem_cons_succ, List.getElem_cons_zero, List.setIfInBounds_toArray, List.set_cons_zero, List.set_cons_succ]
      refine wpAnyH_ready (rs := [4]) (by kernel_rfl) (by simp) ?_
      refine AllReadyH.cons rfl (fun K hK => ?_) AllReadyH.nil
      go_simp
      refine (CO.out _ _ hrd).mono ?_
      rintro e w9 ⟨rfl, rfl⟩
      refine hK.out _ _ hH (fun hH => ?_)
      clear hK K
      try simp only [Act.put, List.getElem_toArray, List.getElem_cons_succ, List.getElem_cons_zero, List.setIfInBounds_toArray, List.set_cons_zero, List.set_cons_succ]
      refine wpAnyH_ready (rs := [5]) (by kernel_rfl) (by simp) ?_
      refine AllReadyH.cons rfl (fun K hK => ?_) AllReadyH.nil
      go_simp
      refine (CT.out _ _ hrd).mono ?_
      rintro e w9 ⟨rfl, hrd9, hkp9, hsz9⟩
      have hH1 := hH.kept hkp9 HX1.out
      have hres1 := hres.kept hkp9 HX0.out
      have hkA := hkp.trans hkp9 (fun k hk _ => hk)
      clear hkp9 hsz9 hrd hkp hres
      rename rowIs w9 w.heap.size _ _ => hres
      refine hK.out _ _ hH1 (fun hH => ?_)
      clear hK K
      try simp only [Act.put, List.getElem_toArray, List.getElem_cons_succ, List.getElem_cons_zero, List.setIfInBounds_toArray, List.set_cons_zero, List.set_cons_succ]
      refine wpAnyH_ready (rs := [6]) (by kernel_rfl) (by simp) ?_
      refine AllReadyH.cons rfl (fun K hK => ?_) AllReadyH.nil
      refine wp_store_row 53 _ _ rfl w.heap.size #[.int .i64 0, .string ⟨#[]⟩, .int .i64 0, .slice none 0 0] rfl rfl 53 #[.int .i64 0, .string ⟨#[]⟩, .int .i64 0, .slice none 0 0] hres infoResS rfl (one4' 0 0 [] none 0 0) ?_
      have hH2 := hH.setRow_other (#[.int .i64 0, .string ⟨#[]⟩, .int .i64 0, .slice none 0 0] : Array Value) (g := w.heap.size + 1) (k := w.heap.size) (by omega)
      refine hK.out _ _ hH2 (fun hH => ?_)
      clear hK K
      try simp only [Act.put, List.getElem_toArray, List.getElem_cons_succ, List.getElem_cons_zero]
      refine wpAnyH_take (i := 7) (v := ?_) rfl (by kernel_rfl) (by kernel_rfl) (by kernel_rfl) (fun _ _ _ h => h) (Or.inl ⟨by kernel_rfl, ?_⟩) hH ?_
      rotate_left
      · intro W hS
        go_simp
        first | done | with_reducible rfl
      simp only [Act.put, List.getElem_toArray, List.getElem_cons_succ, List.getElem_cons_zero, List.setIfInBounds_toArray, List.set_cons_zero, List.set_cons_succ]
      refine wpAnyH_take (i := 8) (v := ?_) rfl (by kernel_rfl) (by kernel_rfl) (by kernel_rfl) (fun _ _ _ h => h) (Or.inl ⟨by kernel_rfl, ?_⟩) hH ?_
      rotate_left
      · intro W hS
        go_simp
        first | done | with_reducible rfl
      simp only [Act.put, List.getElem_toArray, List.getElem_cons_succ, List.getElem_cons_zero, List.setIfInBounds_toArray, List.set_cons_zero, List.set_cons_succ]
      refine wpAnyH_done (by kernel_rfl) ?_ _
      go_wp2_with fail
      refine bodyPost_ret (results_row3 Tryz.results29 _ _ w.heap.size _ rfl (hres.setRow #[.int .i64 0, .string ⟨#[]⟩, .int .i64 0, .slice none 0 0]) Tryz.underlying53 rfl infoResS) rfl ?_
      rw [← HX.out]
      refine ⟨⟨?_, rfl⟩, _, hrd9.kept ((Kept.refl (fun b => b = w.heap.size) _).setRow (.inl rfl) _) (fun b hb e => ?_), hkA.setRow (.inr (Nat.le_refl _)) _, fun b hb => hb⟩
      · have := headE_ne closed came hk0
        exact this
      · subst e; exact HX0.out hb
    | ok p =>
      obtain ⟨h, n⟩ := p
      have hpos := readL_pos hread
      have hfl : okFs h.flds := okFs_read_s hread
      rw [hread] at c1 hX
      simp only at hX
      have c2 := fun W u hk h1 => hfr W (h.status : Int) h.first (h.minor : Int) u h.flds hk h1 hfl
      have C1 := hid c1
      have C2 := hid c2
      have HXo := hid hX
      have HP := hid hpos
      have HFL := hid hfl
      clear c1 c2 hX hread hpos hfl
      have s0 := h0
      have s2 := h2
      rw [hW0] at s0 s2
      go_enter Tryz.func29, Tryz.ntmps29
      go_wp2_with fail
      rw [← hW0]
      clear hW0 s0 s2
      refine C1.out.mono ?_
      rintro e w3 ⟨⟨vl, rfl, hol⟩, hb3⟩
      obtain ⟨aol, cl, rfl⟩ := ownsRow_form hol
      obtain ⟨W4, hW4⟩ : ∃ W, W = w3.alloc (.cells #[.int .i64 (h.status : Int), strV h.first, .int .i64 (h.minor : Int), .slice aol h.flds.length cl] 53) := ⟨_, rfl⟩
      have hb34 : Below w3.heap.size w3 W4 := by rw [hW4]; exact below_alloc _ _
      have hb4 : Below W0.heap.size W0 W4 := chain2 hb3 hb3.size hb34
      have hhb : rowIs W4 w3.heap.size #[.int .i64 (h.status : Int), strV h.first, .int .i64 (h.minor : Int), .slice aol h.flds.length cl] 53 := by rw [hW4]; exact rowIs_new _ _ _
      have hol4 := hol.below hb34
      have hs3 : W0.heap.size ≤ w3.heap.size := hb3.size
      have hs0 : w.heap.size + 2 ≤ W0.heap.size := hno.lt
      have hrd4 := hrd.below hb4
      have hres4 := hres.below hb4
      have hno4 := hno.below hb4
      have hkp4 := hkp.then hb4
      have hlw : W0.heap.size ≤ W4.heap.size := hb4.size
      clear hrd hres hno hkp h0 h2 hb0 hb3 hb4 C1 hol hb34
      go_wp2_with fail
      rw [← hW4]
      clear hW4
      have g0 := hhb.cell 0
      have g1 := hhb.cell 1
      have g2 := hhb.cell 2
      have g3 := hhb.cell 3
      have OL := hid hol4
      clear hol4
      go_wp2_with fail
      refine (C2.out _ _ hkp4 (OL.out.reads2).2).mono ?_
      rintro e w5 ⟨hf, hb5⟩
      obtain ⟨t1, t2, t3, ht, rfl⟩ := hf.form
      have hrdA := hrd4.below hb5
      have hresA := hres4.below hb5
      have hnoA := hno4.below hb5
      have hkpA := hkp4.then hb5
      have hhbA := hhb.below hb5
      have holA := OL.out.below hb5
      have hls := hhb.lt
      have hl5 : W4.heap.size ≤ w5.heap.size := hb5.size
      clear hrd4 hres4 hno4 hkp4 hhb OL hb5 hf C2 g0 g1 g2 g3
      obtain ⟨W6, hW6⟩ : ∃ W, W = w5.alloc (.cells #[.int .i64 t1, .int .i64 t2] 80) := ⟨_, rfl⟩
      have hb56 : Below w5.heap.size w5 W6 := by rw [hW6]; exact below_alloc _ _
      have hfb : rowIs W6 w5.heap.size #[.int .i64 t1, .int .i64 t2] 80 := by rw [hW6]; exact rowIs_new _ _ _
      have hrd6 := hrdA.below hb56
      have hres6 := hresA.below hb56
      have hno6 := hnoA.below hb56
      have hkp6 := hkpA.then hb56
      have hhb6 := hhbA.below hb56
      have hol6 := holA.below hb56
      have hl6 : w5.heap.size < W6.heap.size := hfb.lt
      clear hrdA hresA hnoA hkpA hhbA holA hb56
      have HT := hid ht
      clear ht
      cases hfx : (resFr hd) h with
      | error k =>
        have ht := HT.out
        change fK (resFr hd h) = _ at ht
        rw [hfx] at ht
        simp only [fK, Prod.mk.injEq] at ht
        obtain ⟨rfl, rfl, rfl⟩ := ht
        have hX := HXo.out
        rw [hfx] at hX
        have HX := hid hX
        have hk0 : k ≠ 0 := resFr_err hfx
        have hc0 : ((k : Int) != 0) = true := by simp; omega
        have HK := hid hk0
        clear hX HXo HT hfx hk0
        go_wp2_with fail
        rw [← hW6]
        clear hW6
        have hrd := hrd6.drew
        have hres : rowIs W6.drew w.heap.size #[.int .i64 0, .string ⟨#[]⟩, .int .i64 0, .slice none 0 0] 53 := hres6
        have hno := hno6
        have hkp := hkp6.drew
        clear hrd6 hres6 hno6 hkp6 hhb6 hol6 hfb
        refine wp_region_held_drew (S := fun W => rowIs W (w.heap.size + 1) #[.int .i64 0, .string ⟨#[]⟩, .int .i64 0, .slice none 0 0] 53) (by kernel_rfl) (show rowIs _ _ _ _ from hno) (fun hH => ?_)
        refine wpAnyH_take (i := 0) (v := (.agg #[.int .i64 0, .string ⟨#[]⟩, .int .i64 0, .slice none 0 0])) rfl (by kernel_rfl) (by kernel_rfl) (by kernel_rfl) (fun _ _ _ h => h) (Or.inl ⟨by kernel_rfl, ?_⟩) hH ?_
        · intro W hS
          exact load_gives rfl (w.heap.size + 1) rfl hS Tryz.underlying53 rfl infoResS
        simp only [Act.put, List.getElem_toArray, List.getElem_cons_zero, List.setIfInBounds_toArray, List.set_cons_zero, List.set_cons_succ]
        refine wpAnyH_take (i := 1) (v := ?_) rfl (by kernel_rfl) (by kernel_rfl) (by kernel_rfl) (fun _ _ _ h => h) (Or.inl ⟨by kernel_rfl, ?_⟩) hH ?_
        rotate_left
        · intro W hS
          go_simp
          first | done | with_reducible rfl
        simp only [Act.put, List.getElem_toArray, List.getElem_cons_succ, List.getElem_cons_zero, List.setIfInBounds_toArray, List.set_cons_zero, List.set_cons_succ]
        refine wpAnyH_take (i := 2) (v := ?_) rfl (by kernel_rfl) (by kernel_rfl) (by kernel_rfl) (fun _ _ _ h => h) (Or.inl ⟨by kernel_rfl, ?_⟩) hH ?_
        rotate_left
        · intro W hS
          go_simp
          first | done | with_reducible rfl
        simp only [Act.put, List.getElem_toArray, List.getElem_cons_succ, List.getElem_cons_zero, List.setIfInBounds_toArray, List.set_cons_zero, List.set_cons_succ]
        refine wpAnyH_ready (rs := [3]) (by kernel_rfl) (by simp) ?_
        refine AllReadyH.cons rfl (fun K hK => ?_) AllReadyH.nil
        go_simp
        refine (CT.out _ _ hrd).mono ?_
        rintro e w9 ⟨rfl, hrd9, hkp9, hsz9⟩
        have hH1 := hH.kept hkp9 HX1.out
        have hres1 := hres.kept hkp9 HX0.out
        have hkA := hkp.trans hkp9 (fun k hk _ => hk)
        clear hkp9 hsz9 hrd hkp hres
        rename rowIs w9 w.heap.size _ _ => hres
        refine hK.out _ _ hH1 (fun hH => ?_)
        clear hK K
        try simp only [Act.put, List.getElem_toArray, List.getElem_cons_succ, List.getElem_cons_zero, List.setIfInBounds_toArray, List.set_cons_zero, List.set_cons_succ]
        refine wpAnyH_ready (rs := [4]) (by kernel_rfl) (by simp) ?_
        refine AllReadyH.cons rfl (fun K hK => ?_) AllReadyH.nil
        refine wp_store_row 53 _ _ rfl w.heap.size #[.int .i64 0, .string ⟨#[]⟩, .int .i64 0, .slice none 0 0] rfl rfl 53 #[.int .i64 0, .string ⟨#[]⟩, .int .i64 0, .slice none 0 0] hres infoResS rfl (one4' 0 0 [] none 0 0) ?_
        have hH2 := hH.setRow_other (#[.int .i64 0, .string ⟨#[]⟩, .int .i64 0, .slice none 0 0] : Array Value) (g := w.heap.size + 1) (k := w.heap.size) (by omega)
        refine hK.out _ _ hH2 (fun hH => ?_)
        clear hK K
        try simp only [Act.put, List.getElem_toArray, List.getElem_cons_succ, List.getElem_cons_zero]
        refine wpAnyH_take (i := 5) (v := ?_) rfl (by kernel_rfl) (by kernel_rfl) (by kernel_rfl) (fun _ _ _ h => h) (Or.inl ⟨by kernel_rfl, ?_⟩) hH ?_
        rotate_left
        · intro W hS
          go_simp
          first | done | with_reducible rfl
        simp only [Act.put, List.getElem_toArray, List.getElem_cons_succ, List.getElem_cons_zero, List.setIfInBounds_toArray, List.set_cons_zero, List.set_cons_succ]
        refine wpAnyH_take (i := 6) (v := ?_) rfl (by kernel_rfl) (by kernel_rfl) (by kernel_rfl) (fun _ _ _ h => h) (Or.inl ⟨by kernel_rfl, ?_⟩) hH ?_
        rotate_left
        · intro W hS
          go_simp
          first | done | with_reducible rfl
        simp only [Act.put, List.getElem_toArray, List.getElem_cons_succ, List.getElem_cons_zero, List.setIfInBounds_toArray, List.set_cons_zero, List.set_cons_succ]
        refine wpAnyH_done (by kernel_rfl) ?_ _
        go_wp2_with fail
        refine bodyPost_ret (results_row3 Tryz.results29 _ _ w.heap.size _ rfl (hres.setRow #[.int .i64 0, .string ⟨#[]⟩, .int .i64 0, .slice none 0 0]) Tryz.underlying53 rfl infoResS) rfl ?_
        rw [← HX.out]
        refine ⟨⟨HK.out, rfl⟩, _, hrd9.kept ((Kept.refl (fun b => b = w.heap.size) _).setRow (.inl rfl) _) (fun b hb e => ?_), hkA.setRow (.inr (Nat.le_refl _)) _, fun b hb => hb⟩
        subst e; exact HX0.out hb
      | ok q =>
        obtain ⟨kk, m⟩ := q
        have ht := HT.out
        change fK (resFr hd h) = _ at ht
        rw [hfx] at ht
        simp only [fK, Prod.mk.injEq] at ht
        obtain ⟨rfl, rfl, rfl⟩ := ht
        have hX := HXo.out
        rw [hfx] at hX
        simp only at hX
        have c3 := fun W u hu => Read_any (kk : Int) (m : Int) u (came.drop n) closed W hu (by rw [List.length_drop]; omega)
        simp only [bodyX_readF] at c3
        obtain ⟨aoL, capL, hlow, hbyL⟩ := bytes_low (P := Tryz.prog) 27 (by kernel_rfl) (fun _ => by kernel_rfl) hrd6.bytes n HP.out.2
        have hlowr := hlow
        have HLOW := hid hlow
        have HBYL := hid hbyL
        have C3 := hid c3
        have HX := hid hX
        have HRW := hid (And.intro hrd6.row hfb)
        clear hX HXo HT hfx c3 hlow hlowr hbyL
        go_wp2_with fail
        rw [← hW6]
        clear hW6
        refine wp_region_held_drew (S := fun W => rowIs W w5.heap.size #[.int .i64 (kk : Int), .int .i64 (m : Int)] 80 ∧ rowIs W g (rdRow (.slice ao came.length cap) closed 0) 63) (by kernel_rfl) ⟨hfb, hrd6.row⟩ (fun hH => ?_)
        refine wpAnyH_take (i := 0) (v := (.agg #[.int .i64 (kk : Int), .int .i64 (m : Int)])) rfl (by kernel_rfl) (by kernel_rfl) (by kernel_rfl) (fun _ _ _ h => h) (Or.inl ⟨by kernel_rfl, ?_⟩) hH ?_
        · intro W hS
          exact load_gives rfl w5.heap.size rfl hS.1 Tryz.underlying80 rfl infoFrS
        simp only [Act.put, List.getElem_toArray, List.getElem_cons_zero, List.setIfInBounds_toArray, List.set_cons_zero, List.set_cons_succ]
        refine wpAnyH_take (i := 1) (v := ?_) rfl (by kernel_rfl) (by kernel_rfl) (by kernel_rfl) (fun _ _ _ h => h) (Or.inl ⟨by kernel_rfl, ?_⟩) hH ?_
        rotate_left
        · intro W hS
          have q0 := hS.2.cell 0
          have q1 := hS.2.cell 1
          go_simp
          first | done | with_reducible rfl
        simp only [Act.put, List.getElem_toArray, List.getElem_cons_succ, List.getElem_cons_zero, List.setIfInBounds_toArray, List.set_cons_zero, List.set_cons_succ]
        refine wpAnyH_take (i := 2) (v := ?_) rfl (by kernel_rfl) (by kernel_rfl) (by kernel_rfl) (fun _ _ _ h => h) (Or.inl ⟨by kernel_rfl, ?_⟩) hH ?_
        rotate_left
        · intro W hS
          have q0 := hS.2.cell 0
          have q1 := hS.2.cell 1
          go_simp
          first | done | with_reducible rfl
        simp only [Act.put, List.getElem_toArray, List.getElem_cons_succ, List.getElem_cons_zero, List.setIfInBounds_toArray, List.set_cons_zero, List.set_cons_succ]
        refine wpAnyH_take (i := 3) (v := ?_) rfl (by kernel_rfl) (by kernel_rfl) (by kernel_rfl) (fun _ _ _ h => h) (Or.inl ⟨by kernel_rfl, ?_⟩) hH ?_
        rotate_left
        · intro W hS
          have q0 := hS.2.cell 0
          have q1 := hS.2.cell 1
          go_simp
          first | done | with_reducible rfl
        simp only [Act.put, List.getElem_toArray, List.getElem_cons_succ, List.getElem_cons_zero, List.setIfInBounds_toArray, List.set_cons_zero, List.set_cons_succ]
        refine wpAnyH_take (i := 4) (v := ?_) rfl (by kernel_rfl) (by kernel_rfl) (by kernel_rfl) (fun _ _ _ h => h) (Or.inl ⟨by kernel_rfl, ?_⟩) hH ?_
        rotate_left
        · intro W hS
          have q0 := hS.2.cell 0
          have q1 := hS.2.cell 1
          go_simp
          first | done | with_reducible rfl
        simp only [Act.put, List.getElem_toArray, List.getElem_cons_succ, List.getElem_cons_zero, List.setIfInBounds_toArray, List.set_cons_zero, List.set_cons_succ]
        refine wpAnyH_take (i := 5) (v := ?_) rfl (by kernel_rfl) (by kernel_rfl) (by kernel_rfl) (fun _ _ _ h => h) (Or.inl ⟨by kernel_rfl, ?_⟩) hH ?_
        rotate_left
        · intro W hS
          have q0 := hS.2.cell 0
          have q1 := hS.2.cell 1
          go_simp
          first | done | with_reducible rfl
        simp only [Act.put, List.getElem_toArray, List.getElem_cons_succ, List.getElem_cons_zero, List.setIfInBounds_toArray, List.set_cons_zero, List.set_cons_succ]
        refine wpAnyH_take (i := 6) (v := (.slice aoL (came.length - n) capL)) rfl (by kernel_rfl) (by kernel_rfl) (by kernel_rfl) (fun _ _ _ h => h) (Or.inl ⟨by kernel_rfl, ?_⟩) hH ?_
        · intro W hS
          exact slice_gives rfl rfl rfl (by kernel_rfl) (HLOW.out _)
        simp only [Act.put, List.getElem_toArray, List.getElem_cons_succ, List.getElem_cons_zero, List.setIfInBounds_toArray, List.set_cons_zero, List.set_cons_succ]
        refine wpAnyH_take (i := 7) (v := ?_) rfl (by kernel_rfl) (by kernel_rfl) (by kernel_rfl) (fun _ _ _ h => h) (Or.inl ⟨by kernel_rfl, ?_⟩) hH ?_
        rotate_left
        · intro W hS
          have q0 := hS.2.cell 0
          have q1 := hS.2.cell 1
          go_simp
          first | done | with_reducible rfl
        simp only [Act.put, List.getElem_toArray, List.getElem_cons_succ, List.getElem_cons_zero, List.setIfInBounds_toArray, List.set_cons_zero, List.set_cons_succ]
        refine wpAnyH_take (i := 8) (v := ?_) rfl (by kernel_rfl) (by kernel_rfl) (by kernel_rfl) (fun _ _ _ h => h) (Or.inl ⟨by kernel_rfl, ?_⟩) hH ?_
        rotate_left
        · intro W hS
          have q0 := hS.2.cell 0
          have q1 := hS.2.cell 1
          go_simp
          first | done | with_reducible rfl
        simp only [Act.put, List.getElem_toArray, List.getElem_cons_succ, List.getElem_cons_zero, List.setIfInBounds_toArray, List.set_cons_zero, List.set_cons_succ]
        refine wpAnyH_take (i := 9) (v := ?_) rfl (by kernel_rfl) (by kernel_rfl) (by kernel_rfl) (fun _ _ _ h => h) (Or.inl ⟨by kernel_rfl, ?_⟩) hH ?_
        rotate_left
        · intro W hS
          have q0 := hS.2.cell 0
          have q1 := hS.2.cell 1
          go_simp
          first | done | with_reducible rfl
        simp only [Act.put, List.getElem_toArray, List.getElem_cons_succ, List.getElem_cons_zero, List.setIfInBounds_toArray, List.set_cons_zero, List.set_cons_succ]
        refine wpAnyH_take (i := 10) (v := ?_) rfl (by kernel_rfl) (by kernel_rfl) (by kernel_rfl) (fun _ _ _ h => h) (Or.inl ⟨by kernel_rfl, ?_⟩) hH ?_
        rotate_left
        · intro W hS
          have q0 := hS.2.cell 0
          have q1 := hS.2.cell 1
          go_simp
          first | done | with_reducible rfl
        simp only [Act.put, List.getElem_toArray, List.getElem_cons_succ, List.getElem_cons_zero, List.setIfInBounds_toArray, List.set_cons_zero, List.set_cons_succ]
        refine wpAnyH_ready (rs := [11]) (by kernel_rfl) (by simp) ?_
        refine AllReadyH.cons rfl (fun K hK => ?_) AllReadyH.nil
        go_simp
        refine (C3.out W6.drew _ (bytes_below HBYL.out ((Below.refl _ _).drew))).mono ?_
        rintro e w7 ⟨hp7, hb7⟩
        obtain ⟨v7, n7, k7, rfl, -⟩ := hp7.form
        have hH1 := And.intro (hH.1.below hb7) (hH.2.below hb7)
        refine hK.out _ _ hH1 (fun hH => ?_)
        clear hK K
        try simp only [Act.put, List.getElem_toArray, List.getElem_cons_succ, List.getElem_cons_zero, List.setIfInBounds_toArray, List.set_cons_zero, List.set_cons_succ]
        refine wpAnyH_take (i := 12) (v := ?_) rfl (by kernel_rfl) (by kernel_rfl) (by kernel_rfl) (fun _ _ _ h => h) (Or.inl ⟨by kernel_rfl, ?_⟩) hH ?_
        rotate_left
        · intro W hS
          have q0 := hS.2.cell 0
          have q1 := hS.2.cell 1
          go_simp
          first | done | with_reducible rfl
        simp only [Act.put, List.getElem_toArray, List.getElem_cons_succ, List.getElem_cons_zero, List.setIfInBounds_toArray, List.set_cons_zero, List.set_cons_succ]
        refine wpAnyH_take (i := 13) (v := ?_) rfl (by kernel_rfl) (by kernel_rfl) (by kernel_rfl) (fun _ _ _ h => h) (Or.inl ⟨by kernel_rfl, ?_⟩) hH ?_
        rotate_left
        · intro W hS
          have q0 := hS.2.cell 0
          have q1 := hS.2.cell 1
          go_simp
          first | done | with_reducible rfl
        simp only [Act.put, List.getElem_toArray, List.getElem_cons_succ, List.getElem_cons_zero, List.setIfInBounds_toArray, List.set_cons_zero, List.set_cons_succ]
        refine wpAnyH_take (i := 14) (v := ?_) rfl (by kernel_rfl) (by kernel_rfl) (by kernel_rfl) (fun _ _ _ h => h) (Or.inl ⟨by kernel_rfl, ?_⟩) hH ?_
        rotate_left
        · intro W hS
          have q0 := hS.2.cell 0
          have q1 := hS.2.cell 1
          go_simp
          first | done | with_reducible rfl
        simp only [Act.put, List.getElem_toArray, List.getElem_cons_succ, List.getElem_cons_zero, List.setIfInBounds_toArray, List.set_cons_zero, List.set_cons_succ]
        refine wpAnyH_take (i := 15) (v := ?_) rfl (by kernel_rfl) (by kernel_rfl) (by kernel_rfl) (fun _ _ _ h => h) (Or.inl ⟨by kernel_rfl, ?_⟩) hH ?_
        rotate_left
        · intro W hS
          have q0 := hS.2.cell 0
          have q1 := hS.2.cell 1
          go_simp
          first | done | with_reducible rfl
        simp only [Act.put, List.getElem_toArray, List.getElem_cons_succ, List.getElem_cons_zero, List.setIfInBounds_toArray, List.set_cons_zero, List.set_cons_succ]
        refine wpAnyH_take (i := 16) (v := ?_) rfl (by kernel_rfl) (by kernel_rfl) (by kernel_rfl) (fun _ _ _ h => h) (Or.inl ⟨by kernel_rfl, ?_⟩) hH ?_
        rotate_left
        · intro W hS
          have q0 := hS.2.cell 0
          have q1 := hS.2.cell 1
          go_simp
          first | done | with_reducible rfl
        simp only [Act.put, List.getElem_toArray, List.getElem_cons_succ, List.getElem_cons_zero, List.setIfInBounds_toArray, List.set_cons_zero, List.set_cons_succ]
        refine wpAnyH_take (i := 17) (v := ?_) rfl (by kernel_rfl) (by kernel_rfl) (by kernel_rfl) (fun _ _ _ h => h) (Or.inl ⟨by kernel_rfl, ?_⟩) hH ?_
        rotate_left
        · intro W hS
          have q0 := hS.2.cell 0
          have q1 := hS.2.cell 1
          go_simp
          first | done | with_reducible rfl
        simp only [Act.put, List.getElem_toArray, List.getElem_cons_succ, List.getElem_cons_zero, List.setIfInBounds_toArray, List.set_cons_zero, List.set_cons_succ]
        refine wpAnyH_take (i := 18) (v := ?_) rfl (by kernel_rfl) (by kernel_rfl) (by kernel_rfl) (fun _ _ _ h => h) (Or.inl ⟨by kernel_rfl, ?_⟩) hH ?_
        rotate_left
        · intro W hS
          have q0 := hS.2.cell 0
          have q1 := hS.2.cell 1
          go_simp
          first | done | with_reducible rfl
        simp only [Act.put, List.getElem_toArray, List.getElem_cons_succ, List.getElem_cons_zero, List.setIfInBounds_toArray, List.set_cons_zero, List.set_cons_succ]
        refine wpAnyH_done (by kernel_rfl) ?_ _
        have hrd7 := (hrd6.drew).below hb7
        have hres7 := (show rowIs W6.drew w.heap.size #[.int .i64 0, .string ⟨#[]⟩, .int .i64 0, .slice none 0 0] 53 from hres6).below hb7
        have hno7 := (show rowIs W6.drew (w.heap.size + 1) #[.int .i64 0, .string ⟨#[]⟩, .int .i64 0, .slice none 0 0] 53 from hno6).below hb7
        have hkp7 := (hkp6.drew).then hb7
        have hhb7 := (show rowIs W6.drew w3.heap.size #[.int .i64 (h.status : Int), strV h.first, .int .i64 (h.minor : Int), .slice aol h.flds.length cl] 53 from hhb6).below hb7
        have hol7 := (hol6.below ((Below.refl _ _).drew)).below hb7
        have hsz7 : W6.heap.size ≤ w7.heap.size := hb7.size
        clear hrd6 hres6 hno6 hkp6 hhb6 hol6 hfb hb7 HRW hH HLOW HBYL C3
        have hp := hp7
        clear hp7
        cases hbx : bodyX kk m closed (came.drop n) with
        | error k =>
          rw [hbx] at hp
          obtain ⟨hk0, hpe⟩ := hp
          cases hpe
          have hX := HX.out
          rw [hbx] at hX
          have HX := hid hX
          have hc0 : ((k : Int) != 0) = true := by simp; omega
          have HK := hid hk0
          clear hX hbx hk0
          go_wp2_with fail
          have hrd := hrd7.drew
          have hres : rowIs w7.drew w.heap.size #[.int .i64 0, .string ⟨#[]⟩, .int .i64 0, .slice none 0 0] 53 := hres7
          have hno := hno7
          have hkp := hkp7.drew
          clear hrd7 hres7 hno7 hkp7 hhb7 hol7
          refine wp_region_held_drew (S := fun W => rowIs W (w.heap.size + 1) #[.int .i64 0, .string ⟨#[]⟩, .int .i64 0, .slice none 0 0] 53) (by kernel_rfl) (show rowIs _ _ _ _ from hno) (fun hH => ?_)
          refine wpAnyH_take (i := 0) (v := (.agg #[.int .i64 0, .string ⟨#[]⟩, .int .i64 0, .slice none 0 0])) rfl (by kernel_rfl) (by kernel_rfl) (by kernel_rfl) (fun _ _ _ h => h) (Or.inl ⟨by kernel_rfl, ?_⟩) hH ?_
          · intro W hS
            exact load_gives rfl (w.heap.size + 1) rfl hS Tryz.underlying53 rfl infoResS
          simp only [Act.put, List.getElem_toArray, List.getElem_cons_zero, List.setIfInBounds_toArray, List.set_cons_zero, List.set_cons_succ]
          refine wpAnyH_take (i := 1) (v := ?_) rfl (by kernel_rfl) (by kernel_rfl) (by kernel_rfl) (fun _ _ _ h => h) (Or.inl ⟨by kernel_rfl, ?_⟩) hH ?_
          rotate_left
          · intro W hS
            go_simp
            first | done | with_reducible rfl
          simp only [Act.put, List.getElem_toArray, List.getElem_cons_succ, List.getElem_cons_zero, List.setIfInBounds_toArray, List.set_cons_zero, List.set_cons_succ]
          refine wpAnyH_take (i := 2) (v := ?_) rfl (by kernel_rfl) (by kernel_rfl) (by kernel_rfl) (fun _ _ _ h => h) (Or.inl ⟨by kernel_rfl, ?_⟩) hH ?_
          rotate_left
          · intro W hS
            go_simp
            first | done | with_reducible rfl
          simp only [Act.put, List.getElem_toArray, List.getElem_cons_succ, List.getElem_cons_zero, List.setIfInBounds_toArray, List.set_cons_zero, List.set_cons_succ]
          refine wpAnyH_ready (rs := [3]) (by kernel_rfl) (by simp) ?_
          refine AllReadyH.cons rfl (fun K hK => ?_) AllReadyH.nil
          go_simp
          refine (CT.out _ _ hrd).mono ?_
          rintro e w9 ⟨rfl, hrd9, hkp9, hsz9⟩
          have hH1 := hH.kept hkp9 HX1.out
          have hres1 := hres.kept hkp9 HX0.out
          have hkA := hkp.trans hkp9 (fun k hk _ => hk)
          clear hkp9 hsz9 hrd hkp hres
          rename rowIs w9 w.heap.size _ _ => hres
          refine hK.out _ _ hH1 (fun hH => ?_)
          clear hK K
          try simp only [Act.put, List.getElem_toArray, List.getElem_cons_succ, List.getElem_cons_zero, List.setIfInBounds_toArray, List.set_cons_zero, List.set_cons_succ]
          refine wpAnyH_ready (rs := [4]) (by kernel_rfl) (by simp) ?_
          refine AllReadyH.cons rfl (fun K hK => ?_) AllReadyH.nil
          refine wp_store_row 53 _ _ rfl w.heap.size #[.int .i64 0, .string ⟨#[]⟩, .int .i64 0, .slice none 0 0] rfl rfl 53 #[.int .i64 0, .string ⟨#[]⟩, .int .i64 0, .slice none 0 0] hres infoResS rfl (one4' 0 0 [] none 0 0) ?_
          have hH2 := hH.setRow_other (#[.int .i64 0, .string ⟨#[]⟩, .int .i64 0, .slice none 0 0] : Array Value) (g := w.heap.size + 1) (k := w.heap.size) (by omega)
          refine hK.out _ _ hH2 (fun hH => ?_)
          clear hK K
          try simp only [Act.put, List.getElem_toArray, List.getElem_cons_succ, List.getElem_cons_zero]
          refine wpAnyH_take (i := 5) (v := ?_) rfl (by kernel_rfl) (by kernel_rfl) (by kernel_rfl) (fun _ _ _ h => h) (Or.inl ⟨by kernel_rfl, ?_⟩) hH ?_
          rotate_left
          · intro W hS
            go_simp
            first | done | with_reducible rfl
          simp only [Act.put, List.getElem_toArray, List.getElem_cons_succ, List.getElem_cons_zero, List.setIfInBounds_toArray, List.set_cons_zero, List.set_cons_succ]
          refine wpAnyH_take (i := 6) (v := ?_) rfl (by kernel_rfl) (by kernel_rfl) (by kernel_rfl) (fun _ _ _ h => h) (Or.inl ⟨by kernel_rfl, ?_⟩) hH ?_
          rotate_left
          · intro W hS
            go_simp
            first | done | with_reducible rfl
          simp only [Act.put, List.getElem_toArray, List.getElem_cons_succ, List.getElem_cons_zero, List.setIfInBounds_toArray, List.set_cons_zero, List.set_cons_succ]
          refine wpAnyH_done (by kernel_rfl) ?_ _
          go_wp2_with fail
          refine bodyPost_ret (results_row3 Tryz.results29 _ _ w.heap.size _ rfl (hres.setRow #[.int .i64 0, .string ⟨#[]⟩, .int .i64 0, .slice none 0 0]) Tryz.underlying53 rfl infoResS) rfl ?_
          rw [← HX.out]
          refine ⟨⟨HK.out, rfl⟩, _, hrd9.kept ((Kept.refl (fun b => b = w.heap.size) _).setRow (.inl rfl) _) (fun b hb e => ?_), hkA.setRow (.inr (Nat.le_refl _)) _, fun b hb => hb⟩
          subst e; exact HX0.out hb
        | ok q =>
          obtain ⟨b, u⟩ := q
          rw [hbx] at hp
          obtain ⟨vb, hpe, hob⟩ := hp
          cases hpe
          obtain ⟨aob, cb, rfl⟩ := ownsRow_bytes_form hob
          have hX := HX.out
          rw [hbx] at hX
          have hul := (bodyX_len hbx).1
          rw [List.length_drop] at hul
          have hpp := HP.out
          have hku : n + u ≤ came.length := by omega
          obtain ⟨ag, rfl⟩ : ∃ a, ao = some ⟨a, 0, none⟩ := by
            rcases hrd7.own.2 with ⟨hv, hn⟩ | ⟨g', cap', cur, hv, _⟩
            · simp only at hn; omega
            · cases hv; exact ⟨_, rfl⟩
          have c4 := fun W hw => delete_any ag cap came (n + u) W hw hku
          simp only [Int.natCast_add] at c4
          have C4 := hid c4
          have hwr : IntKind.i64.wrap ((n : Int) + (u : Int)) = ((n + u : Nat) : Int) := by rw [IntWalk.i64_in _ (by omega)]; simp
          have q0 := hrd7.row.cell 0
          have HX := hid hX
          clear hX hbx hul hpp hku c4
          go_wp2_with fail
          refine (C4.out _ hrd7.own).mono ?_
          rintro e w8 ⟨rfl, ho8, hk8, hs8⟩
          have hag : ag ≠ g := hrd7.apart ag rfl
          have hagl : ag < w.heap.size := HLT.out ag (.inr rfl)
          have hgl : g < w.heap.size := HLT.out g (.inl rfl)
          have hrow8 := hrd7.row.kept hk8 (Ne.symm hag)
          have hres8 := hres7.kept hk8 (by show ¬ w.heap.size = ag; omega)
          have hhb8 := hhb7.kept hk8 (by show ¬ w3.heap.size = ag; omega)
          have hol8 := ownsRow_kept hol7 hk8 ((ownsRow_in hol7).mono fun k hk => by have := hk.1; omega)
          have hob8 := ownsRow_kept hob hk8 ((ownsRow_in hob).mono fun k hk => by have h1 : W6.heap.size ≤ k := hk.1; omega)
          have hkp8 := hkp7.trans hk8 (fun k hk _ => by subst hk; exact .inr rfl)
          have r0 := hrow8.cell 0
          have r1 := hrow8.free 0
          have hrow9 := hrow8.setCell 0 (.slice (some ⟨ag, 0, none⟩) (came.length - (n + u)) cap)
          have hres9 := hres8.setCell_block (g' := g) (by omega) 0 (.slice (some ⟨ag, 0, none⟩) (came.length - (n + u)) cap)
          have hhb9 := hhb8.setCell_block (g' := g) (by omega) 0 (.slice (some ⟨ag, 0, none⟩) (came.length - (n + u)) cap)
          have hkS := (Kept.refl (fun b => b = g) w8).setCell (i := 0) (.inl rfl) (.slice (some ⟨ag, 0, none⟩) (came.length - (n + u)) cap)
          have hol9 := ownsRow_kept hol8 hkS ((ownsRow_in hol8).mono fun k hk => by have := hk.1; omega)
          have hob9 := ownsRow_kept hob8 hkS ((ownsRow_in hob8).mono fun k hk => by have h1 : W6.heap.size ≤ k := hk.1; omega)
          have ho9 := ownsRow_kept ho8 hkS (fun k hk => by cases hk; exact hag)
          have hkp9 := hkp8.setCell (g := g) (i := 0) (.inl (.inl rfl)) (.slice (some ⟨ag, 0, none⟩) (came.length - (n + u)) cap)
          have d0 := hhb9.cell 0
          have d1 := hhb9.cell 1
          have d2 := hhb9.cell 2
          have d3 := hhb9.cell 3
          have HF := hid (And.intro hrow9 (And.intro hol9 (And.intro hob9 (And.intro ho9 hkp9))))
          have HG := hid (And.intro hag (And.intro hagl hgl))
          have HR9 := hid hres9
          clear hrow8 hres8 hhb8 hol8 hob8 hkp8 hrow9 hres9 hhb9 hkS hol9 hob9 ho9 hkp9 hk8 hs8 ho8 hrd7 hres7 hno7 hkp7 hhb7 hol7 hob q0 C4 hwr hag hagl hgl
          go_wp2_with (refine wpList_store_row rfl 53 _ _ rfl w.heap.size _ rfl rfl 53 #[.int .i64 0, .string ⟨#[]⟩, .int .i64 0, .slice none 0 0] HR9.out infoResS rfl (one4' (h.status : Int) (h.minor : Int) h.first aol h.flds.length cl) ?_)
          refine bodyPost_ret (results_row3 Tryz.results29 _ _ w.heap.size _ rfl (HR9.out.setRow #[.int .i64 (h.status : Int), strV h.first, .int .i64 (h.minor : Int), .slice aol h.flds.length cl]) Tryz.underlying53 rfl infoResS) rfl ?_
          rw [← HX.out]
          obtain ⟨hrow9, hol9, hob9, ho9, hkp9⟩ := HF.out
          obtain ⟨hag, hagl, hgl⟩ := HG.out
          have hkR := (Kept.refl (fun b => b = w.heap.size) (w8.setCell ⟨g, 0, none⟩ (.slice (some ⟨ag, 0, none⟩) (came.length - (n + u)) cap))).setRow (.inl rfl) #[.int .i64 (h.status : Int), strV h.first, .int .i64 (h.minor : Int), .slice aol h.flds.length cl]
          refine ⟨⟨_, _, rfl, ?_, ?_⟩, .slice (some ⟨ag, 0, none⟩) (came.length - (n + u)) cap, ⟨hrow9.kept hkR (by omega), ownsRow_kept ho9 hkR (fun k hk => by cases hk; show ¬ ag = w.heap.size; omega), fun k hk => by cases hk; exact hag⟩, hkp9.setRow (.inr (Nat.le_refl _)) _, fun k hk => hk⟩
          · exact (ownsRow_kept hol9 hkR ((ownsRow_in hol9).mono fun k hk => by have := hk.1; omega)).base (by omega)
          · exact (ownsRow_kept hob9 hkR ((ownsRow_in hob9).mono fun k hk => by have h1 : W6.heap.size ≤ k := hk.1; omega)).base (by show w.heap.size ≤ W6.heap.size; omega)
  · have hz : ((wrong : Int) != 0) = true := by simp; omega
    have hX : nextX (readL resL) (resFr hd) ⟨came, closed, wrong⟩ = (.error wrong, ⟨came, closed, wrong⟩) := by unfold nextX; rw [if_pos hw]
    rw [hX]
    have hrow := hrd.row
    have HRD := hid hrd
    have HW := hid hw
    clear hX hm0 hrd hw
    have s2 := h2
    rw [hW0] at s2
    go_enter Tryz.func29, Tryz.ntmps29
    go_wp2_with fail
    rw [← hW0]
    clear hW0 s2
    refine wp_region_held_drew (S := fun W => rowIs W (w.heap.size + 1) #[.int .i64 0, .string ⟨#[]⟩, .int .i64 0, .slice none 0 0] 53 ∧ rowIs W g (rdRow (.slice ao came.length cap) closed wrong) 63) (by kernel_rfl) ⟨hno, hrow⟩ (fun hH => ?_)
    refine wpAnyH_take (i := 0) (v := (.agg #[.int .i64 0, .string ⟨#[]⟩, .int .i64 0, .slice none 0 0])) rfl (by kernel_rfl) (by kernel_rfl) (by kernel_rfl) (fun _ _ _ h => h) (Or.inl ⟨by kernel_rfl, ?_⟩) hH ?_
    · intro W hS
      exact load_gives rfl (w.heap.size + 1) rfl hS.1 Tryz.underlying53 rfl infoResS
    simp only [Act.put, List.getElem_toArray, List.getElem_cons_zero, List.setIfInBounds_toArray, List.set_cons_zero, List.set_cons_succ]
    refine wpAnyH_take (i := 1) (v := ?_) rfl (by kernel_rfl) (by kernel_rfl) (by kernel_rfl) (fun _ _ _ h => h) (Or.inl ⟨by kernel_rfl, ?_⟩) hH ?_
    rotate_left
    · intro W hS
      have h2 := hS.2.cell 2
      go_simp
      first | done | with_reducible rfl
    simp only [Act.put, List.getElem_toArray, List.getElem_cons_succ, List.getElem_cons_zero, List.setIfInBounds_toArray, List.set_cons_zero, List.set_cons_succ]
    refine wpAnyH_take (i := 2) (v := ?_) rfl (by kernel_rfl) (by kernel_rfl) (by kernel_rfl) (fun _ _ _ h => h) (Or.inl ⟨by kernel_rfl, ?_⟩) hH ?_
    rotate_left
    · intro W hS
      have h2 := hS.2.cell 2
      go_simp
      first | done | with_reducible rfl
    simp only [Act.put, List.getElem_toArray, List.getElem_cons_succ, List.getElem_cons_zero, List.setIfInBounds_toArray, List.set_cons_zero, List.set_cons_succ]
    refine wpAnyH_take (i := 3) (v := ?_) rfl (by kernel_rfl) (by kernel_rfl) (by kernel_rfl) (fun _ _ _ h => h) (Or.inl ⟨by kernel_rfl, ?_⟩) hH ?_
    rotate_left
    · intro W hS
      have h2 := hS.2.cell 2
      go_simp
      first | done | with_reducible rfl
    simp only [Act.put, List.getElem_toArray, List.getElem_cons_succ, List.getElem_cons_zero, List.setIfInBounds_toArray, List.set_cons_zero, List.set_cons_succ]
    refine wpAnyH_take (i := 4) (v := ?_) rfl (by kernel_rfl) (by kernel_rfl) (by kernel_rfl) (fun _ _ _ h => h) (Or.inl ⟨by kernel_rfl, ?_⟩) hH ?_
    rotate_left
    · intro W hS
      have h2 := hS.2.cell 2
      go_simp
      first | done | with_reducible rfl
    simp only [Act.put, List.getElem_toArray, List.getElem_cons_succ, List.getElem_cons_zero, List.setIfInBounds_toArray, List.set_cons_zero, List.set_cons_succ]
    refine wpAnyH_ready (rs := [5]) (by kernel_rfl) (by simp) ?_
    refine AllReadyH.cons rfl (fun K hK => ?_) AllReadyH.nil
    refine wp_store_row 53 _ _ rfl w.heap.size #[.int .i64 0, .string ⟨#[]⟩, .int .i64 0, .slice none 0 0] rfl rfl 53 #[.int .i64 0, .string ⟨#[]⟩, .int .i64 0, .slice none 0 0] (show rowIs W0.drew _ _ _ from hres) infoResS rfl (one4' 0 0 [] none 0 0) ?_
    have hgr : g ≠ w.heap.size := fun e => HX0.out (by rw [← e]; exact .inl rfl)
    refine hK.out _ _ ⟨hH.1.setRow_other _ (by omega), hH.2.setRow_other _ hgr⟩ (fun hH => ?_)
    clear hK K
    try simp only [Act.put, List.getElem_toArray, List.getElem_cons_succ, List.getElem_cons_zero]
    refine wpAnyH_take (i := 6) (v := ?_) rfl (by kernel_rfl) (by kernel_rfl) (by kernel_rfl) (fun _ _ _ h => h) (Or.inl ⟨by kernel_rfl, ?_⟩) hH ?_
    rotate_left
    · intro W hS
      have h2 := hS.2.cell 2
      go_simp
      first | done | with_reducible rfl
    simp only [Act.put, List.getElem_toArray, List.getElem_cons_succ, List.getElem_cons_zero, List.setIfInBounds_toArray, List.set_cons_zero, List.set_cons_succ]
    refine wpAnyH_take (i := 7) (v := ?_) rfl (by kernel_rfl) (by kernel_rfl) (by kernel_rfl) (fun _ _ _ h => h) (Or.inl ⟨by kernel_rfl, ?_⟩) hH ?_
    rotate_left
    · intro W hS
      have h2 := hS.2.cell 2
      go_simp
      first | done | with_reducible rfl
    simp only [Act.put, List.getElem_toArray, List.getElem_cons_succ, List.getElem_cons_zero, List.setIfInBounds_toArray, List.set_cons_zero, List.set_cons_succ]
    refine wpAnyH_done (by kernel_rfl) ?_ _
    go_wp2_with fail
    refine bodyPost_ret (results_row3 Tryz.results29 _ _ w.heap.size _ rfl ((show rowIs W0.drew w.heap.size #[.int .i64 0, .string ⟨#[]⟩, .int .i64 0, .slice none 0 0] 53 from hres).setRow #[.int .i64 0, .string ⟨#[]⟩, .int .i64 0, .slice none 0 0]) Tryz.underlying53 rfl infoResS) rfl ?_
    refine ⟨⟨HW.out, rfl⟩, _, (HRD.out.drew).kept ((Kept.refl (fun b => b = w.heap.size) _).setRow (.inl rfl) _) (fun b hb e => ?_), (hkp.drew).setRow (.inr (Nat.le_refl _)) _, fun b hb => hb⟩
    subst e; exact HX0.out hb
end Go.Proofs.YtefplhkjcclppaaGreatDoor
/-
  Contracts of package wire: Query, Reply.
-/
namespace Go.Proofs.YtefplhkjcclppaaGreatDoor
open Go.RowKit Go.Pantry

abbrev qryCells (h : Hd) (u b : Value) : Array Value := #[strV h.first, strV h.second, .int .i64 (h.minor : Int), u, b]
abbrev rplCells (h : Hd) (u b : Value) : Array Value := #[.int .i64 (h.status : Int), strV h.first, .int .i64 (h.minor : Int), u, b]
abbrev qryZero : Array Value := #[.string ⟨#[]⟩, .string ⟨#[]⟩, .int .i64 0, .slice none 0 0, .slice none 0 0]
abbrev rplZero : Array Value := #[.int .i64 0, .string ⟨#[]⟩, .int .i64 0, .slice none 0 0, .slice none 0 0]
/-- what a message's taking tells and leaves -/
def MsgPost (cells : Hd → Value → Value → Array Value) (zero : Array Value) (g : Nat) (v : Value) (w : World) (x : Except Nat (Hd × List UInt8) × Rd) (e : Ending) (w' : World) : Prop :=
  (match x.1 with
    | .error k => k ≠ 0 ∧ e = .returned (.tuple #[.agg zero, .int .i64 (k : Int)])
    | .ok (h, b) => ∃ vl vb, e = .returned (.tuple #[.agg (cells h vl vb), .int .i64 0]) ∧ w'.ownsRow w.heap.size 110 2 vl h.flds.length (fldCells h.flds) ∧ w'.ownsRow w.heap.size 5 1 vb b.length (b.map byteV)) ∧
  ∃ v', RdAt w' g v' x.2 ∧ Kept (Fp g v) w w' ∧ In (fun k => v.ownBlock = some k) v'
theorem infoQry : (Tryz.prog.info? 42).map (·.size) = some 5 := by kernel_rfl
theorem infoRpl : (Tryz.prog.info? 55).map (·.size) = some 5 := by kernel_rfl
theorem one5q (a b : List UInt8) (z : Int) (ao ap : Option Addr) (n c m d : Nat) : (#[strV a, strV b, .int .i64 z, .slice ao n c, .slice ap m d] : Array Value).all (·.oneCell') = true := by simp [Value.oneCell']
theorem one5r (y z : Int) (a : List UInt8) (ao ap : Option Addr) (n c m d : Nat) : (#[.int .i64 y, strV a, .int .i64 z, .slice ao n c, .slice ap m d] : Array Value).all (·.oneCell') = true := by simp [Value.oneCell']
set_option maxRecDepth 100000 in
set_option maxHeartbeats 4000000 in
theorem query_any (g : Nat) (v : Value) (s : Rd) (w : World) (hr : RdAt w g v s) (hm : MaxOk w) (hl : s.came.length ≤ 8192) :
    Calls Tryz.prog 8 #[.pointer (some ⟨g, 0, none⟩)] w fun e w' => MsgPost qryCells qryZero g v w (queryX s) e w' := by
  obtain ⟨W0, hW0⟩ : ∃ W, W = w.alloc (.cells qryZero 42) := ⟨_, rfl⟩
  have hb0 : Below w.heap.size w W0 := by rw [hW0]; exact below_alloc _ _
  have hres : rowIs W0 w.heap.size qryZero 42 := by rw [hW0]; exact rowIs_new _ _ _
  have hrd : RdAt W0 g v s := hr.below hb0
  have hx0 : ¬ Fp g v w.heap.size := fun h => by have := Fp.lt hr h; omega
  have c1 := nextReq_any g v s W0 hrd (hm.below hb0) hl
  change Calls _ _ _ W0 (fun e w' => NextPost _ _ g v W0 (queryX s) e w') at c1
  have hkp : Kept (Fp g v) w W0 := Kept.of_below hb0
  have hs0 : w.heap.size < W0.heap.size := hres.lt
  have hlt := fun k (hk : Fp g v k) => Fp.lt hr hk
  have C1 := hid c1
  have HX0 := hid hx0
  have HLT := hid hlt
  generalize queryX s = x at C1 ⊢
  clear c1 hrd hm hl hb0 hr hx0 hlt
  go_enter Tryz.func8, Tryz.ntmps8
  go_wp2_with fail
  rw [← hW0]
  clear hW0
  refine C1.out.mono ?_
  rintro e w1 ⟨hx, v', hrd1, hk1, hin⟩
  have hres1 := hres.kept hk1 HX0.out
  have hkA := hkp.trans hk1 (fun k hk _ => hk)
  have hs1 : W0.heap.size ≤ w1.heap.size := hk1.size
  clear C1 hres hkp hk1
  obtain ⟨y, s'⟩ := x
  cases y with
  | error k =>
    obtain ⟨hk0, rfl⟩ := hx
    obtain ⟨W2, hW2⟩ : ∃ W, W = w1.alloc (.cells #[.string ⟨#[]⟩, .string ⟨#[]⟩, .int .i64 0, .slice none 0 0] 40) := ⟨_, rfl⟩
    have hb2 : Below w1.heap.size w1 W2 := by rw [hW2]; exact below_alloc _ _
    have hres2 := hres1.below hb2
    have hrd2 := hrd1.below hb2
    have hkB := hkA.then hb2
    rw [hW2] at hres2 hrd2 hkB
    have HF := hid (And.intro hres2 (And.intro hrd2 hkB))
    have HK := hid (And.intro hk0 hin)
    clear hres1 hrd1 hkA hb2 hW2 hres2 hrd2 hkB hk0 hin
    go_wp2_with (refine wpList_store_row rfl 42 _ _ rfl w.heap.size qryZero rfl rfl 42 qryZero HF.out.1 infoQry rfl (one5q [] [] 0 none none 0 0 0 0) ?_)
    refine bodyPost_ret (results_row2 Tryz.results8 _ _ w.heap.size _ rfl (HF.out.1.setRow qryZero) Tryz.underlying42 rfl infoQry) rfl ?_
    exact ⟨⟨HK.out.1, rfl⟩, v', HF.out.2.1.kept ((Kept.refl (fun b => b = w.heap.size) _).setRow (.inl rfl) _) (fun b hb e => by
      rcases hb with hb | hb
      · exact HX0.out (by rw [← e]; exact .inl hb)
      · exact HX0.out (by rw [← e]; exact .inr (HK.out.2 _ hb))), HF.out.2.2.setRow (.inr (Nat.le_refl _)) _, HK.out.2⟩
  | ok p =>
    obtain ⟨h, b⟩ := p
    obtain ⟨vl, vb, rfl, hol, hob⟩ := hx
    obtain ⟨aol, cl, rfl⟩ := ownsRow_form hol
    obtain ⟨aob, cb, rfl⟩ := ownsRow_bytes_form hob
    obtain ⟨W2, hW2⟩ : ∃ W, W = w1.alloc (.cells #[strV h.first, strV h.second, .int .i64 (h.minor : Int), .slice aol h.flds.length cl] 40) := ⟨_, rfl⟩
    have hb2 : Below w1.heap.size w1 W2 := by rw [hW2]; exact below_alloc _ _
    have hres2 := hres1.below hb2
    have hrd2 := hrd1.below hb2
    have hkB := hkA.then hb2
    have hol2 := hol.below hb2
    have hob2 := hob.below hb2
    rw [hW2] at hres2 hrd2 hkB hol2 hob2
    have HF := hid (And.intro hres2 (And.intro hrd2 (And.intro hkB (And.intro hol2 hob2))))
    have HK := hid hin
    clear hres1 hrd1 hkA hb2 hW2 hres2 hrd2 hkB hin hol hob hol2 hob2
    unfold reqCells
    go_wp2_with (refine wpList_store_row rfl 42 _ _ rfl w.heap.size (qryCells h (.slice aol h.flds.length cl) (.slice aob b.length cb)) rfl rfl 42 qryZero HF.out.1 infoQry rfl (one5q _ _ _ _ _ _ _ _ _) ?_)
    refine bodyPost_ret (results_row2 Tryz.results8 _ _ w.heap.size _ rfl (HF.out.1.setRow (qryCells h (.slice aol h.flds.length cl) (.slice aob b.length cb))) Tryz.underlying42 rfl infoQry) rfl ?_
    obtain ⟨hres2, hrd2, hkB, hol2, hob2⟩ := HF.out
    have hkR := (Kept.refl (fun k => k = w.heap.size) (w1.alloc (.cells #[strV h.first, strV h.second, .int .i64 (h.minor : Int), .slice aol h.flds.length cl] 40))).setRow (.inl rfl) (qryCells h (.slice aol h.flds.length cl) (.slice aob b.length cb))
    refine ⟨⟨_, _, rfl, ?_, ?_⟩, v', hrd2.kept hkR (fun k hb e => by
      rcases hb with hb | hb
      · exact HX0.out (by rw [← e]; exact .inl hb)
      · exact HX0.out (by rw [← e]; exact .inr (HK.out _ hb))), hkB.setRow (.inr (Nat.le_refl _)) _, HK.out⟩
    · exact (ownsRow_kept hol2 hkR ((ownsRow_in hol2).mono fun k hk => by have := hk.1; omega)).base (by omega)
    · exact (ownsRow_kept hob2 hkR ((ownsRow_in hob2).mono fun k hk => by have := hk.1; omega)).base (by omega)
set_option maxRecDepth 100000 in
set_option maxHeartbeats 4000000 in
theorem frame1_any (mb : Nat) (mt : List UInt8) (st : Int) (m : List UInt8) (z : Int) (u : Value) (L : List Fld) (w : World) (hc : w.cell? ⟨mb, 0, none⟩ = some (strV mt)) (hr : Reads2 w u L) (hk : okFs L) :
    Calls Tryz.prog 27 #[.agg #[.int .i64 st, strV m, .int .i64 z, u], .pointer (some ⟨mb, 0, none⟩)] w fun e w' => FrameIs (if bareX (mt == [72, 69, 65, 68]) st then .ok (0, 0) else frameX z 3 L) e ∧ Below w.heap.size w w' := by
  obtain ⟨ao, cap, rfl⟩ := hr.form
  obtain ⟨W0, hW0⟩ : ∃ W, W = (w.alloc (.cells #[.int .i64 st, strV m, .int .i64 z, .slice ao L.length cap] 53)).alloc (.cells #[.int .i64 0, .int .i64 0] 80) := ⟨_, rfl⟩
  have hb0 : Below w.heap.size w W0 := by rw [hW0]; exact (below_alloc _ _).alloc (by simp) _
  have hin : rowIs W0 w.heap.size #[.int .i64 st, strV m, .int .i64 z, .slice ao L.length cap] 53 := by rw [hW0]; exact (rowIs_new _ _ _).below (below_alloc _ _)
  have hres : rowIs W0 (w.heap.size + 1) #[.int .i64 0, .int .i64 0] 80 := by rw [hW0]; exact rowIs_new_at _ _ _ _ (by simp)
  have hc0 := kept hc hb0
  have c1 := OfResponse_any mt m st z (.slice ao L.length cap) L W0 (hr.below hb0) hk
  generalize (if bareX (mt == [72, 69, 65, 68]) st then Except.ok (0, 0) else frameX z 3 L) = x at c1 ⊢
  have C1 := hid c1
  have g0 := hin.cell 0
  have g1 := hin.cell 1
  have g2 := hin.cell 2
  have g3 := hin.cell 3
  rw [hW0] at hc0 g0 g1 g2 g3
  have HR := hid hres
  clear c1 hr hc hin hres
  go_enter Tryz.func27, Tryz.ntmps27
  go_wp2_with fail
  rw [← hW0]
  clear hW0 hc0 g0 g1 g2 g3
  refine C1.out.mono ?_
  rintro e w1 ⟨hf, hb1⟩
  obtain ⟨t1, t2, t3, ht, rfl⟩ := hf.form
  have HR1 := hid (HR.out.below hb1)
  have HB := hid (chain2 hb0 hb0.size hb1)
  have HT := hid ht
  clear C1 HR hb0 hb1 hf ht
  go_wp2_with (refine wpList_store_row rfl 80 _ _ rfl (w.heap.size + 1) _ rfl rfl 80 #[.int .i64 0, .int .i64 0] HR1.out infoFrS rfl (oneF t1 t2) ?_)
  refine bodyPost_ret (results_row2 Tryz.results27 _ _ (w.heap.size + 1) _ rfl (HR1.out.setRow #[.int .i64 t1, .int .i64 t2]) Tryz.underlying80 rfl infoFrS) rfl ?_
  exact ⟨by unfold FrameIs; rw [HT.out]; rfl, below_setRow HB.out (Nat.le_succ _) _⟩
/-- how many bytes the reader at g has -/
def lenAt (w : World) (g : Nat) : Nat := match w.cell? ⟨g, 0, none⟩ with | some (.slice _ n _) => n | _ => 0
theorem RdAt.len {w : World} {g : Nat} {v : Value} {s : Rd} (h : RdAt w g v s) : lenAt w g = s.came.length := by
  obtain ⟨ao, c, rfl⟩ := h.form
  unfold lenAt
  rw [h.row.cell 0]
  rfl
set_option maxRecDepth 100000 in
set_option maxHeartbeats 8000000 in
theorem reply_any (g : Nat) (v : Value) (s : Rd) (mt : List UInt8) (w0 w : World) (hr : RdAt w g v s) (hm : MaxOk w0) (hbw : Below w0.heap.size w0 w) (hF : ∀ k, Fp g v k → w0.heap.size ≤ k) (hl : s.came.length ≤ 8192) :
    Calls Tryz.prog 12 #[.pointer (some ⟨g, 0, none⟩), strV mt] w fun e w' => MsgPost rplCells rplZero g v w (replyX (mt == [72, 69, 65, 68]) (s.came.length + 1) s) e w' := by
  obtain ⟨R, hR⟩ : ∃ R, replyX (mt == [72, 69, 65, 68]) (s.came.length + 1) s = R := ⟨_, rfl⟩
  rw [hR]
  obtain ⟨W0, hW0⟩ : ∃ W, W = (w.alloc (.cells #[strV mt] 9)).alloc (.cells rplZero 55) := ⟨_, rfl⟩
  have hb0 : Below w.heap.size w W0 := by rw [hW0]; exact (below_alloc _ _).alloc (by simp) _
  have hmb : rowIs W0 w.heap.size #[strV mt] 9 := by rw [hW0]; exact (rowIs_new _ _ _).below (below_alloc _ _)
  have hres : rowIs W0 (w.heap.size + 1) rplZero 55 := by rw [hW0]; exact rowIs_new_at _ _ _ _ (by simp)
  have hlt := fun k (hk : Fp g v k) => Fp.lt hr hk
  have HLT := hid hlt
  have HI : Hid (∃ v' s' k, RdAt W0 g v' s' ∧ Kept (Fp g v) w W0 ∧ In (fun k => v.ownBlock = some k) v' ∧ rowIs W0 w.heap.size #[strV mt] 9 ∧ rowIs W0 (w.heap.size + 1) rplZero 55 ∧ s'.came.length < k ∧ replyX (mt == [72, 69, 65, 68]) k s' = R ∧ s'.came.length ≤ 8192) :=
    ⟨v, s, _, hr.below hb0, Kept.of_below hb0, fun k hk => hk, hmb, hres, by omega, hR, hl⟩
  have HM := hid (And.intro hm (And.intro hbw hF))
  clear hb0 hmb hres hlt hR hm hl hr hbw hF
  go_enter Tryz.func12, Tryz.ntmps12
  go_wp2_with fail
  rw [← hW0]
  clear hW0
  go_loopw [] (fun wr => ∃ v' s' k, RdAt wr g v' s' ∧ Kept (Fp g v) w wr ∧ In (fun k => v.ownBlock = some k) v' ∧ rowIs wr w.heap.size #[strV mt] 9 ∧ rowIs wr (w.heap.size + 1) rplZero 55 ∧ s'.came.length < k ∧ replyX (mt == [72, 69, 65, 68]) k s' = R ∧ s'.came.length ≤ 8192) (fun wr => lenAt wr g)
  case atStart => exact HI.out
  case round =>
    clear HI
    obtain ⟨v', s', k, hrd, hkp, hin, hmb, hres, hk, hR, hl⟩ := hrel
    have hxx : ∀ b, w.heap.size ≤ b → ¬ Fp g v' b := fun b hb h => by
      rcases h with h | h
      · have := HLT.out b (.inl h); omega
      · have := HLT.out b (.inr (hin b h)); omega
    obtain ⟨k, rfl⟩ : ∃ j, k = j + 1 := ⟨k - 1, by omega⟩
    rw [replyX] at hR
    have hmr : MaxOk wr := HM.out.1.below (HM.out.2.1.trans (hkp.below (fun k hk _ => HM.out.2.2 k hk) HM.out.2.1.size))
    have c1 := nextRes_any w.heap.size (mt == [72, 69, 65, 68]) g v' s' wr hrd hmr hl (fun W st m z u L hk h1 h2 => frame1_any w.heap.size mt st m z u L W ((hmb.kept hk (hxx _ (Nat.le_refl _))).cell 0) h1 h2)
    have hlen := hrd.len
    have hc1 : ∀ y t, respX (mt == [72, 69, 65, 68]) s' = (.ok y, t) → t.came.length < s'.came.length := fun y t h => (nextX_ok h).1
    change Calls _ _ _ wr (fun e w' => NextPost _ _ g v' wr (respX (mt == [72, 69, 65, 68]) s') e w') at c1
    generalize respX (mt == [72, 69, 65, 68]) s' = X at *
    obtain ⟨y, s2⟩ := X
    have C1 := hid c1
    have HXX := hid hxx
    have HR := hid hR
    have HC := hid hc1
    have HIN := hid hin
    have hws : w.heap.size + 2 ≤ wr.heap.size := hres.lt
    clear c1 hxx hR hc1 hmr hin hrd
    go_wp2_with fail
    refine C1.out.mono ?_
    rintro e w1 ⟨hx, v2, hrd1, hk1, hin2⟩
    have hmb1 := hmb.kept hk1 (HXX.out _ (Nat.le_refl _))
    have hres1 := hres.kept hk1 (HXX.out _ (Nat.le_succ _))
    have hkA := hkp.trans hk1 (fun b hb _ => by
      rcases hb with hb | hb
      · exact .inl hb
      · exact .inr (HIN.out b hb))
    have hinA : In (fun k => v.ownBlock = some k) v2 := fun b hb => HIN.out b (hin2 b hb)
    have hs1 : wr.heap.size ≤ w1.heap.size := hk1.size
    have hx2 : ∀ b, w.heap.size ≤ b → ¬ Fp g v2 b := fun b hb h => by
      rcases h with h | h
      · have := HLT.out b (.inl h); omega
      · have := HLT.out b (.inr (hinA b h)); omega
    have HX2 := hid hx2
    clear C1 hres hmb hkp hk1 hin2 hx2
    cases y with
    | error k =>
      obtain ⟨hk0, rfl⟩ := hx
      obtain ⟨W2, hW2⟩ : ∃ W, W = w1.alloc (.cells #[.int .i64 0, .string ⟨#[]⟩, .int .i64 0, .slice none 0 0] 53) := ⟨_, rfl⟩
      have hb2 : Below w1.heap.size w1 W2 := by rw [hW2]; exact below_alloc _ _
      have hres2 := hres1.below hb2
      have hrd2 := hrd1.below hb2
      have hkB := hkA.then hb2
      rw [hW2] at hres2 hrd2 hkB
      have hc0 : ((k : Int) != 0) = true := by simp; omega
      have HF := hid (And.intro hres2 (And.intro hrd2 hkB))
      have HK := hid (And.intro hk0 hinA)
      clear hres1 hrd1 hkA hb2 hW2 hres2 hrd2 hkB hk0 hinA hmb1
      go_wp2_with (refine wpList_store_row rfl 55 _ _ rfl (w.heap.size + 1) rplZero rfl rfl 55 rplZero HF.out.1 infoRpl rfl (one5r 0 0 [] none none 0 0 0 0) ?_)
      refine bodyPost_ret (results_row2 Tryz.results12 _ _ (w.heap.size + 1) _ rfl (HF.out.1.setRow rplZero) Tryz.underlying55 rfl infoRpl) rfl ?_
      rw [← HR.out]
      exact ⟨⟨HK.out.1, rfl⟩, v2, HF.out.2.1.kept ((Kept.refl (fun b => b = w.heap.size + 1) _).setRow (.inl rfl) _) (fun b hb e => by subst e; exact HX2.out _ (Nat.le_succ _) hb), HF.out.2.2.setRow (.inr (Nat.le_succ _)) _, HK.out.2⟩
    | ok p =>
      obtain ⟨h, b⟩ := p
      obtain ⟨vl, vb, rfl, hol, hob⟩ := hx
      obtain ⟨aol, cl, rfl⟩ := ownsRow_form hol
      obtain ⟨aob, cb, rfl⟩ := ownsRow_bytes_form hob
      obtain ⟨W2, hW2⟩ : ∃ W, W = w1.alloc (.cells #[.int .i64 (h.status : Int), strV h.first, .int .i64 (h.minor : Int), .slice aol h.flds.length cl] 53) := ⟨_, rfl⟩
      have hb2 : Below w1.heap.size w1 W2 := by rw [hW2]; exact below_alloc _ _
      have hres2 := hres1.below hb2
      have hmb2 := hmb1.below hb2
      have hrd2 := hrd1.below hb2
      have hkB := hkA.then hb2
      have hol2 := hol.below hb2
      have hob2 := hob.below hb2
      rw [hW2] at hres2 hrd2 hkB hol2 hob2 hmb2
      have HF := hid (And.intro hres2 (And.intro hrd2 (And.intro hkB (And.intro hol2 hob2))))
      have HK := hid (And.intro hinA hmb2)
      clear hres1 hrd1 hkA hb2 hW2 hres2 hrd2 hkB hinA hol hob hol2 hob2 hmb1 hmb2
      unfold resCells
      by_cases hst : h.status < 200
      · have hz : ¬ (200 : Int) ≤ (h.status : Int) := by omega
        have hR := HR.out
        simp only at hR
        rw [if_pos hst] at hR
        have hcl := HC.out _ _ rfl
        have HZ := hid (And.intro hR hcl)
        clear hR hcl hst HR HC
        go_wp2_with fail
        go_roundw
        case rel => exact ⟨v2, s2, k, HF.out.2.1, HF.out.2.2.1, HK.out.1, HK.out.2, HF.out.1, by have := HZ.out.2; omega, HZ.out.1, by have := HZ.out.2; omega⟩
        case measure =>
          rw [HF.out.2.1.len, hlen]
          exact HZ.out.2
      · have hz : (200 : Int) ≤ (h.status : Int) := by omega
        have hR := HR.out
        simp only at hR
        rw [if_neg hst] at hR
        have HZ := hid hR
        clear hR hst HR HC
        go_wp2_with (refine wpList_store_row rfl 55 _ _ rfl (w.heap.size + 1) (rplCells h (.slice aol h.flds.length cl) (.slice aob b.length cb)) rfl rfl 55 rplZero HF.out.1 infoRpl rfl (one5r _ _ _ _ _ _ _ _ _) ?_)
        refine bodyPost_ret (results_row2 Tryz.results12 _ _ (w.heap.size + 1) _ rfl (HF.out.1.setRow (rplCells h (.slice aol h.flds.length cl) (.slice aob b.length cb))) Tryz.underlying55 rfl infoRpl) rfl ?_
        rw [← HZ.out]
        obtain ⟨hres2, hrd2, hkB, hol2, hob2⟩ := HF.out
        have hkR := (Kept.refl (fun k => k = w.heap.size + 1) (w1.alloc (.cells #[.int .i64 (h.status : Int), strV h.first, .int .i64 (h.minor : Int), .slice aol h.flds.length cl] 53))).setRow (.inl rfl) (rplCells h (.slice aol h.flds.length cl) (.slice aob b.length cb))
        refine ⟨⟨_, _, rfl, ?_, ?_⟩, v2, hrd2.kept hkR (fun b hb e => by subst e; exact HX2.out _ (Nat.le_succ _) hb), hkB.setRow (.inr (Nat.le_succ _)) _, HK.out.1⟩
        · exact (ownsRow_kept hol2 hkR ((ownsRow_in hol2).mono fun k hk => by have := hk.1; omega)).base (by omega)
        · exact (ownsRow_kept hob2 hkR ((ownsRow_in hob2).mono fun k hk => by have := hk.1; omega)).base (by omega)
end Go.Proofs.YtefplhkjcclppaaGreatDoor
