/-
  The walk of the statement WireOwn.
-/
import Derived.Test.YtongceljdgmbdaaGreatDoorLaw07R
namespace Go.Proofs.YtongceljdgmbdaaGreatDoor
open Go.RowKit Go.Pantry

/-- the request of WireOwn -/
def ownH (b : List UInt8) : Hd := ⟨[80, 85, 84], [47], 0, 1, putL [] (if b = [] then none else some b.length)⟩
def ownT (b : List UInt8) : List UInt8 := textReq (ownH b) ++ b
theorem ownR (b : List UInt8) (hb : b.length ≤ 3000) : rightReq (ownH b) = true := by
  unfold rightReq ownH
  simp only
  rw [rowF b hb]
  rfl
theorem ownLen (b : List UInt8) (hb : b.length ≤ 3000) : (textReq (ownH b)).length ≤ 100 ∧ 4 ≤ (textReq (ownH b)).length := by
  have h5 := decL_len 4 b.length (by omega)
  unfold textReq ownH reqLine linesT
  by_cases he : b = []
  · rw [if_pos he]
    have e : putL [] none = [] := rfl
    rw [e]
    simp [verL, v11, crlf]
  · rw [if_neg he]
    have e : putL [] (some b.length) = [lenFld b.length] := rfl
    rw [e]
    simp [verL, v11, crlf, fldLine, lenFld, clN]
    omega
theorem own_put (b : List UInt8) (hb : b.length ≤ 1000) : putX (rightQ [80, 85, 84] [47] 1 (putL [] (if b = [] then none else some b.length))) (textH (reqLine ⟨[80, 85, 84], [47], 0, (1 : Int).toNat, []⟩) (putL [] (if b = [] then none else some b.length))) b false = .ok (ownT b) := by
  have hl := (ownLen b (by omega)).1
  have e : textH (reqLine ⟨[80, 85, 84], [47], 0, (1 : Int).toNat, []⟩) (putL [] (if b = [] then none else some b.length)) = textReq (ownH b) := rfl
  have hq : rightQ [80, 85, 84] [47] 1 (putL [] (if b = [] then none else some b.length)) = true := by
    unfold rightQ formedR longR
    rw [rowF b (by omega)]
    rfl
  rw [hq, e]
  unfold putX ownT
  rw [if_neg (by simp), if_neg (by omega), if_neg (by omega)]
  rfl
theorem own_read (b rest : List UInt8) (hb : b.length ≤ 1000) : queryX ⟨ownT b ++ rest, false, 0⟩ = (.ok (ownH b, b), ⟨rest, false, 0⟩) := by
  have hl := (ownLen b (by omega)).1
  unfold ownT
  exact query_put (L := []) rfl rfl (ownR b (by omega)) (by omega) (by omega)
theorem ownsRow_set {w : World} {B : Nat} {e : TypeId} {g n cap : Nat} {xs : List Value} (h : w.ownsRow B e 1 (.slice (some ⟨g, 0, none⟩) n cap) n xs) (k : Nat) (hk : k < n) (u : Value) : (w.setCell ⟨g, k, none⟩ u).ownsRow B e 1 (.slice (some ⟨g, 0, none⟩) n cap) n (xs.set k u) := by
  refine ⟨by rw [List.length_set]; exact h.1, ?_⟩
  rcases h.2 with ⟨hv, _⟩ | ⟨g', cap', cur, hv, hb, hg, hnc, hcm, hcs, htake⟩
  · cases hv
  · cases hv
    refine .inr ⟨g, cap, cur.setIfInBounds k u, rfl, hb, ?_, hnc, hcm, by simpa using hcs, ?_⟩
    · rw [setCell_eq_setRow w g k cur e (0, 0) u hg]
      exact setRow_heap w g cur _ e _ hg
    · rw [Array.toList_setIfInBounds, ← htake, List.take_set]
theorem own_form {w : World} {B : Nat} {e : TypeId} {size : Nat} {v : Value} {n : Nat} {xs : List Value} (h : w.ownsRow B e size v n xs) : ∃ ao c, v = .slice ao n c := by
  rcases h.2 with ⟨hv, rfl⟩ | ⟨g', cap', cur, hv, _⟩
  · exact ⟨none, 0, hv⟩
  · exact ⟨_, _, hv⟩
theorem Rdr.grown {w0 w w' : World} {g : Nat} {v : Value} {s : Rd} (h : Rdr w0 w g v s) {r : Option Nat} (hg : w.grownBy w' r) (hr : ∀ k, r = some k → w0.heap.size ≤ k ∧ ¬ Fp g v k) : Rdr w0 w' g v s :=
  h.kept ((Kept.refl (fun k => r = some k) w).grown hg (fun k hk _ => hk)) (fun k hk e => (hr k e).2 hk) (fun k hk => (hr k hk).1)
set_option maxRecDepth 100000 in
set_option maxHeartbeats 8000000 in
theorem wireOwn_walk (v : Value) (l : List UInt8) (w : World) (hm : MaxOk w) (ht : Tab10 w) (hl : Reads w v (l.map byteV) ∧ (∀ ao n cap, v = .slice ao n cap → n ≤ cap) ∧ l.length ≤ maxLen) :
    Calls Tryz.prog 9 #[v] w fun e w' => e = .returned (.bool true) ∧ Below w.heap.size w w' := by
  obtain ⟨hr, hroom, hll⟩ := hl
  obtain ⟨ao, cap, rfl⟩ := hr.form
  rw [List.length_map] at *
  have hc := hroom ao l.length cap rfl
  unfold maxLen at hll
  have HBY := hid (bytes_of hr hc)
  have HM := hid hm
  have HT := hid ht
  have CA := hid (anchor_any w hm)
  clear hr hroom hm ht
  by_cases h1 : (1000 : Int) < (l.length : Int)
  · go_enter Tryz.func9, Tryz.ntmps9
    go_wp2_with fail
    refine CA.out.mono ?_
    rintro e w1 ⟨rfl, hb1⟩
    go_wp2_with fail
    go_ret
    exact ⟨rfl, hb1⟩
  have hl1 : l.length ≤ 1000 := by omega
  have CN := hid (fun W => newReader_any W)
  have HL := hid hl1
  have hpl := ownLen l (by omega)
  have hP : (ownT l).length ≤ 1100 ∧ 4 ≤ (ownT l).length := by unfold ownT; rw [List.length_append]; omega
  have HPL := hid hP
  clear hpl hP
  go_enter Tryz.func9, Tryz.ntmps9
  go_wp2_with fail
  refine CA.out.mono ?_
  rintro e w1 ⟨rfl, hb1⟩
  have c1 := putQuery_any [80, 85, 84] [47] 1 (.slice none 0 0) (.slice ao l.length cap) [] l w1 (by simp) (by simp) ⟨none, 0, rfl, (fun j p hj => by cases hj), (fun _ => rfl), by simp⟩ ⟨by simp, fun f hf => by cases hf⟩ (by simp) (bytes_below HBY.out hb1) (by omega) (HT.out.below hb1)
  rw [own_put l hl1] at c1
  have C1 := hid c1
  clear c1 CA hl1
  go_wp2_with fail
  refine C1.out.mono ?_
  rintro e w3 ⟨hp, hb3⟩
  obtain ⟨ao3, c3, rfl, hby3⟩ := hp
  have hb13 := chain2 hb1 hb1.size hb3
  have HB3 := hid hb13
  have HM3 := hid (HM.out.below hb13)
  have HS := hid hby3
  clear C1 hb1 hb3 hby3 hb13
  go_wp2_with fail
  refine (CN.out _).mono ?_
  rintro e w4 ⟨rfl, hw4⟩
  have q4 := rdr_new w3 w3 (Below.refl _ _)
  rw [← hw4] at q4
  clear hw4 CN
  obtain ⟨g, hg3⟩ : ∃ g, w3.heap.size = g := ⟨_, rfl⟩
  rw [hg3] at q4 ⊢
  have HG3 := hid hg3
  clear hg3
  -- the two appends
  have ho4 : (w4.alloc (.cells #[] 5)).ownsRow 0 5 1 (.slice (some ⟨w4.heap.size, 0, none⟩) 0 0) 0 [] := World.ownsRow_made w4 #[] 0 (Nat.zero_le _) (by simp) (by simp)
  have hb45 : Below w4.heap.size w4 (w4.alloc (.cells #[] 5)) := below_alloc _ _
  have q5 := q4.then hb45
  have hs5 := bytesRead (bytes_below HS.out q5.bl)
  have HO4 := hid ho4
  have HS5 := hid hs5
  have Q5 := hid q5
  have hn5 : 0 + ((ownT l).map byteV).length < 4294967296 := by rw [List.length_map]; have := HPL.out.1; omega
  have HN5 := hid hn5
  have hF4 : ∀ k, w4.heap.size ≤ k → g ≤ k ∧ ¬ Fp g (.slice none 0 0) k := fun k hk => ⟨by have := q4.bl.size; rw [HG3.out] at this; omega, fun h => by have := Fp.lt q4.rd h; omega⟩
  have HF4 := hid hF4
  have hX5 : ∀ k, (Value.slice (some ⟨w4.heap.size, 0, none⟩) 0 0).ownBlock = some k → w3.heap.size ≤ k ∧ ¬ Fp g (.slice none 0 0) k := fun k hk => by
    cases hk
    have := hF4 _ (Nat.le_refl _)
    exact ⟨by rw [HG3.out]; exact this.1, this.2⟩
  have HX5 := hid hX5
  have hn6 : 0 + ((ownT l).map byteV).length + ((ownT l).map byteV).length < 4294967296 := by rw [List.length_map]; have := HPL.out.1; omega
  have HN6 := hid hn6
  clear ho4 hb45 q5 hs5 q4 hn5 hF4 hX5 hn6
  go_wp2_with (at_builtin; refine wpList_unguard rfl ?_; first | (refine wpList_append_more _ rfl _ _ 27 rfl 0 5 Tryz.underlying27 infoU8 rfl (by decide) rfl HO4.out HS5.out (oneCell_bytes _) rfl HN5.out (Nat.zero_le _) ?_; intro v6 w6 ho6 hg6 hi6; have q6 := Q5.out.grown hg6 HX5.out; have hs6 := bytesRead (bytes_below HS.out q6.bl); have HO6 := hid ho6; have HS6 := hid hs6; have HG6 := hid (And.intro hg6 (And.intro hi6 q6)); clear ho6 hg6 hi6 q6 hs6) | (refine wpList_append_more _ rfl _ _ 27 rfl 0 5 Tryz.underlying27 infoU8 rfl (by decide) rfl HO6.out HS6.out (oneCell_bytes _) rfl HN6.out (Nat.zero_le _) ?_; intro v7 w7 ho7 hg7 hi7))
  obtain ⟨hg6, hi6, q6⟩ := HG6.out
  have q7 := q6.grown hg7 (fun k hk => by
    have h := HF4.out
    have h5 := Q5.out.bl.size
    have hw : w4.heap.size ≤ k := by
      rcases hi6 k hk with h1 | h1
      · cases h1; exact Nat.le_refl _
      · have : (w4.alloc (.cells #[] 5)).heap.size = w4.heap.size + 1 := by simp
        omega
    exact ⟨by rw [HG3.out]; exact (h k hw).1, (h k hw).2⟩)
  have hr7 := ho7.reads
  rw [List.nil_append, ← List.map_append] at hr7
  have c8 := feedR_any q7 v7 (ownT l ++ ownT l) hr7 (by simp) (by rw [List.length_append]; have := HPL.out.1; omega)
  rw [feedX_ok (by rw [List.length_append]; have := HPL.out.1; simp; omega), List.nil_append] at c8
  have C8 := hid c8
  clear hg6 hi6 q6 q7 hr7 ho7 hg7 hi7 c8 HG6 HS6 HO6 HO4 HN5 HN6 HS5 HX5 Q5 HF4
  go_wp2_with fail
  refine C8.out.mono ?_
  rintro e w8 ⟨v8, rfl, q8, -⟩
  have c9 := queryR_any q8 HM3.out (by rw [List.length_append]; have := HPL.out.1; omega)
  simp only at c9
  rw [own_read l _ HL.out] at c9
  have C9 := hid c9
  have Q8 := hid q8
  clear C8 c9 q8
  go_wp2_with fail
  refine C9.out.mono ?_
  rintro e w9 ⟨⟨vl, vb, rfl, hol, hob⟩, v9, q9, hkq, hiq⟩
  obtain ⟨aob, cb, rfl⟩ := ownsRow_bytes_form hob
  obtain ⟨aol, cl, rfl⟩ := ownsRow_form hol
  generalize ownH l = H at *
  obtain ⟨bxc, hbxc⟩ : ∃ c, c = (#[strV H.first, strV H.second, .int .i64 (H.minor : Int), .slice aol H.flds.length cl, .slice aob l.length cb] : Array Value) := ⟨_, rfl⟩
  obtain ⟨W10, hW10⟩ : ∃ W, W = w9.alloc (.cells #[strV H.first, strV H.second, .int .i64 (H.minor : Int), .slice aol H.flds.length cl, .slice aob l.length cb] 42) := ⟨_, rfl⟩
  have hb10 : Below w9.heap.size w9 W10 := by rw [hW10]; exact below_alloc _ _
  have hbox : rowIs W10 w9.heap.size bxc 42 := by rw [hW10, hbxc]; exact rowIs_new _ _ _
  have q10 := q9.then hb10
  have hob10 := hob.below hb10
  have hfp9 : ∀ k, Fp g v9 k → k < w8.heap.size := fun k hk => by
    rcases hk with hk | hk
    · exact Fp.lt Q8.out.rd (.inl hk)
    · exact Fp.lt Q8.out.rd (.inr (hiq k hk))
  have hw38 : w3.heap.size ≤ w8.heap.size := Q8.out.bl.size
  have HFP9 := hid hfp9
  have HI : Hid (∃ (k : Nat) (m : List Int), k ≤ l.length ∧ Value.int .i64 0 = .int .i64 (k : Int) ∧ m.length = l.length ∧ W10.ownsRow w8.heap.size 5 1 (.slice aob l.length cb) l.length (m.map (Value.int .u8)) ∧ Rdr w3 W10 g v9 ⟨ownT l, false, 0⟩ ∧ rowIs W10 w9.heap.size bxc 42) :=
    ⟨0, l.map (fun c => (c.toNat : Int)), Nat.zero_le _, rfl, by simp, by rw [List.map_map]; exact hob10, q10, hbox⟩
  have b4 : bxc[4]? = some (.slice aob l.length cb) := by rw [hbxc]; rfl
  have hb4 := hbox.cell 4
  rw [b4, hW10] at hb4
  have hsw : w8.heap.size ≤ w9.heap.size := hkq.size
  have hgb9 : ∀ a, aob = some a → a.block < w9.heap.size := fun a ha => by subst ha; exact (hob.lt a.block rfl).2
  have HGB := hid hgb9
  clear C9 Q8 q9 q10 hkq hiq hol hob hob10 hb10 hbox hfp9 hgb9
  go_wp2_with fail
  rw [← hW10]
  clear hW10 hb4
  go_loopw [50] (fun i wr => ∃ (k : Nat) (m : List Int), k ≤ l.length ∧ i = .int .i64 (k : Int) ∧ m.length = l.length ∧ wr.ownsRow w8.heap.size 5 1 (.slice aob l.length cb) l.length (m.map (Value.int .u8)) ∧ Rdr w3 wr g v9 ⟨ownT l, false, 0⟩ ∧ rowIs wr w9.heap.size bxc 42) (fun i _ => l.length - (intOf i).toNat)
  case atStart => exact HI.out
  case round =>
    clear HI
    obtain ⟨k, m, hk, rfl, hml, hob, q10, hbox⟩ := hrel
    have hb4 := hbox.cell 4
    rw [b4] at hb4
    by_cases hkl : k < l.length
    · have hkz : (k : Int) < (l.length : Int) := by omega
      obtain ⟨gb, rfl⟩ : ∃ gb, aob = some ⟨gb, 0, none⟩ := by
        rcases hob.2 with ⟨hv, hn⟩ | ⟨g', cap', cur, hv, _⟩
        · omega
        · cases hv; exact ⟨_, rfl⟩
      have hrow := hob.row
      have hcell := hrow.cell k (.int .u8 m[k]) (by rw [List.getElem?_map, List.getElem?_eq_getElem (by omega)]; rfl)
      have hfree := hrow.free k (by rw [List.length_map]; omega)
      have hwk : IntKind.i64.wrap ((k : Int) + 1) = ((k + 1 : Nat) : Int) := by rw [IntWalk.i64_in _ (by omega)]; simp
      generalize m[k] = ch at *
      have HO := hid (And.intro hml (And.intro hob (And.intro q10 hbox)))
      clear hml hob q10 hbox hrow
      have hgb := HGB.out _ rfl
      have HGX := hid hgb
      clear hgb
      go_wp2_with fail
      generalize bits BinOp.xor IntKind.u8 ch 255 = nz
      go_roundw
      case rel =>
        obtain ⟨hml, hob, q10, hbox⟩ := HO.out
        have hkS := (Kept.refl (fun b => b = gb) wr).setCell (i := k) (.inl rfl) (.int .u8 nz)
        have hgb2 := (hob.lt gb rfl).1
        have hlt := HFP9.out
        have hsz := HGX.out
        refine ⟨k + 1, m.set k nz, hkl, by simp, by rw [List.length_set]; exact hml, by rw [List.map_set]; exact ownsRow_set hob k hkl _, q10.kept hkS (fun b hb e => ?_) (fun b hb => ?_), hbox.kept hkS ?_⟩
        · subst e; have := hlt _ hb; omega
        · subst hb; omega
        · show ¬ w9.heap.size = gb
          have : gb < w9.heap.size := hsz
          omega
      case measure => simp only [intOf]; omega
    · have hke : k = l.length := by omega
      subst hke
      have hbl := hbox.lt
      clear hob hbox hb4 hkl hk hml b4
      generalize wr = wa at *
      have ho11 : (wa.alloc (.cells #[] 5)).ownsRow 0 5 1 (.slice (some ⟨wa.heap.size, 0, none⟩) 0 0) 0 [] := World.ownsRow_made wa #[] 0 (Nat.zero_le _) (by simp) (by simp)
      have q11 := q10.then (below_alloc wa (.cells #[] 5))
      have hs11 := bytesRead (bytes_below HS.out q11.bl)
      have hsw8 : w8.heap.size ≤ wa.heap.size := by omega
      have hn11 : 0 + ((ownT l).map byteV).length < 4294967296 := by rw [List.length_map]; have := HPL.out.1; omega
      have HA11 := hid (And.intro ho11 (And.intro hs11 (And.intro hn11 (And.intro q11 hsw8))))
      clear ho11 q11 hs11 hn11 hsw8 q10
      go_wp2_with (at_builtin; go_must (refine wpList_append_more _ rfl _ _ 27 rfl 0 5 Tryz.underlying27 infoU8 rfl (by decide) rfl HA11.out.1 HA11.out.2.1 (oneCell_bytes _) rfl HA11.out.2.2.1 (Nat.zero_le _) ?_); intro v12 w12 ho12 hg12 hi12)
      obtain ⟨-, -, -, q11, hsw8⟩ := HA11.out
      have hown0 : ∀ k, v12.ownBlock = some k → wa.heap.size ≤ k := fun k hk => by
        rcases hi12 k hk with h1 | h1
        · cases h1; exact Nat.le_refl _
        · have : (wa.alloc (.cells #[] 5)).heap.size = wa.heap.size + 1 := by simp
          omega
      have hgen : wa.heap.size < w12.heap.size := by
        have := hg12.size
        have h2 : (wa.alloc (.cells #[] 5)).heap.size = wa.heap.size + 1 := by simp
        omega
      have q12 := q11.grown hg12 (fun k hk => by
        have hk2 : k = wa.heap.size := by cases hk; rfl
        subst hk2
        have hs := q11.bl.size
        have hs2 : (wa.alloc (.cells #[] 5)).heap.size = wa.heap.size + 1 := by simp
        have hlt := HFP9.out
        exact ⟨by have := HG3.out; omega, fun h => by have := hlt _ h; omega⟩)
      rw [List.nil_append, List.length_map, Nat.zero_add] at ho12
      obtain ⟨aox, cx, rfl⟩ := own_form ho12
      have c13 := feedR_any q12 (.slice aox (ownT l).length cx) (ownT l) ho12.reads (by simp only; have := HPL.out.1; omega) (by have := HPL.out.1; omega)
      rw [feedX_ok (by have := HPL.out.1; omega)] at c13
      have C13 := hid c13
      have HX := hid (And.intro ho12 (And.intro hown0 hgen))
      clear hg12 hi12 q11 q12 ho12 hown0 c13 HA11 hgen
      go_wp2_with fail
      refine C13.out.mono ?_
      rintro e w13 ⟨v13, rfl, q13, hk13, hi13⟩
      have hx13 := ownsRow_kept HX.out.1 hk13 (fun k hk e => by
        have h1 := HX.out.2.1 k hk
        have := HFP9.out k e
        omega)
      have hfp13 : ∀ k, Fp g v13 k → k < wa.heap.size ∨ w12.heap.size ≤ k := fun k hk => by
        rcases hk with hk | hk
        · left; have := HFP9.out k (.inl hk); omega
        · rcases hi13 k hk with h1 | h1
          · left; have := HFP9.out k (.inr h1); omega
          · exact .inr h1
      have HFP := hid hfp13
      have HI : Hid (∃ (k : Nat) (m : List Int), k ≤ (ownT l).length ∧ Value.int .i64 0 = .int .i64 (k : Int) ∧ m.length = (ownT l).length ∧ w13.ownsRow 0 5 1 (.slice aox (ownT l).length cx) (ownT l).length (m.map (Value.int .u8)) ∧ Rdr w3 w13 g v13 ⟨ownT l ++ ownT l, false, 0⟩) :=
        ⟨0, (ownT l).map (fun c => (c.toNat : Int)), Nat.zero_le _, rfl, by simp, by rw [List.map_map]; exact hx13, q13⟩
      have HX2 := hid (And.intro HX.out.2.1 (ownsRow_in HX.out.1))
      clear hx13 q13 hk13 hi13 hfp13 C13 HX
      go_wp2_with fail
      go_loopw [69] (fun i wr => ∃ (k : Nat) (m : List Int), k ≤ (ownT l).length ∧ i = .int .i64 (k : Int) ∧ m.length = (ownT l).length ∧ wr.ownsRow 0 5 1 (.slice aox (ownT l).length cx) (ownT l).length (m.map (Value.int .u8)) ∧ Rdr w3 wr g v13 ⟨ownT l ++ ownT l, false, 0⟩) (fun i _ => (ownT l).length - (intOf i).toNat)
      case atStart => exact HI.out
      case round =>
        clear HI
        obtain ⟨k, m, hk, rfl, hml, hob, q10⟩ := hrel
        by_cases hkl : k < (ownT l).length
        · have hkz : (k : Int) < ((ownT l).length : Int) := by omega
          obtain ⟨gb, rfl⟩ : ∃ gb, aox = some ⟨gb, 0, none⟩ := by
            rcases hob.2 with ⟨hv, hn⟩ | ⟨g', cap', cur, hv, _⟩
            · omega
            · cases hv; exact ⟨_, rfl⟩
          have hrow := hob.row
          have hcell := hrow.cell k (.int .u8 m[k]) (by rw [List.getElem?_map, List.getElem?_eq_getElem (by omega)]; rfl)
          have hfree := hrow.free k (by rw [List.length_map]; omega)
          have hwk : IntKind.i64.wrap ((k : Int) + 1) = ((k + 1 : Nat) : Int) := by rw [IntWalk.i64_in _ (by have := HPL.out.1; omega)]; simp
          generalize m[k] = ch at *
          have HO := hid (And.intro hml (And.intro hob q10))
          clear hml hob q10 hrow
          go_wp2_with fail
          generalize bits BinOp.xor IntKind.u8 ch 255 = nz
          go_roundw
          case rel =>
            obtain ⟨hml, hob, q10⟩ := HO.out
            have hkS := (Kept.refl (fun b => b = gb) wr).setCell (i := k) (.inl rfl) (.int .u8 nz)
            have h1 := HX2.out.1 gb rfl
            have h2 := (HX2.out.2 gb rfl).2
            refine ⟨k + 1, m.set k nz, hkl, by simp, by rw [List.length_set]; exact hml, by rw [List.map_set]; exact ownsRow_set hob k hkl _, q10.kept hkS (fun b hb e => ?_) (fun b hb => ?_)⟩
            · subst e; rcases HFP.out _ hb with h3 | h3 <;> omega
            · subst hb; omega
          case measure => simp only [intOf]; omega
        · have hke : k = (ownT l).length := by omega
          subst hke
          clear hob hkl hk hml
          have c14 := queryR_any q10 HM3.out (by rw [List.length_append]; have := HPL.out.1; omega)
          rw [own_read l _ HL.out] at c14
          have C14 := hid c14
          have HLQ := hid (fun k (hk : Fp g v13 k) => Fp.lt q10.rd hk)
          clear q10 c14
          go_wp2_with fail
          refine C14.out.mono ?_
          rintro e w14 ⟨⟨vl2, vb2, rfl, hol2, hob2⟩, v14, q14, hk14, hi14⟩
          have hfq : ∀ k, Fp g v14 k → k < wr.heap.size := fun k hk => by
            rcases hk with hk | hk
            · exact HLQ.out k (.inl hk)
            · exact HLQ.out k (.inr (hi14 k hk))
          have hws : wr.heap.size ≤ w14.heap.size := hk14.size
          clear hi14 hk14
          obtain ⟨aob2, cb2, rfl⟩ := ownsRow_bytes_form hob2
          obtain ⟨aol2, cl2, rfl⟩ := ownsRow_form hol2
          generalize ownH l = H2 at *
          obtain ⟨W15, hW15⟩ : ∃ W, W = w14.alloc (.cells #[strV H2.first, strV H2.second, .int .i64 (H2.minor : Int), .slice aol2 H2.flds.length cl2, .slice aob2 l.length cb2] 42) := ⟨_, rfl⟩
          have hb15 : Below w14.heap.size w14 W15 := by rw [hW15]; exact below_alloc _ _
          have hbox2 : rowIs W15 w14.heap.size #[strV H2.first, strV H2.second, .int .i64 (H2.minor : Int), .slice aol2 H2.flds.length cl2, .slice aob2 l.length cb2] 42 := by rw [hW15]; exact rowIs_new _ _ _
          have q15 := q14.then hb15
          have hob15 := hob2.below hb15
          have c16 := queryR_any q15 HM3.out (by have := HPL.out.1; simp only; omega)
          have e16 : queryX ⟨ownT l, false, 0⟩ = (.ok (ownH l, l), ⟨[], false, 0⟩) := by
            have h := own_read l [] HL.out
            rw [List.append_nil] at h
            exact h
          rw [e16] at c16
          have C16 := hid c16
          clear C14 hol2 hob2 q14 q15 c16 e16 hb15
          go_wp2_with fail
          rw [← hW15]
          clear hW15
          refine C16.out.mono ?_
          rintro e w16 ⟨⟨vl3, vb3, rfl, hol3, hob3⟩, v16, q16, hk16, hi16⟩
          obtain ⟨aob3, cb3, rfl⟩ := ownsRow_bytes_form hob3
          obtain ⟨aol3, cl3, rfl⟩ := ownsRow_form hol3
          generalize ownH l = H3 at *
          have hbox3 := hbox2.kept hk16 (fun h => by have := hfq _ h; omega)
          have hob16 := ownsRow_kept hob15 hk16 (fun k hk e => by have h1 := (hob15.lt k hk).1; have := hfq _ e; omega)
          obtain ⟨W17, hW17⟩ : ∃ W, W = w16.alloc (.cells #[strV H3.first, strV H3.second, .int .i64 (H3.minor : Int), .slice aol3 H3.flds.length cl3, .slice aob3 l.length cb3] 42) := ⟨_, rfl⟩
          have hb17 : Below w16.heap.size w16 W17 := by rw [hW17]; exact below_alloc _ _
          have q17 := q16.then hb17
          have hbx := (hbox3.below hb17).cell 4
          change W17.cell? ⟨w14.heap.size, 4, none⟩ = some (.slice aob2 l.length cb2) at hbx
          have cv1 := ownsRow_string (hob16.below hb17) 27 9 Tryz.underlying27 Tryz.underlying5 Tryz.underlying9
          have cv3 := ownsRow_string (hob3.below hb17) 27 9 Tryz.underlying27 Tryz.underlying5 Tryz.underlying9
          have hbl := chain2 HB3.out HB3.out.size q17.bl
          have cv2 := reads_string (P := Tryz.prog) (bytesRead (bytes_below HBY.out hbl)) 27 9 5 Tryz.underlying27 Tryz.underlying5 Tryz.underlying9
          rw [hW17] at hbx cv1 cv2 cv3 hbl
          have HBL := hid hbl
          clear hbox2 hob15 hbox3 hob16 hob3 hol3 hk16 hi16 q16 q17 hb17 hW17 hbl C16 hfq hws
          go_wp2_with fail
          go_ret
          exact ⟨rfl, HBL.out⟩
end Go.Proofs.YtongceljdgmbdaaGreatDoor
