/-
  Several texts in one: EntB, EntG.
-/
import Derived.Test.YtdkhkeffheleeaaDoorF1404
import Derived.Test.YtdkhkeffheleeaaDoorF1403
import Derived.Deep.QuietTactic
import Derived.BigQuiet
import Derived.Test.YtdkhkeffheleeaaDoorF1402
/-
  Contracts of package entry: putField, lists, the rest, what stands ahead of it.
-/
set_option linter.unusedVariables false
set_option linter.unusedSimpArgs false
namespace Go.Proofs.YtdkhkeffheleeaaDoor
open Go.RowKit Go.Pantry

theorem putNumber_z (v : Value) (B : Nat) (l : List UInt8) (z : Int) (n : Nat) (w : World) (hz : z = (n : Int)) (ho : OwnL 5 w B v l) (hB : B ≤ w.heap.size) (hl : l.length ≤ 100000000) (hn : n < 9223372036854775807) :
    Calls Tryd.prog 48 #[v, .int .i64 z] w (MadeK 5 B v (l ++ numB n 6) w) := by
  subst hz; exact putNumber_any v B l n w ho hB hl hn
set_option maxRecDepth 8000 in
set_option maxHeartbeats 4000000 in
theorem putField_any (v : Value) (B : Nat) (l : List UInt8) (f : Fld) (w : World) (ho : OwnL 5 w B v l) (hB : B ≤ w.heap.size) (hl : l.length ≤ 20000000) (hf : f.1.length ≤ 100000 ∧ f.2.length ≤ 100000) :
    Calls Tryd.prog 50 #[v, fldV f] w (MadeK 5 B v (l ++ fldB f) w) := by
  obtain ⟨a, b⟩ := f
  simp only at hf
  obtain ⟨W, hW⟩ : ∃ W, w.alloc (.cells #[strV a, strV b] 53) = W := ⟨_, rfl⟩
  have hbW : Below w.heap.size w W := by rw [← hW]; exact below_alloc _ _
  have hrow : rowIs W w.heap.size #[strV a, strV b] 53 := by rw [← hW]; exact rowIs_new _ _ _
  have hvb : In (fun k => B ≤ k ∧ k < w.heap.size) v := ownsRow_in ho
  have hoW := ho.below hbW
  have HO := hid hoW
  have HRW := hid hrow
  have HV := hid hvb
  have HBW := hid hbW
  have hL1 : (l ++ textB a).length = l.length + (a.length + 2) := by rw [List.length_append, textB_len]
  clear hoW hvb ho
  go_enter Tryd.func50, Tryd.ntmps50
  go_wp2_with fail
  try rw [hW]
  have c0 : W.drew.cell? ⟨w.heap.size, 0, none⟩ = some (strV a) := hrow.cell 0
  have c1 : W.drew.cell? ⟨w.heap.size, 1, none⟩ = some (strV b) := hrow.cell 1
  have HSZ := hid (show w.heap.size < W.drew.heap.size from hrow.lt)
  clear hrow hbW hW
  refine wp_region_K 7 (by kernel_rfl) (fun W' => W'.cell? ⟨w.heap.size, 0, none⟩ = some (strV a) ∧ W'.cell? ⟨w.heap.size, 1, none⟩ = some (strV b)) ⟨c0, c1⟩ (fun hH => ?_)
  refine wpAnyK_take (i := 0) (v := ?_) rfl (by kernel_rfl) (by kernel_rfl) (by kernel_rfl) (by decide) (by kernel_rfl) (fun _ _ _ h => h) (Or.inl ⟨by kernel_rfl, ?_⟩) hH ?_
  rotate_left
  · intro W hS
    have h0 := hS.1
    have h1 := hS.2
    go_simp
    first | done | with_reducible rfl
  simp only [Act.put, List.getElem_toArray, List.getElem_cons_succ, List.getElem_cons_zero, List.setIfInBounds_toArray, List.set_cons_zero, List.set_cons_succ]
  refine wpAnyK_take (i := 1) (v := ?_) rfl (by kernel_rfl) (by kernel_rfl) (by kernel_rfl) (by decide) (by kernel_rfl) (fun _ _ _ h => h) (Or.inl ⟨by kernel_rfl, ?_⟩) hH ?_
  rotate_left
  · intro W hS
    have h0 := hS.1
    have h1 := hS.2
    go_simp
    first | done | with_reducible rfl
  simp only [Act.put, List.getElem_toArray, List.getElem_cons_succ, List.getElem_cons_zero, List.setIfInBounds_toArray, List.set_cons_zero, List.set_cons_succ]
  refine wpAnyK_take (i := 2) (v := ?_) rfl (by kernel_rfl) (by kernel_rfl) (by kernel_rfl) (by decide) (by kernel_rfl) (fun _ _ _ h => h) (Or.inl ⟨by kernel_rfl, ?_⟩) hH ?_
  rotate_left
  · intro W hS
    have h0 := hS.1
    have h1 := hS.2
    go_simp
    first | done | with_reducible rfl
  simp only [Act.put, List.getElem_toArray, List.getElem_cons_succ, List.getElem_cons_zero, List.setIfInBounds_toArray, List.set_cons_zero, List.set_cons_succ]
  refine wpAnyK_take (i := 4) (v := ?_) rfl (by kernel_rfl) (by kernel_rfl) (by kernel_rfl) (by decide) (by kernel_rfl) (fun _ _ _ h => h) (Or.inl ⟨by kernel_rfl, ?_⟩) hH ?_
  rotate_left
  · intro W hS
    have h0 := hS.1
    have h1 := hS.2
    go_simp
    first | done | with_reducible rfl
  simp only [Act.put, List.getElem_toArray, List.getElem_cons_succ, List.getElem_cons_zero, List.setIfInBounds_toArray, List.set_cons_zero, List.set_cons_succ]
  refine wpAnyK_take (i := 5) (v := ?_) rfl (by kernel_rfl) (by kernel_rfl) (by kernel_rfl) (by decide) (by kernel_rfl) (fun _ _ _ h => h) (Or.inl ⟨by kernel_rfl, ?_⟩) hH ?_
  rotate_left
  · intro W hS
    have h0 := hS.1
    have h1 := hS.2
    go_simp
    first | done | with_reducible rfl
  simp only [Act.put, List.getElem_toArray, List.getElem_cons_succ, List.getElem_cons_zero, List.setIfInBounds_toArray, List.set_cons_zero, List.set_cons_succ]
  refine wpAnyK_next (i := 3) (by kernel_rfl) rfl (by decide) (fun K hK => ?_)
  go_simp
  have HD := hid (HO.out.below (Below.refl _ W).drew)
  refine (putText_any v B l a W.drew (HO.out.below (Below.refl _ W).drew) (Nat.le_trans hB (Nat.le_of_lt HSZ.out)) (by omega) (by omega)).mono ?_
  rintro e w1 ⟨v1, rfl, ho1, hi1, hk1⟩
  have hne : ∀ k, v.ownBlock = some k → k ≠ w.heap.size := fun k e h => by have := (HV.out k e).2; omega
  have hr1 := HRW.out.kept ((Kept.of_below (X := fun k => v.ownBlock = some k) (Below.refl _ W).drew).trans hk1 (fun k e _ => e)) (fun h => hne _ h rfl)
  have d0 : w1.cell? ⟨w.heap.size, 0, none⟩ = some (strV a) := hr1.cell 0
  have d1 : w1.cell? ⟨w.heap.size, 1, none⟩ = some (strV b) := hr1.cell 1
  refine hK.out _ _ ⟨d0, d1⟩ (fun hH => ?_)
  clear hK K
  try simp only [Act.put, List.getElem_toArray, List.getElem_cons_succ, List.getElem_cons_zero, List.setIfInBounds_toArray, List.set_cons_zero, List.set_cons_succ]
  refine wpAnyK_next (i := 6) (by kernel_rfl) rfl (by decide) (fun K hK => ?_)
  go_simp
  have hs1 : B ≤ w1.heap.size := Nat.le_trans (Nat.le_trans hB (Nat.le_of_lt HSZ.out)) hk1.size
  refine (putText_any v1 B (l ++ textB a) b w1 ho1 hs1 (by rw [hL1]; omega) (by omega)).mono ?_
  rintro e w2 ⟨v2, rfl, ho2, hi2, hk2⟩
  have hr2 := hr1.kept hk2 (fun h => by rcases hi1 _ h with h | h
                                        · exact hne _ h rfl
                                        · have := HSZ.out; omega)
  have d0 : w2.cell? ⟨w.heap.size, 0, none⟩ = some (strV a) := hr2.cell 0
  have d1 : w2.cell? ⟨w.heap.size, 1, none⟩ = some (strV b) := hr2.cell 1
  refine hK.out _ _ ⟨d0, d1⟩ (fun hH => ?_)
  clear hK K
  try simp only [Act.put, List.getElem_toArray, List.getElem_cons_succ, List.getElem_cons_zero, List.setIfInBounds_toArray, List.set_cons_zero, List.set_cons_succ]
  refine wpAnyK_last (by kernel_rfl) rfl (fun K hK => ?_)
  go_simp
  refine hK.out _ _ ?_
  clear hK K
  try simp only [Act.put, List.getElem_toArray, List.getElem_cons_succ, List.getElem_cons_zero, List.setIfInBounds_toArray, List.set_cons_zero, List.set_cons_succ]
  refine wpAnyK_done (by kernel_rfl) ?_ _
  go_wp2_with fail
  go_ret
  have hm : MadeK 5 B v ((l ++ textB a) ++ textB b) W.drew (.returned v2) w2 := MadeK.trans hi1 hk1 ⟨v2, rfl, ho2, hi2, hk2⟩
  obtain ⟨v3, he3, ho3, hi3, hk3⟩ := hm
  cases he3
  have hs0 := HBW.out.size
  refine ⟨v2, rfl, ?_, fun k e => (hi3 k e).imp id (fun h => ?_), ((Kept.of_below HBW.out).trans (Kept.of_below (X := fun k => v.ownBlock = some k) (Below.refl _ W).drew) (fun k e _ => e)).trans hk3 (fun k e _ => e)⟩
  · rw [show l ++ fldB (a, b) = (l ++ textB a) ++ textB b by unfold fldB; rw [List.append_assoc]]
    exact ho3
  · have : W.heap.size ≤ k := h
    omega

set_option maxRecDepth 8000 in
set_option maxHeartbeats 4000000 in
theorem putNames_any (v nv : Value) (l : List UInt8) (L : List (List UInt8)) (w0 w : World) (hr : Reads w0 nv (L.map strV)) (h0 : Below w0.heap.size w0 w) (ho : OwnL 5 w w0.heap.size v l) (hl : l.length ≤ 1000000) (hL : L.length ≤ 90) (hs : ∀ s ∈ L, s.length ≤ 100000) :
    Calls Tryd.prog 47 #[v, nv, .func (.func 46) #[] #[]] w fun e w' => MadeBy 5 w0.heap.size (l ++ (numB L.length 2 ++ textsB L)) e w' ∧ Below w0.heap.size w w' := by
  obtain ⟨no, nc, rfl⟩ := hr.strs
  obtain ⟨n, hn⟩ : ∃ n, L.length = n := ⟨_, rfl⟩
  rw [hn] at hL hr ⊢
  have C := hid (put_any v w0.heap.size l n 2 w ho h0.size (by omega) (by omega) (by decide))
  have HN := hid hn
  have HR := hid hr
  have HS := hid hs
  have H0 := hid h0
  have HW := hid (show Below w0.heap.size w w from Below.refl _ _)
  have HO := hid ho
  obtain ⟨R, hRR⟩ : ∃ R, l ++ (numB n 2 ++ textsB L) = R := ⟨_, rfl⟩
  have HRR := hid hRR
  rw [hRR]
  clear hr hn hs hRR ho
  go_enter Tryd.func47, Tryd.ntmps47
  go_wp2_with fail
  refine C.out.mono ?_
  rintro e w1 ⟨v1, rfl, ho1, hi1, hk1⟩
  have hb1 : Below w0.heap.size w w1 := hk1.below (fun k e _ => (HO.out.lt k e).1) h0.size
  have HB1 := hid hb1
  have HO1 := hid ho1
  clear hk1 hi1 hb1 ho1 C h0
  have hkw0 : (n : Int) ≤ 90 := by omega
  go_wp2_with fail
  go_loopw [0, 15] (fun v' i wr => ∃ (k : Nat), k ≤ n ∧ i = .int .i64 (k : Int) ∧ OwnL 5 wr w0.heap.size v' (l ++ (numB n 2 ++ textsB (L.take k))) ∧ Below w0.heap.size w wr) (fun _ i _ => n - (intOf i).toNat)
  case atStart => exact ⟨0, Nat.zero_le _, rfl, by simpa [textsB] using HO1.out, HB1.out⟩
  case round =>
    obtain ⟨k, hk, rfl, ho', hb⟩ := hrel
    have hbr0 : Below w0.heap.size w0 wr := H0.out.trans hb
    have HB := hid hb
    have HO' := hid ho'
    by_cases hlt : k < n
    · obtain ⟨f, hf⟩ : ∃ f, L[k]? = some f := ⟨_, List.getElem?_eq_getElem (by rw [HN.out]; exact hlt)⟩
      obtain ⟨bb, off, hao, d0⟩ := (HR.out.below hbr0).str hf
      subst hao
      have hm := HS.out f (List.mem_of_getElem? hf)
      have HT := hid (show textsB (L.take (k + 1)) = textsB (L.take k) ++ textB f by
        obtain ⟨hk', e⟩ := List.getElem?_eq_some_iff.1 hf
        rw [List.take_succ_eq_append_getElem hk', e, textsB_snoc])
      have hlen : (l ++ (numB n 2 ++ textsB (L.take k))).length ≤ 20000000 := by
        have hx : ∀ M : List (List UInt8), (∀ s ∈ M, s.length ≤ 100000) → (textsB M).length ≤ 100002 * M.length := by
          intro M
          induction M with
          | nil => intro _; simp [textsB]
          | cons g M ih =>
            intro h
            have h1 := ih (fun x hx => h x (by simp [hx]))
            have h2 := h g (by simp)
            show (textB g ++ textsB M).length ≤ _
            rw [List.length_append, textB_len, List.length_cons]
            omega
        have h1 := hx (L.take k) (fun f hf => HS.out f (List.mem_of_mem_take hf))
        have h2 : (L.take k).length ≤ 90 := by rw [List.length_take]; omega
        rw [List.length_append, List.length_append, numB_len]
        omega
      have hkI : (k : Int) < (n : Int) := by omega
      have hk0 : (0 : Int) ≤ (k : Int) := by omega
      have hkw : IntKind.i64.wrap ((k : Int) + 1) = (k : Int) + 1 := IntWalk.i64_in _ (by omega)
      clear hf hb hbr0 ho'
      go_wp2_with fail
      refine (putText_any _ w0.heap.size (l ++ (numB n 2 ++ textsB (L.take k))) f wr HO'.out (Nat.le_trans (show w0.heap.size ≤ w.heap.size from H0.out.size) HB.out.size) (by omega) (by omega)).mono ?_
      rintro e w2 ⟨v2, rfl, ho2, hi2, hk2⟩
      have hb2 : Below w0.heap.size wr w2 := hk2.below (fun k e _ => (HO'.out.lt k e).1) (Nat.le_trans (show w0.heap.size ≤ w.heap.size from H0.out.size) HB.out.size)
      have HB2 := hid hb2
      have HO2 := hid ho2
      clear hb2 ho2 hi2 hk2
      go_wp2_with fail
      go_roundw
      case rel => exact ⟨k + 1, hlt, by go_num, by rw [HT.out]; simpa using HO2.out, HB.out.trans HB2.out⟩
      case measure => simp [intOf]; omega
    · have hkn : k = n := by omega
      subst hkn
      have hd : decide ((k : Int) < (k : Int)) = false := decide_eq_false (by omega)
      have hx : ¬ ((k : Int) < (k : Int)) := by omega
      have htk : L.take k = L := List.take_of_length_le (by rw [HN.out]; exact Nat.le_refl _)
      have HX := hid (show OwnL 5 wr w0.heap.size _ R by rw [← HRR.out]; rw [htk] at ho'; exact ho')
      clear htk hb hbr0 ho' HO'
      go_wp2_with fail
      go_ret
      exact ⟨⟨_, rfl, HX.out⟩, HB.out⟩

set_option maxRecDepth 8000 in
set_option maxHeartbeats 4000000 in
theorem putFields_any (v nv : Value) (l : List UInt8) (L : List Fld) (w0 w : World) (hr : Reads2 w0 nv L) (h0 : Below w0.heap.size w0 w) (ho : OwnL 5 w w0.heap.size v l) (hl : l.length ≤ 1000000) (hL : L.length ≤ 90) (hs : ∀ f ∈ L, f.1.length ≤ 100000 ∧ f.2.length ≤ 100000) :
    Calls Tryd.prog 49 #[v, nv, .func (.func 50) #[] #[]] w fun e w' => MadeBy 5 w0.heap.size (l ++ (numB L.length 2 ++ fldsB L)) e w' ∧ Below w0.heap.size w w' := by
  obtain ⟨no, nc, rfl⟩ := hr.form
  obtain ⟨n, hn⟩ : ∃ n, L.length = n := ⟨_, rfl⟩
  rw [hn] at hL hr ⊢
  have C := hid (put_any v w0.heap.size l n 2 w ho h0.size (by omega) (by omega) (by decide))
  have HN := hid hn
  have HR := hid hr
  have HS := hid hs
  have H0 := hid h0
  have HW := hid (show Below w0.heap.size w w from Below.refl _ _)
  have HO := hid ho
  obtain ⟨R, hRR⟩ : ∃ R, l ++ (numB n 2 ++ fldsB L) = R := ⟨_, rfl⟩
  have HRR := hid hRR
  rw [hRR]
  clear hr hn hs hRR ho
  go_enter Tryd.func49, Tryd.ntmps49
  go_wp2_with fail
  refine C.out.mono ?_
  rintro e w1 ⟨v1, rfl, ho1, hi1, hk1⟩
  have hb1 : Below w0.heap.size w w1 := hk1.below (fun k e _ => (HO.out.lt k e).1) h0.size
  have HB1 := hid hb1
  have HO1 := hid ho1
  clear hk1 hi1 hb1 ho1 C h0
  have hkw0 : (n : Int) ≤ 90 := by omega
  go_wp2_with fail
  go_loopw [0, 15] (fun v' i wr => ∃ (k : Nat), k ≤ n ∧ i = .int .i64 (k : Int) ∧ OwnL 5 wr w0.heap.size v' (l ++ (numB n 2 ++ fldsB (L.take k))) ∧ Below w0.heap.size w wr) (fun _ i _ => n - (intOf i).toNat)
  case atStart => exact ⟨0, Nat.zero_le _, rfl, by simpa [fldsB] using HO1.out, HB1.out⟩
  case round =>
    obtain ⟨k, hk, rfl, ho', hb⟩ := hrel
    have hbr0 : Below w0.heap.size w0 wr := H0.out.trans hb
    have HB := hid hb
    have HO' := hid ho'
    by_cases hlt : k < n
    · obtain ⟨f, hf⟩ : ∃ f, L[k]? = some f := ⟨_, List.getElem?_eq_getElem (by rw [HN.out]; exact hlt)⟩
      obtain ⟨bb, off, hao, hc1, hc2⟩ := (HR.out.below hbr0).fld hf
      subst hao
      have hm := HS.out f (List.mem_of_getElem? hf)
      have HT := hid (show fldsB (L.take (k + 1)) = fldsB (L.take k) ++ fldB f by
        obtain ⟨hk', e⟩ := List.getElem?_eq_some_iff.1 hf
        rw [List.take_succ_eq_append_getElem hk', e, fldsB_snoc])
      have hlen : (l ++ (numB n 2 ++ fldsB (L.take k))).length ≤ 20000000 := by
        have hx : ∀ M : List Fld, (∀ f ∈ M, f.1.length ≤ 100000 ∧ f.2.length ≤ 100000) → (fldsB M).length ≤ 200004 * M.length := by
          intro M
          induction M with
          | nil => intro _; simp [fldsB]
          | cons g M ih =>
            intro h
            have h1 := ih (fun x hx => h x (by simp [hx]))
            have h2 := h g (by simp)
            show (fldB g ++ fldsB M).length ≤ _
            unfold fldB
            rw [List.length_append, List.length_append, textB_len, textB_len, List.length_cons]
            omega
        have h1 := hx (L.take k) (fun f hf => HS.out f (List.mem_of_mem_take hf))
        have h2 : (L.take k).length ≤ 90 := by rw [List.length_take]; omega
        rw [List.length_append, List.length_append, numB_len]
        omega
      have hkI : (k : Int) < (n : Int) := by omega
      have hk0 : (0 : Int) ≤ (k : Int) := by omega
      have hkw : IntKind.i64.wrap ((k : Int) + 1) = (k : Int) + 1 := IntWalk.i64_in _ (by omega)
      clear hf hb hbr0 ho'
      go_wp2_with fail
      have hbA := below_alloc wr (.cells #[strV f.1, strV f.2] 53)
      have hsz := Nat.le_trans (Nat.le_trans (show w0.heap.size ≤ w.heap.size from H0.out.size) HB.out.size) hbA.size
      have hoA := HO'.out.below hbA
      refine (putField_any _ w0.heap.size (l ++ (numB n 2 ++ fldsB (L.take k))) f (wr.alloc (.cells #[strV f.1, strV f.2] 53)) hoA hsz (by omega) hm).mono ?_
      rintro e w2 ⟨v2, rfl, ho2, hi2, hk2⟩
      have hb2 : Below w0.heap.size wr w2 := (hbA.mono (Nat.le_trans (show w0.heap.size ≤ w.heap.size from H0.out.size) HB.out.size)).trans (hk2.below (fun k e _ => (hoA.lt k e).1) hsz)
      have HB2 := hid hb2
      have HO2 := hid ho2
      clear hb2 ho2 hi2 hk2 hoA hbA hsz
      go_wp2_with fail
      go_roundw
      case rel => exact ⟨k + 1, hlt, by go_num, by rw [HT.out]; simpa using HO2.out, HB.out.trans HB2.out⟩
      case measure => simp [intOf]; omega
    · have hkn : k = n := by omega
      subst hkn
      have hd : decide ((k : Int) < (k : Int)) = false := decide_eq_false (by omega)
      have hx : ¬ ((k : Int) < (k : Int)) := by omega
      have htk : L.take k = L := List.take_of_length_le (by rw [HN.out]; exact Nat.le_refl _)
      have HX := hid (show OwnL 5 wr w0.heap.size _ R by rw [← HRR.out]; rw [htk] at ho'; exact ho')
      clear htk hb hbr0 ho' HO'
      go_wp2_with fail
      go_ret
      exact ⟨⟨_, rfl, HX.out⟩, HB.out⟩

set_option maxRecDepth 8000 in
set_option maxHeartbeats 8000000 in
theorem putEntry1_any (e : EntP) (nv fv bv : Value) (w : World) (hE : RightE e) (hf : 1 = 3 ∨ (e.second = [] ∧ e.names = [])) (hat : EntAt w nv fv bv e) :
    Calls Tryd.prog 26 #[.int .i64 1, .agg (rowE nv fv bv e)] w fun x w' => MadeBy 5 w.heap.size (restB 1 e) x w' ∧ Below w.heap.size w w' := by
  obtain ⟨no, nc, rfl⟩ := hat.names.strs
  obtain ⟨fo, fc, rfl⟩ := hat.flds.form
  obtain ⟨bo, bc, hbv⟩ : ∃ ao cap, bv = .slice ao e.body.length cap := by
    obtain ⟨ao, cap, h, -⟩ := hat.body
    exact ⟨ao, cap, by rw [h, List.length_map]⟩
  subst hbv
  obtain ⟨w0, hw0⟩ : ∃ W, w.alloc (.cells (rowE (.slice no e.names.length nc) (.slice fo e.fields.length fc) (.slice bo e.body.length bc) e) 27) = W := ⟨_, rfl⟩
  have hbW : Below w.heap.size w w0 := by rw [← hw0]; exact below_alloc _ _
  have q0 : rowIs w0 w.heap.size (rowE (.slice no e.names.length nc) (.slice fo e.fields.length fc) (.slice bo e.body.length bc) e) 27 := by rw [← hw0]; exact rowIs_new _ _ _
  have HW := hid hbW
  have RQ0 := hid q0
  have HAT := hid (hat.below hbW)
  have HB0 := hid (show Below w0.heap.size w0 w0 from Below.refl _ _)
  have hkey := hE.key
  have hsec := hE.second
  have hnam := hE.names
  have hbod := hE.body
  have hfl := hE.flds
  have HE := hid hE
  have HEA := hid hE.each
  have HEF := hid hE.fld
  have hga := hE.gen
  have haa := hE.asked
  have hca := hE.came
  have hsa := hE.status
  have HLEN1 := hid (show ([] ++ textB e.key).length ≤ 200000 by simp only [List.length_append, textB_len, numB_len, List.length_nil]; have h1 := textsB_len (k := 30) hE.each (by have := hE.names; omega); have h2 := fldsB_len (k := 80) hE.fld (by have := hE.flds; omega); omega)
  have HLEN2 := hid (show (([] ++ textB e.key) ++ numB e.asked.toNat 6).length ≤ 300000 by simp only [List.length_append, textB_len, numB_len, List.length_nil]; have h1 := textsB_len (k := 30) hE.each (by have := hE.names; omega); have h2 := fldsB_len (k := 80) hE.fld (by have := hE.flds; omega); omega)
  have HLEN3 := hid (show ((([] ++ textB e.key) ++ numB e.asked.toNat 6) ++ numB e.came.toNat 6).length ≤ 400000 by simp only [List.length_append, textB_len, numB_len, List.length_nil]; have h1 := textsB_len (k := 30) hE.each (by have := hE.names; omega); have h2 := fldsB_len (k := 80) hE.fld (by have := hE.flds; omega); omega)
  have HLEN4 := hid (show (((([] ++ textB e.key) ++ numB e.asked.toNat 6) ++ numB e.came.toNat 6) ++ numB e.status.toNat 6).length ≤ 500000 by simp only [List.length_append, textB_len, numB_len, List.length_nil]; have h1 := textsB_len (k := 30) hE.each (by have := hE.names; omega); have h2 := fldsB_len (k := 80) hE.fld (by have := hE.flds; omega); omega)
  have HLEN5 := hid (show ((((([] ++ textB e.key) ++ numB e.asked.toNat 6) ++ numB e.came.toNat 6) ++ numB e.status.toNat 6) ++ (numB e.fields.length 2 ++ fldsB e.fields)).length ≤ 600000 by simp only [List.length_append, textB_len, numB_len, List.length_nil]; have h1 := textsB_len (k := 30) hE.each (by have := hE.names; omega); have h2 := fldsB_len (k := 80) hE.fld (by have := hE.flds; omega); omega)
  have HLEN6 := hid (show (((((([] ++ textB e.key) ++ numB e.asked.toNat 6) ++ numB e.came.toNat 6) ++ numB e.status.toNat 6) ++ (numB e.fields.length 2 ++ fldsB e.fields)) ++ textB e.body).length ≤ 700000 by simp only [List.length_append, textB_len, numB_len, List.length_nil]; have h1 := textsB_len (k := 30) hE.each (by have := hE.names; omega); have h2 := fldsB_len (k := 80) hE.fld (by have := hE.flds; omega); omega)
  clear hat hbW q0 hE
  have ho0 : OwnL 5 w0 w0.heap.size (.slice none 0 0) [] := World.ownsRow_nil _ _ _ _
  have O0 := hid ho0
  clear ho0
  have c0 : w0.cell? ⟨w.heap.size, 0, none⟩ = some (strV e.key) := by exact (RQ0.out.below HB0.out).cell 0
  have hl0 : ([] : List UInt8).length ≤ 100 := by simp
  go_enter Tryd.func26, Tryd.ntmps26
  go_wp2_with fail
  try rw [hw0]
  refine (putText_any _ w0.heap.size [] e.key w0 O0.out HB0.out.size (by omega) (by omega)).mono ?_
  clear hw0
  rintro x w1 ⟨v1, rfl, ho, hi, hk⟩
  have HB1 := hid (HB0.out.trans (hk.below (fun k e _ => (O0.out.lt k e).1) HB0.out.size))
  have O1 := hid ho
  clear ho hi hk c0
  have c3 : w1.cell? ⟨w.heap.size, 3, none⟩ = some (.int .i64 e.asked) := by exact (RQ0.out.below HB1.out).cell 3
  have hl1 : (([] ++ textB e.key) : List UInt8).length ≤ 200000 := by have := HLEN1.out; omega
  go_wp2_with fail
  refine (putNumber_z _ w0.heap.size ([] ++ textB e.key) e.asked e.asked.toNat w1 (by omega) O1.out HB1.out.size (by omega) (by omega)).mono ?_
  rintro x w2 ⟨v2, rfl, ho, hi, hk⟩
  have HB2 := hid (HB1.out.trans (hk.below (fun k e _ => (O1.out.lt k e).1) HB1.out.size))
  have O2 := hid ho
  clear ho hi hk c3
  have c4 : w2.cell? ⟨w.heap.size, 4, none⟩ = some (.int .i64 e.came) := by exact (RQ0.out.below HB2.out).cell 4
  have hl2 : ((([] ++ textB e.key) ++ numB e.asked.toNat 6) : List UInt8).length ≤ 300000 := by have := HLEN2.out; omega
  go_wp2_with fail
  refine (putNumber_z _ w0.heap.size (([] ++ textB e.key) ++ numB e.asked.toNat 6) e.came e.came.toNat w2 (by omega) O2.out HB2.out.size (by omega) (by omega)).mono ?_
  rintro x w3 ⟨v3, rfl, ho, hi, hk⟩
  have HB3 := hid (HB2.out.trans (hk.below (fun k e _ => (O2.out.lt k e).1) HB2.out.size))
  have O3 := hid ho
  clear ho hi hk c4
  have c5 : w3.cell? ⟨w.heap.size, 5, none⟩ = some (.int .i64 e.status) := by exact (RQ0.out.below HB3.out).cell 5
  have hl3 : (((([] ++ textB e.key) ++ numB e.asked.toNat 6) ++ numB e.came.toNat 6) : List UInt8).length ≤ 400000 := by have := HLEN3.out; omega
  go_wp2_with fail
  refine (putNumber_z _ w0.heap.size ((([] ++ textB e.key) ++ numB e.asked.toNat 6) ++ numB e.came.toNat 6) e.status e.status.toNat w3 (by omega) O3.out HB3.out.size (by omega) (by omega)).mono ?_
  rintro x w4 ⟨v4, rfl, ho, hi, hk⟩
  have HB4 := hid (HB3.out.trans (hk.below (fun k e _ => (O3.out.lt k e).1) HB3.out.size))
  have O4 := hid ho
  clear ho hi hk c5
  have c6 : w4.cell? ⟨w.heap.size, 6, none⟩ = some (.slice fo e.fields.length fc) := by exact (RQ0.out.below HB4.out).cell 6
  have hl4 : ((((([] ++ textB e.key) ++ numB e.asked.toNat 6) ++ numB e.came.toNat 6) ++ numB e.status.toNat 6) : List UInt8).length ≤ 500000 := by have := HLEN4.out; omega
  go_wp2_with fail
  refine (putFields_any _ _ (((([] ++ textB e.key) ++ numB e.asked.toNat 6) ++ numB e.came.toNat 6) ++ numB e.status.toNat 6) e.fields w0 w4 HAT.out.flds HB4.out O4.out (by omega) (by omega) (fun f hf => by have := HEF.out f hf; omega)).mono ?_
  rintro x w5 ⟨⟨v5, rfl, ho⟩, hb⟩
  have HB5 := hid (HB4.out.trans hb)
  have O5 := hid ho
  clear ho hb c6
  have c7 : w5.cell? ⟨w.heap.size, 7, none⟩ = some (.slice bo e.body.length bc) := by exact (RQ0.out.below HB5.out).cell 7
  have hl5 : (((((([] ++ textB e.key) ++ numB e.asked.toNat 6) ++ numB e.came.toNat 6) ++ numB e.status.toNat 6) ++ (numB e.fields.length 2 ++ fldsB e.fields)) : List UInt8).length ≤ 600000 := by have := HLEN5.out; omega
  have hcv := reads_string (P := Tryd.prog) (HAT.out.body.below HB5.out) 25 9 5 Tryd.underlying25 Tryd.underlying5 Tryd.underlying9
  go_wp2_with fail
  refine (putText_any _ w0.heap.size ((((([] ++ textB e.key) ++ numB e.asked.toNat 6) ++ numB e.came.toNat 6) ++ numB e.status.toNat 6) ++ (numB e.fields.length 2 ++ fldsB e.fields)) e.body w5 O5.out HB5.out.size (by omega) (by omega)).mono ?_
  rintro x w6 ⟨v6, rfl, ho, hi, hk⟩
  have HB6 := hid (HB5.out.trans (hk.below (fun k e _ => (O5.out.lt k e).1) HB5.out.size))
  have O6 := hid ho
  clear ho hi hk c7
  go_wp2_with fail
  go_ret
  have e0 : restB 1 e = (((((([] ++ textB e.key) ++ numB e.asked.toNat 6) ++ numB e.came.toNat 6) ++ numB e.status.toNat 6) ++ (numB e.fields.length 2 ++ fldsB e.fields)) ++ textB e.body) := by
    unfold restB headB tailB
    simp [List.append_assoc]
  refine ⟨⟨v6, rfl, ?_⟩, chain2 HW.out HW.out.size HB6.out⟩
  have h := O6.out
  rw [← e0] at h
  exact h.base HW.out.size

set_option maxRecDepth 8000 in
set_option maxHeartbeats 8000000 in
theorem putEntry2_any (e : EntP) (nv fv bv : Value) (w : World) (hE : RightE e) (hf : 2 = 3 ∨ (e.second = [] ∧ e.names = [])) (hat : EntAt w nv fv bv e) :
    Calls Tryd.prog 26 #[.int .i64 2, .agg (rowE nv fv bv e)] w fun x w' => MadeBy 5 w.heap.size (restB 2 e) x w' ∧ Below w.heap.size w w' := by
  obtain ⟨no, nc, rfl⟩ := hat.names.strs
  obtain ⟨fo, fc, rfl⟩ := hat.flds.form
  obtain ⟨bo, bc, hbv⟩ : ∃ ao cap, bv = .slice ao e.body.length cap := by
    obtain ⟨ao, cap, h, -⟩ := hat.body
    exact ⟨ao, cap, by rw [h, List.length_map]⟩
  subst hbv
  obtain ⟨w0, hw0⟩ : ∃ W, w.alloc (.cells (rowE (.slice no e.names.length nc) (.slice fo e.fields.length fc) (.slice bo e.body.length bc) e) 27) = W := ⟨_, rfl⟩
  have hbW : Below w.heap.size w w0 := by rw [← hw0]; exact below_alloc _ _
  have q0 : rowIs w0 w.heap.size (rowE (.slice no e.names.length nc) (.slice fo e.fields.length fc) (.slice bo e.body.length bc) e) 27 := by rw [← hw0]; exact rowIs_new _ _ _
  have HW := hid hbW
  have RQ0 := hid q0
  have HAT := hid (hat.below hbW)
  have HB0 := hid (show Below w0.heap.size w0 w0 from Below.refl _ _)
  have hkey := hE.key
  have hsec := hE.second
  have hnam := hE.names
  have hbod := hE.body
  have hfl := hE.flds
  have HE := hid hE
  have HEA := hid hE.each
  have HEF := hid hE.fld
  have hga := hE.gen
  have haa := hE.asked
  have hca := hE.came
  have hsa := hE.status
  have HLEN1 := hid (show ([] ++ numB e.gen.toNat 6).length ≤ 200000 by simp only [List.length_append, textB_len, numB_len, List.length_nil]; have h1 := textsB_len (k := 30) hE.each (by have := hE.names; omega); have h2 := fldsB_len (k := 80) hE.fld (by have := hE.flds; omega); omega)
  have HLEN2 := hid (show (([] ++ numB e.gen.toNat 6) ++ textB e.key).length ≤ 300000 by simp only [List.length_append, textB_len, numB_len, List.length_nil]; have h1 := textsB_len (k := 30) hE.each (by have := hE.names; omega); have h2 := fldsB_len (k := 80) hE.fld (by have := hE.flds; omega); omega)
  have HLEN3 := hid (show ((([] ++ numB e.gen.toNat 6) ++ textB e.key) ++ numB e.asked.toNat 6).length ≤ 400000 by simp only [List.length_append, textB_len, numB_len, List.length_nil]; have h1 := textsB_len (k := 30) hE.each (by have := hE.names; omega); have h2 := fldsB_len (k := 80) hE.fld (by have := hE.flds; omega); omega)
  have HLEN4 := hid (show (((([] ++ numB e.gen.toNat 6) ++ textB e.key) ++ numB e.asked.toNat 6) ++ numB e.came.toNat 6).length ≤ 500000 by simp only [List.length_append, textB_len, numB_len, List.length_nil]; have h1 := textsB_len (k := 30) hE.each (by have := hE.names; omega); have h2 := fldsB_len (k := 80) hE.fld (by have := hE.flds; omega); omega)
  have HLEN5 := hid (show ((((([] ++ numB e.gen.toNat 6) ++ textB e.key) ++ numB e.asked.toNat 6) ++ numB e.came.toNat 6) ++ numB e.status.toNat 6).length ≤ 600000 by simp only [List.length_append, textB_len, numB_len, List.length_nil]; have h1 := textsB_len (k := 30) hE.each (by have := hE.names; omega); have h2 := fldsB_len (k := 80) hE.fld (by have := hE.flds; omega); omega)
  have HLEN6 := hid (show (((((([] ++ numB e.gen.toNat 6) ++ textB e.key) ++ numB e.asked.toNat 6) ++ numB e.came.toNat 6) ++ numB e.status.toNat 6) ++ (numB e.fields.length 2 ++ fldsB e.fields)).length ≤ 700000 by simp only [List.length_append, textB_len, numB_len, List.length_nil]; have h1 := textsB_len (k := 30) hE.each (by have := hE.names; omega); have h2 := fldsB_len (k := 80) hE.fld (by have := hE.flds; omega); omega)
  have HLEN7 := hid (show ((((((([] ++ numB e.gen.toNat 6) ++ textB e.key) ++ numB e.asked.toNat 6) ++ numB e.came.toNat 6) ++ numB e.status.toNat 6) ++ (numB e.fields.length 2 ++ fldsB e.fields)) ++ textB e.body).length ≤ 800000 by simp only [List.length_append, textB_len, numB_len, List.length_nil]; have h1 := textsB_len (k := 30) hE.each (by have := hE.names; omega); have h2 := fldsB_len (k := 80) hE.fld (by have := hE.flds; omega); omega)
  clear hat hbW q0 hE
  have ho0 : OwnL 5 w0 w0.heap.size (.slice none 0 0) [] := World.ownsRow_nil _ _ _ _
  have O0 := hid ho0
  clear ho0
  have c8 : w0.cell? ⟨w.heap.size, 8, none⟩ = some (.int .i64 e.gen) := by exact (RQ0.out.below HB0.out).cell 8
  have hl0 : ([] : List UInt8).length ≤ 100 := by simp
  go_enter Tryd.func26, Tryd.ntmps26
  go_wp2_with fail
  try rw [hw0]
  refine (putNumber_z _ w0.heap.size [] e.gen e.gen.toNat w0 (by omega) O0.out HB0.out.size (by omega) (by omega)).mono ?_
  clear hw0
  rintro x w1 ⟨v1, rfl, ho, hi, hk⟩
  have HB1 := hid (HB0.out.trans (hk.below (fun k e _ => (O0.out.lt k e).1) HB0.out.size))
  have O1 := hid ho
  clear ho hi hk c8
  have c0 : w1.cell? ⟨w.heap.size, 0, none⟩ = some (strV e.key) := by exact (RQ0.out.below HB1.out).cell 0
  have hl1 : (([] ++ numB e.gen.toNat 6) : List UInt8).length ≤ 200000 := by have := HLEN1.out; omega
  go_wp2_with fail
  refine (putText_any _ w0.heap.size ([] ++ numB e.gen.toNat 6) e.key w1 O1.out HB1.out.size (by omega) (by omega)).mono ?_
  rintro x w2 ⟨v2, rfl, ho, hi, hk⟩
  have HB2 := hid (HB1.out.trans (hk.below (fun k e _ => (O1.out.lt k e).1) HB1.out.size))
  have O2 := hid ho
  clear ho hi hk c0
  have c3 : w2.cell? ⟨w.heap.size, 3, none⟩ = some (.int .i64 e.asked) := by exact (RQ0.out.below HB2.out).cell 3
  have hl2 : ((([] ++ numB e.gen.toNat 6) ++ textB e.key) : List UInt8).length ≤ 300000 := by have := HLEN2.out; omega
  go_wp2_with fail
  refine (putNumber_z _ w0.heap.size (([] ++ numB e.gen.toNat 6) ++ textB e.key) e.asked e.asked.toNat w2 (by omega) O2.out HB2.out.size (by omega) (by omega)).mono ?_
  rintro x w3 ⟨v3, rfl, ho, hi, hk⟩
  have HB3 := hid (HB2.out.trans (hk.below (fun k e _ => (O2.out.lt k e).1) HB2.out.size))
  have O3 := hid ho
  clear ho hi hk c3
  have c4 : w3.cell? ⟨w.heap.size, 4, none⟩ = some (.int .i64 e.came) := by exact (RQ0.out.below HB3.out).cell 4
  have hl3 : (((([] ++ numB e.gen.toNat 6) ++ textB e.key) ++ numB e.asked.toNat 6) : List UInt8).length ≤ 400000 := by have := HLEN3.out; omega
  go_wp2_with fail
  refine (putNumber_z _ w0.heap.size ((([] ++ numB e.gen.toNat 6) ++ textB e.key) ++ numB e.asked.toNat 6) e.came e.came.toNat w3 (by omega) O3.out HB3.out.size (by omega) (by omega)).mono ?_
  rintro x w4 ⟨v4, rfl, ho, hi, hk⟩
  have HB4 := hid (HB3.out.trans (hk.below (fun k e _ => (O3.out.lt k e).1) HB3.out.size))
  have O4 := hid ho
  clear ho hi hk c4
  have c5 : w4.cell? ⟨w.heap.size, 5, none⟩ = some (.int .i64 e.status) := by exact (RQ0.out.below HB4.out).cell 5
  have hl4 : ((((([] ++ numB e.gen.toNat 6) ++ textB e.key) ++ numB e.asked.toNat 6) ++ numB e.came.toNat 6) : List UInt8).length ≤ 500000 := by have := HLEN4.out; omega
  go_wp2_with fail
  refine (putNumber_z _ w0.heap.size (((([] ++ numB e.gen.toNat 6) ++ textB e.key) ++ numB e.asked.toNat 6) ++ numB e.came.toNat 6) e.status e.status.toNat w4 (by omega) O4.out HB4.out.size (by omega) (by omega)).mono ?_
  rintro x w5 ⟨v5, rfl, ho, hi, hk⟩
  have HB5 := hid (HB4.out.trans (hk.below (fun k e _ => (O4.out.lt k e).1) HB4.out.size))
  have O5 := hid ho
  clear ho hi hk c5
  have c6 : w5.cell? ⟨w.heap.size, 6, none⟩ = some (.slice fo e.fields.length fc) := by exact (RQ0.out.below HB5.out).cell 6
  have hl5 : (((((([] ++ numB e.gen.toNat 6) ++ textB e.key) ++ numB e.asked.toNat 6) ++ numB e.came.toNat 6) ++ numB e.status.toNat 6) : List UInt8).length ≤ 600000 := by have := HLEN5.out; omega
  go_wp2_with fail
  refine (putFields_any _ _ ((((([] ++ numB e.gen.toNat 6) ++ textB e.key) ++ numB e.asked.toNat 6) ++ numB e.came.toNat 6) ++ numB e.status.toNat 6) e.fields w0 w5 HAT.out.flds HB5.out O5.out (by omega) (by omega) (fun f hf => by have := HEF.out f hf; omega)).mono ?_
  rintro x w6 ⟨⟨v6, rfl, ho⟩, hb⟩
  have HB6 := hid (HB5.out.trans hb)
  have O6 := hid ho
  clear ho hb c6
  have c7 : w6.cell? ⟨w.heap.size, 7, none⟩ = some (.slice bo e.body.length bc) := by exact (RQ0.out.below HB6.out).cell 7
  have hl6 : ((((((([] ++ numB e.gen.toNat 6) ++ textB e.key) ++ numB e.asked.toNat 6) ++ numB e.came.toNat 6) ++ numB e.status.toNat 6) ++ (numB e.fields.length 2 ++ fldsB e.fields)) : List UInt8).length ≤ 700000 := by have := HLEN6.out; omega
  have hcv := reads_string (P := Tryd.prog) (HAT.out.body.below HB6.out) 25 9 5 Tryd.underlying25 Tryd.underlying5 Tryd.underlying9
  go_wp2_with fail
  refine (putText_any _ w0.heap.size (((((([] ++ numB e.gen.toNat 6) ++ textB e.key) ++ numB e.asked.toNat 6) ++ numB e.came.toNat 6) ++ numB e.status.toNat 6) ++ (numB e.fields.length 2 ++ fldsB e.fields)) e.body w6 O6.out HB6.out.size (by omega) (by omega)).mono ?_
  rintro x w7 ⟨v7, rfl, ho, hi, hk⟩
  have HB7 := hid (HB6.out.trans (hk.below (fun k e _ => (O6.out.lt k e).1) HB6.out.size))
  have O7 := hid ho
  clear ho hi hk c7
  go_wp2_with fail
  go_ret
  have e0 : restB 2 e = ((((((([] ++ numB e.gen.toNat 6) ++ textB e.key) ++ numB e.asked.toNat 6) ++ numB e.came.toNat 6) ++ numB e.status.toNat 6) ++ (numB e.fields.length 2 ++ fldsB e.fields)) ++ textB e.body) := by
    unfold restB headB tailB
    simp [List.append_assoc]
  refine ⟨⟨v7, rfl, ?_⟩, chain2 HW.out HW.out.size HB7.out⟩
  have h := O7.out
  rw [← e0] at h
  exact h.base HW.out.size

set_option maxRecDepth 8000 in
set_option maxHeartbeats 8000000 in
theorem putEntry3_any (e : EntP) (nv fv bv : Value) (w : World) (hE : RightE e) (hf : 3 = 3 ∨ (e.second = [] ∧ e.names = [])) (hat : EntAt w nv fv bv e) :
    Calls Tryd.prog 26 #[.int .i64 3, .agg (rowE nv fv bv e)] w fun x w' => MadeBy 5 w.heap.size (restB 3 e) x w' ∧ Below w.heap.size w w' := by
  obtain ⟨no, nc, rfl⟩ := hat.names.strs
  obtain ⟨fo, fc, rfl⟩ := hat.flds.form
  obtain ⟨bo, bc, hbv⟩ : ∃ ao cap, bv = .slice ao e.body.length cap := by
    obtain ⟨ao, cap, h, -⟩ := hat.body
    exact ⟨ao, cap, by rw [h, List.length_map]⟩
  subst hbv
  obtain ⟨w0, hw0⟩ : ∃ W, w.alloc (.cells (rowE (.slice no e.names.length nc) (.slice fo e.fields.length fc) (.slice bo e.body.length bc) e) 27) = W := ⟨_, rfl⟩
  have hbW : Below w.heap.size w w0 := by rw [← hw0]; exact below_alloc _ _
  have q0 : rowIs w0 w.heap.size (rowE (.slice no e.names.length nc) (.slice fo e.fields.length fc) (.slice bo e.body.length bc) e) 27 := by rw [← hw0]; exact rowIs_new _ _ _
  have HW := hid hbW
  have RQ0 := hid q0
  have HAT := hid (hat.below hbW)
  have HB0 := hid (show Below w0.heap.size w0 w0 from Below.refl _ _)
  have hkey := hE.key
  have hsec := hE.second
  have hnam := hE.names
  have hbod := hE.body
  have hfl := hE.flds
  have HE := hid hE
  have HEA := hid hE.each
  have HEF := hid hE.fld
  have hga := hE.gen
  have haa := hE.asked
  have hca := hE.came
  have hsa := hE.status
  have HLEN1 := hid (show ([] ++ textB e.second).length ≤ 200000 by simp only [List.length_append, textB_len, numB_len, List.length_nil]; have h1 := textsB_len (k := 30) hE.each (by have := hE.names; omega); have h2 := fldsB_len (k := 80) hE.fld (by have := hE.flds; omega); omega)
  have HLEN2 := hid (show (([] ++ textB e.second) ++ (numB e.names.length 2 ++ textsB e.names)).length ≤ 300000 by simp only [List.length_append, textB_len, numB_len, List.length_nil]; have h1 := textsB_len (k := 30) hE.each (by have := hE.names; omega); have h2 := fldsB_len (k := 80) hE.fld (by have := hE.flds; omega); omega)
  have HLEN3 := hid (show ((([] ++ textB e.second) ++ (numB e.names.length 2 ++ textsB e.names)) ++ numB e.gen.toNat 6).length ≤ 400000 by simp only [List.length_append, textB_len, numB_len, List.length_nil]; have h1 := textsB_len (k := 30) hE.each (by have := hE.names; omega); have h2 := fldsB_len (k := 80) hE.fld (by have := hE.flds; omega); omega)
  have HLEN4 := hid (show (((([] ++ textB e.second) ++ (numB e.names.length 2 ++ textsB e.names)) ++ numB e.gen.toNat 6) ++ textB e.key).length ≤ 500000 by simp only [List.length_append, textB_len, numB_len, List.length_nil]; have h1 := textsB_len (k := 30) hE.each (by have := hE.names; omega); have h2 := fldsB_len (k := 80) hE.fld (by have := hE.flds; omega); omega)
  have HLEN5 := hid (show ((((([] ++ textB e.second) ++ (numB e.names.length 2 ++ textsB e.names)) ++ numB e.gen.toNat 6) ++ textB e.key) ++ numB e.asked.toNat 6).length ≤ 600000 by simp only [List.length_append, textB_len, numB_len, List.length_nil]; have h1 := textsB_len (k := 30) hE.each (by have := hE.names; omega); have h2 := fldsB_len (k := 80) hE.fld (by have := hE.flds; omega); omega)
  have HLEN6 := hid (show (((((([] ++ textB e.second) ++ (numB e.names.length 2 ++ textsB e.names)) ++ numB e.gen.toNat 6) ++ textB e.key) ++ numB e.asked.toNat 6) ++ numB e.came.toNat 6).length ≤ 700000 by simp only [List.length_append, textB_len, numB_len, List.length_nil]; have h1 := textsB_len (k := 30) hE.each (by have := hE.names; omega); have h2 := fldsB_len (k := 80) hE.fld (by have := hE.flds; omega); omega)
  have HLEN7 := hid (show ((((((([] ++ textB e.second) ++ (numB e.names.length 2 ++ textsB e.names)) ++ numB e.gen.toNat 6) ++ textB e.key) ++ numB e.asked.toNat 6) ++ numB e.came.toNat 6) ++ numB e.status.toNat 6).length ≤ 800000 by simp only [List.length_append, textB_len, numB_len, List.length_nil]; have h1 := textsB_len (k := 30) hE.each (by have := hE.names; omega); have h2 := fldsB_len (k := 80) hE.fld (by have := hE.flds; omega); omega)
  have HLEN8 := hid (show (((((((([] ++ textB e.second) ++ (numB e.names.length 2 ++ textsB e.names)) ++ numB e.gen.toNat 6) ++ textB e.key) ++ numB e.asked.toNat 6) ++ numB e.came.toNat 6) ++ numB e.status.toNat 6) ++ (numB e.fields.length 2 ++ fldsB e.fields)).length ≤ 900000 by simp only [List.length_append, textB_len, numB_len, List.length_nil]; have h1 := textsB_len (k := 30) hE.each (by have := hE.names; omega); have h2 := fldsB_len (k := 80) hE.fld (by have := hE.flds; omega); omega)
  have HLEN9 := hid (show ((((((((([] ++ textB e.second) ++ (numB e.names.length 2 ++ textsB e.names)) ++ numB e.gen.toNat 6) ++ textB e.key) ++ numB e.asked.toNat 6) ++ numB e.came.toNat 6) ++ numB e.status.toNat 6) ++ (numB e.fields.length 2 ++ fldsB e.fields)) ++ textB e.body).length ≤ 1000000 by simp only [List.length_append, textB_len, numB_len, List.length_nil]; have h1 := textsB_len (k := 30) hE.each (by have := hE.names; omega); have h2 := fldsB_len (k := 80) hE.fld (by have := hE.flds; omega); omega)
  clear hat hbW q0 hE
  have ho0 : OwnL 5 w0 w0.heap.size (.slice none 0 0) [] := World.ownsRow_nil _ _ _ _
  have O0 := hid ho0
  clear ho0
  have c1 : w0.cell? ⟨w.heap.size, 1, none⟩ = some (strV e.second) := by exact (RQ0.out.below HB0.out).cell 1
  have hl0 : ([] : List UInt8).length ≤ 100 := by simp
  go_enter Tryd.func26, Tryd.ntmps26
  go_wp2_with fail
  try rw [hw0]
  refine (putText_any _ w0.heap.size [] e.second w0 O0.out HB0.out.size (by omega) (by omega)).mono ?_
  clear hw0
  rintro x w1 ⟨v1, rfl, ho, hi, hk⟩
  have HB1 := hid (HB0.out.trans (hk.below (fun k e _ => (O0.out.lt k e).1) HB0.out.size))
  have O1 := hid ho
  clear ho hi hk c1
  have c2 : w1.cell? ⟨w.heap.size, 2, none⟩ = some (.slice no e.names.length nc) := by exact (RQ0.out.below HB1.out).cell 2
  have hl1 : (([] ++ textB e.second) : List UInt8).length ≤ 200000 := by have := HLEN1.out; omega
  go_wp2_with fail
  refine (putNames_any _ _ ([] ++ textB e.second) e.names w0 w1 HAT.out.names HB1.out O1.out (by omega) (by omega) (fun s hs => by have := HEA.out s hs; omega)).mono ?_
  rintro x w2 ⟨⟨v2, rfl, ho⟩, hb⟩
  have HB2 := hid (HB1.out.trans hb)
  have O2 := hid ho
  clear ho hb c2
  have c8 : w2.cell? ⟨w.heap.size, 8, none⟩ = some (.int .i64 e.gen) := by exact (RQ0.out.below HB2.out).cell 8
  have hl2 : ((([] ++ textB e.second) ++ (numB e.names.length 2 ++ textsB e.names)) : List UInt8).length ≤ 300000 := by have := HLEN2.out; omega
  go_wp2_with fail
  refine (putNumber_z _ w0.heap.size (([] ++ textB e.second) ++ (numB e.names.length 2 ++ textsB e.names)) e.gen e.gen.toNat w2 (by omega) O2.out HB2.out.size (by omega) (by omega)).mono ?_
  rintro x w3 ⟨v3, rfl, ho, hi, hk⟩
  have HB3 := hid (HB2.out.trans (hk.below (fun k e _ => (O2.out.lt k e).1) HB2.out.size))
  have O3 := hid ho
  clear ho hi hk c8
  have c0 : w3.cell? ⟨w.heap.size, 0, none⟩ = some (strV e.key) := by exact (RQ0.out.below HB3.out).cell 0
  have hl3 : (((([] ++ textB e.second) ++ (numB e.names.length 2 ++ textsB e.names)) ++ numB e.gen.toNat 6) : List UInt8).length ≤ 400000 := by have := HLEN3.out; omega
  go_wp2_with fail
  refine (putText_any _ w0.heap.size ((([] ++ textB e.second) ++ (numB e.names.length 2 ++ textsB e.names)) ++ numB e.gen.toNat 6) e.key w3 O3.out HB3.out.size (by omega) (by omega)).mono ?_
  rintro x w4 ⟨v4, rfl, ho, hi, hk⟩
  have HB4 := hid (HB3.out.trans (hk.below (fun k e _ => (O3.out.lt k e).1) HB3.out.size))
  have O4 := hid ho
  clear ho hi hk c0
  have c3 : w4.cell? ⟨w.heap.size, 3, none⟩ = some (.int .i64 e.asked) := by exact (RQ0.out.below HB4.out).cell 3
  have hl4 : ((((([] ++ textB e.second) ++ (numB e.names.length 2 ++ textsB e.names)) ++ numB e.gen.toNat 6) ++ textB e.key) : List UInt8).length ≤ 500000 := by have := HLEN4.out; omega
  go_wp2_with fail
  refine (putNumber_z _ w0.heap.size (((([] ++ textB e.second) ++ (numB e.names.length 2 ++ textsB e.names)) ++ numB e.gen.toNat 6) ++ textB e.key) e.asked e.asked.toNat w4 (by omega) O4.out HB4.out.size (by omega) (by omega)).mono ?_
  rintro x w5 ⟨v5, rfl, ho, hi, hk⟩
  have HB5 := hid (HB4.out.trans (hk.below (fun k e _ => (O4.out.lt k e).1) HB4.out.size))
  have O5 := hid ho
  clear ho hi hk c3
  have c4 : w5.cell? ⟨w.heap.size, 4, none⟩ = some (.int .i64 e.came) := by exact (RQ0.out.below HB5.out).cell 4
  have hl5 : (((((([] ++ textB e.second) ++ (numB e.names.length 2 ++ textsB e.names)) ++ numB e.gen.toNat 6) ++ textB e.key) ++ numB e.asked.toNat 6) : List UInt8).length ≤ 600000 := by have := HLEN5.out; omega
  go_wp2_with fail
  refine (putNumber_z _ w0.heap.size ((((([] ++ textB e.second) ++ (numB e.names.length 2 ++ textsB e.names)) ++ numB e.gen.toNat 6) ++ textB e.key) ++ numB e.asked.toNat 6) e.came e.came.toNat w5 (by omega) O5.out HB5.out.size (by omega) (by omega)).mono ?_
  rintro x w6 ⟨v6, rfl, ho, hi, hk⟩
  have HB6 := hid (HB5.out.trans (hk.below (fun k e _ => (O5.out.lt k e).1) HB5.out.size))
  have O6 := hid ho
  clear ho hi hk c4
  have c5 : w6.cell? ⟨w.heap.size, 5, none⟩ = some (.int .i64 e.status) := by exact (RQ0.out.below HB6.out).cell 5
  have hl6 : ((((((([] ++ textB e.second) ++ (numB e.names.length 2 ++ textsB e.names)) ++ numB e.gen.toNat 6) ++ textB e.key) ++ numB e.asked.toNat 6) ++ numB e.came.toNat 6) : List UInt8).length ≤ 700000 := by have := HLEN6.out; omega
  go_wp2_with fail
  refine (putNumber_z _ w0.heap.size (((((([] ++ textB e.second) ++ (numB e.names.length 2 ++ textsB e.names)) ++ numB e.gen.toNat 6) ++ textB e.key) ++ numB e.asked.toNat 6) ++ numB e.came.toNat 6) e.status e.status.toNat w6 (by omega) O6.out HB6.out.size (by omega) (by omega)).mono ?_
  rintro x w7 ⟨v7, rfl, ho, hi, hk⟩
  have HB7 := hid (HB6.out.trans (hk.below (fun k e _ => (O6.out.lt k e).1) HB6.out.size))
  have O7 := hid ho
  clear ho hi hk c5
  have c6 : w7.cell? ⟨w.heap.size, 6, none⟩ = some (.slice fo e.fields.length fc) := by exact (RQ0.out.below HB7.out).cell 6
  have hl7 : (((((((([] ++ textB e.second) ++ (numB e.names.length 2 ++ textsB e.names)) ++ numB e.gen.toNat 6) ++ textB e.key) ++ numB e.asked.toNat 6) ++ numB e.came.toNat 6) ++ numB e.status.toNat 6) : List UInt8).length ≤ 800000 := by have := HLEN7.out; omega
  go_wp2_with fail
  refine (putFields_any _ _ ((((((([] ++ textB e.second) ++ (numB e.names.length 2 ++ textsB e.names)) ++ numB e.gen.toNat 6) ++ textB e.key) ++ numB e.asked.toNat 6) ++ numB e.came.toNat 6) ++ numB e.status.toNat 6) e.fields w0 w7 HAT.out.flds HB7.out O7.out (by omega) (by omega) (fun f hf => by have := HEF.out f hf; omega)).mono ?_
  rintro x w8 ⟨⟨v8, rfl, ho⟩, hb⟩
  have HB8 := hid (HB7.out.trans hb)
  have O8 := hid ho
  clear ho hb c6
  have c7 : w8.cell? ⟨w.heap.size, 7, none⟩ = some (.slice bo e.body.length bc) := by exact (RQ0.out.below HB8.out).cell 7
  have hl8 : ((((((((([] ++ textB e.second) ++ (numB e.names.length 2 ++ textsB e.names)) ++ numB e.gen.toNat 6) ++ textB e.key) ++ numB e.asked.toNat 6) ++ numB e.came.toNat 6) ++ numB e.status.toNat 6) ++ (numB e.fields.length 2 ++ fldsB e.fields)) : List UInt8).length ≤ 900000 := by have := HLEN8.out; omega
  have hcv := reads_string (P := Tryd.prog) (HAT.out.body.below HB8.out) 25 9 5 Tryd.underlying25 Tryd.underlying5 Tryd.underlying9
  go_wp2_with fail
  refine (putText_any _ w0.heap.size (((((((([] ++ textB e.second) ++ (numB e.names.length 2 ++ textsB e.names)) ++ numB e.gen.toNat 6) ++ textB e.key) ++ numB e.asked.toNat 6) ++ numB e.came.toNat 6) ++ numB e.status.toNat 6) ++ (numB e.fields.length 2 ++ fldsB e.fields)) e.body w8 O8.out HB8.out.size (by omega) (by omega)).mono ?_
  rintro x w9 ⟨v9, rfl, ho, hi, hk⟩
  have HB9 := hid (HB8.out.trans (hk.below (fun k e _ => (O8.out.lt k e).1) HB8.out.size))
  have O9 := hid ho
  clear ho hi hk c7
  go_wp2_with fail
  go_ret
  have e0 : restB 3 e = ((((((((([] ++ textB e.second) ++ (numB e.names.length 2 ++ textsB e.names)) ++ numB e.gen.toNat 6) ++ textB e.key) ++ numB e.asked.toNat 6) ++ numB e.came.toNat 6) ++ numB e.status.toNat 6) ++ (numB e.fields.length 2 ++ fldsB e.fields)) ++ textB e.body) := by
    unfold restB headB tailB
    simp [List.append_assoc]
  refine ⟨⟨v9, rfl, ?_⟩, chain2 HW.out HW.out.size HB9.out⟩
  have h := O9.out
  rw [← e0] at h
  exact h.base HW.out.size
end Go.Proofs.YtdkhkeffheleeaaDoor
/-
  Contracts of package entry: the reader: take, count, number, text, field, lists.
-/
set_option linter.unusedVariables false
set_option linter.unusedSimpArgs false
namespace Go.Pantry
open Go.RowKit
theorem slice_high_in {P : Program} (t : TypeId) (ht : P.underlying t = some (.slice (P.elem t))) (h1 : ∀ W, (sizeOf (P.elem t)).run P W = .ok 1 W) {w : World} {ao : Option Addr} {cap : Nat} {l : List UInt8} (h : Bytes w (.slice ao l.length cap) l) (k : Nat) (hk : k ≤ l.length) :
    (∀ W, (Instr.slice t (.slice ao l.length cap) none (some (.int .i64 (k : Int))) none).run P W = .ok (.slice ao k cap) W) ∧ Bytes w (.slice ao k cap) (l.take k) := by
  obtain ⟨ao0, cap0, hv0, hc, hr⟩ := h
  cases hv0
  have hl : (l.take k).length = k := by rw [List.length_take]; omega
  refine ⟨fun W => ?_, ?_⟩
  · rw [run_slice_h W t ao l.length cap ht .i64 (k : Int) (by omega) (by omega)]
    try rw [h1]
    simp only [Result.andThen, sliced, Int.toNat_natCast, Nat.sub_zero]
    have e0 : ∀ a : Addr, a.add 0 = a := fun a => by unfold Addr.add; split <;> simp_all
    cases ao with
    | none => simp
    | some a => simp [e0]
  · refine ⟨ao, cap, by rw [hl], by omega, ?_⟩
    have hh := hr.take k (by rw [List.length_map]; exact hk)
    rw [List.map_take]
    exact hh
/-- what a taking of n bytes leaves -/
def Took (n : Nat) (st : Option (List UInt8)) (t : List UInt8) (st' : Option (List UInt8)) : Prop :=
  (st = none → st' = none) ∧ ∀ l, st = some l → (l.length < n → st' = none) ∧ (¬ l.length < n → t = l.take n ∧ st' = some (l.drop n))
theorem Took.num {n : Nat} {st st' : Option (List UInt8)} {t : List UInt8} (h : Took n st t st') : NumAt n st (numN t) st' := by
  obtain ⟨h1, h2⟩ := h
  cases st with
  | none => rw [h1 rfl]; exact NumAt.nil _ _
  | some l =>
    obtain ⟨h3, h4⟩ := h2 l rfl
    by_cases hl : l.length < n
    · rw [h3 hl]; exact NumAt.lack hl
    · obtain ⟨rfl, rfl⟩ := h4 hl
      exact NumAt.there hl
theorem Took.text {n : Nat} {st st1 st' : Option (List UInt8)} {t : List UInt8} (h0 : NumAt 2 st n st1) (h : Took n st1 t st') : TextAt st t st' := by
  obtain ⟨h1, h2⟩ := h
  obtain ⟨g1, g2⟩ := TextAt.of h0
  cases st1 with
  | none => rw [h1 rfl]; exact g1 rfl t
  | some l =>
    obtain ⟨h3, h4⟩ := h2 l rfl
    obtain ⟨g3, g4⟩ := g2 l rfl
    by_cases hl : l.length < n
    · rw [h3 hl]; exact g3 hl t
    · obtain ⟨rfl, rfl⟩ := h4 hl
      exact g4 hl
end Go.Pantry
namespace Go.Proofs.YtdkhkeffheleeaaDoor
open Go.RowKit Go.Pantry

/-- the code's reader in its box g -/
structure KAt (w : World) (g : Nat) (st : Option (List UInt8)) : Prop where
  ex : ∃ (v : Value) (l : List UInt8) (bad : Bool), rowIs w g #[v, .bool bad] 87 ∧ Bytes w v l ∧ In (fun k => k < g) v ∧ bad = st.isNone ∧ (∀ r, st = some r → r = l) ∧ l.length ≤ 100000
theorem KAt.lt {w : World} {g : Nat} {st : Option (List UInt8)} (h : KAt w g st) : g < w.heap.size := by
  obtain ⟨v, l, bad, h1, -⟩ := h.ex
  exact h1.lt
theorem KAt.kept {X : Nat → Prop} {w w' : World} {g : Nat} {st : Option (List UInt8)} (h : KAt w g st) (hk : Kept X w w') (hx : ∀ k, k ≤ g → ¬ X k) : KAt w' g st := by
  obtain ⟨v, l, bad, h1, h2, h3, h4⟩ := h.ex
  exact ⟨⟨v, l, bad, h1.kept hk (hx g (Nat.le_refl _)), Pantry.bytes_kept h2 hk (fun k e => hx k (Nat.le_of_lt (h3 k e))), h3, h4⟩⟩
theorem KAt.below {w w' : World} {g : Nat} {st : Option (List UInt8)} (h : KAt w g st) (hb : Below w.heap.size w w') : KAt w' g st := h.kept (Kept.of_below (X := fun _ => False) hb) (fun _ _ h => h)
/-- what a method of the reader leaves -/
def KPost (w : World) (g : Nat) (x : Value) (st' : Option (List UInt8)) (e : Ending) (w' : World) : Prop := e = .returned x ∧ KAt w' g st' ∧ Kept (fun k => k = g) w w'
set_option maxRecDepth 8000 in
set_option maxHeartbeats 4000000 in
theorem take_any (g n : Nat) (st : Option (List UInt8)) (w : World) (h : KAt w g st) (hn : n ≤ 1000000) :
    Calls Tryd.prog 71 #[.pointer (some ⟨g, 0, none⟩), .int .i64 (n : Int)] w fun e w' => ∃ tv t st', e = .returned tv ∧ Bytes w' tv t ∧ In (fun k => k < g) tv ∧ t.length ≤ n ∧ Took n st t st' ∧ KAt w' g st' ∧ Kept (fun k => k = g) w w' := by
  obtain ⟨v, l, bad, hr, hb, hi, hbad, hl, hll⟩ := h.ex
  obtain ⟨ao, cap, rfl, hc⟩ := bytes_form hb
  have HR := hid hr
  have HBY := hid hb
  have HI := hid hi
  have hlt := hr.lt
  obtain ⟨m, hm⟩ : ∃ m, l.length = m := ⟨_, rfl⟩
  have HM := hid hm
  rw [hm] at hll hc
  have c0 : w.cell? ⟨g, 0, none⟩ = some (.slice ao m cap) := by rw [← hm]; exact hr.cell 0
  have c1 : w.cell? ⟨g, 1, none⟩ = some (.bool bad) := hr.cell 1
  have f0 := hr.free 0
  have f1 := hr.free 1
  have HL := hid (And.intro hbad hl)
  by_cases hgt : (m : Int) < (n : Int)
  · have d1 : decide ((m : Int) < (n : Int)) = true := decide_eq_true hgt
    have hset : rowIs (w.setCell ⟨g, 1, none⟩ (.bool true)) g #[.slice ao l.length cap, .bool true] 87 := hr.setCell 1 _
    have kk := (Kept.refl (fun k => k = g) w).setCell (g := g) (i := 1) (.inl rfl) (.bool true)
    have hK : KAt (w.setCell ⟨g, 1, none⟩ (.bool true)) g none := ⟨⟨_, l, true, hset, Pantry.bytes_kept hb kk (fun k e h => by have := hi k e; omega), hi, rfl, (fun r h => by cases h), by rw [hm]; exact hll⟩⟩
    have HK := hid (And.intro hK kk)
    clear hr hb hi hbad hl hset kk hK h hm
    go_enter Tryd.func71, Tryd.ntmps71
    go_wp2_with fail
    go_ret
    refine ⟨_, [], none, rfl, ⟨none, 0, rfl, Nat.le_refl _, ⟨none, 0, rfl, (fun j u hj => by cases hj), fun _ => rfl⟩⟩, (fun k e => by cases e), Nat.zero_le _, ⟨fun _ => rfl, fun r hr => ⟨fun _ => rfl, fun hh => absurd (show r.length < n by rw [HL.out.2 r hr, HM.out]; omega) hh⟩⟩, HK.out.1, HK.out.2⟩
  · have d1 : decide ((m : Int) < (n : Int)) = false := decide_eq_false hgt
    have hnm : n ≤ l.length := by omega
    obtain ⟨hs1, hb1⟩ := slice_high_in (P := Tryd.prog) 25 (by kernel_rfl) (fun _ => by kernel_rfl) hb n hnm
    obtain ⟨ao2, cap2, hs2, hb2, hi2⟩ := slice_low_in (P := Tryd.prog) 25 (by kernel_rfl) (fun _ => by kernel_rfl) hb n hnm
    have hi3 : In (fun k => k < g) (.slice ao2 (l.length - n) cap2) := fun k e => hi k (hi2 k e)
    have hi1 : In (fun k => k < g) (.slice ao n cap) := fun k e => hi k (by cases ao with | none => cases e | some a => exact e)
    have hset : rowIs (w.setCell ⟨g, 0, none⟩ (.slice ao2 (l.length - n) cap2)) g #[.slice ao2 (l.length - n) cap2, .bool bad] 87 := hr.setCell 0 _
    have kk := (Kept.refl (fun k => k = g) w).setCell (g := g) (i := 0) (.inl rfl) (.slice ao2 (l.length - n) cap2)
    have hK : KAt (w.setCell ⟨g, 0, none⟩ (.slice ao2 (l.length - n) cap2)) g (st.map fun r => r.drop n) := by
      refine ⟨⟨_, l.drop n, bad, hset, Pantry.bytes_kept hb2 kk (fun k e h => by have := hi3 k e; omega), hi3, ?_, ?_, by rw [List.length_drop]; omega⟩⟩
      · rw [hbad]; cases st <;> rfl
      · intro r hr
        cases st with
        | none => cases hr
        | some r0 => cases hr; rw [hl r0 rfl]
    have ht : Bytes (w.setCell ⟨g, 0, none⟩ (.slice ao2 (l.length - n) cap2)) (.slice ao n cap) (l.take n) := Pantry.bytes_kept hb1 kk (fun k e h => by have := hi1 k e; omega)
    have HK := hid (And.intro hK (And.intro kk (And.intro ht hi1)))
    rw [hm] at hs1 hs2
    have HS1 := hid hs1
    have HS2 := hid hs2
    rw [hm] at HK
    clear hr hb hi hbad hl hset kk hK h hm hs1 hs2 hb1 hb2 hi2 hi3 hi1 ht
    go_enter Tryd.func71, Tryd.ntmps71
    go_wp2_with (first | (refine wpList_slice_high rfl 25 _ _ rfl rfl rfl (by kernel_rfl) (HS1.out _) ?_) | (refine wpList_slice_low rfl 25 _ _ rfl rfl rfl (by kernel_rfl) (HS2.out _) ?_))
    go_ret
    obtain ⟨k1, k2, k3, k4⟩ := HK.out
    have htl : (l.take n).length ≤ n := by rw [List.length_take]; omega
    have htk : Took n st (l.take n) (st.map fun r => r.drop n) := by
      refine ⟨fun e => by rw [e]; rfl, fun r hr => ⟨fun hh => ?_, fun hh => ?_⟩⟩
      · have := HL.out.2 r hr; rw [this] at hh; omega
      · rw [hr, HL.out.2 r hr]; exact ⟨rfl, rfl⟩
    exact ⟨_, rfl, _, k3, k4, htl, _, htk, k1, k2⟩

set_option maxRecDepth 8000 in
theorem count_any (g : Nat) (st : Option (List UInt8)) (w : World) (h : KAt w g st) :
    Calls Tryd.prog 72 #[.pointer (some ⟨g, 0, none⟩)] w fun e w' => ∃ (n : Nat) (st' : Option (List UInt8)), n < 256 ^ 2 ∧ NumAt 2 st n st' ∧ KPost w g (.int .i64 (n : Int)) st' e w' := by
  have C := hid (take_any g 2 st w h (by decide))
  clear h
  go_enter Tryd.func72, Tryd.ntmps72
  go_wp2_with fail
  refine C.out.mono ?_
  rintro e w1 ⟨tv, t, st1, rfl, hb, hi, htl, htk, hk1, hk2⟩
  have C2 := hid (numberOf_any tv t w1 (bytesRead hb) (by omega))
  have HK := hid (And.intro hk1 (And.intro hk2 htk))
  have hlt : numN t < 256 ^ 2 := by
    have h := (numB_numN t.length t rfl).2
    have h3 : 256 ^ t.length ≤ 256 ^ 2 := Nat.pow_le_pow_right (by decide) htl
    omega
  have HLT := hid hlt
  clear hb hi htl htk hk1 hk2 hlt C
  go_wp2_with fail
  refine C2.out.mono ?_
  rintro e w2 ⟨rfl, hb2⟩
  have HB2 := hid hb2
  clear hb2
  go_wp2_with fail
  go_ret
  exact ⟨numN t, st1, HLT.out, HK.out.2.2.num, rfl, HK.out.1.below HB2.out, HK.out.2.1.then HB2.out⟩

set_option maxRecDepth 8000 in
theorem number_any (g : Nat) (st : Option (List UInt8)) (w : World) (h : KAt w g st) :
    Calls Tryd.prog 62 #[.pointer (some ⟨g, 0, none⟩)] w fun e w' => ∃ (n : Nat) (st' : Option (List UInt8)), n < 256 ^ 6 ∧ NumAt 6 st n st' ∧ KPost w g (.int .i64 (n : Int)) st' e w' := by
  have C := hid (take_any g 6 st w h (by decide))
  clear h
  go_enter Tryd.func62, Tryd.ntmps62
  go_wp2_with fail
  refine C.out.mono ?_
  rintro e w1 ⟨tv, t, st1, rfl, hb, hi, htl, htk, hk1, hk2⟩
  have C2 := hid (numberOf_any tv t w1 (bytesRead hb) (by omega))
  have HK := hid (And.intro hk1 (And.intro hk2 htk))
  have hlt : numN t < 256 ^ 6 := by
    have h := (numB_numN t.length t rfl).2
    have h3 : 256 ^ t.length ≤ 256 ^ 6 := Nat.pow_le_pow_right (by decide) htl
    omega
  have HLT := hid hlt
  clear hb hi htl htk hk1 hk2 hlt C
  go_wp2_with fail
  refine C2.out.mono ?_
  rintro e w2 ⟨rfl, hb2⟩
  have HB2 := hid hb2
  clear hb2
  go_wp2_with fail
  go_ret
  exact ⟨numN t, st1, HLT.out, HK.out.2.2.num, rfl, HK.out.1.below HB2.out, HK.out.2.1.then HB2.out⟩

set_option maxRecDepth 8000 in
set_option maxHeartbeats 4000000 in
theorem text_any (g : Nat) (st : Option (List UInt8)) (w : World) (h : KAt w g st) :
    Calls Tryd.prog 60 #[.pointer (some ⟨g, 0, none⟩)] w fun e w' => ∃ (s : List UInt8) (st' : Option (List UInt8)), s.length ≤ 65535 ∧ TextAt st s st' ∧ KPost w g (strV s) st' e w' := by
  have C := hid (count_any g st w h)
  clear h
  go_enter Tryd.func60, Tryd.ntmps60
  go_wp2_with fail
  refine C.out.mono ?_
  rintro e w1 ⟨n, st1, hlt, hn, rfl, hk1, hk2⟩
  have C2 := hid (take_any g n st1 w1 hk1 (by omega))
  have HK := hid (And.intro hn hk2)
  clear hn hk1 hk2 C
  go_wp2_with fail
  refine C2.out.mono ?_
  rintro e w2 ⟨tv, t, st2, rfl, hb, hi, htl, htk, hk1, hk2⟩
  have hcv := reads_string (P := Tryd.prog) (bytesRead hb) 25 9 5 Tryd.underlying25 Tryd.underlying5 Tryd.underlying9
  have HK2 := hid (And.intro hk1 (And.intro hk2 htk))
  clear hb hi htk hk1 hk2 C2
  go_wp2_with fail
  go_ret
  exact ⟨t, st2, by omega, HK2.out.2.2.text HK.out.1, rfl, HK2.out.1, HK.out.2.trans HK2.out.2.1 (fun k e _ => e)⟩
theorem infoFldG : (Tryd.prog.info? 53).map (·.size) = some 2 := by kernel_rfl
theorem oneFldG (a b : List UInt8) : (#[strV a, strV b] : Array Value).all (·.oneCell') = true := by simp [Value.oneCell']
set_option maxRecDepth 8000 in
set_option maxHeartbeats 4000000 in
theorem fieldK_any (g : Nat) (st : Option (List UInt8)) (w : World) (h : KAt w g st) :
    Calls Tryd.prog 64 #[.pointer (some ⟨g, 0, none⟩)] w fun e w' => ∃ (f : Fld) (st' : Option (List UInt8)), (f.1.length ≤ 65535 ∧ f.2.length ≤ 65535) ∧ FldAt st f st' ∧ KPost w g (.agg #[strV f.1, strV f.2]) st' e w' := by
  obtain ⟨W, hW⟩ : ∃ W, w.alloc (.cells #[.string ⟨#[]⟩, .string ⟨#[]⟩] 53) = W := ⟨_, rfl⟩
  have hbW : Below w.heap.size w W := by rw [← hW]; exact below_alloc _ _
  have hrow : rowIs W w.heap.size #[.string ⟨#[]⟩, .string ⟨#[]⟩] 53 := by rw [← hW]; exact rowIs_new _ _ _
  have hlt := h.lt
  have C := hid (text_any g st W (h.below hbW))
  have HB := hid hbW
  have HR := hid hrow
  clear h hrow hbW
  go_enter Tryd.func64, Tryd.ntmps64
  go_wp2_with fail
  try rw [hW]
  clear hW
  refine C.out.mono ?_
  rintro e w1 ⟨a, st1, hal, ha, rfl, hk1, hk2⟩
  have C2 := hid (text_any g st1 w1 hk1)
  have HR1 := hid (HR.out.kept hk2 (by omega))
  have HK := hid (And.intro ha hk2)
  clear ha hk1 hk2 C
  go_wp2_with fail
  refine C2.out.mono ?_
  rintro e w2 ⟨b, st2, hbl, hb, rfl, hk3, hk4⟩
  have hR2 := HR1.out.kept hk4 (show ¬ w.heap.size = g by omega)
  have kw : Kept (fun k => k = g) w w2 := ((Kept.of_below HB.out).trans HK.out.2 (fun k e _ => e)).trans hk4 (fun k e _ => e)
  have kk := (Kept.refl (fun k => k = w.heap.size) w2).setRow (g := w.heap.size) (.inl rfl) #[strV a, strV b]
  have HK2 := hid (And.intro (hk3.kept kk (fun k hk e => by omega)) (And.intro (kw.trans kk (fun k e hl => by omega)) hb))
  clear hb hk3 hk4 C2 kw kk
  go_wp2_with (refine wpList_store_row rfl 53 _ _ rfl w.heap.size _ rfl rfl 53 #[.string ⟨#[]⟩, .string ⟨#[]⟩] hR2 infoFldG rfl (oneFldG _ _) ?_)
  refine bodyPost_ret (results_row Tryd.results64 _ _ w.heap.size #[strV a, strV b] rfl (hR2.setRow _) Tryd.underlying53 rfl infoFldG) rfl ?_
  exact ⟨(a, b), st2, ⟨hal, hbl⟩, FldAt.of HK.out.1 HK2.out.2.2, rfl, HK2.out.1, HK2.out.2.1⟩

set_option maxRecDepth 8000 in
set_option maxHeartbeats 4000000 in
theorem namesK_any (g : Nat) (st : Option (List UInt8)) (w : World) (h : KAt w g st) :
    Calls Tryd.prog 61 #[.pointer (some ⟨g, 0, none⟩), .func (.func 60) #[.pointer (some ⟨g, 0, none⟩)] #[]] w fun e w' => ∃ (n : Nat) (st1 : Option (List UInt8)) (L : List (List UInt8)) (lv : Value) (st' : Option (List UInt8)), NumAt 2 st n st1 ∧ TextsAt st1 n L st' ∧ w'.ownsRow w.heap.size 9 1 lv L.length (L.map strV) ∧ KPost w g lv st' e w' := by
  have C := hid (count_any g st w h)
  have HLT := hid h.lt
  clear h
  go_enter Tryd.func61, Tryd.ntmps61
  go_wp2_with fail
  refine C.out.mono ?_
  rintro e w1 ⟨n, st1, hlt, hn, rfl, hk1, hk2⟩
  have HK1 := hid (And.intro hk1 (And.intro hk2 hn))
  clear hk1 hk2 hn C
  have hn2 : n < 65536 := hlt
  clear hlt
  go_wp2_with fail
  go_loopw [5, 6] (fun lv i wr => ∃ (k : Nat) (L : List (List UInt8)) (s2 : Option (List UInt8)), i = .int .i64 ((n - k : Nat) : Int) ∧ k ≤ n ∧ L.length = k ∧ wr.ownsRow w.heap.size 9 1 lv L.length (L.map strV) ∧ TextsAt st1 k L s2 ∧ KAt wr g s2 ∧ Kept (fun k => k = g) w wr) (fun _ i _ => (intOf i).toNat)
  case atStart => exact ⟨0, [], st1, rfl, Nat.zero_le _, rfl, World.ownsRow_nil _ _ _ _, TextsAt.zero _, HK1.out.1, HK1.out.2.1⟩
  case round =>
    obtain ⟨k, L, s2, rfl, hk, hL, ho, hat, hka, hkk⟩ := hrel
    obtain ⟨v, l, bad, hrow, hby, hin, hbad, -⟩ := hka.ex
    have c1 : wr.cell? ⟨g, 1, none⟩ = some (.bool bad) := hrow.cell 1
    obtain ⟨lo, lc, hlv⟩ := ho.reads.form
    rw [List.length_map] at hlv
    subst hlv
    have HAT := hid hat
    have HKA := hid hka
    have HKK := hid hkk
    have HO := hid ho
    have HL := hid hL
    have hways : (k < n ∧ s2.isNone = false) ∨ ((k < n ∧ s2 = none) ∨ k = n) := by
      by_cases h1 : k < n
      · cases s2 with
        | none => exact .inr (.inl ⟨h1, rfl⟩)
        | some _ => exact .inl ⟨h1, rfl⟩
      · exact .inr (.inr (by omega))
    clear hat hka hkk ho hrow hby hin hL
    rcases hways with ⟨hlt, hsome⟩ | hways
    · have hb0 : bad = false := by rw [hbad, hsome]
      subst hb0
      have hpos : (0 : Int) < ((n - k : Nat) : Int) := by omega
      have dpos : decide ((0 : Int) < ((n - k : Nat) : Int)) = true := decide_eq_true hpos
      have hkw : IntKind.i64.wrap (((n - k : Nat) : Int) - 1) = ((n - (k + 1) : Nat) : Int) := by rw [IntWalk.i64_in _ (by omega)]; omega
      have HKW := hid hkw
      clear hsome hbad
      go_wp2_with fail
      refine (text_any g s2 wr HKA.out).mono ?_
      rintro e w2 ⟨f, s3, hfl, hf, rfl, hk3, hk4⟩
      have HF := hid (And.intro hf (And.intro hk3 (HKK.out.trans hk4 (fun k e _ => e))))
      have ho2 := ownsRow_kept HO.out hk4 (fun k e h => by have := (HO.out.lt k e).1; have := HLT.out; omega)
      have hsz : w.heap.size ≤ w2.heap.size := HF.out.2.2.size
      have HO2 := hid ho2
      have hLn : L.length + 1 < 4294967296 := by rw [HL.out]; omega
      clear hf hk3 hk4 ho2
      go_wp2_with (at_builtin; refine wpList_append_oneE _ rfl _ _ 22 rfl w.heap.size 9 Tryd.underlying22 infoStr rfl (by decide) rfl HO2.out rfl rfl hLn hsz ?_; intro v5 w5 ho5 hi5 hk5)
      have HK5 := hid (And.intro (HF.out.2.1.kept hk5 (fun k hk e => by have := (HO.out.lt k e).1; have := HLT.out; omega)) (HF.out.2.2.trans hk5 (fun k e hl => by have := (HO.out.lt k e).1; omega)))
      have HO5 := hid ho5
      clear ho5 hi5 hk5
      go_roundw
      case rel => exact ⟨k + 1, L ++ [f], s3, by first | rfl | (rw [HKW.out]) | simp [HKW.out], hlt, by rw [List.length_append, HL.out]; rfl, by rw [List.length_append, List.map_append]; exact HO5.out, HAT.out.next HF.out.1, HK5.out.1, HK5.out.2⟩
      case measure => simp [intOf]; omega
    · have hend : TextsAt st1 n L s2 := by
        rcases hways with ⟨h1, h2⟩ | h1
        · subst h2; exact HAT.out.end_ (Nat.le_of_lt h1) L
        · rw [← h1]; exact HAT.out
      have HEND := hid hend
      clear hend HAT
      rcases hways with ⟨h1, h2⟩ | h1
      focus
        have hb1 : bad = true := by rw [hbad, h2]; rfl
        have hpos : (0 : Int) < ((n - k : Nat) : Int) := by omega
        have dpos : decide ((0 : Int) < ((n - k : Nat) : Int)) = true := decide_eq_true hpos
        clear h1 h2 hbad
        subst hb1
      rotate_left
      focus
        have hn0 : n - k = 0 := by omega
        rw [hn0]
        clear h1 hbad
      all_goals
        go_wp2_with fail
        go_ret
        exact ⟨n, st1, L, _, s2, HK1.out.2.2, HEND.out, HO.out, rfl, HKA.out, HKK.out⟩

set_option maxRecDepth 8000 in
set_option maxHeartbeats 4000000 in
theorem fieldsK_any (g : Nat) (st : Option (List UInt8)) (w : World) (h : KAt w g st) :
    Calls Tryd.prog 63 #[.pointer (some ⟨g, 0, none⟩), .func (.func 64) #[.pointer (some ⟨g, 0, none⟩)] #[]] w fun e w' => ∃ (n : Nat) (st1 : Option (List UInt8)) (L : List Fld) (lv : Value) (st' : Option (List UInt8)), NumAt 2 st n st1 ∧ FldsAt st1 n L st' ∧ w'.ownsRow w.heap.size 53 2 lv L.length (fldCells L) ∧ KPost w g lv st' e w' := by
  have C := hid (count_any g st w h)
  have HLT := hid h.lt
  clear h
  go_enter Tryd.func63, Tryd.ntmps63
  go_wp2_with fail
  refine C.out.mono ?_
  rintro e w1 ⟨n, st1, hlt, hn, rfl, hk1, hk2⟩
  have HK1 := hid (And.intro hk1 (And.intro hk2 hn))
  clear hk1 hk2 hn C
  have hn2 : n < 65536 := hlt
  clear hlt
  go_wp2_with fail
  go_loopw [5, 6] (fun lv i wr => ∃ (k : Nat) (L : List Fld) (s2 : Option (List UInt8)), i = .int .i64 ((n - k : Nat) : Int) ∧ k ≤ n ∧ L.length = k ∧ wr.ownsRow w.heap.size 53 2 lv L.length (fldCells L) ∧ FldsAt st1 k L s2 ∧ KAt wr g s2 ∧ Kept (fun k => k = g) w wr) (fun _ i _ => (intOf i).toNat)
  case atStart => exact ⟨0, [], st1, rfl, Nat.zero_le _, rfl, World.ownsRow_nil _ _ _ _, FldsAt.zero _, HK1.out.1, HK1.out.2.1⟩
  case round =>
    obtain ⟨k, L, s2, rfl, hk, hL, ho, hat, hka, hkk⟩ := hrel
    obtain ⟨v, l, bad, hrow, hby, hin, hbad, -⟩ := hka.ex
    have c1 : wr.cell? ⟨g, 1, none⟩ = some (.bool bad) := hrow.cell 1
    obtain ⟨lo, lc, rfl⟩ := ownsRow_form2 ho
    have HAT := hid hat
    have HKA := hid hka
    have HKK := hid hkk
    have HO := hid ho
    have HL := hid hL
    have hways : (k < n ∧ s2.isNone = false) ∨ ((k < n ∧ s2 = none) ∨ k = n) := by
      by_cases h1 : k < n
      · cases s2 with
        | none => exact .inr (.inl ⟨h1, rfl⟩)
        | some _ => exact .inl ⟨h1, rfl⟩
      · exact .inr (.inr (by omega))
    clear hat hka hkk ho hrow hby hin hL
    rcases hways with ⟨hlt, hsome⟩ | hways
    · have hb0 : bad = false := by rw [hbad, hsome]
      subst hb0
      have hpos : (0 : Int) < ((n - k : Nat) : Int) := by omega
      have dpos : decide ((0 : Int) < ((n - k : Nat) : Int)) = true := decide_eq_true hpos
      have hkw : IntKind.i64.wrap (((n - k : Nat) : Int) - 1) = ((n - (k + 1) : Nat) : Int) := by rw [IntWalk.i64_in _ (by omega)]; omega
      have HKW := hid hkw
      clear hsome hbad
      go_wp2_with fail
      refine (fieldK_any g s2 wr HKA.out).mono ?_
      rintro e w2 ⟨f, s3, hfl, hf, rfl, hk3, hk4⟩
      have HF := hid (And.intro hf (And.intro hk3 (HKK.out.trans hk4 (fun k e _ => e))))
      have ho2 := ownsRow_kept HO.out hk4 (fun k e h => by have := (HO.out.lt k e).1; have := HLT.out; omega)
      have hsz : w.heap.size ≤ w2.heap.size := HF.out.2.2.size
      have HO2 := hid ho2
      have hLn : L.length + 1 < 4294967296 := by rw [HL.out]; omega
      clear hf hk3 hk4 ho2
      go_wp2_with (at_builtin; refine wpList_append_fldE _ rfl _ _ 23 rfl w.heap.size 53 Tryd.underlying23 infoFld rfl (by decide) rfl HO2.out f rfl hLn hsz ?_; intro v5 w5 ho5 hi5 hk5)
      have HK5 := hid (And.intro (HF.out.2.1.kept hk5 (fun k hk e => by have := (HO.out.lt k e).1; have := HLT.out; omega)) (HF.out.2.2.trans hk5 (fun k e hl => by have := (HO.out.lt k e).1; omega)))
      have HO5 := hid ho5
      clear ho5 hi5 hk5
      go_roundw
      case rel => exact ⟨k + 1, L ++ [f], s3, by first | rfl | (rw [HKW.out]) | simp [HKW.out], hlt, by rw [List.length_append, HL.out]; rfl, by rw [List.length_append]; exact HO5.out, HAT.out.next HF.out.1, HK5.out.1, HK5.out.2⟩
      case measure => simp [intOf]; omega
    · have hend : FldsAt st1 n L s2 := by
        rcases hways with ⟨h1, h2⟩ | h1
        · subst h2; exact HAT.out.end_ (Nat.le_of_lt h1) L
        · rw [← h1]; exact HAT.out
      have HEND := hid hend
      clear hend HAT
      rcases hways with ⟨h1, h2⟩ | h1
      focus
        have hb1 : bad = true := by rw [hbad, h2]; rfl
        have hpos : (0 : Int) < ((n - k : Nat) : Int) := by omega
        have dpos : decide ((0 : Int) < ((n - k : Nat) : Int)) = true := decide_eq_true hpos
        clear h1 h2 hbad
        subst hb1
      rotate_left
      focus
        have hn0 : n - k = 0 := by omega
        rw [hn0]
        clear h1 hbad
      all_goals
        go_wp2_with fail
        go_ret
        exact ⟨n, st1, L, _, s2, HK1.out.2.2, HEND.out, HO.out, rfl, HKA.out, HKK.out⟩
end Go.Proofs.YtdkhkeffheleeaaDoor
