/-
  Contracts of the statements' own helpers, layer 1: same, anchor, digits.
-/
import Derived.Test.YtonbhaimdfpkpaaDoorSignD
import Derived.Test.YtonbhaimdfpkpaaDoorRefSignC
import Derived.Test.YtonbhaimdfpkpaaDoorRefSignD
namespace Go.Proofs.YtonbhaimdfpkpaaDoor
open Go.RowKit Go.Pantry

theorem same_any (va vb : Value) (A B : List (List UInt8)) (w : World) (hA : Reads w va (A.map strV)) (hB : Reads w vb (B.map strV)) (hs : A.length < 4294967296) :
    Calls Tryd.prog 20 #[va, vb] w fun e w' => e = .returned (.bool (A == B)) ∧ w = w' := by
  by_cases hl : A.length = B.length
  · by_cases h0 : A.length = 0
    · obtain ⟨aa, ca, rfl, ha, -⟩ := hA
      obtain ⟨ab, cb, rfl, hb, -⟩ := hB
      have e1 : A = [] := List.eq_nil_of_length_eq_zero h0
      have e2 : B = [] := List.eq_nil_of_length_eq_zero (by omega)
      subst e1 e2
      clear ha hb
      go_enter Tryd.func20, Tryd.ntmps20
      go_wp2
      refine wp_loop_rounds 1 ?_
      rw [rounds_succ]
      go_wp2
      go_ret
      exact ⟨rfl, rfl⟩
    · obtain ⟨ba, oa, ca, rfl, ha⟩ := hA.at_some (by simp; omega)
      obtain ⟨bb, ob, cb, rfl, hb⟩ := hB.at_some (by simp; omega)
      clear hA hB
      have ha' : ∀ (j : Nat) x, A[j]? = some x → w.cell? ⟨ba, oa + j, none⟩ = some (strV x) := fun j x h => ha j _ (by simp [h])
      have hb' : ∀ (j : Nat) x, B[j]? = some x → w.cell? ⟨bb, ob + j, none⟩ = some (strV x) := fun j x h => hb j _ (by simp [h])
      clear ha hb
      simp only [List.length_map]
      rw [← hl]
      have HA := hid ha'
      have HB := hid hb'
      have HM := hid hl
      clear ha' hb' hl
      go_enter Tryd.func20, Tryd.ntmps20
      go_wp2
      go_loop [14] (fun i => ∃ k : Nat, k ≤ A.length ∧ i = .int .i64 k ∧ A.take k = B.take k) (fun i => A.length - (intOf i).toNat)
      case atStart => exact ⟨0, Nat.zero_le _, rfl, rfl⟩
      case round =>
        obtain ⟨k, hk, rfl, hp⟩ := hrel
        have HP := hid hp
        clear hp
        by_cases hlt : k < A.length
        · obtain ⟨x, hx⟩ : ∃ x, A[k]? = some x := ⟨_, List.getElem?_eq_getElem hlt⟩
          obtain ⟨y, hy⟩ : ∃ y, B[k]? = some y := ⟨_, List.getElem?_eq_getElem (by have := HM.out; omega)⟩
          have c1 := HA.out k x hx
          have c2 := HB.out k y hy
          have HX := hid hx
          have HY := hid hy
          clear hx hy
          go_wp2
          · go_ret
            have hne : x ≠ y := by
              have h : (x != y) = true := by assumption
              simpa using h
            refine ⟨ret_bool ?_, rfl⟩
            symm
            rw [beq_eq_false_iff_ne]
            intro e
            have hx := HX.out
            rw [e, HY.out] at hx
            exact hne (Option.some.inj hx).symm
          · have he : x = y := by
              have h : (x != y) = false := by assumption
              simpa using h
            go_round
            case rel =>
              refine ⟨k + 1, by omega, by go_num, ?_⟩
              rw [List.take_add_one, List.take_add_one, HP.out, HX.out, HY.out, he]
            case measure => simp [intOf]; omega
        · go_wp2
          go_ret
          refine ⟨ret_bool ?_, rfl⟩
          have h := HP.out
          rw [List.take_of_length_le (by omega), List.take_of_length_le (by have := HM.out; omega)] at h
          simp [h]
  · obtain ⟨aa, ca, rfl, ha, -⟩ := hA
    obtain ⟨ab, cb, rfl, hb, -⟩ := hB
    have hne : (A == B) = false := by rw [beq_eq_false_iff_ne]; intro e; exact hl (by rw [e])
    rw [hne]
    simp only [List.length_map]
    have ht : (((A.length : Int)) != (B.length : Int)) = true := by simp; omega
    clear ha hb hl hne
    go_enter Tryd.func20, Tryd.ntmps20
    go_wp2
    go_ret
    exact ⟨rfl, rfl⟩
end Go.Proofs.YtonbhaimdfpkpaaDoor
