/-
  Contracts of the document's answers of layer 1: Letter, Sign, Token, blank, Trim.
-/
import Derived.Test.YtbjgbkbhalibdaaGreatDoorProg
import Derived.Test.YtbjgbkbhalibdaaGreatDoorShelf
import Derived.Test.YtbjgbkbhalibdaaGreatDoorPureAll1
namespace Go.Proofs.YtbjgbkbhalibdaaGreatDoor
open Go.RowKit Go.Pantry

theorem refblank_any (c : UInt8) (w : World) :
    Calls Tryz.prog 69 #[.int .u8 (c.toNat : Int)] w fun e w' => e = .returned (.bool (isBl c)) ∧ w = w' := by
  go_enter Tryz.func69, Tryz.ntmps69
  go_wp2
  all_goals go_ret
  all_goals exact ⟨ret_bool (by rw [Bool.eq_iff_iff]; simp [isBl]; omega), rfl⟩

theorem refTrim_any (s : ByteArray) (w : World) (hs : s.size ≤ maxLen) :
    Calls Tryz.prog 56 #[.string s] w fun e w' => e = .returned (.string ⟨(trimL s.data.toList).toArray⟩) ∧ w = w' := by
  unfold maxLen at hs
  go_enter Tryz.func56, Tryz.ntmps56
  go_wp2
  go_loop [3] (fun i => ∃ k : Nat, k ≤ s.size ∧ i = .int .i64 k ∧ ∀ (j : Nat) x, j < k → s.data.toList[j]? = some x → isBl x = true) (fun i => s.size - (intOf i).toNat)
  case atStart => exact ⟨0, Nat.zero_le _, rfl, fun j x hj => absurd hj (Nat.not_lt_zero _)⟩
  case round =>
    obtain ⟨k, hk, rfl, hall⟩ := hrel
    have HA := hid hall
    clear hall
    go_wp2_with (go_at_call 69; refine (refblank_any _ _).mono ?_; rintro e w' ⟨rfl, rfl⟩)
    · have h : isBl s[k] = true := by assumption
      go_round
      case rel => exact ⟨k + 1, by omega, by go_num, by
        intro j x hj hx
        by_cases e : j < k
        · exact HA.out j x e hx
        · obtain ⟨_, rfl⟩ := some_list s j x hx
          obtain rfl : j = k := by omega
          exact h⟩
      case measure => simp [intOf]; omega
    all_goals
      have HS : Hid (∀ x, s.data.toList[k]? = some x → isBl x = false) := by
        intro x hx
        obtain ⟨_, rfl⟩ := some_list s k x hx
        first | assumption | omega
      (try (rename isBl s[k] = false => h0; clear h0))
      go_loop [4] (fun i => ∃ m : Nat, k ≤ m ∧ m ≤ s.size ∧ i = .int .i64 m ∧ ∀ (j : Nat) x, m ≤ j → s.data.toList[j]? = some x → isBl x = true) (fun i => (intOf i).toNat - k)
      case atStart => exact ⟨s.size, by omega, Nat.le_refl _, rfl, fun j x hj hx => by obtain ⟨_, _⟩ := some_list s j x hx; omega⟩
      case round =>
        obtain ⟨m, hm1, hm2, rfl, hall⟩ := hrel
        have HB := hid hall
        clear hall
        go_wp2_with (go_at_call 69; refine (refblank_any _ _).mono ?_; rintro e w' ⟨rfl, rfl⟩)
        all_goals first
          | (have h : isBl s[m - 1] = true := by assumption
             go_round
             case rel => exact ⟨m - 1, by omega, by omega, by go_num, fun j x hj hx => by
               by_cases e : m ≤ j
               · exact HB.out j x e hx
               · obtain ⟨_, rfl⟩ := some_list s j x hx
                 obtain rfl : j = m - 1 := by omega
                 exact h⟩
             case measure => simp [intOf]; omega)
          | (go_ret
             refine ⟨ret_str ?_, rfl⟩
             rw [Lib.extract_eq, trim_of _ k m hm1 (by rw [size_list]; exact hm2) HA.out HB.out (fun _ => HS.out) (fun _ x hx => by
               obtain ⟨_, rfl⟩ := some_list s (m - 1) x hx
               first | assumption | omega)])
end Go.Proofs.YtbjgbkbhalibdaaGreatDoor
