/-
  The document's answers of layer 1: Sign, Token.
-/
import Derived.Test.YtffenndchmcncaaGreatDoorRef8L
namespace Go.Proofs.YtffenndchmcncaaGreatDoor
open Go.RowKit Go.Pantry

theorem refSign_any (c : UInt8) (w : World) :
    Calls Tryz.prog 99 #[.int .u8 (c.toNat : Int)] w fun e w' => e = .returned (.bool (isTok c)) ∧ w = w' := by
  go_enter Tryz.func99, Tryz.ntmps99
  go_wp2_with (go_at_call 73; refine (refLetter_any _ _).mono ?_; rintro e w' ⟨rfl, rfl⟩)
  all_goals go_ret
  all_goals exact ⟨ret_bool (by simp only [beq_iff_eq, beq_eq_false_iff_ne] at *; rw [Bool.eq_iff_iff, isTok_of, marks_int]; simp [isLow, isUp, isDig]; omega), rfl⟩

theorem refToken_any (s : ByteArray) (w : World) (hs : s.size ≤ maxLen) :
    Calls Tryz.prog 77 #[.string s] w fun e w' => e = .returned (.bool (tokenL s.data.toList)) ∧ w = w' := by
  unfold maxLen at hs
  go_enter Tryz.func77, Tryz.ntmps77
  go_wp2
  go_loop [3] (fun i => ∃ k : Nat, k ≤ s.size ∧ i = .int .i64 k ∧ (s.data.toList.take k).all isTok = true) (fun i => s.size - (intOf i).toNat)
  case atStart => exact ⟨0, Nat.zero_le _, rfl, rfl⟩
  case round =>
    obtain ⟨k, hk, rfl, hall⟩ := hrel
    have HA := hid hall
    clear hall
    by_cases hlt : k < s.size
    · go_wp2_with (go_at_call 99; refine (refSign_any _ _).mono ?_; rintro e w' ⟨rfl, rfl⟩)
      · go_ret
        have h : isTok s[k] = false := by simpa using (by assumption : (!isTok s[k]) = true)
        exact ⟨ret_bool (tokenL_no s k hlt h).symm, rfl⟩
      · have h : isTok s[k] = true := by simpa using (by assumption : (!isTok s[k]) = false)
        go_round
        case rel => exact ⟨k + 1, by omega, by go_num, by rw [take_succ_list s k hlt, List.all_append, HA.out]; simp [h]⟩
        case measure => simp [intOf]; omega
    · go_wp2
      go_ret
      refine ⟨ret_bool ?_, rfl⟩
      have e : s.data.toList.all isTok = true := by rw [← take_all s k hlt]; exact HA.out
      rw [tokenL, e, Bool.true_and, not_isEmpty_int]; simp
end Go.Proofs.YtffenndchmcncaaGreatDoor
