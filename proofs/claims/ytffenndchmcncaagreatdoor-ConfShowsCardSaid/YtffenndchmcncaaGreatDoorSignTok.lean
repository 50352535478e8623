/-
  Contracts of package sign: tokenSign, Token.
-/
import Derived.Test.YtffenndchmcncaaGreatDoorSignA
namespace Go.Proofs.YtffenndchmcncaaGreatDoor
open Go.RowKit Go.Pantry

theorem marks_any (c : UInt8) (w : World) :
    Calls Tryz.prog 87 #[.string ⟨#[33, 35, 36, 37, 38, 39, 42, 43, 45, 46, 94, 95, 124, 96, 126]⟩, .int .u8 (c.toNat : Int)] w fun e w' => ∃ n : Int, e = .returned (.int .i64 n) ∧ Hid (decide (0 ≤ n) = marks.contains c) ∧ w = w' := by
  refine (Tryz.strings_IndexByte _ _ _).mono ?_
  rintro e w' ⟨rfl, rfl⟩
  refine ⟨_, rfl, ?_, rfl⟩
  have e : (c.toNat : Int).toNat.toUInt8 = c := by simp
  rw [e]
  exact indexByte_nonneg marks c

theorem tokenSign_any (c : UInt8) (w : World) :
    Calls Tryz.prog 123 #[.int .u8 (c.toNat : Int)] w fun e w' => e = .returned (.bool (isTok c)) ∧ w = w' := by
  go_enter Tryz.func123, Tryz.ntmps123
  go_wp2_with (first
    | (go_at_call 121; refine (great_any _ _).mono ?_; rintro e w' ⟨rfl, rfl⟩)
    | (go_at_call 122; refine (digit_any _ _).mono ?_; rintro e w' ⟨rfl, rfl⟩)
    | (go_at_call 87; refine (marks_any _ _).mono ?_; rintro e w' ⟨n, rfl, hn, rfl⟩))
  all_goals go_ret
  all_goals refine ⟨ret_bool ?_, rfl⟩
  all_goals rw [isTok_of]
  · rw [isLow_yes (by assumption) (by assumption)]; rfl
  · simp_all
  · simp_all
  · simp_all
  · rw [isLow_no2 (by assumption), hn.out]; simp_all
  · simp_all
  · simp_all
  · simp_all
  · rw [isLow_no1 (by assumption), hn.out]; simp_all

theorem Token_any (s : ByteArray) (w : World) (hs : s.size ≤ maxLen) :
    Calls Tryz.prog 98 #[.string s] w fun e w' => e = .returned (.bool (tokenL s.data.toList)) ∧ w = w' := by
  unfold maxLen at hs
  go_enter Tryz.func98, Tryz.ntmps98
  go_wp2
  go_loop [3] (fun i => ∃ k : Nat, k ≤ s.size ∧ i = .int .i64 k ∧ (s.data.toList.take k).all isTok = true) (fun i => s.size - (intOf i).toNat)
  case atStart => exact ⟨0, Nat.zero_le _, rfl, rfl⟩
  case round =>
    obtain ⟨k, hk, rfl, hall⟩ := hrel
    have HA := hid hall
    clear hall
    by_cases hlt : k < s.size
    · go_wp2_with (go_at_call 123; refine (tokenSign_any _ _).mono ?_; rintro e w' ⟨rfl, rfl⟩)
      · go_ret
        have h : isTok s[k] = false := by simpa using (by assumption : (!isTok s[k]) = true)
        exact ⟨ret_bool (tokenL_no s k hlt h).symm, rfl⟩
      · have h : isTok s[k] = true := by simpa using (by assumption : (!isTok s[k]) = false)
        go_round
        case rel => exact ⟨k + 1, by omega, by go_num, by rw [take_succ_list s k hlt, List.all_append, HA.out]; simp [h]⟩
        case measure => simp [intOf]; omega
    · go_wp2
      go_ret
      exact ⟨ret_bool (by rw [tokenL, Lib.toList_data, ← take_all s k hlt, HA.out]; simp), rfl⟩
end Go.Proofs.YtffenndchmcncaaGreatDoor
