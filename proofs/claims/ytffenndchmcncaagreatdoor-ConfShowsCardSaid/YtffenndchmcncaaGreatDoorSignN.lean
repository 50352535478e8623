/-
  Contract of package sign: Number.
-/
import Derived.Test.YtffenndchmcncaaGreatDoorSignA
import Derived.Test.YtffenndchmcncaaGreatDoorInfo
import Derived.Test.YtffenndchmcncaaGreatDoorPureAll1
namespace Go.Proofs.YtffenndchmcncaaGreatDoor
open Go.RowKit Go.Pantry

theorem Number_any (s : ByteArray) (w : World) (hs : s.size ≤ 140737488351232) :
    Calls Tryz.prog 97 #[.string s] w fun e w' => e = .returned (.tuple #[.int .i64 (((numberL s.data.toList).getD 0 : Nat) : Int), .bool (numberL s.data.toList).isSome]) ∧ w = w' := by
  go_enter Tryz.func97, Tryz.ntmps97
  go_wp2
  go_loop [4, 5] (fun n i => ∃ k m : Nat, k ≤ s.size ∧ i = .int .i64 k ∧ n = .int .i64 m ∧ m ≤ 2147483648 ∧ m = min (valL (s.data.toList.take k)) 2147483648 ∧ (s.data.toList.take k).all isDig = true) (fun _ i => s.size - (intOf i).toNat)
  case atStart => exact ⟨0, 0, Nat.zero_le _, rfl, rfl, by omega, rfl, rfl⟩
  case round =>
    obtain ⟨k, m, hk, rfl, rfl, hm, hv, hall⟩ := hrel
    have HV := hid hv
    have HA := hid hall
    clear hv hall
    by_cases hlt : k < s.size
    · go_wp2_with (go_at_call 122; refine (digit_any _ _).mono ?_; rintro e w' ⟨rfl, rfl⟩)
      · go_ret2
        have h : isDig s[k] = false := by simpa using (by assumption : (!isDig s[k]) = true)
        exact ⟨by rw [numberL_no s k hlt h]; rfl, rfl⟩
      · have h : isDig s[k] = true := by simpa using (by assumption : (!isDig s[k]) = false)
        go_round
        case rel =>
          refine ⟨k + 1, min (valL (s.data.toList.take (k + 1))) 2147483648, by omega, by go_num, ?_, by omega, rfl, by rw [take_succ_list s k hlt, List.all_append, HA.out]; simp [h]⟩
          rw [take_succ_list s k hlt, number_step _ _ _ h HV.out]
        case measure => simp [intOf]; omega
    · go_wp2
      go_ret2
      have hy := numberL_yes s.data.toList m (by rw [← take_all s k hlt]; exact HA.out) (by rw [← take_all s k hlt]; exact HV.out)
      refine ⟨?_, rfl⟩
      rw [hy.1, hy.2, Lib.toList_data]; rfl
end Go.Proofs.YtffenndchmcncaaGreatDoor
