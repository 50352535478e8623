/-
  Several texts in one: SignA, SignLw, SignN, SignTok.
-/
import Derived.Test.YtenijpcjemdhfaaGreatDoorProg
import Derived.Test.YtenijpcjemdhfaaGreatDoorShelf
import Derived.Test.YtenijpcjemdhfaaGreatDoorPureAll1
import Derived.Test.YtenijpcjemdhfaaGreatDoorInfo
/-
  Contracts of the leaves of package sign: great, digit, tokenSign, Token.
-/
namespace Go.Proofs.YtenijpcjemdhfaaGreatDoor
open Go.RowKit Go.Pantry

theorem great_any (c : UInt8) (w : World) :
    Calls Tryz.prog 125 #[.int .u8 (c.toNat : Int)] w fun e w' => e = .returned (.bool (isUp c)) ∧ w = w' := by
  rw [← isUp_int]
  go_enter Tryz.func125, Tryz.ntmps125
  go_wp2
  all_goals go_ret
  all_goals exact ⟨ret_bool (by simp; try omega), rfl⟩

theorem digit_any (c : UInt8) (w : World) :
    Calls Tryz.prog 126 #[.int .u8 (c.toNat : Int)] w fun e w' => e = .returned (.bool (isDig c)) ∧ w = w' := by
  rw [← isDig_int]
  go_enter Tryz.func126, Tryz.ntmps126
  go_wp2
  all_goals go_ret
  all_goals exact ⟨ret_bool (by simp; try omega), rfl⟩

end Go.Proofs.YtenijpcjemdhfaaGreatDoor
/-
  Contract of package sign: Lower.
-/
namespace Go.Proofs.YtenijpcjemdhfaaGreatDoor
open Go.RowKit Go.Pantry

theorem Lower_any (s : ByteArray) (w : World) (hs : s.size ≤ maxLen) :
    Calls Tryz.prog 108 #[.string s] w fun e w' => e = .returned (.string ⟨(lowerL s.data.toList).toArray⟩) ∧ Below w.heap.size w w' := by
  unfold maxLen at hs
  have hcv := fun w' => run_bytes_of_string (P := Tryz.prog) w' 9 147 5 s Tryz.underlying9 Tryz.underlying147 Tryz.underlying5
  go_enter Tryz.func108, Tryz.ntmps108
  go_wp2
  clear hcv
  go_loopw [10] (fun i wr => ∃ k : Nat, k ≤ s.size ∧ i = .int .i64 k ∧ bytesAt wr w.heap.size (lowerL (s.data.toList.take k) ++ s.data.toList.drop k) ∧ Below w.heap.size w wr ∧ w.heap.size < wr.heap.size) (fun i _ => s.size - (intOf i).toNat)
  case atStart => exact ⟨0, Nat.zero_le _, rfl, bytesAt_row w s _ _, ((Below.refl _ _).alloc (Nat.le_refl _) _).drew, by simp⟩
  case round =>
    obtain ⟨k, hk, rfl, hby, hb, hsz⟩ := hrel
    have HY := hid hby
    clear hby
    by_cases hlt : k < s.size
    · have hcell : wr.cell? ⟨w.heap.size, k, none⟩ = some (.int .u8 (s[k].toNat : Int)) := HY.out.cell k _ (lower_mid s k hlt)
      have hfree : wr.frozen? ⟨w.heap.size, k, none⟩ = false := HY.out.free k (lower_len s k hlt)
      go_wp2_with (go_at_call 125; refine (great_any _ _).mono ?_; rintro e w' ⟨rfl, rfl⟩)
      · have hu : isUp s[k] = true := by assumption
        go_roundw
        case rel =>
          refine ⟨k + 1, by omega, by go_num, ?_, hb.setCell (by simp) _, by simpa [World.setCell] using hsz⟩
          rw [low_int hu, ← lower_step s k hlt]
          exact HY.out.set k (lower_len s k hlt) _
        case measure => simp [intOf]; omega
      · have hu : isUp s[k] = false := by assumption
        go_roundw
        case rel => exact ⟨k + 1, by omega, by go_num, by rw [← lower_same s k hlt hu]; exact HY.out, hb, hsz⟩
        case measure => simp [intOf]; omega
    · have hback := HY.out.back 147 9 5 s.size (grownCap w s.size 0 5) (by simp [lowerL]; omega) Tryz.underlying147 Tryz.underlying5 Tryz.underlying9
      go_wp2
      go_ret
      refine ⟨ret_str ?_, hb⟩
      rw [take_all s k hlt, drop_nil s k hlt, List.append_nil]
end Go.Proofs.YtenijpcjemdhfaaGreatDoor
/-
  Contract of package sign: Number.
-/
namespace Go.Proofs.YtenijpcjemdhfaaGreatDoor
open Go.RowKit Go.Pantry

theorem Number_any (s : ByteArray) (w : World) (hs : s.size ≤ 140737488351232) :
    Calls Tryz.prog 109 #[.string s] w fun e w' => e = .returned (.tuple #[.int .i64 (((numberL s.data.toList).getD 0 : Nat) : Int), .bool (numberL s.data.toList).isSome]) ∧ w = w' := by
  go_enter Tryz.func109, Tryz.ntmps109
  go_wp2
  go_loop [4, 5] (fun n i => ∃ k m : Nat, k ≤ s.size ∧ i = .int .i64 k ∧ n = .int .i64 m ∧ m ≤ 2147483648 ∧ m = min (valL (s.data.toList.take k)) 2147483648 ∧ (s.data.toList.take k).all isDig = true) (fun _ i => s.size - (intOf i).toNat)
  case atStart => exact ⟨0, 0, Nat.zero_le _, rfl, rfl, by omega, rfl, rfl⟩
  case round =>
    obtain ⟨k, m, hk, rfl, rfl, hm, hv, hall⟩ := hrel
    have HV := hid hv
    have HA := hid hall
    clear hv hall
    by_cases hlt : k < s.size
    · go_wp2_with (go_at_call 126; refine (digit_any _ _).mono ?_; rintro e w' ⟨rfl, rfl⟩)
      · go_ret2
        have h : isDig s[k] = false := by simpa using (by assumption : (!isDig s[k]) = true)
        exact ⟨by rw [numberL_no s k hlt h]; rfl, rfl⟩
      · have h : isDig s[k] = true := by simpa using (by assumption : (!isDig s[k]) = false)
        go_round
        case rel =>
          refine ⟨k + 1, min (valL (s.data.toList.take (k + 1))) 2147483648, by omega, by go_num, ?_, by omega, rfl, by rw [take_succ_list s k hlt, List.all_append, HA.out]; simp [h]⟩
          rw [take_succ_list s k hlt, number_step _ _ _ h HV.out]
        case measure => simp [intOf]; omega
    · go_wp2
      go_ret2
      have hy := numberL_yes s.data.toList m (by rw [← take_all s k hlt]; exact HA.out) (by rw [← take_all s k hlt]; exact HV.out)
      refine ⟨?_, rfl⟩
      rw [hy.1, hy.2, Lib.toList_data]; rfl
end Go.Proofs.YtenijpcjemdhfaaGreatDoor
/-
  Contracts of package sign: tokenSign, Token.
-/
namespace Go.Proofs.YtenijpcjemdhfaaGreatDoor
open Go.RowKit Go.Pantry

theorem marks_any (c : UInt8) (w : World) :
    Calls Tryz.prog 73 #[.string ⟨#[33, 35, 36, 37, 38, 39, 42, 43, 45, 46, 94, 95, 124, 96, 126]⟩, .int .u8 (c.toNat : Int)] w fun e w' => ∃ n : Int, e = .returned (.int .i64 n) ∧ Hid (decide (0 ≤ n) = marks.contains c) ∧ w = w' := by
  refine (Tryz.strings_IndexByte _ _ _).mono ?_
  rintro e w' ⟨rfl, rfl⟩
  refine ⟨_, rfl, ?_, rfl⟩
  have e : (c.toNat : Int).toNat.toUInt8 = c := by simp
  rw [e]
  exact indexByte_nonneg marks c

theorem tokenSign_any (c : UInt8) (w : World) :
    Calls Tryz.prog 128 #[.int .u8 (c.toNat : Int)] w fun e w' => e = .returned (.bool (isTok c)) ∧ w = w' := by
  go_enter Tryz.func128, Tryz.ntmps128
  go_wp2_with (first
    | (go_at_call 125; refine (great_any _ _).mono ?_; rintro e w' ⟨rfl, rfl⟩)
    | (go_at_call 126; refine (digit_any _ _).mono ?_; rintro e w' ⟨rfl, rfl⟩)
    | (go_at_call 73; refine (marks_any _ _).mono ?_; rintro e w' ⟨n, rfl, hn, rfl⟩))
  all_goals go_ret
  all_goals refine ⟨ret_bool ?_, rfl⟩
  all_goals rw [isTok_of]
  · rw [isLow_yes (by assumption) (by assumption)]; rfl
  · simp_all
  · simp_all
  · simp_all
  · rw [isLow_no2 (by assumption), hn.out]; simp_all
  · simp_all
  · simp_all
  · simp_all
  · rw [isLow_no1 (by assumption), hn.out]; simp_all

theorem Token_any (s : ByteArray) (w : World) (hs : s.size ≤ maxLen) :
    Calls Tryz.prog 111 #[.string s] w fun e w' => e = .returned (.bool (tokenL s.data.toList)) ∧ w = w' := by
  unfold maxLen at hs
  go_enter Tryz.func111, Tryz.ntmps111
  go_wp2
  go_loop [3] (fun i => ∃ k : Nat, k ≤ s.size ∧ i = .int .i64 k ∧ (s.data.toList.take k).all isTok = true) (fun i => s.size - (intOf i).toNat)
  case atStart => exact ⟨0, Nat.zero_le _, rfl, rfl⟩
  case round =>
    obtain ⟨k, hk, rfl, hall⟩ := hrel
    have HA := hid hall
    clear hall
    by_cases hlt : k < s.size
    · go_wp2_with (go_at_call 128; refine (tokenSign_any _ _).mono ?_; rintro e w' ⟨rfl, rfl⟩)
      · go_ret
        have h : isTok s[k] = false := by simpa using (by assumption : (!isTok s[k]) = true)
        exact ⟨ret_bool (tokenL_no s k hlt h).symm, rfl⟩
      · have h : isTok s[k] = true := by simpa using (by assumption : (!isTok s[k]) = false)
        go_round
        case rel => exact ⟨k + 1, by omega, by go_num, by rw [take_succ_list s k hlt, List.all_append, HA.out]; simp [h]⟩
        case measure => simp [intOf]; omega
    · go_wp2
      go_ret
      exact ⟨ret_bool (by rw [tokenL, Lib.toList_data, ← take_all s k hlt, HA.out]; simp), rfl⟩
end Go.Proofs.YtenijpcjemdhfaaGreatDoor
