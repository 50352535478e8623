/-
  The document's answers of layer 8: numbers (layer 1's).
-/
import Derived.Test.YtenijpcjemdhfaaGreatDoorP10d01
import Derived.Test.YtenijpcjemdhfaaGreatDoorPureAll1
import Derived.Deep.Cut

namespace Go.Proofs.YtenijpcjemdhfaaGreatDoor
open Go.RowKit Go.Pantry

set_option maxRecDepth 100000 in
theorem refNumber_any (s : ByteArray) (w : World) (hs : s.size ≤ 140737488351232) :
    Calls Tryz.prog 80 #[.string s] w fun e w' => e = .returned (.tuple #[.int .i64 (((numberL s.data.toList).getD 0 : Nat) : Int), .bool (numberL s.data.toList).isSome]) ∧ w = w' := by
  go_enter Tryz.func80, Tryz.ntmps80
  go_wp2
  go_loop [4, 5] (fun n i => ∃ k m : Nat, k ≤ s.size ∧ i = .int .i64 k ∧ n = .int .i64 m ∧ m ≤ 21474836489 ∧ min m 2147483648 = min (valL (s.data.toList.take k)) 2147483648 ∧ (s.data.toList.take k).all isDig = true) (fun _ i => s.size - (intOf i).toNat)
  case atStart => exact ⟨0, 0, Nat.zero_le _, rfl, rfl, by omega, rfl, rfl⟩
  case round =>
    obtain ⟨k, m, hk, rfl, rfl, hm, hv, hall⟩ := hrel
    have HV := hid hv
    have HA := hid hall
    clear hv hall
    by_cases hlt : k < s.size
    · go_upto_if 21 with fail
      · rename (48 : Int) ≤ (s[k].toNat : Int) => g
        have G := hid g
        clear g
        go_upto_if 23 with fail
        · have hbad : isDig s[k] = false := by
            have h : (s[k].toNat : Int) < 48 ∨ 57 < (s[k].toNat : Int) := by assumption
            rw [Bool.eq_false_iff]; intro e; have := isDig_bounds e; omega
          go_ret2
          exact ⟨by rw [numberL_no s k hlt hbad]; rfl, rfl⟩
        · have hgood : isDig s[k] = true := by
            have h : 48 ≤ (s[k].toNat : Int) ∧ (s[k].toNat : Int) ≤ 57 := by assumption
            simp [isDig]; omega
          rename 48 ≤ (s[k].toNat : Int) ∧ (s[k].toNat : Int) ≤ 57 => g2
          clear g2
          have HF := hid hgood
          clear hgood G
          generalize hc : s[k].toNat = c
          clear hc
          by_cases hsm : m < 2147483648
          · have hd1 : decide ((m : Int) < 2147483648) = true := by simp; omega
            refine wp_cond_true (congrArg Value.bool hd1) ?_
            clear hd1
            go_wp2
            go_round
            case rel =>
              refine ⟨k + 1, 10 * m + (s[k].toNat - 48), by omega, by go_num, ?_, ?_, ?_, by rw [take_succ_list s k hlt, List.all_append, HA.out]; simp [HF.out]⟩
              · have := isDig_bounds HF.out
                exact congrArg (Value.int .i64) (by omega)
              · have := isDig_bounds HF.out
                omega
              · rw [take_succ_list s k hlt]; exact number2_step _ _ m HF.out HV.out hsm
            case measure => simp [intOf]; omega
          · have hd1 : decide ((m : Int) < 2147483648) = false := by simp; omega
            refine wp_cond_false (congrArg Value.bool hd1) ?_
            clear hd1
            go_wp2
            go_round
            case rel =>
              refine ⟨k + 1, m, by omega, by go_num, rfl, by omega, ?_, by rw [take_succ_list s k hlt, List.all_append, HA.out]; simp [HF.out]⟩
              rw [take_succ_list s k hlt]; exact number2_stay _ _ m HV.out (by omega)
            case measure => simp [intOf]; omega
      · have hbad : isDig s[k] = false := by
          have h : ¬ 48 ≤ (s[k].toNat : Int) := by assumption
          rw [Bool.eq_false_iff]; intro e; have := isDig_bounds e; omega
        go_wp2
        go_ret2
        exact ⟨by rw [numberL_no s k hlt hbad]; rfl, rfl⟩
    · have HY := hid (numberL_yes s.data.toList (min m 2147483648) (by rw [← take_all s k hlt]; exact HA.out) (by rw [HV.out, take_all s k hlt]))
      have HE := hid (not_isEmpty_int s)
      by_cases hgt : 2147483648 < m
      · go_wp2
        go_ret2
        refine ⟨?_, rfl⟩
        rw [HY.out.1, HY.out.2, HE.out, Nat.min_eq_right (by omega)]; simp
      · go_wp2
        go_ret2
        refine ⟨?_, rfl⟩
        rw [HY.out.1, HY.out.2, HE.out, Nat.min_eq_left (by omega)]; simp
end Go.Proofs.YtenijpcjemdhfaaGreatDoor
