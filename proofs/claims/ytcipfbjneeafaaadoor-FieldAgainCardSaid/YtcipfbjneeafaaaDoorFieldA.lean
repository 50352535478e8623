/-
  Contracts of package field: valueByte, rightValue, a field's Right, called.
-/
import Derived.Test.YtcipfbjneeafaaaDoorSignB
import Derived.Test.YtcipfbjneeafaaaDoorBase2
namespace Go.Proofs.YtcipfbjneeafaaaDoor
open Go.RowKit Go.Pantry

theorem valueByte_any (c : UInt8) (w : World) :
    Calls Tryd.prog 45 #[.int .u8 (c.toNat : Int)] w fun e w' => e = .returned (.bool (okV c)) ∧ w = w' := by
  rw [okV_int]
  go_enter Tryd.func45, Tryd.ntmps45
  go_wp2
  all_goals go_ret
  all_goals exact ⟨ret_bool (by rw [Bool.eq_iff_iff]; simp_all; try omega), rfl⟩

theorem rightValue_any (s : ByteArray) (w : World) (hs : s.size ≤ maxLen) :
    Calls Tryd.prog 33 #[.string s] w fun e w' => e = .returned (.bool (decide (s.size ≤ 1024) && (trimL s.data.toList == s.data.toList) && s.data.toList.all okV)) ∧ Below w.heap.size w w' := by
  have c2 := fun W => Trim_any s W hs
  have C2 := hid c2
  clear c2
  unfold maxLen at hs
  by_cases h1 : (1024 : Int) < (s.size : Int)
  · have hno : decide (s.size ≤ 1024) = false := decide_eq_false (by omega)
    rw [hno]
    clear hno
    go_enter Tryd.func33, Tryd.ntmps33
    go_wp2_with fail
    go_ret
    exact ⟨rfl, Below.refl _ _⟩
  · have hyes : decide (s.size ≤ 1024) = true := decide_eq_true (by omega)
    rw [hyes]
    have h1' : (s.size : Int) ≤ 1024 := by omega
    clear hyes h1
    obtain ⟨T, hT⟩ : ∃ T, trimL s.data.toList = T := ⟨_, rfl⟩
    rw [hT] at C2 ⊢
    clear hT
    cases hq : (T == s.data.toList)
    · have e1 : (T == s.toList) = false := by rw [Lib.toList_data]; exact hq
      have e2 : (T != s.toList) = true := by rw [bne, e1]; rfl
      clear hq
      go_enter Tryd.func33, Tryd.ntmps33
      go_wp2_with fail
      refine (C2.out _).mono ?_
      rintro e w1 ⟨rfl, hb1⟩
      go_wp2_with fail
      go_ret
      exact ⟨rfl, hb1⟩
    · have e1 : (T == s.toList) = true := by rw [Lib.toList_data]; exact hq
      have e2 : (T != s.toList) = false := by rw [bne, e1]; rfl
      obtain ⟨r, hr⟩ : ∃ r, s.data.toList.all okV = r := ⟨_, rfl⟩
      rw [hr]
      have HRR := hid hr
      clear hq hr
      simp only [Bool.true_and]
      go_enter Tryd.func33, Tryd.ntmps33
      go_wp2_with fail
      refine (C2.out _).mono ?_
      rintro e w1 ⟨rfl, hb1⟩
      go_wp2_with fail
      clear e1 e2
      go_loop [3] (fun i => ∃ k : Nat, k ≤ s.size ∧ i = .int .i64 k ∧ (s.data.toList.take k).all okV = true) (fun i => s.size - (intOf i).toNat)
      case atStart => exact ⟨0, Nat.zero_le _, rfl, rfl⟩
      case round =>
        obtain ⟨k, hk, rfl, hall⟩ := hrel
        have HA := hid hall
        clear hall
        by_cases hlt : k < s.size
        · have cv := fun W => valueByte_any s[k] W
          obtain ⟨q, hq⟩ : ∃ q, okV s[k] = q := ⟨_, rfl⟩
          rw [hq] at cv
          have CV := hid cv
          have HQ := hid hq
          clear cv hq
          cases q
          · have hno : r = false := by
              rw [← HRR.out]
              exact List.all_eq_false.2 ⟨s[k], by have := List.getElem_mem (l := s.data.toList) (n := k) (by rw [size_list]; exact hlt); exact this, by rw [HQ.out]; simp⟩
            subst hno
            go_wp2_with (go_at_call 45; refine (CV.out _).mono ?_; rintro e w' ⟨rfl, rfl⟩)
            go_ret
            exact ⟨rfl, hb1⟩
          · go_wp2_with (go_at_call 45; refine (CV.out _).mono ?_; rintro e w' ⟨rfl, rfl⟩)
            go_round
            case rel => exact ⟨k + 1, hlt, by go_num, by rw [take_succ_list s k hlt, List.all_append, HA.out]; simp [HQ.out]⟩
            case measure => simp [intOf]; omega
        · have hke := take_all s k hlt
          have hyes : r = true := by rw [← HRR.out, ← hke]; exact HA.out
          subst hyes
          clear hke
          go_wp2_with fail
          go_ret
          exact ⟨rfl, hb1⟩
end Go.Proofs.YtcipfbjneeafaaaDoor
