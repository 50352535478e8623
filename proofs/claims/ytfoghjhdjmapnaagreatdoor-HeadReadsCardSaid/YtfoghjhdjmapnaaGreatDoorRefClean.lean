/-
  The document's answers of layer 5: clean; a response's Right in the statement's order.
-/
import Derived.Test.YtfoghjhdjmapnaaGreatDoorResRight
import Derived.Test.YtfoghjhdjmapnaaGreatDoorDrawn
namespace Go.Proofs.YtfoghjhdjmapnaaGreatDoor
open Go.RowKit Go.Pantry

theorem okV_int (c : UInt8) : okV c = ((decide (32 ≤ (c.toNat : Int)) || decide ((c.toNat : Int) = 9)) && decide ((c.toNat : Int) ≠ 127)) := by
  unfold okV; rw [Bool.eq_iff_iff]; simp; omega
set_option maxHeartbeats 1000000 in
theorem refClean_any (s : ByteArray) (w : World) (hs : s.size ≤ maxLen) :
    Calls Tryz.prog 39 #[.string s] w fun e w' => e = .returned (.bool (s.data.toList.all okV)) ∧ w = w' := by
  unfold maxLen at hs
  obtain ⟨R, hR⟩ : ∃ R, s.data.toList.all okV = R := ⟨_, rfl⟩
  rw [hR]
  have HR := hid hR.symm
  clear hR
  go_enter Tryz.func39, Tryz.ntmps39
  go_wp2
  go_loop [3] (fun i => ∃ k : Nat, k ≤ s.size ∧ i = .int .i64 k ∧ (s.data.toList.take k).all okV = true) (fun i => s.size - (intOf i).toNat)
  case atStart => exact ⟨0, Nat.zero_le _, rfl, rfl⟩
  case round =>
    obtain ⟨k, hk, rfl, hall⟩ := hrel
    have HA := hid hall
    clear hall
    by_cases hlt : k < s.size
    · by_cases h1 : (s[k].toNat : Int) < 32
      · by_cases h2 : (s[k].toNat : Int) = 9
        · have hok := hid (show okV s[k] = true by rw [okV_int]; simp; omega)
          have b1 : ((s[k].toNat : Int) == 9) = true := by simp [h2]
          have b2 : ((s[k].toNat : Int) == 127) = false := by simp [h2]
          go_wp2
          go_round
          case rel => exact ⟨k + 1, hlt, by go_num, by rw [take_succ_list s k hlt, List.all_append, HA.out]; simp [hok.out]⟩
          case measure => simp [intOf]; omega
        · have b1 : ((s[k].toNat : Int) == 9) = false := by simpa using h2
          have hno : R = false := by
            rw [HR.out, all_bad s okV k hlt (by rw [okV_int]; simp; omega)]
          subst hno
          go_wp2
          go_ret
          exact ⟨rfl, rfl⟩
      · by_cases h3 : (s[k].toNat : Int) = 127
        · have b3 : ((s[k].toNat : Int) == 127) = true := by simp [h3]
          have hno : R = false := by
            rw [HR.out, all_bad s okV k hlt (by rw [okV_int]; simp; omega)]
          subst hno
          go_wp2
          go_ret
          exact ⟨rfl, rfl⟩
        · have hok := hid (show okV s[k] = true by rw [okV_int]; simp; omega)
          have b3 : ((s[k].toNat : Int) == 127) = false := by simpa using h3
          go_wp2
          go_round
          case rel => exact ⟨k + 1, hlt, by go_num, by rw [take_succ_list s k hlt, List.all_append, HA.out]; simp [hok.out]⟩
          case measure => simp [intOf]; omega
    · have hke := take_all s k hlt
      have hyes : R = true := by rw [HR.out, ← hke, HA.out]
      subst hyes
      go_wp2
      go_ret
      exact ⟨rfl, rfl⟩
/-- is a response right, as the document has it? -/
theorem rightS_eq (st : Int) (r : List UInt8) (z : Int) (L : List Fld) : rightS st r z L = (!decide (z < 0) && !decide (1 < z) && rightFs L && decide (100 ≤ st) && decide (st ≤ 599) && decide (r.length ≤ 64) && r.all okV && trimL r == r) := by
  unfold rightS formedS
  have hz : (z == 0 || z == 1) = (!decide (z < 0) && !decide (1 < z)) := by rw [Bool.eq_iff_iff]; simp; omega
  rw [hz]
  have h1 : (!decide (64 < r.length)) = decide (r.length ≤ 64) := by rw [Bool.eq_iff_iff]; simp
  rw [h1]
  generalize decide (r.length ≤ 64) = a
  generalize decide (100 ≤ st) = b
  generalize decide (st ≤ 599) = c
  generalize r.all okV = d
  generalize (trimL r == r) = e
  generalize rightFs L = f
  cases a <;> cases b <;> cases c <;> cases d <;> cases e <;> cases f <;> simp
end Go.Proofs.YtfoghjhdjmapnaaGreatDoor
