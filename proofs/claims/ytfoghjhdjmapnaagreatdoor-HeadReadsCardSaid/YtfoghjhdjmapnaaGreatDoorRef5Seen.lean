/-
  The document's answers of layer 5: seen; a request's Right in the statement's order.
-/
import Derived.Test.YtfoghjhdjmapnaaGreatDoorHeadB
import Derived.Test.YtfoghjhdjmapnaaGreatDoorDrawn
namespace Go.Proofs.YtfoghjhdjmapnaaGreatDoor
open Go.RowKit Go.Pantry

theorem seenC_int (c : UInt8) : seenC c = (decide (33 ≤ (c.toNat : Int)) && decide ((c.toNat : Int) ≤ 126)) := by
  unfold seenC; rw [Bool.eq_iff_iff]; simp; omega
theorem refSeen_any (s : ByteArray) (w : World) (hs : s.size ≤ maxLen) :
    Calls Tryz.prog 42 #[.string s] w fun e w' => e = .returned (.bool (seenL s.data.toList)) ∧ w = w' := by
  unfold maxLen at hs
  have hsl : seenL s.data.toList = (decide (0 < (s.size : Int)) && s.data.toList.all seenC) := by
    rw [← not_isEmpty_int]
    rfl
  obtain ⟨R, hR⟩ : ∃ R, seenL s.data.toList = R := ⟨_, rfl⟩
  rw [hR] at hsl ⊢
  have HR := hid hsl
  clear hR hsl
  go_enter Tryz.func42, Tryz.ntmps42
  go_wp2
  go_loop [3] (fun i => ∃ k : Nat, k ≤ s.size ∧ i = .int .i64 k ∧ (s.data.toList.take k).all seenC = true) (fun i => s.size - (intOf i).toNat)
  case atStart => exact ⟨0, Nat.zero_le _, rfl, rfl⟩
  case round =>
    obtain ⟨k, hk, rfl, hall⟩ := hrel
    have HA := hid hall
    clear hall
    by_cases hlt : k < s.size
    · by_cases h1 : (s[k].toNat : Int) < 33
      · have hno : R = false := by
          rw [HR.out, all_bad s seenC k hlt (by rw [seenC_int]; simp; omega)]
          simp
        subst hno
        go_wp2
        go_ret
        exact ⟨rfl, rfl⟩
      · by_cases h2 : (126 : Int) < (s[k].toNat : Int)
        · have hno : R = false := by
            rw [HR.out, all_bad s seenC k hlt (by rw [seenC_int]; simp; omega)]
            simp
          subst hno
          go_wp2
          go_ret
          exact ⟨rfl, rfl⟩
        · have hok := hid (show seenC s[k] = true by rw [seenC_int]; simp; omega)
          go_wp2
          go_round
          case rel => exact ⟨k + 1, hlt, by go_num, by rw [take_succ_list s k hlt, List.all_append, HA.out]; simp [hok.out]⟩
          case measure => simp [intOf]; omega
    · have hke := take_all s k hlt
      have hyes : R = decide (0 < (s.size : Int)) := by rw [HR.out, ← hke, HA.out]; simp
      have HY := hid hyes
      clear hke hyes
      go_wp2
      go_ret
      exact ⟨ret_bool (by rw [HY.out]; simp), rfl⟩
abbrev hdV (m t : List UInt8) (st z : Int) (v : Value) : Value := .agg #[strV m, strV t, .int .i64 st, .int .i64 z, v]
/-- is a request right, as the document has it? -/
theorem rightQ_eq (m t : List UInt8) (z : Int) (L : List Fld) : rightQ m t z L = (!decide (z < 0) && !decide (1 < z) && rightFs L && tokenL m && decide (m.length ≤ 16) && seenL t && decide (t.length ≤ 1024)) := by
  unfold rightQ formedR longR
  have hz : (z == 0 || z == 1) = (!decide (z < 0) && !decide (1 < z)) := by rw [Bool.eq_iff_iff]; simp; omega
  rw [hz]
  have h1 : (!(decide (16 < m.length) || decide (1024 < t.length))) = (decide (m.length ≤ 16) && decide (t.length ≤ 1024)) := by rw [Bool.eq_iff_iff]; simp
  rw [h1]
  cases tokenL m <;> cases seenL t <;> cases rightFs L <;> simp
  all_goals
    rw [Bool.eq_iff_iff]
    simp
    try omega
end Go.Proofs.YtfoghjhdjmapnaaGreatDoor
