/-
  A range over a string: a rune whose first byte is 80 (hexadecimal) or beyond takes such bytes alone. No program is imported.
-/
import Derived.Test.YtfoghjhdjmapnaaGreatDoorBase
import Derived.Lib.OthersKept
namespace Go.Pantry
open Go.RowKit

theorem get_bang (s : ByteArray) (k : Nat) (h : k < s.size) : s.get! k = s[k]'h := by
  simp [ByteArray.get!, getElem!_pos, h]
  rfl
theorem decode_wide (s : ByteArray) (pos : Nat) (h : pos < s.size) (ha : 128 ≤ (s[pos]'h).toNat) :
    pos + (Utf8.decode s pos).2 ≤ s.size ∧ ∀ k (hk : k < s.size), pos ≤ k → k < pos + (Utf8.decode s pos).2 → 128 ≤ (s[k]'hk).toNat := by
  have hn : ¬ (s.get! (pos + 0)).toNat < 128 := by rw [Nat.add_zero, get_bang s pos h]; omega
  have one : pos + 1 ≤ s.size ∧ ∀ k (hk : k < s.size), pos ≤ k → k < pos + 1 → 128 ≤ (s[k]'hk).toNat := ⟨by omega, fun k hk h1 h2 => by
    have : k = pos := by omega
    subst this; exact ha⟩
  have cont : ∀ j, (pos + j < s.size ∧ (s.get! (pos + j)).toNat / 64 = 2) → pos + j < s.size ∧ ∀ hk : pos + j < s.size, 128 ≤ (s[pos + j]'hk).toNat := fun j ⟨h1, h2⟩ => ⟨h1, fun hk => by
    rw [get_bang s (pos + j) hk] at h2; omega⟩
  simp only [Utf8.decode, hn, if_false]
  split
  · rename_i h1
    simp only [Bool.and_eq_true, decide_eq_true_eq, beq_iff_eq] at h1
    obtain ⟨l1, c1⟩ := cont 1 h1.2
    split
    · refine ⟨by simp only; omega, fun k hk h2 h3 => ?_⟩
      simp only at h3
      have : k = pos ∨ k = pos + 1 := by omega
      rcases this with rfl | rfl
      · exact ha
      · exact c1 hk
    · exact one
  · split
    · rename_i h1
      simp only [Bool.and_eq_true, decide_eq_true_eq, beq_iff_eq] at h1
      obtain ⟨l1, c1⟩ := cont 1 h1.1.2
      obtain ⟨l2, c2⟩ := cont 2 h1.2
      split
      · refine ⟨by simp only; omega, fun k hk h2 h3 => ?_⟩
        simp only at h3
        have : k = pos ∨ k = pos + 1 ∨ k = pos + 2 := by omega
        rcases this with rfl | rfl | rfl
        · exact ha
        · exact c1 hk
        · exact c2 hk
      · exact one
    · split
      · rename_i h1
        simp only [Bool.and_eq_true, decide_eq_true_eq, beq_iff_eq] at h1
        obtain ⟨l1, c1⟩ := cont 1 h1.1.1.2
        obtain ⟨l2, c2⟩ := cont 2 h1.1.2
        obtain ⟨l3, c3⟩ := cont 3 h1.2
        split
        · refine ⟨by simp only; omega, fun k hk h2 h3 => ?_⟩
          simp only at h3
          have : k = pos ∨ k = pos + 1 ∨ k = pos + 2 ∨ k = pos + 3 := by omega
          rcases this with rfl | rfl | rfl | rfl
          · exact ha
          · exact c1 hk
          · exact c2 hk
          · exact c3 hk
        · exact one
      · exact one
/-- all bytes up to the next rune -/
theorem all_rune (s : ByteArray) (p : UInt8 → Bool) (pos n : Nat) (hn : pos + n ≤ s.size) (h : (s.data.toList.take pos).all p = true) (hk : ∀ k (hk : k < s.size), pos ≤ k → k < pos + n → p (s[k]'hk) = true) : (s.data.toList.take (pos + n)).all p = true := by
  rw [List.all_eq_true] at h ⊢
  intro x hx
  obtain ⟨k, hk1⟩ := List.mem_iff_getElem?.1 hx
  rw [List.getElem?_take] at hk1
  split at hk1
  · rename_i hlt
    have hks : k < s.size := by omega
    by_cases hkp : k < pos
    · refine h x (List.mem_iff_getElem?.2 ⟨k, ?_⟩)
      rw [List.getElem?_take, if_pos hkp]
      exact hk1
    · have := hk k hks (by omega) hlt
      have e : s.data.toList[k]? = some s[k] := by rw [List.getElem?_eq_getElem (by rw [size_list]; exact hks)]; rfl
      rw [e] at hk1
      cases hk1
      exact this
  · cases hk1
theorem all_bad (s : ByteArray) (p : UInt8 → Bool) (k : Nat) (hk : k < s.size) (h : p s[k] = false) : s.data.toList.all p = false :=
  List.all_eq_false.2 ⟨s[k], by have := List.getElem_mem (l := s.data.toList) (n := k) (by rw [size_list]; exact hk); exact this, by rw [h]; simp⟩
end Go.Pantry
