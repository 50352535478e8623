/-
  Plain mathematics of layer 1: a number's digits.
-/
import Derived.Test.YtfoghjhdjmapnaaDoorPureList
namespace Go.Pantry
theorem digC (n : Nat) (h : n < 10) : isDig (48 + n).toUInt8 = true ∧ ((48 + n).toUInt8).toNat - 48 = n := by
  have e : ((48 + n).toUInt8).toNat = 48 + n := by
    rw [Nat.toUInt8_eq, UInt8.toNat_ofNat']; omega
  constructor
  · unfold isDig; rw [e]; simp; omega
  · omega
theorem digF_all (f : Nat) : ∀ n, (digF f n).all isDig = true := by
  induction f with
  | zero => intro n; rfl
  | succ f ih =>
    intro n
    rw [digF]
    split
    · rename_i h; rw [List.all_cons, (digC n h).1]; rfl
    · rw [List.all_append, ih, List.all_cons, (digC (n % 10) (by omega)).1]; rfl
theorem digF_ne (f n : Nat) : digF (f + 1) n ≠ [] := by
  rw [digF]; split <;> simp
theorem digF_val (f : Nat) : ∀ n, n < 10 ^ (f + 1) → valL (digF (f + 1) n) = n := by
  induction f with
  | zero =>
    intro n h
    simp at h
    rw [digF, if_pos h]
    have := (digC n h).2
    simp [valL]; simpa using this
  | succ f ih =>
    intro n h
    rw [digF]
    split
    · rename_i h
      have := (digC n h).2
      simp [valL]; simpa using this
    · rw [valL_snoc, ih (n / 10) (by rw [Nat.pow_succ] at h; omega), (digC (n % 10) (by omega)).2]; omega
theorem valL_zero (l : List UInt8) : valL (48 :: l) = valL l := by simp [valL]
theorem valL_zeros (k : Nat) (l : List UInt8) : valL (List.replicate k 48 ++ l) = valL l := by
  induction k with
  | zero => rfl
  | succ k ih => rw [List.replicate_succ, List.cons_append, valL_zero, ih]
theorem number_zeros (k n : Nat) (h : n < 10 ^ 13) : numberL (List.replicate k 48 ++ digF 13 n) = some (min n 2147483648) := by
  unfold numberL
  have h1 : (List.replicate k (48 : UInt8) ++ digF 13 n).all isDig = true := by
    rw [List.all_append, digF_all, Bool.and_true, List.all_eq_true]
    intro x hx
    rw [(List.mem_replicate.1 hx).2]; decide
  have h2 : (!(List.replicate k (48 : UInt8) ++ digF 13 n).isEmpty) = true := by
    simp [digF_ne 12 n]
  rw [h1, h2, valL_zeros, digF_val 12 n h]; rfl
theorem number_more (k n d : Nat) (h : n < 10 ^ 13) (hd : d < 10) : numberL (List.replicate k 48 ++ digF 13 n ++ [(48 + d).toUInt8]) = some (min (10 * n + d) 2147483648) := by
  unfold numberL
  have h1 : (List.replicate k (48 : UInt8) ++ digF 13 n ++ [(48 + d).toUInt8]).all isDig = true := by
    have hz : (List.replicate k (48 : UInt8)).all isDig = true := by
      rw [List.all_eq_true]
      intro x hx
      rw [(List.mem_replicate.1 hx).2]; decide
    rw [List.all_append, List.all_append, digF_all, List.all_cons, (digC d hd).1, hz]; rfl
  have h2 : (!(List.replicate k (48 : UInt8) ++ digF 13 n ++ [(48 + d).toUInt8]).isEmpty) = true := by simp
  rw [h1, h2, valL_snoc, valL_zeros, digF_val 12 n h, (digC d hd).2]; rfl
end Go.Pantry
