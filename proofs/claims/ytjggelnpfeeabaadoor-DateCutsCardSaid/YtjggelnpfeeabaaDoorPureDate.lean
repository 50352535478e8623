/-
  Dates: the plain mathematics. No program is imported.
-/
import Derived.Test.YtjggelnpfeeabaaDoorBase
namespace Go.Pantry
open Go.RowKit

def leapB (y : Int) : Bool := (y % 4 == 0 && y % 100 != 0) || y % 400 == 0
def leapI (y : Int) : Int := if leapB y = true then 1 else 0
theorem leapI_01 (y : Int) : leapI y = 0 ∨ leapI y = 1 := by unfold leapI; split <;> simp
def daysI (y m : Int) : Int :=
  if y < 1970 ∨ 9999 < y ∨ m < 1 ∨ 12 < m then 0 else if m = 2 then 28 + leapI y else if m = 4 ∨ m = 6 ∨ m = 9 ∨ m = 11 then 30 else 31
/-- leap days before a year -/
def lbI (y : Int) : Int := if y = 0 then 0 else (y - 1) / 4 - (y - 1) / 100 + (y - 1) / 400
/-- days before a year, from 1970 on -/
def ysI (y : Int) : Int := (y - 1970) * 365 + lbI y - 477
/-- days before the month n + 1 -/
def cumR (y : Int) : Nat → Int
  | 0 => 0
  | n + 1 => cumR y n + daysI y ((n : Int) + 1)
theorem daysI_bd (y m : Int) : 0 ≤ daysI y m ∧ daysI y m ≤ 31 := by
  have := leapI_01 y
  unfold daysI; split
  · omega
  · split
    · omega
    · split <;> omega
theorem daysI_lo (y m : Int) (h1 : 1970 ≤ y) (h2 : y ≤ 9999) (h3 : 1 ≤ m) (h4 : m ≤ 12) : 28 ≤ daysI y m := by
  have := leapI_01 y
  unfold daysI; rw [if_neg (by omega)]; split
  · omega
  · split <;> omega
theorem lbI_of (y : Int) (h : 1 ≤ y) : lbI y = (y - 1) / 4 - (y - 1) / 100 + (y - 1) / 400 := by unfold lbI; rw [if_neg (by omega)]
theorem ysI_of (y : Int) (h : 1 ≤ y) : ysI y = (y - 1970) * 365 + ((y - 1) / 4 - (y - 1) / 100 + (y - 1) / 400) - 477 := by unfold ysI; rw [lbI_of y h]
theorem lbI_bd (y : Int) (h1 : 0 ≤ y) (h2 : y ≤ 400000) : -1 ≤ lbI y ∧ lbI y ≤ 100000 := by
  unfold lbI; split <;> omega
theorem ysI_bd (y : Int) (h1 : 0 ≤ y) (h2 : y ≤ 400000) : -800000 ≤ ysI y ∧ ysI y ≤ 150000000 := by
  have := lbI_bd y h1 h2; unfold ysI; omega
theorem leapI_mod (y : Int) : leapI y = if (y % 4 = 0 ∧ y % 100 ≠ 0) ∨ y % 400 = 0 then 1 else 0 := by
  unfold leapI leapB
  by_cases h1 : y % 4 = 0 <;> by_cases h2 : y % 100 = 0 <;> by_cases h3 : y % 400 = 0 <;> simp [h1, h2, h3]
theorem ysI_succ (y : Int) (h : 1 ≤ y) : ysI (y + 1) = ysI y + 365 + leapI y := by
  rw [ysI_of y h, ysI_of (y + 1) (by omega), leapI_mod]
  by_cases h1 : y % 4 = 0 <;> by_cases h2 : y % 100 = 0 <;> by_cases h3 : y % 400 = 0 <;> simp [h1, h2, h3] <;> omega
theorem ysI_first : ysI 1970 = 0 := by decide
theorem ysI_end : ysI 10000 = 2932897 := by decide
theorem ysI_guess (k : Int) (h : 0 ≤ k) : ysI (1970 + k) ≤ 366 * k := by
  rw [ysI_of _ (by omega)]; omega
theorem ysI_mono_nat (y : Int) (h : 1 ≤ y) (n : Nat) : ysI y ≤ ysI (y + n) := by
  induction n with
  | zero => simp
  | succ n ih =>
    have := ysI_succ (y + n) (by omega)
    have := leapI_01 (y + n)
    have e : y + ((n + 1 : Nat) : Int) = y + n + 1 := by omega
    rw [e]; omega
theorem ysI_mono (a b : Int) (h : 1 ≤ a) (hab : a ≤ b) : ysI a ≤ ysI b := by
  have := ysI_mono_nat a h (b - a).toNat
  rw [show a + ((b - a).toNat : Int) = b by omega] at this
  exact this
theorem cumR_bd (y : Int) (n : Nat) : 0 ≤ cumR y n ∧ cumR y n ≤ 31 * n := by
  induction n with
  | zero => simp [cumR]
  | succ n ih => have := daysI_bd y ((n : Int) + 1); simp only [cumR]; omega
theorem cumR_mono (y : Int) (a k : Nat) : cumR y a ≤ cumR y (a + k) := by
  induction k with
  | zero => simp
  | succ k ih => have := daysI_bd y (((a + k : Nat) : Int) + 1); rw [← Nat.add_assoc]; simp only [cumR]; omega
theorem cumR_le (y : Int) (a b : Nat) (h : a ≤ b) : cumR y a ≤ cumR y b := by
  have := cumR_mono y a (b - a); rw [show a + (b - a) = b by omega] at this; exact this
theorem cumR_12 (y : Int) (h1 : 1970 ≤ y) (h2 : y ≤ 9999) : cumR y 12 = 365 + leapI y := by
  have e : ∀ m : Int, daysI y m = if m < 1 ∨ 12 < m then 0 else if m = 2 then 28 + leapI y else if m = 4 ∨ m = 6 ∨ m = 9 ∨ m = 11 then 30 else 31 := by
    intro m; unfold daysI
    by_cases h : m < 1 ∨ 12 < m
    · rw [if_pos h, if_pos (by omega)]
    · rw [if_neg h, if_neg (by omega)]
  simp [cumR, e]; omega

/-- y, m, d is the date of the day D. -/
structure IsDate (D y m d : Int) : Prop where
  y1 : 1970 ≤ y
  y2 : y ≤ 9999
  m1 : 1 ≤ m
  m2 : m ≤ 12
  d1 : 1 ≤ d
  d2 : d ≤ daysI y m
  eq : D = ysI y + cumR y (m - 1).toNat + d - 1
theorem cumR_next (y m : Int) (h : 1 ≤ m) : cumR y m.toNat = cumR y (m - 1).toNat + daysI y m := by
  have e : m.toNat = (m - 1).toNat + 1 := by omega
  rw [e]; simp only [cumR]
  rw [show (((m - 1).toNat : Nat) : Int) + 1 = m by omega]
theorem IsDate.within {D y m d : Int} (h : IsDate D y m d) : ysI y ≤ D ∧ D < ysI (y + 1) := by
  have h1 := cumR_bd y (m - 1).toNat
  have h2 := cumR_next y m h.m1
  have h3 := cumR_le y m.toNat 12 (by have := h.m2; omega)
  have h4 := cumR_12 y h.y1 h.y2
  have h5 := ysI_succ y (by have := h.y1; omega)
  obtain ⟨a, b, c, d', e, f, g⟩ := h
  omega
theorem IsDate.unique {D y m d y' m' d' : Int} (h : IsDate D y m d) (h' : IsDate D y' m' d') : y = y' ∧ m = m' ∧ d = d' := by
  have a := h.within
  have a' := h'.within
  have hy : y = y' := by
    have b1 := h.y1
    have b2 := h'.y1
    rcases Int.lt_trichotomy y y' with hl | hl | hl
    · have := ysI_mono (y + 1) y' (by omega) (by omega); omega
    · exact hl
    · have := ysI_mono (y' + 1) y (by omega) (by omega); omega
  subst hy
  have n1 := cumR_next y m h.m1
  have n2 := cumR_next y m' h'.m1
  have hm : m = m' := by
    have c1 := h.m1
    have c2 := h'.m1
    have e1 := h.eq
    have e2 := h'.eq
    have f1 := h.d1
    have f2 := h'.d1
    have g1 := h.d2
    have g2 := h'.d2
    rcases Int.lt_trichotomy m m' with hl | hl | hl
    · have := cumR_le y m.toNat (m' - 1).toNat (by omega); omega
    · exact hl
    · have := cumR_le y m'.toNat (m - 1).toNat (by omega); omega
  subst hm
  refine ⟨rfl, rfl, ?_⟩
  have := h.eq
  have := h'.eq
  omega
theorem year_ex (D : Int) (h0 : 0 ≤ D) (n : Nat) (h : D < ysI (1970 + (n : Int))) : ∃ y : Int, 1970 ≤ y ∧ y < 1970 + (n : Int) ∧ ysI y ≤ D ∧ D < ysI (y + 1) := by
  induction n with
  | zero => have := ysI_first; simp at h; omega
  | succ n ih =>
    by_cases hc : D < ysI (1970 + (n : Int))
    · obtain ⟨y, a, b, c⟩ := ih hc; exact ⟨y, a, by omega, c⟩
    · exact ⟨1970 + (n : Int), by omega, by omega, by omega, by rw [show (1970 + (n : Int)) + 1 = 1970 + ((n + 1 : Nat) : Int) by omega]; exact h⟩
theorem month_ex (y r : Int) (h0 : 0 ≤ r) (n : Nat) (h : r < cumR y n) : ∃ k : Nat, k < n ∧ cumR y k ≤ r ∧ r < cumR y (k + 1) := by
  induction n with
  | zero => simp [cumR] at h; omega
  | succ n ih =>
    by_cases hc : r < cumR y n
    · obtain ⟨k, a, b⟩ := ih hc; exact ⟨k, by omega, b⟩
    · exact ⟨n, by omega, by omega, h⟩
theorem date_ex (D : Int) (h0 : 0 ≤ D) (h1 : D ≤ 2932896) : ∃ p : Int × Int × Int, IsDate D p.1 p.2.1 p.2.2 := by
  have he := ysI_end
  obtain ⟨y, a, b, c, d⟩ := year_ex D h0 8030 (by rw [show (1970 : Int) + ((8030 : Nat) : Int) = 10000 by rfl]; omega)
  have h12 := cumR_12 y a (by omega)
  have hs := ysI_succ y (by omega)
  obtain ⟨k, k1, k2, k3⟩ := month_ex y (D - ysI y) (by omega) 12 (by omega)
  refine ⟨⟨y, (k : Int) + 1, D - ysI y - cumR y k + 1⟩, a, by omega, by simp; omega, by simp; omega, by simp; omega, ?_, ?_⟩
  · simp only [cumR] at k3; simp; omega
  · simp; omega
open Classical in
noncomputable def dateI (D : Int) : Int × Int × Int := if h : ∃ p : Int × Int × Int, IsDate D p.1 p.2.1 p.2.2 then Classical.choose h else (0, 0, 0)
theorem dateI_is (D : Int) (h0 : 0 ≤ D) (h1 : D ≤ 2932896) : IsDate D (dateI D).1 (dateI D).2.1 (dateI D).2.2 := by
  unfold dateI
  rw [dif_pos (date_ex D h0 h1)]
  exact Classical.choose_spec (date_ex D h0 h1)
theorem dateI_of {D y m d : Int} (h : IsDate D y m d) : dateI D = (y, m, d) := by
  have e : ∃ p : Int × Int × Int, IsDate D p.1 p.2.1 p.2.2 := ⟨(y, m, d), h⟩
  have h2 : IsDate D (dateI D).1 (dateI D).2.1 (dateI D).2.2 := by
    unfold dateI; rw [dif_pos e]; exact Classical.choose_spec e
  obtain ⟨a, b, c⟩ := h2.unique h
  rw [← a, ← b, ← c]
end Go.Pantry
