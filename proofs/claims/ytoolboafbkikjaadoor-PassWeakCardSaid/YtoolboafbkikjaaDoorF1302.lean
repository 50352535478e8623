/-
  Several texts in one: PureDate, PureShow, PureDoc.
-/
import Derived.Test.YtoolboafbkikjaaDoorPureAll1
set_option linter.unusedVariables false
set_option linter.unusedSimpArgs false
/-
  Dates: the plain mathematics. No program is imported.
-/
namespace Go.Pantry
open Go.RowKit

def leapB (y : Int) : Bool := (y % 4 == 0 && y % 100 != 0) || y % 400 == 0
def leapI (y : Int) : Int := if leapB y = true then 1 else 0
theorem leapI_01 (y : Int) : leapI y = 0 ∨ leapI y = 1 := by unfold leapI; split <;> simp
def daysI (y m : Int) : Int :=
  if y < 1970 ∨ 9999 < y ∨ m < 1 ∨ 12 < m then 0 else if m = 2 then 28 + leapI y else if m = 4 ∨ m = 6 ∨ m = 9 ∨ m = 11 then 30 else 31
/-- leap days before a year -/
def lbI (y : Int) : Int := if y = 0 then 0 else (y - 1) / 4 - (y - 1) / 100 + (y - 1) / 400
/-- days before a year, from 1970 on -/
def ysI (y : Int) : Int := (y - 1970) * 365 + lbI y - 477
/-- days before the month n + 1 -/
def cumR (y : Int) : Nat → Int
  | 0 => 0
  | n + 1 => cumR y n + daysI y ((n : Int) + 1)
theorem daysI_bd (y m : Int) : 0 ≤ daysI y m ∧ daysI y m ≤ 31 := by
  have := leapI_01 y
  unfold daysI; split
  · omega
  · split
    · omega
    · split <;> omega
theorem daysI_lo (y m : Int) (h1 : 1970 ≤ y) (h2 : y ≤ 9999) (h3 : 1 ≤ m) (h4 : m ≤ 12) : 28 ≤ daysI y m := by
  have := leapI_01 y
  unfold daysI; rw [if_neg (by omega)]; split
  · omega
  · split <;> omega
theorem lbI_of (y : Int) (h : 1 ≤ y) : lbI y = (y - 1) / 4 - (y - 1) / 100 + (y - 1) / 400 := by unfold lbI; rw [if_neg (by omega)]
theorem ysI_of (y : Int) (h : 1 ≤ y) : ysI y = (y - 1970) * 365 + ((y - 1) / 4 - (y - 1) / 100 + (y - 1) / 400) - 477 := by unfold ysI; rw [lbI_of y h]
theorem lbI_bd (y : Int) (h1 : 0 ≤ y) (h2 : y ≤ 400000) : -1 ≤ lbI y ∧ lbI y ≤ 100000 := by
  unfold lbI; split <;> omega
theorem ysI_bd (y : Int) (h1 : 0 ≤ y) (h2 : y ≤ 400000) : -800000 ≤ ysI y ∧ ysI y ≤ 150000000 := by
  have := lbI_bd y h1 h2; unfold ysI; omega
theorem leapI_mod (y : Int) : leapI y = if (y % 4 = 0 ∧ y % 100 ≠ 0) ∨ y % 400 = 0 then 1 else 0 := by
  unfold leapI leapB
  by_cases h1 : y % 4 = 0 <;> by_cases h2 : y % 100 = 0 <;> by_cases h3 : y % 400 = 0 <;> simp [h1, h2, h3]
theorem ysI_succ (y : Int) (h : 1 ≤ y) : ysI (y + 1) = ysI y + 365 + leapI y := by
  rw [ysI_of y h, ysI_of (y + 1) (by omega), leapI_mod]
  by_cases h1 : y % 4 = 0 <;> by_cases h2 : y % 100 = 0 <;> by_cases h3 : y % 400 = 0 <;> simp [h1, h2, h3] <;> omega
theorem ysI_first : ysI 1970 = 0 := by decide
theorem ysI_end : ysI 10000 = 2932897 := by decide
theorem ysI_guess (k : Int) (h : 0 ≤ k) : ysI (1970 + k) ≤ 366 * k := by
  rw [ysI_of _ (by omega)]; omega
theorem ysI_mono_nat (y : Int) (h : 1 ≤ y) (n : Nat) : ysI y ≤ ysI (y + n) := by
  induction n with
  | zero => simp
  | succ n ih =>
    have := ysI_succ (y + n) (by omega)
    have := leapI_01 (y + n)
    have e : y + ((n + 1 : Nat) : Int) = y + n + 1 := by omega
    rw [e]; omega
theorem ysI_mono (a b : Int) (h : 1 ≤ a) (hab : a ≤ b) : ysI a ≤ ysI b := by
  have := ysI_mono_nat a h (b - a).toNat
  rw [show a + ((b - a).toNat : Int) = b by omega] at this
  exact this
theorem cumR_bd (y : Int) (n : Nat) : 0 ≤ cumR y n ∧ cumR y n ≤ 31 * n := by
  induction n with
  | zero => simp [cumR]
  | succ n ih => have := daysI_bd y ((n : Int) + 1); simp only [cumR]; omega
theorem cumR_mono (y : Int) (a k : Nat) : cumR y a ≤ cumR y (a + k) := by
  induction k with
  | zero => simp
  | succ k ih => have := daysI_bd y (((a + k : Nat) : Int) + 1); rw [← Nat.add_assoc]; simp only [cumR]; omega
theorem cumR_le (y : Int) (a b : Nat) (h : a ≤ b) : cumR y a ≤ cumR y b := by
  have := cumR_mono y a (b - a); rw [show a + (b - a) = b by omega] at this; exact this
theorem cumR_12 (y : Int) (h1 : 1970 ≤ y) (h2 : y ≤ 9999) : cumR y 12 = 365 + leapI y := by
  have e : ∀ m : Int, daysI y m = if m < 1 ∨ 12 < m then 0 else if m = 2 then 28 + leapI y else if m = 4 ∨ m = 6 ∨ m = 9 ∨ m = 11 then 30 else 31 := by
    intro m; unfold daysI
    by_cases h : m < 1 ∨ 12 < m
    · rw [if_pos h, if_pos (by omega)]
    · rw [if_neg h, if_neg (by omega)]
  simp [cumR, e]; omega

/-- y, m, d is the date of the day D. -/
structure IsDate (D y m d : Int) : Prop where
  y1 : 1970 ≤ y
  y2 : y ≤ 9999
  m1 : 1 ≤ m
  m2 : m ≤ 12
  d1 : 1 ≤ d
  d2 : d ≤ daysI y m
  eq : D = ysI y + cumR y (m - 1).toNat + d - 1
theorem cumR_next (y m : Int) (h : 1 ≤ m) : cumR y m.toNat = cumR y (m - 1).toNat + daysI y m := by
  have e : m.toNat = (m - 1).toNat + 1 := by omega
  rw [e]; simp only [cumR]
  rw [show (((m - 1).toNat : Nat) : Int) + 1 = m by omega]
theorem IsDate.within {D y m d : Int} (h : IsDate D y m d) : ysI y ≤ D ∧ D < ysI (y + 1) := by
  have h1 := cumR_bd y (m - 1).toNat
  have h2 := cumR_next y m h.m1
  have h3 := cumR_le y m.toNat 12 (by have := h.m2; omega)
  have h4 := cumR_12 y h.y1 h.y2
  have h5 := ysI_succ y (by have := h.y1; omega)
  obtain ⟨a, b, c, d', e, f, g⟩ := h
  omega
theorem IsDate.unique {D y m d y' m' d' : Int} (h : IsDate D y m d) (h' : IsDate D y' m' d') : y = y' ∧ m = m' ∧ d = d' := by
  have a := h.within
  have a' := h'.within
  have hy : y = y' := by
    have b1 := h.y1
    have b2 := h'.y1
    rcases Int.lt_trichotomy y y' with hl | hl | hl
    · have := ysI_mono (y + 1) y' (by omega) (by omega); omega
    · exact hl
    · have := ysI_mono (y' + 1) y (by omega) (by omega); omega
  subst hy
  have n1 := cumR_next y m h.m1
  have n2 := cumR_next y m' h'.m1
  have hm : m = m' := by
    have c1 := h.m1
    have c2 := h'.m1
    have e1 := h.eq
    have e2 := h'.eq
    have f1 := h.d1
    have f2 := h'.d1
    have g1 := h.d2
    have g2 := h'.d2
    rcases Int.lt_trichotomy m m' with hl | hl | hl
    · have := cumR_le y m.toNat (m' - 1).toNat (by omega); omega
    · exact hl
    · have := cumR_le y m'.toNat (m - 1).toNat (by omega); omega
  subst hm
  refine ⟨rfl, rfl, ?_⟩
  have := h.eq
  have := h'.eq
  omega
theorem year_ex (D : Int) (h0 : 0 ≤ D) (n : Nat) (h : D < ysI (1970 + (n : Int))) : ∃ y : Int, 1970 ≤ y ∧ y < 1970 + (n : Int) ∧ ysI y ≤ D ∧ D < ysI (y + 1) := by
  induction n with
  | zero => have := ysI_first; simp at h; omega
  | succ n ih =>
    by_cases hc : D < ysI (1970 + (n : Int))
    · obtain ⟨y, a, b, c⟩ := ih hc; exact ⟨y, a, by omega, c⟩
    · exact ⟨1970 + (n : Int), by omega, by omega, by omega, by rw [show (1970 + (n : Int)) + 1 = 1970 + ((n + 1 : Nat) : Int) by omega]; exact h⟩
theorem month_ex (y r : Int) (h0 : 0 ≤ r) (n : Nat) (h : r < cumR y n) : ∃ k : Nat, k < n ∧ cumR y k ≤ r ∧ r < cumR y (k + 1) := by
  induction n with
  | zero => simp [cumR] at h; omega
  | succ n ih =>
    by_cases hc : r < cumR y n
    · obtain ⟨k, a, b⟩ := ih hc; exact ⟨k, by omega, b⟩
    · exact ⟨n, by omega, by omega, h⟩
theorem date_ex (D : Int) (h0 : 0 ≤ D) (h1 : D ≤ 2932896) : ∃ p : Int × Int × Int, IsDate D p.1 p.2.1 p.2.2 := by
  have he := ysI_end
  obtain ⟨y, a, b, c, d⟩ := year_ex D h0 8030 (by rw [show (1970 : Int) + ((8030 : Nat) : Int) = 10000 by rfl]; omega)
  have h12 := cumR_12 y a (by omega)
  have hs := ysI_succ y (by omega)
  obtain ⟨k, k1, k2, k3⟩ := month_ex y (D - ysI y) (by omega) 12 (by omega)
  refine ⟨⟨y, (k : Int) + 1, D - ysI y - cumR y k + 1⟩, a, by omega, by simp; omega, by simp; omega, by simp; omega, ?_, ?_⟩
  · simp only [cumR] at k3; simp; omega
  · simp; omega
open Classical in
noncomputable def dateI (D : Int) : Int × Int × Int := if h : ∃ p : Int × Int × Int, IsDate D p.1 p.2.1 p.2.2 then Classical.choose h else (0, 0, 0)
theorem dateI_is (D : Int) (h0 : 0 ≤ D) (h1 : D ≤ 2932896) : IsDate D (dateI D).1 (dateI D).2.1 (dateI D).2.2 := by
  unfold dateI
  rw [dif_pos (date_ex D h0 h1)]
  exact Classical.choose_spec (date_ex D h0 h1)
theorem dateI_of {D y m d : Int} (h : IsDate D y m d) : dateI D = (y, m, d) := by
  have e : ∃ p : Int × Int × Int, IsDate D p.1 p.2.1 p.2.2 := ⟨(y, m, d), h⟩
  have h2 : IsDate D (dateI D).1 (dateI D).2.1 (dateI D).2.2 := by
    unfold dateI; rw [dif_pos e]; exact Classical.choose_spec e
  obtain ⟨a, b, c⟩ := h2.unique h
  rw [← a, ← b, ← c]
end Go.Pantry
/-
  Dates as texts: the plain mathematics. No program is imported.
-/
namespace Go.Pantry
open Go.RowKit

/-- a digit's byte -/
def digB (n : Int) : UInt8 := UInt8.ofNat (48 + n).toNat
theorem digB_val (n : Int) (h1 : 0 ≤ n) (h2 : n ≤ 9) : ((digB n).toNat : Int) = 48 + n := by
  unfold digB
  rw [UInt8.toNat_ofNat']
  omega
/-- the digits of n from the one that counts u on -/
def digsL (n u : Int) : List UInt8 :=
  if u = 1000 then [digB (n / 1000 % 10), digB (n / 100 % 10), digB (n / 10 % 10), digB (n % 10)]
  else if u = 100 then [digB (n / 100 % 10), digB (n / 10 % 10), digB (n % 10)]
  else if u = 10 then [digB (n / 10 % 10), digB (n % 10)]
  else if u = 1 then [digB (n % 10)]
  else []
def twoL (n : Int) : List UInt8 := [digB (n / 10 % 10), digB (n % 10)]
def fourL (n : Int) : List UInt8 := [digB (n / 1000 % 10), digB (n / 100 % 10), digB (n / 10 % 10), digB (n % 10)]
theorem digsL_10 (n : Int) : digsL n 10 = twoL n := rfl
theorem digsL_1000 (n : Int) : digsL n 1000 = fourL n := rfl
theorem digsL_len (n u : Int) : (digsL n u).length ≤ 4 := by unfold digsL; split <;> (try split) <;> (try split) <;> (try split) <;> simp

def wdT : List (List UInt8) := [[84, 104, 117], [70, 114, 105], [83, 97, 116], [83, 117, 110], [77, 111, 110], [84, 117, 101], [87, 101, 100]]
def moT : List (List UInt8) := [[74, 97, 110], [70, 101, 98], [77, 97, 114], [65, 112, 114], [77, 97, 121], [74, 117, 110], [74, 117, 108], [65, 117, 103], [83, 101, 112], [79, 99, 116], [78, 111, 118], [68, 101, 99]]
/-- a day's name, from the first day of 1970 on; a month's name -/
def wdL (i : Int) : List UInt8 := wdT.getD i.toNat []
def moL (m : Int) : List UInt8 := moT.getD (m - 1).toNat []
theorem wdL_three (i : Int) (h1 : 0 ≤ i) (h2 : i < 7) : ∃ a b c, wdL i = [a, b, c] := by
  have : i = 0 ∨ i = 1 ∨ i = 2 ∨ i = 3 ∨ i = 4 ∨ i = 5 ∨ i = 6 := by omega
  rcases this with rfl | rfl | rfl | rfl | rfl | rfl | rfl <;> exact ⟨_, _, _, rfl⟩
theorem wdL_inj (i j : Int) (h1 : 0 ≤ i) (h2 : i < 7) (h3 : 0 ≤ j) (h4 : j < 7) (h : wdL i = wdL j) : i = j := by
  have a : i = 0 ∨ i = 1 ∨ i = 2 ∨ i = 3 ∨ i = 4 ∨ i = 5 ∨ i = 6 := by omega
  have b : j = 0 ∨ j = 1 ∨ j = 2 ∨ j = 3 ∨ j = 4 ∨ j = 5 ∨ j = 6 := by omega
  rcases a with rfl | rfl | rfl | rfl | rfl | rfl | rfl <;> rcases b with rfl | rfl | rfl | rfl | rfl | rfl | rfl <;> first | rfl | (exact absurd h (by decide))
theorem month_all {m : Int} (h1 : 1 ≤ m) (h2 : m ≤ 12) : m = 1 ∨ m = 2 ∨ m = 3 ∨ m = 4 ∨ m = 5 ∨ m = 6 ∨ m = 7 ∨ m = 8 ∨ m = 9 ∨ m = 10 ∨ m = 11 ∨ m = 12 := by omega
theorem moL_three (m : Int) (h1 : 1 ≤ m) (h2 : m ≤ 12) : ∃ a b c, moL m = [a, b, c] := by
  rcases month_all h1 h2 with rfl | rfl | rfl | rfl | rfl | rfl | rfl | rfl | rfl | rfl | rfl | rfl <;> exact ⟨_, _, _, rfl⟩
theorem moT_inj : ∀ (i j : Fin 12), moT.getD i.1 [] = moT.getD j.1 [] → i = j := by decide
theorem moL_inj (m n : Int) (h1 : 1 ≤ m) (h2 : m ≤ 12) (h3 : 1 ≤ n) (h4 : n ≤ 12) (h : moL m = moL n) : m = n := by
  have := moT_inj ⟨(m - 1).toNat, by omega⟩ ⟨(n - 1).toNat, by omega⟩ h
  have := congrArg Fin.val this
  simp at this
  omega

/-- a time's clock, with the blank ahead of it and the zone behind it -/
def clockL (r : Int) : List UInt8 := 32 :: (twoL (r / 3600) ++ 58 :: (twoL (r / 60 % 60) ++ 58 :: (twoL (r % 60) ++ [32, 71, 77, 84])))
/-- a date's text out of its parts -/
def textL (i y m d r : Int) : List UInt8 := wdL i ++ 44 :: 32 :: (twoL d ++ 32 :: (moL m ++ 32 :: (fourL y ++ clockL r)))
noncomputable def showL (t : Int) : List UInt8 := textL (t / 86400 % 7) (dateI (t / 86400)).1 (dateI (t / 86400)).2.1 (dateI (t / 86400)).2.2 (t % 86400)
theorem clockL_len (r : Int) : (clockL r).length = 13 := rfl
theorem textL_len (i y m d r : Int) (h1 : 0 ≤ i) (h2 : i < 7) (h3 : 1 ≤ m) (h4 : m ≤ 12) : (textL i y m d r).length = 29 := by
  obtain ⟨a, b, c, e⟩ := wdL_three i h1 h2
  obtain ⟨a', b', c', e'⟩ := moL_three m h3 h4
  unfold textL
  rw [e, e']
  rfl
theorem showL_len (t : Int) (h0 : 0 ≤ t) (h1 : t ≤ 253402300799) : (showL t).length = 29 := by
  have h := dateI_is (t / 86400) (by omega) (by omega)
  exact textL_len _ _ _ _ _ (by omega) (by omega) h.m1 h.m2

/-- what digits say -/
def dv (c : UInt8) : Int := (((c.toNat : Int) - 48) % 256)
def numL (l : List UInt8) : Int := l.foldl (fun n c => n * 10 + dv c) 0
theorem dv_bd (c : UInt8) : 0 ≤ dv c ∧ dv c ≤ 255 := by unfold dv; omega
theorem dv_dig (n : Int) (h1 : 0 ≤ n) (h2 : n ≤ 9) : dv (digB n) = n := by
  unfold dv; rw [digB_val n h1 h2]; omega
theorem numL_two (n : Int) (h1 : 0 ≤ n) (h2 : n ≤ 99) : numL (twoL n) = n := by
  unfold numL twoL
  simp only [List.foldl]
  rw [dv_dig _ (by omega) (by omega), dv_dig _ (by omega) (by omega)]
  omega
theorem numL_four (n : Int) (h1 : 0 ≤ n) (h2 : n ≤ 9999) : numL (fourL n) = n := by
  unfold numL fourL
  simp only [List.foldl]
  rw [dv_dig _ (by omega) (by omega), dv_dig _ (by omega) (by omega), dv_dig _ (by omega) (by omega), dv_dig _ (by omega) (by omega)]
  omega
theorem numL_snoc (l : List UInt8) (c : UInt8) : numL (l ++ [c]) = numL l * 10 + dv c := by unfold numL; rw [List.foldl_append]; rfl
def top : Nat → Int
  | 0 => 0
  | n + 1 => top n * 10 + 255
theorem numL_bd_n : ∀ (n : Nat) (l : List UInt8), l.length = n → 0 ≤ numL l ∧ numL l ≤ top n
  | 0, l, h => by
    have : l = [] := List.eq_nil_of_length_eq_zero h
    subst this
    simp [numL, top]
  | n + 1, l, h => by
    rcases List.eq_nil_or_concat l with rfl | ⟨l', c, rfl⟩
    · simp at h
    · have ih := numL_bd_n n l' (by simpa using h)
      have := dv_bd c
      rw [List.concat_eq_append, numL_snoc]
      simp only [top]
      omega
theorem numL_bd (l : List UInt8) : 0 ≤ numL l ∧ numL l ≤ top l.length := numL_bd_n _ l rfl
/-- the pieces of a text of a date's length -/
def sub (l : List UInt8) (i j : Nat) : List UInt8 := (l.take j).drop i
/-- the time that a text tells, if it is a date whose month is n -/
def supI (l : List UInt8) (n : Int) : Int :=
  (ysI (numL (sub l 12 16)) + numL (sub l 5 7) - 1 + cumR (numL (sub l 12 16)) (n - 1).toNat) * 86400 + (numL (sub l 17 19) * 3600 + numL (sub l 20 22) * 60 + numL (sub l 23 25))
theorem text_parts (i y m d r : Int) (h1 : 0 ≤ i) (h2 : i < 7) (h3 : 1 ≤ m) (h4 : m ≤ 12) :
    sub (textL i y m d r) 12 16 = fourL y ∧ sub (textL i y m d r) 8 11 = moL m ∧ sub (textL i y m d r) 5 7 = twoL d ∧
    sub (textL i y m d r) 17 19 = twoL (r / 3600) ∧ sub (textL i y m d r) 20 22 = twoL (r / 60 % 60) ∧ sub (textL i y m d r) 23 25 = twoL (r % 60) ∧
    (textL i y m d r).take 3 = wdL i ∧ (textL i y m d r).drop 16 = clockL r := by
  obtain ⟨a, b, c, e⟩ := wdL_three i h1 h2
  obtain ⟨a', b', c', e'⟩ := moL_three m h3 h4
  unfold textL
  rw [e, e']
  exact ⟨rfl, rfl, rfl, rfl, rfl, rfl, rfl, rfl⟩
theorem supI_show (t : Int) (h0 : 0 ≤ t) (h1 : t ≤ 253402300799) : supI (showL t) (dateI (t / 86400)).2.1 = t ∧ sub (showL t) 8 11 = moL (dateI (t / 86400)).2.1 := by
  have h := dateI_is (t / 86400) (by omega) (by omega)
  obtain ⟨p1, p2, p3, p4, p5, p6, p7, p8⟩ := text_parts (t / 86400 % 7) (dateI (t / 86400)).1 (dateI (t / 86400)).2.1 (dateI (t / 86400)).2.2 (t % 86400) (by omega) (by omega) h.m1 h.m2
  refine ⟨?_, p2⟩
  unfold supI showL
  rw [p1, p3, p4, p5, p6]
  have e := h.eq
  have hd := daysI_bd (dateI (t / 86400)).1 (dateI (t / 86400)).2.1
  have a1 := h.y1
  have a2 := h.y2
  have a3 := h.d1
  have a4 := h.d2
  rw [numL_four _ (by omega) (by omega), numL_two _ (by omega) (by omega), numL_two _ (by omega) (by omega), numL_two _ (by omega) (by omega), numL_two _ (by omega) (by omega)]
  omega
theorem showL_inj (t u : Int) (h0 : 0 ≤ t) (h1 : t ≤ 253402300799) (g0 : 0 ≤ u) (g1 : u ≤ 253402300799) (h : showL t = showL u) : t = u := by
  obtain ⟨a, b⟩ := supI_show t h0 h1
  obtain ⟨c, d⟩ := supI_show u g0 g1
  have i1 := dateI_is (t / 86400) (by omega) (by omega)
  have i2 := dateI_is (u / 86400) (by omega) (by omega)
  have hm := moL_inj _ _ i1.m1 i1.m2 i2.m1 i2.m2 (b.symm.trans ((congrArg (fun l => sub l 8 11) h).trans d))
  rw [← a, ← c, h, hm]
open Classical in
/-- a month by its name; 0, if there is none -/
noncomputable def moNum (l : List UInt8) : Int := if h : ∃ m : Int, (1 ≤ m ∧ m ≤ 12) ∧ l = moL m then Classical.choose h else 0
theorem moNum_of (m : Int) (h1 : 1 ≤ m) (h2 : m ≤ 12) : moNum (moL m) = m := by
  have hx : ∃ n : Int, (1 ≤ n ∧ n ≤ 12) ∧ moL m = moL n := ⟨m, ⟨h1, h2⟩, rfl⟩
  unfold moNum
  rw [dif_pos hx]
  obtain ⟨⟨a, b⟩, c⟩ := Classical.choose_spec hx
  exact (moL_inj _ _ h1 h2 a b c).symm
theorem moNum_none (l : List UInt8) (h : ∀ m : Int, 1 ≤ m → m ≤ 12 → l ≠ moL m) : moNum l = 0 := by
  unfold moNum
  rw [dif_neg]
  rintro ⟨n, ⟨a, b⟩, c⟩
  exact h n a b c
theorem moNum_bd (l : List UInt8) : 0 ≤ moNum l ∧ moNum l ≤ 12 := by
  unfold moNum
  split
  · rename_i hx
    have := Classical.choose_spec hx
    omega
  · omega
open Classical in
/-- the time whose date the text is -/
noncomputable def readDL (l : List UInt8) : Option Int := if h : ∃ t : Int, (0 ≤ t ∧ t ≤ 253402300799) ∧ showL t = l then some (Classical.choose h) else none
theorem readDL_some {l : List UInt8} {t : Int} (h : readDL l = some t) : 0 ≤ t ∧ t ≤ 253402300799 ∧ showL t = l := by
  unfold readDL at h
  split at h
  · rename_i hx
    have := Classical.choose_spec hx
    cases h
    exact ⟨this.1.1, this.1.2, this.2⟩
  · cases h
theorem readDL_show (t : Int) (h0 : 0 ≤ t) (h1 : t ≤ 253402300799) : readDL (showL t) = some t := by
  have hx : ∃ u : Int, (0 ≤ u ∧ u ≤ 253402300799) ∧ showL u = showL t := ⟨t, ⟨h0, h1⟩, rfl⟩
  unfold readDL
  rw [dif_pos hx]
  obtain ⟨⟨a, b⟩, c⟩ := Classical.choose_spec hx
  rw [showL_inj _ _ a b h0 h1 c]
theorem readDL_none {l : List UInt8} (h : ∀ t : Int, 0 ≤ t → t ≤ 253402300799 → showL t ≠ l) : readDL l = none := by
  unfold readDL
  rw [dif_neg]
  rintro ⟨t, ⟨a, b⟩, c⟩
  exact h t a b c
end Go.Pantry
/-
  Dates as the document's layer 12 reads them. No program is imported.
-/
namespace Go.Pantry
open Go.RowKit

/-- the number of digits; -1: they are none -/
def nD (l : List UInt8) : Int := if l.all isDig then ((valL l : Nat) : Int) else -1
theorem digB_dig (n : Int) (h1 : 0 ≤ n) (h2 : n ≤ 9) : isDig (digB n) = true := by
  have := digB_val n h1 h2
  unfold isDig
  simp; omega
theorem digB_nat (n : Int) (h1 : 0 ≤ n) (h2 : n ≤ 9) : (digB n).toNat = 48 + n.toNat := by
  have := digB_val n h1 h2
  omega
theorem nD_two (n : Int) (h1 : 0 ≤ n) (h2 : n ≤ 99) : nD (twoL n) = n := by
  unfold nD twoL
  rw [if_pos (by simp only [List.all_cons, List.all_nil, Bool.and_true]; rw [digB_dig _ (by omega) (by omega), digB_dig _ (by omega) (by omega)]; rfl)]
  unfold valL
  simp only [List.foldl_cons, List.foldl_nil]
  rw [digB_nat _ (by omega) (by omega), digB_nat _ (by omega) (by omega)]
  omega
theorem nD_four (n : Int) (h1 : 0 ≤ n) (h2 : n ≤ 9999) : nD (fourL n) = n := by
  unfold nD fourL
  rw [if_pos (by simp only [List.all_cons, List.all_nil, Bool.and_true]; rw [digB_dig _ (by omega) (by omega), digB_dig _ (by omega) (by omega), digB_dig _ (by omega) (by omega), digB_dig _ (by omega) (by omega)]; rfl)]
  unfold valL
  simp only [List.foldl_cons, List.foldl_nil]
  rw [digB_nat _ (by omega) (by omega), digB_nat _ (by omega) (by omega), digB_nat _ (by omega) (by omega), digB_nat _ (by omega) (by omega)]
  omega
theorem valL_lt (l : List UInt8) (h : l.all isDig = true) : valL l < 10 ^ l.length := by
  rcases List.eq_nil_or_concat l with rfl | ⟨l', c, rfl⟩
  · simp [valL]
  · rw [List.concat_eq_append] at h ⊢
    rw [List.all_append, Bool.and_eq_true] at h
    have ih := valL_lt l' h.1
    have hc := isDig_bounds (by simpa using h.2 : isDig c = true)
    rw [valL_snoc, List.length_append, List.length_singleton, Nat.pow_succ]
    omega
termination_by l.length
decreasing_by subst_vars; simp
theorem nD_bd (l : List UInt8) {k : Nat} (h : l.length ≤ k) : -1 ≤ nD l ∧ nD l < 10 ^ k := by
  unfold nD
  split
  · rename_i ha
    have h1 := valL_lt l ha
    have h2 := Nat.pow_le_pow_right (n := 10) (by decide) h
    have h3 : ((10 ^ k : Nat) : Int) = (10 : Int) ^ k := by simp
    omega
  · have : (0 : Int) < 10 ^ k := Int.pow_pos (by decide)
    omega
/-- the time of a text, if it is a date whose month is m -/
def docT (l : List UInt8) (m : Int) : Int :=
  (nD (sub l 5 7) - 1 + ysI (nD (sub l 12 16)) + cumR (nD (sub l 12 16)) (m - 1).toNat) * 86400 + nD (sub l 17 19) * 3600 + nD (sub l 20 22) * 60 + nD (sub l 23 25)
/-- of a date's text all is as it should be -/
theorem doc_show {l : List UInt8} {t : Int} (h : readDL l = some t) : l.length = 29 ∧ (1 ≤ moNum (sub l 8 11) ∧ moNum (sub l 8 11) ≤ 12) ∧ 1970 ≤ nD (sub l 12 16) ∧ 1 ≤ nD (sub l 5 7) ∧ docT l (moNum (sub l 8 11)) = t ∧ 0 ≤ t ∧ t ≤ 253402300799 ∧ showL t = l := by
  obtain ⟨h0, h1, hs⟩ := readDL_some h
  have hl := showL_len t h0 h1
  obtain ⟨q, hq⟩ := supI_show t h0 h1
  have i := dateI_is (t / 86400) (by omega) (by omega)
  obtain ⟨p1, p2, p3, p4, p5, p6, p7, p8⟩ := text_parts (t / 86400 % 7) (dateI (t / 86400)).1 (dateI (t / 86400)).2.1 (dateI (t / 86400)).2.2 (t % 86400) (by omega) (by omega) i.m1 i.m2
  have hb := daysI_bd (dateI (t / 86400)).1 (dateI (t / 86400)).2.1
  have y1 := i.y1
  have y2 := i.y2
  have d1 := i.d1
  have d2 := i.d2
  have e := i.eq
  subst hs
  have hm : moNum (sub (showL t) 8 11) = (dateI (t / 86400)).2.1 := by rw [hq, moNum_of _ i.m1 i.m2]
  have hy : nD (sub (showL t) 12 16) = (dateI (t / 86400)).1 := by unfold showL; rw [p1, nD_four _ (by omega) (by omega)]
  have hd : nD (sub (showL t) 5 7) = (dateI (t / 86400)).2.2 := by unfold showL; rw [p3, nD_two _ (by omega) (by omega)]
  have hh : nD (sub (showL t) 17 19) = t % 86400 / 3600 := by unfold showL; rw [p4, nD_two _ (by omega) (by omega)]
  have hn : nD (sub (showL t) 20 22) = t % 86400 / 60 % 60 := by unfold showL; rw [p5, nD_two _ (by omega) (by omega)]
  have hc : nD (sub (showL t) 23 25) = t % 86400 % 60 := by unfold showL; rw [p6, nD_two _ (by omega) (by omega)]
  refine ⟨hl, by rw [hm]; exact ⟨i.m1, i.m2⟩, by rw [hy]; exact y1, by rw [hd]; exact d1, ?_, h0, h1, rfl⟩
  unfold docT
  rw [hm, hy, hd, hh, hn, hc]
  omega
/-- a time whose date it is -/
theorem doc_none {l : List UInt8} (h : readDL l = none) {t : Int} (h0 : 0 ≤ t) (h1 : t ≤ 253402300799) : (showL t == l) = false := by
  rw [beq_eq_false_iff_ne]
  intro e
  rw [← e, readDL_show t h0 h1] at h
  cases h
end Go.Pantry
