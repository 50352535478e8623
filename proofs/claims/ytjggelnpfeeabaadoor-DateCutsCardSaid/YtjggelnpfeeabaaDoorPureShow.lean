/-
  Dates as texts: the plain mathematics. No program is imported.
-/
import Derived.Test.YtjggelnpfeeabaaDoorPureDate
namespace Go.Pantry
open Go.RowKit

/-- a digit's byte -/
def digB (n : Int) : UInt8 := UInt8.ofNat (48 + n).toNat
theorem digB_val (n : Int) (h1 : 0 ≤ n) (h2 : n ≤ 9) : ((digB n).toNat : Int) = 48 + n := by
  unfold digB
  rw [UInt8.toNat_ofNat']
  omega
/-- the digits of n from the one that counts u on -/
def digsL (n u : Int) : List UInt8 :=
  if u = 1000 then [digB (n / 1000 % 10), digB (n / 100 % 10), digB (n / 10 % 10), digB (n % 10)]
  else if u = 100 then [digB (n / 100 % 10), digB (n / 10 % 10), digB (n % 10)]
  else if u = 10 then [digB (n / 10 % 10), digB (n % 10)]
  else if u = 1 then [digB (n % 10)]
  else []
def twoL (n : Int) : List UInt8 := [digB (n / 10 % 10), digB (n % 10)]
def fourL (n : Int) : List UInt8 := [digB (n / 1000 % 10), digB (n / 100 % 10), digB (n / 10 % 10), digB (n % 10)]
theorem digsL_10 (n : Int) : digsL n 10 = twoL n := rfl
theorem digsL_1000 (n : Int) : digsL n 1000 = fourL n := rfl
theorem digsL_len (n u : Int) : (digsL n u).length ≤ 4 := by unfold digsL; split <;> (try split) <;> (try split) <;> (try split) <;> simp

def wdT : List (List UInt8) := [[84, 104, 117], [70, 114, 105], [83, 97, 116], [83, 117, 110], [77, 111, 110], [84, 117, 101], [87, 101, 100]]
def moT : List (List UInt8) := [[74, 97, 110], [70, 101, 98], [77, 97, 114], [65, 112, 114], [77, 97, 121], [74, 117, 110], [74, 117, 108], [65, 117, 103], [83, 101, 112], [79, 99, 116], [78, 111, 118], [68, 101, 99]]
/-- a day's name, from the first day of 1970 on; a month's name -/
def wdL (i : Int) : List UInt8 := wdT.getD i.toNat []
def moL (m : Int) : List UInt8 := moT.getD (m - 1).toNat []
theorem wdL_three (i : Int) (h1 : 0 ≤ i) (h2 : i < 7) : ∃ a b c, wdL i = [a, b, c] := by
  have : i = 0 ∨ i = 1 ∨ i = 2 ∨ i = 3 ∨ i = 4 ∨ i = 5 ∨ i = 6 := by omega
  rcases this with rfl | rfl | rfl | rfl | rfl | rfl | rfl <;> exact ⟨_, _, _, rfl⟩
theorem wdL_inj (i j : Int) (h1 : 0 ≤ i) (h2 : i < 7) (h3 : 0 ≤ j) (h4 : j < 7) (h : wdL i = wdL j) : i = j := by
  have a : i = 0 ∨ i = 1 ∨ i = 2 ∨ i = 3 ∨ i = 4 ∨ i = 5 ∨ i = 6 := by omega
  have b : j = 0 ∨ j = 1 ∨ j = 2 ∨ j = 3 ∨ j = 4 ∨ j = 5 ∨ j = 6 := by omega
  rcases a with rfl | rfl | rfl | rfl | rfl | rfl | rfl <;> rcases b with rfl | rfl | rfl | rfl | rfl | rfl | rfl <;> first | rfl | (exact absurd h (by decide))
theorem month_all {m : Int} (h1 : 1 ≤ m) (h2 : m ≤ 12) : m = 1 ∨ m = 2 ∨ m = 3 ∨ m = 4 ∨ m = 5 ∨ m = 6 ∨ m = 7 ∨ m = 8 ∨ m = 9 ∨ m = 10 ∨ m = 11 ∨ m = 12 := by omega
theorem moL_three (m : Int) (h1 : 1 ≤ m) (h2 : m ≤ 12) : ∃ a b c, moL m = [a, b, c] := by
  rcases month_all h1 h2 with rfl | rfl | rfl | rfl | rfl | rfl | rfl | rfl | rfl | rfl | rfl | rfl <;> exact ⟨_, _, _, rfl⟩
theorem moT_inj : ∀ (i j : Fin 12), moT.getD i.1 [] = moT.getD j.1 [] → i = j := by decide
theorem moL_inj (m n : Int) (h1 : 1 ≤ m) (h2 : m ≤ 12) (h3 : 1 ≤ n) (h4 : n ≤ 12) (h : moL m = moL n) : m = n := by
  have := moT_inj ⟨(m - 1).toNat, by omega⟩ ⟨(n - 1).toNat, by omega⟩ h
  have := congrArg Fin.val this
  simp at this
  omega

/-- a time's clock, with the blank ahead of it and the zone behind it -/
def clockL (r : Int) : List UInt8 := 32 :: (twoL (r / 3600) ++ 58 :: (twoL (r / 60 % 60) ++ 58 :: (twoL (r % 60) ++ [32, 71, 77, 84])))
/-- a date's text out of its parts -/
def textL (i y m d r : Int) : List UInt8 := wdL i ++ 44 :: 32 :: (twoL d ++ 32 :: (moL m ++ 32 :: (fourL y ++ clockL r)))
noncomputable def showL (t : Int) : List UInt8 := textL (t / 86400 % 7) (dateI (t / 86400)).1 (dateI (t / 86400)).2.1 (dateI (t / 86400)).2.2 (t % 86400)
theorem clockL_len (r : Int) : (clockL r).length = 13 := rfl
theorem textL_len (i y m d r : Int) (h1 : 0 ≤ i) (h2 : i < 7) (h3 : 1 ≤ m) (h4 : m ≤ 12) : (textL i y m d r).length = 29 := by
  obtain ⟨a, b, c, e⟩ := wdL_three i h1 h2
  obtain ⟨a', b', c', e'⟩ := moL_three m h3 h4
  unfold textL
  rw [e, e']
  rfl
theorem showL_len (t : Int) (h0 : 0 ≤ t) (h1 : t ≤ 253402300799) : (showL t).length = 29 := by
  have h := dateI_is (t / 86400) (by omega) (by omega)
  exact textL_len _ _ _ _ _ (by omega) (by omega) h.m1 h.m2

/-- what digits say -/
def dv (c : UInt8) : Int := (((c.toNat : Int) - 48) % 256)
def numL (l : List UInt8) : Int := l.foldl (fun n c => n * 10 + dv c) 0
theorem dv_bd (c : UInt8) : 0 ≤ dv c ∧ dv c ≤ 255 := by unfold dv; omega
theorem dv_dig (n : Int) (h1 : 0 ≤ n) (h2 : n ≤ 9) : dv (digB n) = n := by
  unfold dv; rw [digB_val n h1 h2]; omega
theorem numL_two (n : Int) (h1 : 0 ≤ n) (h2 : n ≤ 99) : numL (twoL n) = n := by
  unfold numL twoL
  simp only [List.foldl]
  rw [dv_dig _ (by omega) (by omega), dv_dig _ (by omega) (by omega)]
  omega
theorem numL_four (n : Int) (h1 : 0 ≤ n) (h2 : n ≤ 9999) : numL (fourL n) = n := by
  unfold numL fourL
  simp only [List.foldl]
  rw [dv_dig _ (by omega) (by omega), dv_dig _ (by omega) (by omega), dv_dig _ (by omega) (by omega), dv_dig _ (by omega) (by omega)]
  omega
theorem numL_snoc (l : List UInt8) (c : UInt8) : numL (l ++ [c]) = numL l * 10 + dv c := by unfold numL; rw [List.foldl_append]; rfl
def top : Nat → Int
  | 0 => 0
  | n + 1 => top n * 10 + 255
theorem numL_bd_n : ∀ (n : Nat) (l : List UInt8), l.length = n → 0 ≤ numL l ∧ numL l ≤ top n
  | 0, l, h => by
    have : l = [] := List.eq_nil_of_length_eq_zero h
    subst this
    simp [numL, top]
  | n + 1, l, h => by
    rcases List.eq_nil_or_concat l with rfl | ⟨l', c, rfl⟩
    · simp at h
    · have ih := numL_bd_n n l' (by simpa using h)
      have := dv_bd c
      rw [List.concat_eq_append, numL_snoc]
      simp only [top]
      omega
theorem numL_bd (l : List UInt8) : 0 ≤ numL l ∧ numL l ≤ top l.length := numL_bd_n _ l rfl
/-- the pieces of a text of a date's length -/
def sub (l : List UInt8) (i j : Nat) : List UInt8 := (l.take j).drop i
/-- the time that a text tells, if it is a date whose month is n -/
def supI (l : List UInt8) (n : Int) : Int :=
  (ysI (numL (sub l 12 16)) + numL (sub l 5 7) - 1 + cumR (numL (sub l 12 16)) (n - 1).toNat) * 86400 + (numL (sub l 17 19) * 3600 + numL (sub l 20 22) * 60 + numL (sub l 23 25))
theorem text_parts (i y m d r : Int) (h1 : 0 ≤ i) (h2 : i < 7) (h3 : 1 ≤ m) (h4 : m ≤ 12) :
    sub (textL i y m d r) 12 16 = fourL y ∧ sub (textL i y m d r) 8 11 = moL m ∧ sub (textL i y m d r) 5 7 = twoL d ∧
    sub (textL i y m d r) 17 19 = twoL (r / 3600) ∧ sub (textL i y m d r) 20 22 = twoL (r / 60 % 60) ∧ sub (textL i y m d r) 23 25 = twoL (r % 60) ∧
    (textL i y m d r).take 3 = wdL i ∧ (textL i y m d r).drop 16 = clockL r := by
  obtain ⟨a, b, c, e⟩ := wdL_three i h1 h2
  obtain ⟨a', b', c', e'⟩ := moL_three m h3 h4
  unfold textL
  rw [e, e']
  exact ⟨rfl, rfl, rfl, rfl, rfl, rfl, rfl, rfl⟩
theorem supI_show (t : Int) (h0 : 0 ≤ t) (h1 : t ≤ 253402300799) : supI (showL t) (dateI (t / 86400)).2.1 = t ∧ sub (showL t) 8 11 = moL (dateI (t / 86400)).2.1 := by
  have h := dateI_is (t / 86400) (by omega) (by omega)
  obtain ⟨p1, p2, p3, p4, p5, p6, p7, p8⟩ := text_parts (t / 86400 % 7) (dateI (t / 86400)).1 (dateI (t / 86400)).2.1 (dateI (t / 86400)).2.2 (t % 86400) (by omega) (by omega) h.m1 h.m2
  refine ⟨?_, p2⟩
  unfold supI showL
  rw [p1, p3, p4, p5, p6]
  have e := h.eq
  have hd := daysI_bd (dateI (t / 86400)).1 (dateI (t / 86400)).2.1
  have a1 := h.y1
  have a2 := h.y2
  have a3 := h.d1
  have a4 := h.d2
  rw [numL_four _ (by omega) (by omega), numL_two _ (by omega) (by omega), numL_two _ (by omega) (by omega), numL_two _ (by omega) (by omega), numL_two _ (by omega) (by omega)]
  omega
theorem showL_inj (t u : Int) (h0 : 0 ≤ t) (h1 : t ≤ 253402300799) (g0 : 0 ≤ u) (g1 : u ≤ 253402300799) (h : showL t = showL u) : t = u := by
  obtain ⟨a, b⟩ := supI_show t h0 h1
  obtain ⟨c, d⟩ := supI_show u g0 g1
  have i1 := dateI_is (t / 86400) (by omega) (by omega)
  have i2 := dateI_is (u / 86400) (by omega) (by omega)
  have hm := moL_inj _ _ i1.m1 i1.m2 i2.m1 i2.m2 (b.symm.trans ((congrArg (fun l => sub l 8 11) h).trans d))
  rw [← a, ← c, h, hm]
open Classical in
/-- a month by its name; 0, if there is none -/
noncomputable def moNum (l : List UInt8) : Int := if h : ∃ m : Int, (1 ≤ m ∧ m ≤ 12) ∧ l = moL m then Classical.choose h else 0
theorem moNum_of (m : Int) (h1 : 1 ≤ m) (h2 : m ≤ 12) : moNum (moL m) = m := by
  have hx : ∃ n : Int, (1 ≤ n ∧ n ≤ 12) ∧ moL m = moL n := ⟨m, ⟨h1, h2⟩, rfl⟩
  unfold moNum
  rw [dif_pos hx]
  obtain ⟨⟨a, b⟩, c⟩ := Classical.choose_spec hx
  exact (moL_inj _ _ h1 h2 a b c).symm
theorem moNum_none (l : List UInt8) (h : ∀ m : Int, 1 ≤ m → m ≤ 12 → l ≠ moL m) : moNum l = 0 := by
  unfold moNum
  rw [dif_neg]
  rintro ⟨n, ⟨a, b⟩, c⟩
  exact h n a b c
theorem moNum_bd (l : List UInt8) : 0 ≤ moNum l ∧ moNum l ≤ 12 := by
  unfold moNum
  split
  · rename_i hx
    have := Classical.choose_spec hx
    omega
  · omega
open Classical in
/-- the time whose date the text is -/
noncomputable def readL (l : List UInt8) : Option Int := if h : ∃ t : Int, (0 ≤ t ∧ t ≤ 253402300799) ∧ showL t = l then some (Classical.choose h) else none
theorem readL_some {l : List UInt8} {t : Int} (h : readL l = some t) : 0 ≤ t ∧ t ≤ 253402300799 ∧ showL t = l := by
  unfold readL at h
  split at h
  · rename_i hx
    have := Classical.choose_spec hx
    cases h
    exact ⟨this.1.1, this.1.2, this.2⟩
  · cases h
theorem readL_show (t : Int) (h0 : 0 ≤ t) (h1 : t ≤ 253402300799) : readL (showL t) = some t := by
  have hx : ∃ u : Int, (0 ≤ u ∧ u ≤ 253402300799) ∧ showL u = showL t := ⟨t, ⟨h0, h1⟩, rfl⟩
  unfold readL
  rw [dif_pos hx]
  obtain ⟨⟨a, b⟩, c⟩ := Classical.choose_spec hx
  rw [showL_inj _ _ a b h0 h1 c]
theorem readL_none {l : List UInt8} (h : ∀ t : Int, 0 ≤ t → t ≤ 253402300799 → showL t ≠ l) : readL l = none := by
  unfold readL
  rw [dif_neg]
  rintro ⟨t, ⟨a, b⟩, c⟩
  exact h t a b c
end Go.Pantry
