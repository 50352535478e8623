/-
  Fields: the plain mathematics. No program is imported.
-/
import Derived.Test.YtfoghjhdjmapnaaDoorPureList
namespace Go.Pantry
open Go.RowKit

/-- a field: its name, its value -/
abbrev Fld := List UInt8 × List UInt8
def okV (c : UInt8) : Bool := !((decide (c.toNat < 32) && c.toNat != 9) || c.toNat == 127)
def rightF (f : Fld) : Bool := tokenL f.1 && decide (f.1.length ≤ 64) && decide (f.2.length ≤ 1024) && trimL f.2 == f.2 && f.2.all okV
def rightFs (l : List Fld) : Bool := decide (l.length ≤ 64) && l.all rightF
/-- has a field the name n? -/
def isF (n : List UInt8) (f : Fld) : Bool := lowerL f.1 == lowerL n
def allF (l : List Fld) (n : List UInt8) : List (List UInt8) := (l.filter (isF n)).map (·.2)
/-- joined by a comma and a blank -/
def joinC : List (List UInt8) → List UInt8
  | [] => []
  | [a] => a
  | a :: b :: r => a ++ 44 :: 32 :: joinC (b :: r)
def getF (l : List Fld) (n : List UInt8) : List UInt8 := joinC (allF l n)
def elementsF (l : List Fld) (n : List UInt8) : List (List UInt8) := listL (getF l n)
def hasF (l : List Fld) (n w : List UInt8) : Bool := (elementsF l n).any fun e => lowerL e == lowerL w
def outF (l : List Fld) (n : List UInt8) : List Fld := l.filter fun f => !isF n f
/-- one step of setting f: what stands so far, and whether f stands -/
def stepW (f : Fld) (s : List Fld × Bool) (g : Fld) : List Fld × Bool := if isF f.1 g then (if s.2 then s else (s.1 ++ [f], true)) else (s.1 ++ [g], s.2)
def runW (f : Fld) (l : List Fld) : List Fld × Bool := l.foldl (stepW f) ([], false)
def withF (l : List Fld) (f : Fld) : List Fld := if (runW f l).2 then (runW f l).1 else (runW f l).1 ++ [f]
theorem runW_snoc (f : Fld) (l : List Fld) (g : Fld) : runW f (l ++ [g]) = stepW f (runW f l) g := by simp [runW]

theorem joinC_snoc (l : List (List UInt8)) (a : List UInt8) : joinC (l ++ [a]) = if l = [] then a else joinC l ++ 44 :: 32 :: a := by
  induction l with
  | nil => rfl
  | cons b r ih =>
    cases r with
    | nil => rfl
    | cons c r =>
      rw [if_neg (by simp)]
      rw [if_neg (by simp)] at ih
      show b ++ 44 :: 32 :: joinC ((c :: r) ++ [a]) = _
      rw [ih]
      simp [joinC]
theorem joinC_append (a b : List (List UInt8)) : joinC (a ++ b) = if a = [] then joinC b else if b = [] then joinC a else joinC a ++ 44 :: 32 :: joinC b := by
  induction a with
  | nil => simp
  | cons x r ih =>
    rw [if_neg (by simp)]
    cases r with
    | nil =>
      cases b with
      | nil => simp
      | cons y b => simp [joinC]
    | cons z r =>
      rw [if_neg (by simp)] at ih
      show x ++ 44 :: 32 :: joinC ((z :: r) ++ b) = _
      rw [ih]
      by_cases hb : b = []
      · subst hb; simp [joinC]
      · rw [if_neg hb, if_neg hb]; simp [joinC]
theorem allF_snoc (l : List Fld) (n : List UInt8) (f : Fld) : allF (l ++ [f]) n = allF l n ++ if isF n f then [f.2] else [] := by
  simp only [allF, List.filter_append, List.map_append, List.filter_cons, List.filter_nil]
  split <;> simp
theorem allF_append (a b : List Fld) (n : List UInt8) : allF (a ++ b) n = allF a n ++ allF b n := by simp [allF]
theorem outF_snoc (l : List Fld) (n : List UInt8) (f : Fld) : outF (l ++ [f]) n = outF l n ++ if isF n f then [] else [f] := by
  simp only [outF, List.filter_append, List.filter_cons, List.filter_nil]
  cases isF n f <;> simp
theorem outF_allF (l : List Fld) (n : List UInt8) : allF (outF l n) n = [] := by
  induction l with
  | nil => rfl
  | cons f r ih =>
    simp only [allF, outF, List.filter_cons] at ih ⊢
    cases h : isF n f
    · simp only [Bool.not_false, if_true, List.filter_cons, h, Bool.false_eq_true, if_false]
      exact ih
    · simp only [Bool.not_true, Bool.false_eq_true, if_false]
      exact ih
theorem outF_idem (l : List Fld) (n : List UInt8) : outF (outF l n) n = outF l n := by simp [outF]
theorem outF_len (l : List Fld) (n : List UInt8) : (outF l n).length + (allF l n).length = l.length := by
  induction l with
  | nil => rfl
  | cons f r ih =>
    simp only [allF, outF, List.filter_cons] at ih ⊢
    cases h : isF n f <;> simp at ih ⊢ <;> omega
theorem isF_low (n : List UInt8) (f : Fld) : isF (lowerL n) f = isF n f := by simp only [isF, lowerL_idem]
theorem isF_same {n m : List UInt8} (h : lowerL n = lowerL m) (f : Fld) : isF n f = isF m f := by simp only [isF, h]
theorem isF_self (f : Fld) : isF f.1 f = true := by simp [isF]
theorem isF_chain {f g h : Fld} (h1 : isF f.1 g = true) : isF g.1 h = isF f.1 h := by
  have : lowerL g.1 = lowerL f.1 := by simpa [isF] using h1
  simp only [isF, this]

/-- what stands so far when f is set: the names that are not f's are as they were; f stands at most once -/
theorem runW_out (f : Fld) (l : List Fld) : outF (runW f l).1 f.1 = outF l f.1 ∧ (runW f l).2 = l.any (isF f.1) ∧ allF (runW f l).1 f.1 = if l.any (isF f.1) then [f.2] else [] := by
  have key : ∀ (r : List Fld), outF (runW f r).1 f.1 = outF r f.1 ∧ (runW f r).2 = r.any (isF f.1) ∧ allF (runW f r).1 f.1 = if r.any (isF f.1) then [f.2] else [] := by
    intro r
    induction hn : r.length generalizing r with
    | zero => have : r = [] := List.eq_nil_of_length_eq_zero hn
              subst this; simp [runW, outF, allF]
    | succ n ih =>
      rcases List.eq_nil_or_concat r with rfl | ⟨r', g, rfl⟩
      · simp at hn
      · rw [List.concat_eq_append] at hn ⊢
        obtain ⟨i1, i2, i3⟩ := ih r' (by simpa using hn)
        rw [runW_snoc, outF_snoc, List.any_append]
        unfold stepW
        cases hg : isF f.1 g
        · simp only [Bool.false_eq_true, if_false, outF_snoc, allF_snoc, hg, i1, i2, i3, List.any_cons, List.any_nil, Bool.or_false, List.append_nil]
          exact ⟨trivial, trivial, trivial⟩
        · cases hs : (runW f r').2
          · have hs' := i2.symm.trans hs
            simp only [if_true, Bool.false_eq_true, if_false, outF_snoc, allF_snoc, isF_self, i1, i3, hs', hg, List.any_cons, List.any_nil, Bool.or_false, Bool.or_true, List.append_nil, List.nil_append]
            exact ⟨trivial, trivial, trivial⟩
          · have hs' := i2.symm.trans hs
            simp only [if_true, i1, i3, hs', hs, hg, List.any_cons, List.any_nil, Bool.or_false, Bool.or_true, List.append_nil]
            exact ⟨trivial, trivial, trivial⟩
  exact key l
theorem withF_out (l : List Fld) (f : Fld) : outF (withF l f) f.1 = outF l f.1 := by
  obtain ⟨a, -, -⟩ := runW_out f l
  unfold withF
  split
  · exact a
  · rw [outF_snoc, a]; simp [isF_self]
theorem withF_all (l : List Fld) (f : Fld) : allF (withF l f) f.1 = [f.2] := by
  obtain ⟨-, b, c⟩ := runW_out f l
  unfold withF
  split
  · rename_i h; rw [c, ← b, h]; rfl
  · rename_i h
    have h' : (runW f l).2 = false := by simpa using h
    rw [allF_snoc, c, ← b, h']; simp [isF_self]
end Go.Pantry
