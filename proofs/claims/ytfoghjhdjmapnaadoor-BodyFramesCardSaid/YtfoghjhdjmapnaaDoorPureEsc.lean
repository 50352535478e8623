/-
  Plain mathematics of layer 1: a text within quotes.
-/
import Derived.Test.YtfoghjhdjmapnaaDoorPureList
namespace Go.Pantry
/-- a text, with a backslash ahead of each quote and backslash -/
def escC (c : UInt8) : List UInt8 := if c = 34 ∨ c = 92 then [92, c] else [c]
def esc (l : List UInt8) : List UInt8 := l.flatMap escC
theorem esc_snoc (l : List UInt8) (c : UInt8) : esc (l ++ [c]) = esc l ++ escC c := by simp [esc]
theorem esc_len (l : List UInt8) : (esc l).length ≤ 2 * l.length := by
  induction l with
  | nil => simp [esc]
  | cons c l ih =>
    have e : esc (c :: l) = escC c ++ esc l := by simp [esc]
    have : (escC c).length ≤ 2 := by unfold escC; split <;> simp
    rw [e, List.length_append, List.length_cons]; omega
theorem unq_esc (l : List UInt8) : unq (esc l ++ [34]) = some l := by
  induction l with
  | nil => simp [esc, unq]
  | cons c l ih =>
    have e : esc (c :: l) = escC c ++ esc l := by simp [esc]
    rw [e]
    unfold escC
    split
    · show unq (92 :: c :: (esc l ++ [34])) = _
      rw [unq_back, ih]; rfl
    · rename_i h
      show unq (c :: (esc l ++ [34])) = _
      rw [unq_other _ _ (fun e => h (.inl e)) (fun e => h (.inr e)), ih]; rfl
theorem unquote_esc (l : List UInt8) : unquoteL (34 :: (esc l ++ [34])) = some l := by
  have ht : tokenL (34 :: (esc l ++ [34])) = false := by
    unfold tokenL
    have : isTok 34 = false := by decide
    simp [this]
  unfold unquoteL
  rw [ht, if_neg (by simp), if_pos (by simp), List.tail_cons, unq_esc]
end Go.Pantry
