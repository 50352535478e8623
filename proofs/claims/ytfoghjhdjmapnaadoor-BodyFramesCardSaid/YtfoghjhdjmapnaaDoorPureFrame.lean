/-
  Frames: what fields tell of a body's length. No program is imported.
-/
import Derived.Test.YtfoghjhdjmapnaaDoorPureField2
namespace Go.Pantry
open Go.RowKit

def teN : List UInt8 := [84, 114, 97, 110, 115, 102, 101, 114, 45, 69, 110, 99, 111, 100, 105, 110, 103]
def clN : List UInt8 := [67, 111, 110, 116, 101, 110, 116, 45, 76, 101, 110, 103, 116, 104]
def teL : List UInt8 := [116, 114, 97, 110, 115, 102, 101, 114, 45, 101, 110, 99, 111, 100, 105, 110, 103]
def clL : List UInt8 := [99, 111, 110, 116, 101, 110, 116, 45, 108, 101, 110, 103, 116, 104]
def chW : List UInt8 := [99, 104, 117, 110, 107, 101, 100]
theorem all_te (L : List Fld) : allF L teL = allF L teN := by
  unfold allF isF
  rw [show lowerL teL = lowerL teN by decide +kernel]
theorem all_cl (L : List Fld) : allF L clL = allF L clN := by
  unfold allF isF
  rw [show lowerL clL = lowerL clN by decide +kernel]
theorem els_te (L : List Fld) : elementsF L teL = elementsF L teN := by unfold elementsF getF; rw [all_te]
theorem els_cl (L : List Fld) : elementsF L clL = elementsF L clN := by unfold elementsF getF; rw [all_cl]
/-- is that the number? -/
def goodN (f : Nat) (a : List UInt8) : Bool := (numberL a).isSome && (numberL a).getD 0 == f
/-- of lengths -/
def cntX : List (List UInt8) → Except Nat (Nat × Nat)
  | [] => .error 24
  | a :: r => if (a :: r).all (goodN ((numberL a).getD 0)) then (if 2048 < (numberL a).getD 0 then .error 23 else .ok (1, (numberL a).getD 0)) else .error 24
/-- just the one word? -/
def justX (E : List (List UInt8)) : Bool := match E with | [a] => lowerL a == chW | _ => false
def frameX (minor : Int) (other : Nat) (L : List Fld) : Except Nat (Nat × Nat) :=
  if (allF L teN).isEmpty then (if (allF L clN).isEmpty then .ok (other, 0) else cntX (elementsF L clN))
  else if !(allF L clN).isEmpty || !justX (elementsF L teN) || minor == 0 then .error 24 else .ok (2, 0)
/-- of a response -/
def bareX (head : Bool) (st : Int) : Bool := head || (decide (st < 200) || st == 204 || st == 304)
def fK (x : Except Nat (Nat × Nat)) : Int × Int × Int := match x with | .error k => (0, 0, (k : Int)) | .ok p => ((p.1 : Int), (p.2 : Int), 0)
/-- what is told -/
def FrameIs (x : Except Nat (Nat × Nat)) (e : Ending) : Prop := e = .returned (.tuple #[.agg #[.int .i64 (fK x).1, .int .i64 (fK x).2.1], .int .i64 (fK x).2.2])
theorem FrameIs.form {x : Except Nat (Nat × Nat)} {e : Ending} (h : FrameIs x e) : ∃ a b c, fK x = (a, b, c) ∧ e = .returned (.tuple #[.agg #[.int .i64 a, .int .i64 b], .int .i64 c]) := ⟨_, _, _, rfl, h⟩
theorem all_take {f : Nat} {E : List (List UInt8)} {k : Nat} {a : List UInt8} (h : E[k]? = some a) : (E.take (k + 1)).all (goodN f) = ((E.take k).all (goodN f) && goodN f a) := by
  obtain ⟨hk, e⟩ := List.getElem?_eq_some_iff.1 h
  rw [List.take_succ_eq_append_getElem hk, e, List.all_append]
  simp
theorem all_not {f : Nat} {E : List (List UInt8)} {a : List UInt8} (h : a ∈ E) (hg : goodN f a = false) : E.all (goodN f) = false := List.all_eq_false.2 ⟨a, h, by rw [hg]; decide⟩
end Go.Pantry
