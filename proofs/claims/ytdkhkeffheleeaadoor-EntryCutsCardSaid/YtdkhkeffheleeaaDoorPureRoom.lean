/-
  A slice's room. No program is imported.
-/
import Derived.Test.YtdkhkeffheleeaaDoorPureAll1
set_option linter.unusedVariables false
set_option linter.unusedSimpArgs false
namespace Go.Pantry
open Go.RowKit
/-- a slice's value has room for what it is long -/
def Room (v : Value) : Prop := ∀ ao n c, v = .slice ao n c → n ≤ c
theorem Room.le {ao : Option Addr} {n c : Nat} (h : Room (.slice ao n c)) : n ≤ c := h _ _ _ rfl
theorem room_of {ao : Option Addr} {n c : Nat} (h : n ≤ c) : Room (.slice ao n c) := fun _ _ _ e => by cases e; exact h
end Go.Pantry
