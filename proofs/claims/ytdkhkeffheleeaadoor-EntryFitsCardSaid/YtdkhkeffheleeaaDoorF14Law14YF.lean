/-
  EntryFits over package entry as it is.
-/
import Derived.Test.YtdkhkeffheleeaaDoorF14Law14F
import Derived.Test.YtdkhkeffheleeaaDoorF1412

set_option linter.unusedVariables false
set_option linter.unusedSimpArgs false
namespace Go.Proofs.YtdkhkeffheleeaaDoor
open Go.RowKit Go.Pantry

theorem entryFits_walk (anv afv abv : Value) (a : EntP) (w : World) (ha : EntAt w anv afv abv a ∧ a.names.length ≤ maxLen ∧ a.fields.length ≤ maxLen) :
    Calls Tryd.prog 8 #[.agg (rowE anv afv abv a)] w fun x w' => x = .returned (.bool true) ∧ Below w.heap.size w w' := by
  have h := entryFits_over entries_ok anv afv abv a w trivial ha
  exact h
end Go.Proofs.YtdkhkeffheleeaaDoor
