/-
  EntryTurns over package entry as it is.
-/
import Derived.Test.YtdkhkeffheleeaaDoorF14Law14R
import Derived.Test.YtdkhkeffheleeaaDoorF1412

set_option linter.unusedVariables false
set_option linter.unusedSimpArgs false
namespace Go.Proofs.YtdkhkeffheleeaaDoor
open Go.RowKit Go.Pantry

theorem entryTurns_walk (anv afv abv : Value) (a : EntP) (z : Int) (jv : Value) (xs : List Int) (w : World) (ha : EntAt w anv afv abv a ∧ a.names.length ≤ maxLen ∧ a.fields.length ≤ maxLen) (hz : (Lit.int .i64 z).wf = true) (hJ : Reads w jv (xs.map (Value.int .i64)) ∧ (∀ y ∈ xs, (Lit.int .i64 y).wf = true) ∧ xs.length ≤ maxLen) :
    Calls Tryd.prog 5 #[.agg (rowE anv afv abv a), .int .i64 z, jv] w fun x w' => x = .returned (.bool true) ∧ Below w.heap.size w w' := by
  have h := entryTurns_over entries_ok anv afv abv a z jv xs w trivial ha (in14 hz) ⟨hJ.1, (fun y hy => in14 (hJ.2.1 y hy)), hJ.2.2⟩
  exact h
end Go.Proofs.YtdkhkeffheleeaaDoor
