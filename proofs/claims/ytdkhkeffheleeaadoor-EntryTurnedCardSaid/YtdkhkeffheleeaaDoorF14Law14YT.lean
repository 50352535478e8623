/-
  EntryTurned over package entry as it is.
-/
import Derived.Test.YtdkhkeffheleeaaDoorF14Law14T
import Derived.Test.YtdkhkeffheleeaaDoorF1412

set_option linter.unusedVariables false
set_option linter.unusedSimpArgs false
namespace Go.Proofs.YtdkhkeffheleeaaDoor
open Go.RowKit Go.Pantry

theorem entryTurned_walk (anv afv abv : Value) (a : EntP) (z : Int) (at_ : Int) (x : Int) (w : World) (ha : EntAt w anv afv abv a ∧ a.names.length ≤ maxLen ∧ a.fields.length ≤ maxLen) (hz : (Lit.int .i64 z).wf = true) (hat_ : (Lit.int .i64 at_).wf = true) (hx : (Lit.int .i64 x).wf = true) :
    Calls Tryd.prog 7 #[.agg (rowE anv afv abv a), .int .i64 z, .int .i64 at_, .int .i64 x] w fun x w' => x = .returned (.bool true) ∧ Below w.heap.size w w' := by
  have h := entryTurned_over entries_ok anv afv abv a z at_ x w trivial ha (in14 hz) (in14 hat_) (in14 hx)
  exact h
end Go.Proofs.YtdkhkeffheleeaaDoor
