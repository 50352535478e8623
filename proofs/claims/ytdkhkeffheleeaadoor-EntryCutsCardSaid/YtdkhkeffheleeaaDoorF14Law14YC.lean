/-
  EntryCuts over package entry as it is.
-/
import Derived.Test.YtdkhkeffheleeaaDoorF14Law14C
import Derived.Test.YtdkhkeffheleeaaDoorF1412

set_option linter.unusedVariables false
set_option linter.unusedSimpArgs false
namespace Go.Proofs.YtdkhkeffheleeaaDoor
open Go.RowKit Go.Pantry

theorem entryCuts_walk (anv afv abv : Value) (a : EntP) (z : Int) (cu : Int) (bv : Value) (D : List UInt8) (w : World) (ha : EntAt w anv afv abv a ∧ a.names.length ≤ maxLen ∧ a.fields.length ≤ maxLen) (hz : (Lit.int .i64 z).wf = true) (hcu : (Lit.int .i64 cu).wf = true) (hD : Reads w bv (D.map byteV) ∧ (∀ ao n cap, bv = .slice ao n cap → n ≤ cap) ∧ D.length ≤ maxLen) :
    Calls Tryd.prog 9 #[.agg (rowE anv afv abv a), .int .i64 z, .int .i64 cu, bv] w fun x w' => x = .returned (.bool true) ∧ Below w.heap.size w w' := by
  have h := entryCuts_over entries_ok anv afv abv a z cu bv D w trivial ha (in14 hz) (in14 hcu) ⟨hD.1, hD.2.2⟩
  exact h
end Go.Proofs.YtdkhkeffheleeaaDoor
