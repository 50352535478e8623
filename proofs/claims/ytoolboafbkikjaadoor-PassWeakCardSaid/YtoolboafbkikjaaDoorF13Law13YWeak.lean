/-
  PassWeak over package pass as it is.
-/
import Derived.Test.YtoolboafbkikjaaDoorF13Law13X
import Derived.Test.YtoolboafbkikjaaDoorF13PassF
set_option linter.unusedVariables false
set_option linter.unusedSimpArgs false

namespace Go.Proofs.YtoolboafbkikjaaDoor
open Go.RowKit Go.Pantry

theorem passWeak_walk (a b : Int) (wk : Bool) (mv : Value) (xs : List Int) (w : World) (ht : Tables w) (hm : Reads w mv (xs.map (Value.int .i64)) ∧ (∀ x ∈ xs, (Lit.int .i64 x).wf = true) ∧ xs.length ≤ maxLen) :
    Calls Tryd.prog 9 #[.int .i64 a, .int .i64 b, .bool wk, mv] w fun e w' => e = .returned (.bool true) ∧ Below w.heap.size w w' := by
  have h := passWeak_over passes_ok a b wk mv xs w ht ⟨hm.1, hm.2.2⟩
  exact h
end Go.Proofs.YtoolboafbkikjaaDoor
