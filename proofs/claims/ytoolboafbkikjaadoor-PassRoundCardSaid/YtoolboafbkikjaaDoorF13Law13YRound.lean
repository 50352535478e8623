/-
  PassRound over package pass as it is.
-/
import Derived.Test.YtoolboafbkikjaaDoorF13Law13R
import Derived.Test.YtoolboafbkikjaaDoorF13PassF
set_option linter.unusedVariables false
set_option linter.unusedSimpArgs false

namespace Go.Proofs.YtoolboafbkikjaaDoor
open Go.RowKit Go.Pantry

theorem passRound_walk (rv : Value) (req : List Fld) (cv : Value) (came : List Fld) (w : World) (ht : Tables w) (hr : FieldsAt13 w rv req) (hc : FieldsAt13 w cv came) :
    Calls Tryd.prog 7 #[rv, cv] w fun e w' => e = .returned (.bool true) ∧ Below w.heap.size w w' := by
  have h := passRound_over passes_ok rv req cv came w ht ⟨hr.1, hr.2.2⟩ ⟨hc.1, hc.2.2⟩
  exact h
end Go.Proofs.YtoolboafbkikjaaDoor
