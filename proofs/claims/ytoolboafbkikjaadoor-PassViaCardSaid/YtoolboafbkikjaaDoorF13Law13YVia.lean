/-
  PassVia over package pass as it is.
-/
import Derived.Test.YtoolboafbkikjaaDoorF13Law13W
import Derived.Test.YtoolboafbkikjaaDoorF1310
set_option linter.unusedVariables false
set_option linter.unusedSimpArgs false

namespace Go.Proofs.YtoolboafbkikjaaDoor
open Go.RowKit Go.Pantry

theorem passVia_walk (lv : Value) (l : List Fld) (tz : Int) (w : World) (hl : FieldsAt13 w lv l) :
    Calls Tryd.prog 8 #[lv, .int .i64 tz] w fun e w' => e = .returned (.bool true) ∧ Below w.heap.size w w' := by
  exact passVia_over (moves_ok (Ok := fun _ => True) (fun _ _ _ _ => trivial)) lv l tz w trivial ⟨hl.1, hl.2.2⟩
end Go.Proofs.YtoolboafbkikjaaDoor
