/-
  FreshBounds over package fresh as it is.
-/
import Derived.Test.YtejdlplgkmelkaaGreatDoorF12Law12B
import Derived.Test.YtejdlplgkmelkaaGreatDoorF12Law12Y
set_option linter.unusedVariables false
set_option linter.unusedSimpArgs false

namespace Go.Proofs.YtejdlplgkmelkaaGreatDoor
open Go.RowKit Go.Pantry

theorem freshBounds_walk (n : Int) (cv : Value) (came : List Fld) (z : Int) (w : World) (ht : Tables w) (hn : (Lit.int .i64 n).wf = true) (hc : FieldsAt w cv came) (hz : (Lit.int .i64 z).wf = true) :
    Calls Tryz.prog 9 #[.int .i64 n, cv, .int .i64 z] w fun e w' => e = .returned (.bool true) ∧ Below w.heap.size w w' :=
  freshBounds_over freshs_ok n cv came z w ht ⟨hc.1, hc.2.2⟩ (inI_wf hn) (inI_wf hz)
end Go.Proofs.YtejdlplgkmelkaaGreatDoor
