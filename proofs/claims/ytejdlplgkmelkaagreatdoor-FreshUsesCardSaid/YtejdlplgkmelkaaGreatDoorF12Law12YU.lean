/-
  FreshUses over package fresh as it is.
-/
import Derived.Test.YtejdlplgkmelkaaGreatDoorF12Law12U
import Derived.Test.YtejdlplgkmelkaaGreatDoorF12Law12Y
set_option linter.unusedVariables false
set_option linter.unusedSimpArgs false

namespace Go.Proofs.YtejdlplgkmelkaaGreatDoor
open Go.RowKit Go.Pantry

theorem freshUses_walk (hv : Value) (s : SiteZ) (rv : Value) (req : List Fld) (cv : Value) (came : List Fld) (x y z : Int) (w : World) (ht : Tables w) (hh : SiteAt w hv s) (hr : FieldsAt w rv req) (hc : FieldsAt w cv came) (hx : (Lit.int .i64 x).wf = true) (hy : (Lit.int .i64 y).wf = true) (hz : (Lit.int .i64 z).wf = true) :
    Calls Tryz.prog 5 #[.agg (rowZ hv s), rv, cv, .int .i64 x, .int .i64 y, .int .i64 z] w fun e w' => e = .returned (.bool true) ∧ Below w.heap.size w w' :=
  freshUses_over freshs_ok hv s rv req cv came x y z w ht hh.1 hh.2.2.2.1 ⟨hr.1, hr.2.2⟩ ⟨hc.1, hc.2.2⟩ (inI_wf hx) (inI_wf hy) (inI_wf hz)
end Go.Proofs.YtejdlplgkmelkaaGreatDoor
