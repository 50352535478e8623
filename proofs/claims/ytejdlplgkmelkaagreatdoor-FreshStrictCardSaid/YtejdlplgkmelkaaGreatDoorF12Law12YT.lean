/-
  FreshStrict over package fresh as it is.
-/
import Derived.Test.YtejdlplgkmelkaaGreatDoorF12Law12T
import Derived.Test.YtejdlplgkmelkaaGreatDoorF12Law12Y
set_option linter.unusedVariables false
set_option linter.unusedSimpArgs false

namespace Go.Proofs.YtejdlplgkmelkaaGreatDoor
open Go.RowKit Go.Pantry

theorem freshStrict_walk (hv : Value) (s : SiteZ) (cv : Value) (came : List Fld) (x y z st : Int) (w : World) (ht : Tables w) (hh : SiteAt w hv s) (hc : FieldsAt w cv came) (hx : (Lit.int .i64 x).wf = true) (hy : (Lit.int .i64 y).wf = true) (hz : (Lit.int .i64 z).wf = true) (hst : (Lit.int .i64 st).wf = true) :
    Calls Tryz.prog 7 #[.agg (rowZ hv s), cv, .int .i64 x, .int .i64 y, .int .i64 z, .int .i64 st] w fun e w' => e = .returned (.bool true) ∧ Below w.heap.size w w' :=
  freshStrict_over freshs_ok hv s cv came x y z st w ht hh.1 hh.2.2.2.1 ⟨hc.1, hc.2.2⟩ (inI_wf hx) (inI_wf hy) (inI_wf hz) (inI_wf hst)
end Go.Proofs.YtejdlplgkmelkaaGreatDoor
