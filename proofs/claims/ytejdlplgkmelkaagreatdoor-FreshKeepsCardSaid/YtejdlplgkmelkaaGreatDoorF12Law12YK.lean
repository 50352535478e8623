/-
  FreshKeeps over package fresh as it is.
-/
import Derived.Test.YtejdlplgkmelkaaGreatDoorF12Law12K
import Derived.Test.YtejdlplgkmelkaaGreatDoorF12Law12Y
set_option linter.unusedVariables false
set_option linter.unusedSimpArgs false

namespace Go.Proofs.YtejdlplgkmelkaaGreatDoor
open Go.RowKit Go.Pantry

theorem freshKeeps_walk (hv : Value) (s : SiteZ) (m : ByteArray) (av : Value) (asked : List Fld) (st : Int) (cv : Value) (came : List Fld) (w : World) (ht : Tables w) (hh : SiteAt w hv s) (hm : m.size ≤ maxLen) (ha : FieldsAt w av asked) (hst : (Lit.int .i64 st).wf = true) (hc : FieldsAt w cv came) :
    Calls Tryz.prog 3 #[.agg (rowZ hv s), .string m, av, .int .i64 st, cv] w fun e w' => e = .returned (.bool true) ∧ Below w.heap.size w w' := by
  have h := freshKeeps_over freshs_ok hv s m.data.toList av asked st cv came w ht hh.1 hh.2.2.2.1 ⟨ha.1, ha.2.2⟩ ⟨hc.1, hc.2.2⟩ (inI_wf hst) (show m.data.toList.length ≤ maxLen from by rw [Array.length_toList]; exact hm)
  exact h
end Go.Proofs.YtejdlplgkmelkaaGreatDoor
