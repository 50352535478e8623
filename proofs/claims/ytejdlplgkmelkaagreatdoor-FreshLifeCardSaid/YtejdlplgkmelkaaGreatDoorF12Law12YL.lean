/-
  FreshLife over package fresh as it is.
-/
import Derived.Test.YtejdlplgkmelkaaGreatDoorF12Law12L
import Derived.Test.YtejdlplgkmelkaaGreatDoorF12Law12Y
set_option linter.unusedVariables false
set_option linter.unusedSimpArgs false

namespace Go.Proofs.YtejdlplgkmelkaaGreatDoor
open Go.RowKit Go.Pantry

theorem freshLife_walk (a b c z : Int) (w : World) (ht : Tables w) :
    Calls Tryz.prog 8 #[.int .i64 a, .int .i64 b, .int .i64 c, .int .i64 z] w fun e w' => e = .returned (.bool true) ∧ Below w.heap.size w w' :=
  freshLife_over freshs_ok a b c z w ht
end Go.Proofs.YtejdlplgkmelkaaGreatDoor
