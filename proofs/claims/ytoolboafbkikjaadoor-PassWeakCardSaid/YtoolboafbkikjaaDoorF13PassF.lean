/-
  Contracts of package pass: all that the walks take.
-/
import Derived.Test.YtoolboafbkikjaaDoorF1310
import Derived.Test.YtoolboafbkikjaaDoorF1313
set_option linter.unusedVariables false
set_option linter.unusedSimpArgs false

namespace Go.Proofs.YtoolboafbkikjaaDoor
open Go.RowKit Go.Pantry

theorem passes_ok : Passes Tables where
  toMoves := moves_ok (fun _ _ h hb => h.below hb h.lt)
  asking := fun v cv req came w ok hr hc hs hk => pAsking_any v cv req came w ok hr hc hs.wide hk.wide (small_onward hs)
  good := fun v cv req came w ok hr hc hs hk => pGood_any v cv req came w ok hr hc hs hk.wide
end Go.Proofs.YtoolboafbkikjaaDoor
