/-
  Contract of package head: version.
-/
import Derived.Test.YtongceljdgmbdaaGreatDoorHeadB
namespace Go.Proofs.YtongceljdgmbdaaGreatDoor
open Go.RowKit Go.Pantry

theorem version_any (z : Int) (ao : Option Addr) (n cap : Nat) (w : World) (hz : 0 ≤ z) :
    Calls Tryz.prog 74 #[.agg #[.int .i64 z, .slice ao n cap]] w fun e w' => e = .returned (strV (verL z.toNat)) ∧ Below w.heap.size w w' := by
  by_cases h0 : z = 0
  · subst h0
    go_enter Tryz.func74, Tryz.ntmps74
    go_wp2
    go_ret
    exact ⟨rfl, below_alloc _ _⟩
  · have e0 : (z == 0) = false := by simpa using h0
    have hv : verL z.toNat = v11 := by unfold verL; rw [if_neg (by omega)]
    rw [hv]
    clear h0 hv hz
    go_enter Tryz.func74, Tryz.ntmps74
    go_wp2
    go_ret
    exact ⟨rfl, below_alloc _ _⟩
end Go.Proofs.YtongceljdgmbdaaGreatDoor
