/-
  Contracts of the leaves of package sign: great.
-/
import Derived.Test.YtbjgbkbhalibdaaGreatDoorProg
import Derived.Test.YtbjgbkbhalibdaaGreatDoorShelf
import Derived.Test.YtbjgbkbhalibdaaGreatDoorPureAll1
namespace Go.Proofs.YtbjgbkbhalibdaaGreatDoor
open Go.RowKit Go.Pantry

theorem great_any (c : UInt8) (w : World) :
    Calls Tryz.prog 31 #[.int .u8 (c.toNat : Int)] w fun e w' => e = .returned (.bool (isUp c)) ∧ w = w' := by
  rw [← isUp_int]
  go_enter Tryz.func31, Tryz.ntmps31
  go_wp2
  all_goals go_ret
  all_goals exact ⟨ret_bool (by simp; try omega), rfl⟩

end Go.Proofs.YtbjgbkbhalibdaaGreatDoor
