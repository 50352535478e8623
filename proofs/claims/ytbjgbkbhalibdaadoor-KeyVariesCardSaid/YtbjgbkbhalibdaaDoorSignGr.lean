/-
  Contracts of the leaves of package sign: great.
-/
import Derived.Test.YtbjgbkbhalibdaaDoorProg
import Derived.Test.YtbjgbkbhalibdaaDoorShelf
import Derived.Test.YtbjgbkbhalibdaaDoorPureAll1
namespace Go.Proofs.YtbjgbkbhalibdaaDoor
open Go.RowKit Go.Pantry

theorem great_any (c : UInt8) (w : World) :
    Calls Tryd.prog 36 #[.int .u8 (c.toNat : Int)] w fun e w' => e = .returned (.bool (isUp c)) ∧ w = w' := by
  rw [← isUp_int]
  go_enter Tryd.func36, Tryd.ntmps36
  go_wp2
  all_goals go_ret
  all_goals exact ⟨ret_bool (by simp; try omega), rfl⟩

end Go.Proofs.YtbjgbkbhalibdaaDoor
