/-
  Contracts of the leaves of package sign: great, digit, tokenSign, Token.
-/
import Derived.Test.YtongceljdgmbdaaGreatDoorProg
import Derived.Test.YtongceljdgmbdaaGreatDoorShelf
import Derived.Test.YtongceljdgmbdaaGreatDoorPureAll1
namespace Go.Proofs.YtongceljdgmbdaaGreatDoor
open Go.RowKit Go.Pantry

theorem great_any (c : UInt8) (w : World) :
    Calls Tryz.prog 139 #[.int .u8 (c.toNat : Int)] w fun e w' => e = .returned (.bool (isUp c)) ∧ w = w' := by
  rw [← isUp_int]
  go_enter Tryz.func139, Tryz.ntmps139
  go_wp2
  all_goals go_ret
  all_goals exact ⟨ret_bool (by simp; try omega), rfl⟩

theorem digit_any (c : UInt8) (w : World) :
    Calls Tryz.prog 151 #[.int .u8 (c.toNat : Int)] w fun e w' => e = .returned (.bool (isDig c)) ∧ w = w' := by
  rw [← isDig_int]
  go_enter Tryz.func151, Tryz.ntmps151
  go_wp2
  all_goals go_ret
  all_goals exact ⟨ret_bool (by simp; try omega), rfl⟩

end Go.Proofs.YtongceljdgmbdaaGreatDoor
