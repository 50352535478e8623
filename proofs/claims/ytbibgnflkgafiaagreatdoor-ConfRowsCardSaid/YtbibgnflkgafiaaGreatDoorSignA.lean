/-
  Contracts of the leaves of package sign: great, digit, tokenSign, Token.
-/
import Derived.Test.YtbibgnflkgafiaaGreatDoorProg
import Derived.Test.YtbibgnflkgafiaaGreatDoorShelf
import Derived.Test.YtbibgnflkgafiaaGreatDoorPureAll1
namespace Go.Proofs.YtbibgnflkgafiaaGreatDoor
open Go.RowKit Go.Pantry

theorem great_any (c : UInt8) (w : World) :
    Calls Tryz.prog 89 #[.int .u8 (c.toNat : Int)] w fun e w' => e = .returned (.bool (isUp c)) ∧ w = w' := by
  rw [← isUp_int]
  go_enter Tryz.func89, Tryz.ntmps89
  go_wp2
  all_goals go_ret
  all_goals exact ⟨ret_bool (by simp; try omega), rfl⟩

theorem digit_any (c : UInt8) (w : World) :
    Calls Tryz.prog 90 #[.int .u8 (c.toNat : Int)] w fun e w' => e = .returned (.bool (isDig c)) ∧ w = w' := by
  rw [← isDig_int]
  go_enter Tryz.func90, Tryz.ntmps90
  go_wp2
  all_goals go_ret
  all_goals exact ⟨ret_bool (by simp; try omega), rfl⟩

end Go.Proofs.YtbibgnflkgafiaaGreatDoor
