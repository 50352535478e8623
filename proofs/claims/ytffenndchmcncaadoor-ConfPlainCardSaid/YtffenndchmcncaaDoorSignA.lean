/-
  Contracts of the leaves of package sign: great, digit, tokenSign, Token.
-/
import Derived.Test.YtffenndchmcncaaDoorProg
import Derived.Test.YtffenndchmcncaaDoorShelf
import Derived.Test.YtffenndchmcncaaDoorPureAll1
namespace Go.Proofs.YtffenndchmcncaaDoor
open Go.RowKit Go.Pantry

theorem great_any (c : UInt8) (w : World) :
    Calls Tryd.prog 68 #[.int .u8 (c.toNat : Int)] w fun e w' => e = .returned (.bool (isUp c)) ∧ w = w' := by
  rw [← isUp_int]
  go_enter Tryd.func68, Tryd.ntmps68
  go_wp2
  all_goals go_ret
  all_goals exact ⟨ret_bool (by simp; try omega), rfl⟩

theorem digit_any (c : UInt8) (w : World) :
    Calls Tryd.prog 69 #[.int .u8 (c.toNat : Int)] w fun e w' => e = .returned (.bool (isDig c)) ∧ w = w' := by
  rw [← isDig_int]
  go_enter Tryd.func69, Tryd.ntmps69
  go_wp2
  all_goals go_ret
  all_goals exact ⟨ret_bool (by simp; try omega), rfl⟩

end Go.Proofs.YtffenndchmcncaaDoor
