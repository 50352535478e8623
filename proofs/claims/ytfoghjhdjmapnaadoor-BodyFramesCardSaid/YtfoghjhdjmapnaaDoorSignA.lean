/-
  Contracts of the leaves of package sign: great, digit, tokenSign, Token.
-/
import Derived.Test.YtfoghjhdjmapnaaDoorProg
import Derived.Test.YtfoghjhdjmapnaaDoorShelf
import Derived.Test.YtfoghjhdjmapnaaDoorPureSign
namespace Go.Proofs.YtfoghjhdjmapnaaDoor
open Go.RowKit Go.Pantry

theorem great_any (c : UInt8) (w : World) :
    Calls Tryd.prog 65 #[.int .u8 (c.toNat : Int)] w fun e w' => e = .returned (.bool (isUp c)) ∧ w = w' := by
  rw [← isUp_int]
  go_enter Tryd.func65, Tryd.ntmps65
  go_wp2
  all_goals go_ret
  all_goals exact ⟨ret_bool (by simp; try omega), rfl⟩

theorem digit_any (c : UInt8) (w : World) :
    Calls Tryd.prog 60 #[.int .u8 (c.toNat : Int)] w fun e w' => e = .returned (.bool (isDig c)) ∧ w = w' := by
  rw [← isDig_int]
  go_enter Tryd.func60, Tryd.ntmps60
  go_wp2
  all_goals go_ret
  all_goals exact ⟨ret_bool (by simp; try omega), rfl⟩

end Go.Proofs.YtfoghjhdjmapnaaDoor
