/-
  Contracts of package sign: Trim.
-/
import Derived.Test.YtbjgbkbhalibdaaGreatDoorSignLow
import Derived.Test.YtbjgbkbhalibdaaGreatDoorInfo
namespace Go.Proofs.YtbjgbkbhalibdaaGreatDoor
open Go.RowKit Go.Pantry


theorem Trim_any (s : ByteArray) (w : World) (hs : s.size ≤ maxLen) :
    Calls Tryz.prog 43 #[.string s] w fun e w' => e = .returned (.string ⟨(trimL s.data.toList).toArray⟩) ∧ Below w.heap.size w w' := by
  unfold maxLen at hs
  go_enter Tryz.func43, Tryz.ntmps43
  go_wp2_with (go_at_call 62; refine (Tryz.strings_Trim s ⟨#[32, 9]⟩ _ (by omega) (by decide) (ascii_of_all (by decide))).mono ?_; rintro e w' ⟨rfl, hb⟩)
  go_ret
  exact ⟨rfl, hb⟩

end Go.Proofs.YtbjgbkbhalibdaaGreatDoor
