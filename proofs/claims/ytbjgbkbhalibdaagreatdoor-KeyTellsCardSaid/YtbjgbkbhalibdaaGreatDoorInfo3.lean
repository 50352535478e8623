/-
  The size of a field as the document has it.
-/
import Derived.Test.YtbjgbkbhalibdaaGreatDoorInfo
namespace Go.Proofs.YtbjgbkbhalibdaaGreatDoor
open Go.RowKit Go.Pantry

theorem infoFld3 : (Tryz.prog.info? 51).map (fun i => (i.zero, i.size, i.bytes)) = some (some (.agg #[.string ⟨#[]⟩, .string ⟨#[]⟩]), 2, 32) := by kernel_rfl
end Go.Proofs.YtbjgbkbhalibdaaGreatDoor
