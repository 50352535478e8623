/-
  The size of a field as the document has it.
-/
import Derived.Test.YtjfkehdlamnigaaGreatDoorInfo
namespace Go.Proofs.YtjfkehdlamnigaaGreatDoor
open Go.RowKit Go.Pantry

theorem infoFld3 : (Tryz.prog.info? 63).map (fun i => (i.zero, i.size, i.bytes)) = some (some (.agg #[.string ⟨#[]⟩, .string ⟨#[]⟩]), 2, 32) := by kernel_rfl
end Go.Proofs.YtjfkehdlamnigaaGreatDoor
