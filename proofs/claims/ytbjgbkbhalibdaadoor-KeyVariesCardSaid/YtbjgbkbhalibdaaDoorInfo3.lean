/-
  The size of a field as the document has it.
-/
import Derived.Test.YtbjgbkbhalibdaaDoorInfo
namespace Go.Proofs.YtbjgbkbhalibdaaDoor
open Go.RowKit Go.Pantry

theorem infoFld3 : (Tryd.prog.info? 54).map (fun i => (i.zero, i.size, i.bytes)) = some (some (.agg #[.string ⟨#[]⟩, .string ⟨#[]⟩]), 2, 32) := by kernel_rfl
end Go.Proofs.YtbjgbkbhalibdaaDoor
