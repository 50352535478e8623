/-
  The size of a field as the document has it.
-/
import Derived.Test.YtfoghjhdjmapnaaDoorInfo
namespace Go.Proofs.YtfoghjhdjmapnaaDoor
open Go.RowKit Go.Pantry

theorem infoFld3 : (Tryd.prog.info? 84).map (fun i => (i.zero, i.size, i.bytes)) = some (some (.agg #[.string ⟨#[]⟩, .string ⟨#[]⟩]), 2, 32) := by kernel_rfl
end Go.Proofs.YtfoghjhdjmapnaaDoor
