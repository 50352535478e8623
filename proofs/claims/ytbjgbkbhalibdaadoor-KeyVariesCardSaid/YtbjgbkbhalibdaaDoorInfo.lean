/-
  Facts on types that several texts want.
-/
import Derived.Test.YtbjgbkbhalibdaaDoorProg
import Derived.Test.YtbjgbkbhalibdaaDoorPureAll1
namespace Go.Proofs.YtbjgbkbhalibdaaDoor
open Go.RowKit
theorem infoU8 : (Tryd.prog.info? 5).map (fun i => (i.zero, i.size, i.bytes)) = some (some (.int .u8 0), 1, 1) := by kernel_rfl
theorem infoStr : (Tryd.prog.info? 9).map (fun i => (i.zero, i.size, i.bytes)) = some (some (.string ⟨#[]⟩), 1, 16) := by kernel_rfl
theorem infoBool : (Tryd.prog.info? 4).map (fun i => (i.zero, i.size, i.bytes)) = some (some (.bool false), 1, 1) := by kernel_rfl
end Go.Proofs.YtbjgbkbhalibdaaDoor
