/-
  Facts on types that several texts want.
-/
import Derived.Test.YtbjgbkbhalibdaaGreatDoorProg
import Derived.Test.YtbjgbkbhalibdaaGreatDoorPureAll1
namespace Go.Proofs.YtbjgbkbhalibdaaGreatDoor
open Go.RowKit
theorem infoU8 : (Tryz.prog.info? 5).map (fun i => (i.zero, i.size, i.bytes)) = some (some (.int .u8 0), 1, 1) := by kernel_rfl
theorem infoStr : (Tryz.prog.info? 9).map (fun i => (i.zero, i.size, i.bytes)) = some (some (.string ⟨#[]⟩), 1, 16) := by kernel_rfl
theorem infoBool : (Tryz.prog.info? 4).map (fun i => (i.zero, i.size, i.bytes)) = some (some (.bool false), 1, 1) := by kernel_rfl
end Go.Proofs.YtbjgbkbhalibdaaGreatDoor
