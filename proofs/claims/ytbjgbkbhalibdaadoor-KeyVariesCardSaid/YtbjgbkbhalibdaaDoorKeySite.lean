/-
  A site as an argument: what its type says.
-/
import Derived.Test.YtbjgbkbhalibdaaDoorPureKey
import Derived.Test.YtbjgbkbhalibdaaDoorInfo
import Derived.Test.YtbjgbkbhalibdaaDoorProg
import Derived.Deep.RegionWith
import Derived.IntWalk
namespace Go.Proofs.YtbjgbkbhalibdaaDoor
open Go.RowKit Go.Pantry

abbrev zeroSiteK : Array Value := #[.string ⟨#[]⟩, .int .i64 0, .int .i64 0, .int .i64 0, .bool false, .bool false, .slice none 0 0]
theorem infoSiteK : (Tryd.prog.info? 24).map (·.size) = some 7 := by kernel_rfl
theorem oneSiteK (h : List UInt8) (a b c : Int) (d e : Bool) (ao : Option Addr) (n cap : Nat) : (#[strV h, .int .i64 a, .int .i64 b, .int .i64 c, .bool d, .bool e, .slice ao n cap] : Array Value).all (·.oneCell') = true := by simp [Value.oneCell']
theorem chainK {w a b : World} (h1 : Below w.heap.size w a) (h2 : Below a.heap.size a b) : Below w.heap.size w b := h1.trans (h2.mono h1.size)
end Go.Proofs.YtbjgbkbhalibdaaDoor
