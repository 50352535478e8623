/-
  What fields say, as a value. No program is imported.
-/
import Derived.Test.YtofkiihajhkmdaaDoorPureCtl2
import Derived.Test.YtofkiihajhkmdaaDoorBase
namespace Go.Pantry
open Go.RowKit
/-- what fields say, as a value -/
def ctlCells (c : Ctl) : List Value := [.bool c.noStore, .bool c.noCache, .bool c.priv, .bool c.pub, .bool c.must, .bool c.only, .int .i64 (intO c.maxAge), .int .i64 (intO c.shared), .int .i64 (intO c.minFresh), .int .i64 (intO c.maxStale)]
abbrev ctlV (c : Ctl) : Value := .agg #[.bool c.noStore, .bool c.noCache, .bool c.priv, .bool c.pub, .bool c.must, .bool c.only, .int .i64 (intO c.maxAge), .int .i64 (intO c.shared), .int .i64 (intO c.minFresh), .int .i64 (intO c.maxStale)]
theorem ctl_one (b0 b1 b2 b3 b4 b5 : Bool) (n0 n1 n2 n3 : Int) : (#[Value.bool b0, .bool b1, .bool b2, .bool b3, .bool b4, .bool b5, .int .i64 n0, .int .i64 n1, .int .i64 n2, .int .i64 n3] : Array Value).all (·.oneCell') = true := by
  rw [← Array.all_toList]; rfl
def zeroC : Array Value := #[.bool false, .bool false, .bool false, .bool false, .bool false, .bool false, .int .i64 0, .int .i64 0, .int .i64 0, .int .i64 0]
end Go.Pantry
