/-
  KeyTells over package key as it is.
-/
import Derived.Test.YtbjgbkbhalibdaaGreatDoorLaw11T
import Derived.Test.YtbjgbkbhalibdaaGreatDoorKeyE
import Derived.Test.YtbjgbkbhalibdaaGreatDoorCardKey
namespace Go.Proofs.YtbjgbkbhalibdaaGreatDoor
open Go.RowKit Go.Pantry

theorem keyTells_walk (hv : Value) (s : SiteZ) (p : PlaceR) (lv : Value) (l : List Fld) (w : World) (ht : Tab10 w) (hh : Reads w hv (s.heads.map strV) ∧ SiteFit s hv) (hr : Reads2 w lv l ∧ (∀ f ∈ l, f.1.length ≤ maxLen ∧ f.2.length ≤ maxLen) ∧ l.length ≤ maxLen) :
    Calls Tryz.prog 3 #[.agg (rowZ hv s), .agg #[strV p.host, strV p.path, strV p.query, .bool p.has], lv] w fun e w' => e = .returned (.bool true) ∧ Below w.heap.size w w' :=
  keyTells_over keys_ok hv lv s p l w ht hr.1 hh.1 hr.2.2 hh.2.2.2.1
end Go.Proofs.YtbjgbkbhalibdaaGreatDoor
