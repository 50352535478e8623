/-
  KeyApart, KeySeconds, KeyBegins, KeyVaries over package key as it is.
-/
import Derived.Test.YtbjgbkbhalibdaaDoorLaw11A
import Derived.Test.YtbjgbkbhalibdaaDoorLaw11B
import Derived.Test.YtbjgbkbhalibdaaDoorLaw11W
import Derived.Test.YtbjgbkbhalibdaaDoorKeyE
import Derived.Test.YtbjgbkbhalibdaaDoorCardKey
namespace Go.Proofs.YtbjgbkbhalibdaaDoor
open Go.RowKit Go.Pantry

abbrev FieldsAt (w : World) (lv : Value) (l : List Fld) : Prop := Reads2 w lv l ∧ (∀ f ∈ l, f.1.length ≤ maxLen ∧ f.2.length ≤ maxLen) ∧ l.length ≤ maxLen
abbrev TextsAt (w : World) (nv : Value) (l : List (List UInt8)) : Prop := Reads w nv (l.map strV) ∧ (∀ x ∈ l, x.length ≤ maxLen) ∧ l.length ≤ maxLen
theorem keyApart_walk (hv : Value) (s : SiteZ) (p r : PlaceR) (av : Value) (a : List Fld) (bv : Value) (b : List Fld) (w : World) (ht : Tab10 w) (hh : Reads w hv (s.heads.map strV) ∧ SiteFit s hv) (ha : FieldsAt w av a) (hb : FieldsAt w bv b) :
    Calls Tryd.prog 3 #[.agg (rowZ hv s), .agg #[strV p.host, strV p.path, strV p.query, .bool p.has], .agg #[strV r.host, strV r.path, strV r.query, .bool r.has], av, bv] w fun e w' => e = .returned (.bool true) ∧ Below w.heap.size w w' :=
  keyApart_over keys_ok hv s p r av bv a b w ht hh.1 ha.1 hb.1 hh.2.2.2.1 ha.2.2 hb.2.2
theorem keySeconds_walk (nv : Value) (ns : List (List UInt8)) (av : Value) (a : List Fld) (bv : Value) (b : List Fld) (w : World) (ht : Tab10 w) (hn : TextsAt w nv ns) (ha : FieldsAt w av a) (hb : FieldsAt w bv b) :
    Calls Tryd.prog 4 #[nv, av, bv] w fun e w' => e = .returned (.bool true) ∧ Below w.heap.size w w' :=
  keySeconds_over keys_ok nv av bv ns a b w ht hn.1 ha.1 hb.1 hn.2.2 ha.2.2 hb.2.2 hn.2.1
theorem keyBegins_walk (hv : Value) (s : SiteZ) (p r : PlaceR) (lv : Value) (l : List Fld) (w : World) (ht : Tab10 w) (hh : Reads w hv (s.heads.map strV) ∧ SiteFit s hv) (hl : FieldsAt w lv l) :
    Calls Tryd.prog 6 #[.agg (rowZ hv s), .agg #[strV p.host, strV p.path, strV p.query, .bool p.has], .agg #[strV r.host, strV r.path, strV r.query, .bool r.has], lv] w fun e w' => e = .returned (.bool true) ∧ Below w.heap.size w w' :=
  keyBegins_over keys_ok hv s p r lv l w ht hh.1 hl.1 hh.2.2.2.1 hl.2.2
theorem keyVaries_walk (lv : Value) (l : List Fld) (mv : Value) (more : List Fld) (nv : Value) (ns : List (List UInt8)) (w : World) (ht : Tab10 w) (hl : FieldsAt w lv l) (hm : FieldsAt w mv more) (hn : TextsAt w nv ns) :
    Calls Tryd.prog 7 #[lv, mv, nv] w fun e w' => e = .returned (.bool true) ∧ Below w.heap.size w w' :=
  keyVaries_over keys_ok lv mv nv l more ns w ht hl.1 hm.1 hn.1 hl.2.2 hm.2.2 hn.2.2 hn.2.1
end Go.Proofs.YtbjgbkbhalibdaaDoor
