/-
  The document's answers of layer 3: Elements.
-/
import Derived.Test.YtbjgbkbhalibdaaGreatDoorRefFieldD
import Derived.Test.YtbjgbkbhalibdaaGreatDoorRefSignC
namespace Go.Proofs.YtbjgbkbhalibdaaGreatDoor
open Go.RowKit Go.Pantry

theorem refElements_any (v : Value) (L : List Fld) (n : ByteArray) (w : World) (hr : Reads2 w v L) (hL : ∀ f ∈ L, f.1.length < 4294967296) (hV : ∀ f ∈ L, f.2.length ≤ 100000) (hn : L.length ≤ 1000) (h2 : n.size < 4294967296) :
    Calls Tryz.prog 20 #[v, .string n] w fun e w' => MadeStrs 9 w.heap.size (elementsF L n.data.toList) e w' ∧ Below w.heap.size w w' := by
  have hl := getF_len (L := L) (n := n.data.toList) hV hn
  have c1 := fun W h => refGet_any v L n W h hL hV hn h2
  have c2 := fun W => refList_any ⟨(getF L n.data.toList).toArray⟩ W (by rw [szL]; omega)
  have he : elementsF L n.data.toList = listL (getF L n.data.toList) := rfl
  rw [dtL, ← he] at c2
  generalize getF L n.data.toList = G at c1 c2
  generalize allF L n.data.toList = T at c1
  have C1 := hid c1
  have C2 := hid c2
  have HR := hid hr
  clear c1 c2 hr he hL hV
  go_enter Tryz.func20, Tryz.ntmps20
  go_wp2_with fail
  refine (C1.out _ HR.out).mono ?_
  rintro e w1 ⟨rfl, hb1⟩
  go_wp2_with fail
  refine (C2.out _).mono ?_
  rintro e w2 ⟨v', rfl, ho, hb2⟩
  go_wp2_with fail
  go_ret
  exact ⟨⟨_, rfl, ho.base hb1.size⟩, chain2 hb1 hb1.size hb2⟩
end Go.Proofs.YtbjgbkbhalibdaaGreatDoor
