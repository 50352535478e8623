/-
  Contracts of package field: Elements.
-/
import Derived.Test.YtbjgbkbhalibdaaDoorFieldE
import Derived.Test.YtbjgbkbhalibdaaDoorSignC
namespace Go.Proofs.YtbjgbkbhalibdaaDoor
open Go.RowKit Go.Pantry

theorem lElements_any (v : Value) (L : List Fld) (n : ByteArray) (w : World) (hr : Reads2 w v L) (hk : okFs L) (hn : n.size ≤ 100000) :
    Calls Tryd.prog 24 #[v, .string n] w fun e w' => MadeStrs 9 w.heap.size (elementsF L n.data.toList) e w' ∧ Below w.heap.size w w' := by
  have hgl := getF_len (L := L) (n := n.data.toList) (fun f hf => (hk.2 f hf).2) hk.1
  have c1 := fun W h => lGet_any v L n W h hk hn
  have c2 := fun W => List_any ⟨(getF L n.data.toList).toArray⟩ W (by rw [szL]; omega)
  have he : elementsF L n.data.toList = listL (getF L n.data.toList) := rfl
  rw [dtL, ← he] at c2
  generalize getF L n.data.toList = G at c1 c2
  generalize allF L n.data.toList = T at c1
  have C1 := hid c1
  have C2 := hid c2
  have HR := hid hr
  clear c1 c2 hr he
  go_enter Tryd.func24, Tryd.ntmps24
  go_wp2_with fail
  refine (C1.out _ HR.out).mono ?_
  rintro e w1 ⟨rfl, hb1⟩
  go_wp2_with fail
  refine (C2.out _).mono ?_
  rintro e w2 ⟨v', rfl, ho, hb2⟩
  go_wp2_with fail
  go_ret
  exact ⟨⟨_, rfl, ho.base hb1.size⟩, chain2 hb1 hb1.size hb2⟩
end Go.Proofs.YtbjgbkbhalibdaaDoor
