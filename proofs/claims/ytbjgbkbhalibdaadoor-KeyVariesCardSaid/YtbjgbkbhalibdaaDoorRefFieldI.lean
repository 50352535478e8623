/-
  Contract of the document's answers of layer 3: Is.
-/
import Derived.Test.YtbjgbkbhalibdaaDoorRefSignB
import Derived.Test.YtbjgbkbhalibdaaDoorPureAll1
import Derived.Test.YtbjgbkbhalibdaaDoorInfo3
namespace Go.Proofs.YtbjgbkbhalibdaaDoor
open Go.RowKit Go.Pantry

theorem refIs_any (f : Fld) (n : ByteArray) (w : World) (h1 : f.1.length < 4294967296) (h2 : n.size < 4294967296) :
    Calls Tryd.prog 19 #[fldV f, .string n] w fun e w' => e = .returned (.bool (isF n.data.toList f)) ∧ Below w.heap.size w w' := by
  obtain ⟨a, b⟩ := f
  have c1 := fun W => refLower_any ⟨a.toArray⟩ W (by rw [szL]; exact h1)
  rw [dtL] at c1
  have c2 := fun W => refLower_any n W h2
  have C1 := hid c1
  have C2 := hid c2
  clear c1 c2
  go_enter Tryd.func19, Tryd.ntmps19
  go_wp2_with fail
  refine (C1.out _).mono ?_
  rintro e w1 ⟨rfl, hb1⟩
  go_wp2_with fail
  refine (C2.out _).mono ?_
  rintro e w2 ⟨rfl, hb2⟩
  go_wp2_with fail
  go_ret
  exact ⟨rfl, chain2 ((below_alloc _ _).trans (hb1.mono (by simp))) (Nat.le_trans (by simp) hb1.size) hb2⟩

end Go.Proofs.YtbjgbkbhalibdaaDoor
