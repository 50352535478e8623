/-
  Contract of package place: Show.
-/
import Derived.Test.YthokpbpnecdgpaaDoorPlaceH
namespace Go.Proofs.YthokpbpnecdgpaaDoor
open Go.RowKit Go.Pantry

set_option maxRecDepth 100000 in
theorem Show_any (p : PlaceR) (w : World) (h1 : p.path.length ≤ 40000) (h2 : p.query.length ≤ 40000) :
    Calls Tryd.prog 11 #[placeV (some p)] w fun e w' => e = .returned (strV (showP p)) ∧ Below w.heap.size w w' := by
  obtain ⟨H, P, Q, b⟩ := p
  have s1 := fun W => run_string_add_lists (P := Tryd.prog) W P [63] (by simp at h1; omega) (by simp)
  have s2 := fun W => run_string_add_lists (P := Tryd.prog) W (P ++ [63]) Q (by simp at h1 ⊢; omega) (by simp at h2; omega)
  obtain ⟨W1, hW1⟩ : ∃ W, W = w.alloc (.cells #[strV H, strV P, strV Q, .bool b] 24) := ⟨_, rfl⟩
  have hb1 : Below w.heap.size w W1 := by rw [hW1]; exact below_alloc _ _
  have hr1 : rowIs W1 w.heap.size #[strV H, strV P, strV Q, .bool b] 24 := by rw [hW1]; exact rowIs_new _ _ _
  have c1 := hr1.cell 1
  have c2 := hr1.cell 2
  have c3 := hr1.cell 3
  clear h1 h2
  show Calls Tryd.prog 11 #[.agg #[strV H, strV P, strV Q, .bool b]] w fun e w' => e = .returned (strV (if b then P ++ 63 :: Q else P)) ∧ Below w.heap.size w w'
  cases b
  · go_enter Tryd.func11, Tryd.ntmps11
    go_wp2_with fail
    rw [← hW1]
    clear hW1
    go_wp2_with fail
    go_ret
    exact ⟨rfl, hb1⟩
  · go_enter Tryd.func11, Tryd.ntmps11
    go_wp2_with fail
    rw [← hW1]
    clear hW1
    go_wp2_with fail
    go_ret
    exact ⟨rfl, hb1⟩
end Go.Proofs.YthokpbpnecdgpaaDoor
