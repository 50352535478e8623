/-
  strconv.Itoa at any number.
-/
import Derived.Test.YtbjgbkbhalibdaaDoorTab10
import Derived.Test.YtbjgbkbhalibdaaDoorPureAll3
namespace Go.Proofs.YtbjgbkbhalibdaaDoor
open Go.RowKit Go.Pantry Go.Sort

theorem itoa_any (n : Nat) (h : n < 1000000) (w : World) (ht : Tab10 w) :
    Calls Tryd.prog 30 #[.int .i64 (n : Int)] w fun e w' => e = .returned (strV (decL n)) ∧ Below w.heap.size w w' := by
  refine (Tryd.strconv_Itoa (n : Int) (by omega) (by omega) w ht).mono ?_
  rintro e w' ⟨rfl, k, os, rfl⟩
  rw [decL_itoa n]
  exact ⟨rfl, below_of_grow _ _ _⟩
end Go.Proofs.YtbjgbkbhalibdaaDoor
