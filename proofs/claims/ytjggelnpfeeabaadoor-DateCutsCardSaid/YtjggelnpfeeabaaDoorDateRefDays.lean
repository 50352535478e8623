/-
  The document's Days.
-/
import Derived.Test.YtjggelnpfeeabaaDoorDateA
namespace Go.Proofs.YtjggelnpfeeabaaDoor
open Go.RowKit Go.Pantry
set_option maxHeartbeats 4000000 in
theorem refDays_in (y m : Int) (w : World) (a1 : 1970 ≤ y) (a2 : y ≤ 9999) (a3 : 1 ≤ m) (a4 : m ≤ 12) :
    Calls Tryd.prog 17 #[.int .i64 y, .int .i64 m] w fun e w' => e = .returned (.int .i64 (daysI y m)) ∧ Below w.heap.size w w' := by
  have HD := hid (daysI_in a1 a2 a3 a4)
  rcases month_cases a3 a4 with rfl | rfl | rfl | rfl | rfl | rfl | rfl | rfl | rfl | rfl | rfl | rfl
  all_goals
    clear a3 a4
    go_enter Tryd.func17, Tryd.ntmps17
    go_wp2_with (go_at_call 20; refine (refLeap_any _ _ (by omega) (by omega)).mono ?_; rintro e w' ⟨rfl, rfl⟩)
    all_goals
      go_ret
      refine ⟨ret_int ?_, below_alloc _ _⟩
      rw [HD.out]
      first
        | rfl
        | (have h : leapB y = true := by assumption
           rw [leapI_t h]; rfl)
        | (have h : leapB y = false := by assumption
           rw [leapI_f h]; rfl)
theorem refDays_any (y m : Int) (w : World) :
    Calls Tryd.prog 17 #[.int .i64 y, .int .i64 m] w fun e w' => e = .returned (.int .i64 (daysI y m)) ∧ Below w.heap.size w w' := by
  by_cases h : y < 1970 ∨ 9999 < y ∨ m < 1 ∨ 12 < m
  · have HD := hid (daysI_out h)
    have h1 : y < 1970 ∨ (1970 ≤ y ∧ 9999 < y) ∨ (1970 ≤ y ∧ y ≤ 9999 ∧ m < 1) ∨ (1970 ≤ y ∧ y ≤ 9999 ∧ 1 ≤ m ∧ 12 < m) := by omega
    clear h
    rcases h1 with a | ⟨a, b⟩ | ⟨a, b, c⟩ | ⟨a, b, c, d⟩
    all_goals
      go_enter Tryd.func17, Tryd.ntmps17
      go_wp2
      go_ret
      exact ⟨ret_int HD.out.symm, Below.refl _ _⟩
  · exact refDays_in y m w (by omega) (by omega) (by omega) (by omega)
end Go.Proofs.YtjggelnpfeeabaaDoor
