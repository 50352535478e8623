/-
  Contracts of package date: leap, leapsBefore, yearStart, Days, Split; and the document's Leap, Days, Split.
-/
import Derived.Test.YtjggelnpfeeabaaDoorProg
import Derived.Test.YtjggelnpfeeabaaDoorPureDate
import Derived.Deep.Cut
namespace Go.Proofs.YtjggelnpfeeabaaDoor
open Go.RowKit Go.Pantry

theorem leap_any (y : Int) (w : World) (h1 : 0 ≤ y) (h2 : y ≤ 400000) :
    Calls Tryd.prog 23 #[.int .i64 y] w fun e w' => e = .returned (.bool (leapB y)) ∧ w = w' := by
  by_cases a : y % 4 = 0 <;> by_cases b : y % 100 = 0 <;> by_cases c : y % 400 = 0
  all_goals
    have hl : leapB y = ((y % 4 == 0 && y % 100 != 0) || y % 400 == 0) := rfl
    have HL := hid hl
    clear hl
    go_enter Tryd.func23, Tryd.ntmps23
    go_wp2
    go_ret
    refine ⟨ret_bool ?_, rfl⟩
    rw [HL.out]
    simp [a, b, c]

theorem leapsBefore_any (y : Int) (w : World) (h1 : 0 ≤ y) (h2 : y ≤ 400000) :
    Calls Tryd.prog 25 #[.int .i64 y] w fun e w' => e = .returned (.int .i64 (lbI y)) ∧ w = w' := by
  by_cases h0 : y = 0
  · subst h0
    go_enter Tryd.func25, Tryd.ntmps25
    go_wp2
    go_ret
    exact ⟨rfl, rfl⟩
  · have hy : 1 ≤ y := by omega
    have HL := hid (lbI_of y hy)
    clear h0
    go_enter Tryd.func25, Tryd.ntmps25
    go_wp2
    go_ret
    exact ⟨ret_int HL.out.symm, rfl⟩

theorem yearStart_any (y : Int) (w : World) (h1 : 0 ≤ y) (h2 : y ≤ 400000) :
    Calls Tryd.prog 19 #[.int .i64 y] w fun e w' => e = .returned (.int .i64 (ysI y)) ∧ w = w' := by
  have hb := lbI_bd y h1 h2
  have h7 : lbI 1970 = 477 := by decide
  have HE : Hid (ysI y = (y - 1970) * 365 + lbI y - lbI 1970) := by show ysI y = _; rw [h7]; rfl
  have hb7 := lbI_bd 1970 (by omega) (by omega)
  clear h7
  obtain ⟨a, ha⟩ : ∃ a, lbI y = a := ⟨_, rfl⟩
  obtain ⟨b, hb'⟩ : ∃ b, lbI 1970 = b := ⟨_, rfl⟩
  have c1 := fun w => leapsBefore_any y w h1 h2
  have c2 := fun w => leapsBefore_any 1970 w (by omega) (by omega)
  rw [ha] at hb c1
  rw [hb'] at hb7 c2
  have C1 := hid c1
  have C2 := hid c2
  have HA := hid ha
  have HB := hid hb'
  clear c1 c2 ha hb'
  go_enter Tryd.func19, Tryd.ntmps19
  go_wp2_with fail
  refine (C1.out _).mono ?_
  rintro e w' ⟨rfl, rfl⟩
  go_wp2_with fail
  refine (C2.out _).mono ?_
  rintro e w' ⟨rfl, rfl⟩
  go_wp2
  go_ret
  exact ⟨ret_int (by rw [HE.out, HA.out, HB.out]), rfl⟩

theorem month_cases {m : Int} (h1 : 1 ≤ m) (h2 : m ≤ 12) : m = 1 ∨ m = 2 ∨ m = 3 ∨ m = 4 ∨ m = 5 ∨ m = 6 ∨ m = 7 ∨ m = 8 ∨ m = 9 ∨ m = 10 ∨ m = 11 ∨ m = 12 := by omega
theorem daysI_out {y m : Int} (h : y < 1970 ∨ 9999 < y ∨ m < 1 ∨ 12 < m) : daysI y m = 0 := by unfold daysI; rw [if_pos h]
theorem daysI_in {y m : Int} (h1 : 1970 ≤ y) (h2 : y ≤ 9999) (h3 : 1 ≤ m) (h4 : m ≤ 12) : daysI y m = if m = 2 then 28 + leapI y else if m = 4 ∨ m = 6 ∨ m = 9 ∨ m = 11 then 30 else 31 := by
  unfold daysI; rw [if_neg (by omega)]
theorem leapI_t {y : Int} (h : leapB y = true) : leapI y = 1 := by unfold leapI; rw [if_pos h]
theorem leapI_f {y : Int} (h : leapB y = false) : leapI y = 0 := by unfold leapI; rw [h]; rfl

theorem Days_any (y m : Int) (w : World) :
    Calls Tryd.prog 16 #[.int .i64 y, .int .i64 m] w fun e w' => e = .returned (.int .i64 (daysI y m)) ∧ w = w' := by
  by_cases a1 : y < 1970
  · have HD := hid (daysI_out (y := y) (m := m) (.inl a1))
    go_enter Tryd.func16, Tryd.ntmps16
    go_wp2
    go_ret
    exact ⟨ret_int HD.out.symm, rfl⟩
  · have a1' : 1970 ≤ y := by omega
    by_cases a2 : 9999 < y
    · have HD := hid (daysI_out (y := y) (m := m) (.inr (.inl a2)))
      go_enter Tryd.func16, Tryd.ntmps16
      go_wp2
      go_ret
      exact ⟨ret_int HD.out.symm, rfl⟩
    · have a2' : y ≤ 9999 := by omega
      by_cases a3 : m < 1
      · have HD := hid (daysI_out (y := y) (m := m) (.inr (.inr (.inl a3))))
        go_enter Tryd.func16, Tryd.ntmps16
        go_wp2
        go_ret
        exact ⟨ret_int HD.out.symm, rfl⟩
      · have a3' : 1 ≤ m := by omega
        by_cases a4 : 12 < m
        · have HD := hid (daysI_out (y := y) (m := m) (.inr (.inr (.inr a4))))
          go_enter Tryd.func16, Tryd.ntmps16
          go_wp2
          go_ret
          exact ⟨ret_int HD.out.symm, rfl⟩
        · have a4' : m ≤ 12 := by omega
          have HD := hid (daysI_in a1' a2' a3' a4')
          rcases month_cases a3' a4' with rfl | rfl | rfl | rfl | rfl | rfl | rfl | rfl | rfl | rfl | rfl | rfl
          all_goals
            clear a3 a4 a3' a4'
            go_enter Tryd.func16, Tryd.ntmps16
            go_wp2_with (go_at_call 23; refine (leap_any _ _ (by omega) (by omega)).mono ?_; rintro e w' ⟨rfl, rfl⟩)
            all_goals
              go_ret
              refine ⟨ret_int ?_, rfl⟩
              rw [HD.out]
              first
                | rfl
                | (have h : leapB y = true := by assumption
                   rw [leapI_t h]; rfl)
                | (have h : leapB y = false := by assumption
                   rw [leapI_f h]; rfl)

theorem refLeap_any (y : Int) (w : World) (h1 : 0 ≤ y) (h2 : y ≤ 400000) :
    Calls Tryd.prog 20 #[.int .i64 y] w fun e w' => e = .returned (.bool (leapB y)) ∧ w = w' := by
  by_cases a : y % 4 = 0 <;> by_cases b : y % 100 = 0 <;> by_cases c : y % 400 = 0
  all_goals
    have hl : leapB y = ((y % 4 == 0 && y % 100 != 0) || y % 400 == 0) := rfl
    have HL := hid hl
    clear hl
    go_enter Tryd.func20, Tryd.ntmps20
    go_wp2 <;> (go_ret; exact ⟨ret_bool (by simp [HL.out, a, b, c]), rfl⟩)

end Go.Proofs.YtjggelnpfeeabaaDoor
