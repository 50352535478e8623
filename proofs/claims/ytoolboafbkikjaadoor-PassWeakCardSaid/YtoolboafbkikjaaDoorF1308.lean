/-
  Several texts in one: DateA, DateRefDays, DateSplit.
-/
import Derived.Test.YtoolboafbkikjaaDoorProg
import Derived.Test.YtoolboafbkikjaaDoorF1302
import Derived.Deep.Cut
set_option linter.unusedVariables false
set_option linter.unusedSimpArgs false
/-
  Contracts of package date: leap, leapsBefore, yearStart, Days, Split; and the document's Leap, Days, Split.
-/
namespace Go.Proofs.YtoolboafbkikjaaDoor
open Go.RowKit Go.Pantry

theorem leap_any (y : Int) (w : World) (h1 : 0 ≤ y) (h2 : y ≤ 400000) :
    Calls Tryd.prog 104 #[.int .i64 y] w fun e w' => e = .returned (.bool (leapB y)) ∧ w = w' := by
  by_cases a : y % 4 = 0 <;> by_cases b : y % 100 = 0 <;> by_cases c : y % 400 = 0
  all_goals
    have hl : leapB y = ((y % 4 == 0 && y % 100 != 0) || y % 400 == 0) := rfl
    have HL := hid hl
    clear hl
    go_enter Tryd.func104, Tryd.ntmps104
    go_wp2
    go_ret
    refine ⟨ret_bool ?_, rfl⟩
    rw [HL.out]
    simp [a, b, c]

theorem leapsBefore_any (y : Int) (w : World) (h1 : 0 ≤ y) (h2 : y ≤ 400000) :
    Calls Tryd.prog 103 #[.int .i64 y] w fun e w' => e = .returned (.int .i64 (lbI y)) ∧ w = w' := by
  by_cases h0 : y = 0
  · subst h0
    go_enter Tryd.func103, Tryd.ntmps103
    go_wp2
    go_ret
    exact ⟨rfl, rfl⟩
  · have hy : 1 ≤ y := by omega
    have HL := hid (lbI_of y hy)
    clear h0
    go_enter Tryd.func103, Tryd.ntmps103
    go_wp2
    go_ret
    exact ⟨ret_int HL.out.symm, rfl⟩

theorem yearStart_any (y : Int) (w : World) (h1 : 0 ≤ y) (h2 : y ≤ 400000) :
    Calls Tryd.prog 91 #[.int .i64 y] w fun e w' => e = .returned (.int .i64 (ysI y)) ∧ w = w' := by
  have hb := lbI_bd y h1 h2
  have h7 : lbI 1970 = 477 := by decide
  have HE : Hid (ysI y = (y - 1970) * 365 + lbI y - lbI 1970) := by show ysI y = _; rw [h7]; rfl
  have hb7 := lbI_bd 1970 (by omega) (by omega)
  clear h7
  obtain ⟨a, ha⟩ : ∃ a, lbI y = a := ⟨_, rfl⟩
  obtain ⟨b, hb'⟩ : ∃ b, lbI 1970 = b := ⟨_, rfl⟩
  have c1 := fun w => leapsBefore_any y w h1 h2
  have c2 := fun w => leapsBefore_any 1970 w (by omega) (by omega)
  rw [ha] at hb c1
  rw [hb'] at hb7 c2
  have C1 := hid c1
  have C2 := hid c2
  have HA := hid ha
  have HB := hid hb'
  clear c1 c2 ha hb'
  go_enter Tryd.func91, Tryd.ntmps91
  go_wp2_with fail
  refine (C1.out _).mono ?_
  rintro e w' ⟨rfl, rfl⟩
  go_wp2_with fail
  refine (C2.out _).mono ?_
  rintro e w' ⟨rfl, rfl⟩
  go_wp2
  go_ret
  exact ⟨ret_int (by rw [HE.out, HA.out, HB.out]), rfl⟩

theorem month_cases {m : Int} (h1 : 1 ≤ m) (h2 : m ≤ 12) : m = 1 ∨ m = 2 ∨ m = 3 ∨ m = 4 ∨ m = 5 ∨ m = 6 ∨ m = 7 ∨ m = 8 ∨ m = 9 ∨ m = 10 ∨ m = 11 ∨ m = 12 := by omega
theorem daysI_out {y m : Int} (h : y < 1970 ∨ 9999 < y ∨ m < 1 ∨ 12 < m) : daysI y m = 0 := by unfold daysI; rw [if_pos h]
theorem daysI_in {y m : Int} (h1 : 1970 ≤ y) (h2 : y ≤ 9999) (h3 : 1 ≤ m) (h4 : m ≤ 12) : daysI y m = if m = 2 then 28 + leapI y else if m = 4 ∨ m = 6 ∨ m = 9 ∨ m = 11 then 30 else 31 := by
  unfold daysI; rw [if_neg (by omega)]
theorem leapI_t {y : Int} (h : leapB y = true) : leapI y = 1 := by unfold leapI; rw [if_pos h]
theorem leapI_f {y : Int} (h : leapB y = false) : leapI y = 0 := by unfold leapI; rw [h]; rfl

theorem Days_any (y m : Int) (w : World) :
    Calls Tryd.prog 92 #[.int .i64 y, .int .i64 m] w fun e w' => e = .returned (.int .i64 (daysI y m)) ∧ w = w' := by
  by_cases a1 : y < 1970
  · have HD := hid (daysI_out (y := y) (m := m) (.inl a1))
    go_enter Tryd.func92, Tryd.ntmps92
    go_wp2
    go_ret
    exact ⟨ret_int HD.out.symm, rfl⟩
  · have a1' : 1970 ≤ y := by omega
    by_cases a2 : 9999 < y
    · have HD := hid (daysI_out (y := y) (m := m) (.inr (.inl a2)))
      go_enter Tryd.func92, Tryd.ntmps92
      go_wp2
      go_ret
      exact ⟨ret_int HD.out.symm, rfl⟩
    · have a2' : y ≤ 9999 := by omega
      by_cases a3 : m < 1
      · have HD := hid (daysI_out (y := y) (m := m) (.inr (.inr (.inl a3))))
        go_enter Tryd.func92, Tryd.ntmps92
        go_wp2
        go_ret
        exact ⟨ret_int HD.out.symm, rfl⟩
      · have a3' : 1 ≤ m := by omega
        by_cases a4 : 12 < m
        · have HD := hid (daysI_out (y := y) (m := m) (.inr (.inr (.inr a4))))
          go_enter Tryd.func92, Tryd.ntmps92
          go_wp2
          go_ret
          exact ⟨ret_int HD.out.symm, rfl⟩
        · have a4' : m ≤ 12 := by omega
          have HD := hid (daysI_in a1' a2' a3' a4')
          rcases month_cases a3' a4' with rfl | rfl | rfl | rfl | rfl | rfl | rfl | rfl | rfl | rfl | rfl | rfl
          all_goals
            clear a3 a4 a3' a4'
            go_enter Tryd.func92, Tryd.ntmps92
            go_wp2_with (go_at_call 104; refine (leap_any _ _ (by omega) (by omega)).mono ?_; rintro e w' ⟨rfl, rfl⟩)
            all_goals
              go_ret
              refine ⟨ret_int ?_, rfl⟩
              rw [HD.out]
              first
                | rfl
                | (have h : leapB y = true := by assumption
                   rw [leapI_t h]; rfl)
                | (have h : leapB y = false := by assumption
                   rw [leapI_f h]; rfl)

theorem refLeap_any (y : Int) (w : World) (h1 : 0 ≤ y) (h2 : y ≤ 400000) :
    Calls Tryd.prog 74 #[.int .i64 y] w fun e w' => e = .returned (.bool (leapB y)) ∧ w = w' := by
  by_cases a : y % 4 = 0 <;> by_cases b : y % 100 = 0 <;> by_cases c : y % 400 = 0
  all_goals
    have hl : leapB y = ((y % 4 == 0 && y % 100 != 0) || y % 400 == 0) := rfl
    have HL := hid hl
    clear hl
    go_enter Tryd.func74, Tryd.ntmps74
    go_wp2 <;> (go_ret; exact ⟨ret_bool (by simp [HL.out, a, b, c]), rfl⟩)

end Go.Proofs.YtoolboafbkikjaaDoor
/-
  The document's Days.
-/
namespace Go.Proofs.YtoolboafbkikjaaDoor
open Go.RowKit Go.Pantry
set_option maxHeartbeats 4000000 in
theorem refDays_in (y m : Int) (w : World) (a1 : 1970 ≤ y) (a2 : y ≤ 9999) (a3 : 1 ≤ m) (a4 : m ≤ 12) :
    Calls Tryd.prog 75 #[.int .i64 y, .int .i64 m] w fun e w' => e = .returned (.int .i64 (daysI y m)) ∧ Below w.heap.size w w' := by
  have HD := hid (daysI_in a1 a2 a3 a4)
  rcases month_cases a3 a4 with rfl | rfl | rfl | rfl | rfl | rfl | rfl | rfl | rfl | rfl | rfl | rfl
  all_goals
    clear a3 a4
    go_enter Tryd.func75, Tryd.ntmps75
    go_wp2_with (go_at_call 74; refine (refLeap_any _ _ (by omega) (by omega)).mono ?_; rintro e w' ⟨rfl, rfl⟩)
    all_goals
      go_ret
      refine ⟨ret_int ?_, below_alloc _ _⟩
      rw [HD.out]
      first
        | rfl
        | (have h : leapB y = true := by assumption
           rw [leapI_t h]; rfl)
        | (have h : leapB y = false := by assumption
           rw [leapI_f h]; rfl)
theorem refDays_any (y m : Int) (w : World) :
    Calls Tryd.prog 75 #[.int .i64 y, .int .i64 m] w fun e w' => e = .returned (.int .i64 (daysI y m)) ∧ Below w.heap.size w w' := by
  by_cases h : y < 1970 ∨ 9999 < y ∨ m < 1 ∨ 12 < m
  · have HD := hid (daysI_out h)
    have h1 : y < 1970 ∨ (1970 ≤ y ∧ 9999 < y) ∨ (1970 ≤ y ∧ y ≤ 9999 ∧ m < 1) ∨ (1970 ≤ y ∧ y ≤ 9999 ∧ 1 ≤ m ∧ 12 < m) := by omega
    clear h
    rcases h1 with a | ⟨a, b⟩ | ⟨a, b, c⟩ | ⟨a, b, c, d⟩
    all_goals
      go_enter Tryd.func75, Tryd.ntmps75
      go_wp2
      go_ret
      exact ⟨ret_int HD.out.symm, Below.refl _ _⟩
  · exact refDays_in y m w (by omega) (by omega) (by omega) (by omega)
end Go.Proofs.YtoolboafbkikjaaDoor
/-
  Contracts: Split of package date, and the document's.
-/
namespace Go.Proofs.YtoolboafbkikjaaDoor
open Go.RowKit Go.Pantry

theorem Split_no (t : Int) (w : World) (h : t < 0 ∨ 253402300799 < t) :
    Calls Tryd.prog 93 #[.int .i64 t] w fun e w' => e = .returned (.tuple #[.int .i64 0, .int .i64 0, .int .i64 0, .int .i64 0, .int .i64 11]) ∧ w = w' := by
  have h1 : t < 0 ∨ (0 ≤ t ∧ 253402300799 < t) := by omega
  clear h
  rcases h1 with a | ⟨a, b⟩
  all_goals
    go_enter Tryd.func93, Tryd.ntmps93
    go_wp2
    exact bodyPost_ret (v := .tuple #[.int .i64 0, .int .i64 0, .int .i64 0, .int .i64 0, .int .i64 11]) (by simp [results, Tryd.results93, go_sem]) rfl ⟨rfl, rfl⟩

theorem guess (D : Int) (h0 : 0 ≤ D) (h1 : D ≤ 2932896) : 1970 ≤ 1970 + D / 366 ∧ 1970 + D / 366 ≤ 9999 ∧ ysI (1970 + D / 366) ≤ D := by
  have := ysI_guess (D / 366) (by omega)
  have h2 : 1970 + D / 366 ≤ 9999 := by omega
  exact ⟨by omega, h2, by omega⟩
set_option maxHeartbeats 4000000 in
theorem Split_yes (t : Int) (w : World) (h0 : 0 ≤ t) (h1 : t ≤ 253402300799) :
    Calls Tryd.prog 93 #[.int .i64 t] w fun e w' => e = .returned (.tuple #[.int .i64 (dateI (t / 86400)).1, .int .i64 (dateI (t / 86400)).2.1, .int .i64 (dateI (t / 86400)).2.2, .int .i64 (t % 86400), .int .i64 0]) ∧ w = w' := by
  have hD0 : 0 ≤ t / 86400 := by omega
  have hD1 : t / 86400 ≤ 2932896 := by omega
  have hg := guess (t / 86400) hD0 hD1
  go_enter Tryd.func93, Tryd.ntmps93
  go_wp2
  go_loop [8] (fun y' => ∃ y : Int, 1970 ≤ y ∧ y ≤ 9999 ∧ ysI y ≤ t / 86400 ∧ y' = .int .i64 y) (fun y' => (9999 - intOf y').toNat)
  case atStart => exact ⟨_, hg.1, hg.2.1, hg.2.2, rfl⟩
  case round =>
    obtain ⟨y, hy1, hy2, hy3, rfl⟩ := hrel
    clear hg
    have hbd := ysI_bd y (by omega) (by omega)
    by_cases hc : ysI (y + 1) ≤ t / 86400
    · have hle : y + 1 ≤ 9999 := by
        have := ysI_end
        by_cases e : y = 9999
        · subst e; have : ysI (9999 + 1) = 2932897 := ysI_end; omega
        · omega
      go_wp2_with (go_at_call 91; refine (yearStart_any _ _ (by omega) (by omega)).mono ?_; rintro e w' ⟨rfl, rfl⟩)
      go_round
      case rel => exact ⟨y + 1, by omega, hle, hc, rfl⟩
      case measure => simp [intOf]; omega
    · have hs := ysI_succ y (by omega)
      have h12 := cumR_12 y hy1 hy2
      have HS := hid hs
      have H12 := hid h12
      clear hs h12
      go_wp2_with (go_at_call 91; refine (yearStart_any _ _ (by omega) (by omega)).mono ?_; rintro e w' ⟨rfl, rfl⟩)
      go_loop [7, 9] (fun d' m' => ∃ k : Nat, k < 12 ∧ m' = .int .i64 ((k : Int) + 1) ∧ 0 ≤ t / 86400 - ysI y - cumR y k ∧ d' = .int .i64 (t / 86400 - ysI y - cumR y k)) (fun _ m' => (12 - intOf m').toNat)
      case atStart => exact ⟨0, by omega, rfl, by simp [cumR]; omega, by simp [cumR]⟩
      case round =>
        obtain ⟨k, hk, rfl, hr, rfl⟩ := hrel
        have cb := cumR_bd y k
        have db := daysI_bd y ((k : Int) + 1)
        have HC : Hid (cumR y (k + 1) = cumR y k + daysI y ((k : Int) + 1)) := rfl
        by_cases hd : daysI y ((k : Int) + 1) ≤ t / 86400 - ysI y - cumR y k
        · have hk2 : k + 1 < 12 := by
            by_cases e : k = 11
            · exfalso
              subst e
              have a := HC.out
              have b : cumR y (11 + 1) = 365 + leapI y := H12.out
              have c := HS.out
              omega
            · omega
          go_wp2_with (go_at_call 92; refine (Days_any _ _ _).mono ?_; rintro e w' ⟨rfl, rfl⟩)
          go_round
          case rel => exact ⟨k + 1, hk2, by go_num, by rw [HC.out]; omega, by rw [HC.out]; go_num⟩
          case measure => simp [intOf]; omega
        · have hv : IsDate (t / 86400) y ((k : Int) + 1) (t / 86400 - ysI y - cumR y k + 1) :=
            ⟨hy1, hy2, by omega, by omega, by omega, by omega, by simp; omega⟩
          have HV := hid (dateI_of hv)
          clear hv
          go_wp2_with (go_at_call 92; refine (Days_any _ _ _).mono ?_; rintro e w' ⟨rfl, rfl⟩)
          refine bodyPost_ret (v := .tuple #[.int .i64 y, .int .i64 ((k : Int) + 1), .int .i64 (t / 86400 - ysI y - cumR y k + 1), .int .i64 (t % 86400), .int .i64 0]) (by simp [results, Tryd.results93, go_sem]) rfl ⟨?_, rfl⟩
          rw [HV.out]

theorem chainB {b : Nat} {w w1 w2 : World} (h : Below b w w1) (hs : b ≤ w1.heap.size) (h2 : Below w1.heap.size w1 w2) : Below b w w2 := h.trans (h2.mono hs)
set_option maxHeartbeats 4000000 in
theorem refSplit_any (t : Int) (w : World) (h0 : 0 ≤ t) (h1 : t ≤ 253402300799) :
    Calls Tryd.prog 95 #[.int .i64 t] w fun e w' => e = .returned (.tuple #[.int .i64 (dateI (t / 86400)).1, .int .i64 (dateI (t / 86400)).2.1, .int .i64 (dateI (t / 86400)).2.2, .int .i64 (t % 86400)]) ∧ Below w.heap.size w w' := by
  have hD0 : 0 ≤ t / 86400 := by omega
  have hD1 : t / 86400 ≤ 2932896 := by omega
  go_enter Tryd.func95, Tryd.ntmps95
  go_wp2
  go_loop [6, 7] (fun d' y' => ∃ y : Int, 1970 ≤ y ∧ y ≤ 9999 ∧ ysI y ≤ t / 86400 ∧ d' = .int .i64 (t / 86400 - ysI y) ∧ y' = .int .i64 y) (fun _ y' => (9999 - intOf y').toNat)
  case atStart => exact ⟨1970, by omega, by omega, by rw [ysI_first]; exact hD0, by rw [ysI_first]; simp, rfl⟩
  case round =>
    obtain ⟨y, hy1, hy2, hy3, rfl, rfl⟩ := hrel
    have hbd := ysI_bd y (by omega) (by omega)
    have hle : ysI (y + 1) ≤ t / 86400 → y + 1 ≤ 9999 := by
      intro hc
      by_cases e : y = 9999
      · subst e; have : ysI (9999 + 1) = 2932897 := ysI_end; omega
      · omega
    have hs := ysI_succ y (by omega)
    have HS := hid hs
    have HL := hid hle
    clear hs hle
    obtain ⟨b, hb⟩ : ∃ b, leapB y = b := ⟨_, rfl⟩
    have HI : Hid (leapI y = if b = true then 1 else 0) := by show leapI y = _; rw [← hb]; rfl
    cases b
    all_goals
      have hli : ∃ l : Int, ysI (y + 1) = ysI y + 365 + l ∧ l = (leapI y) := ⟨_, HS.out, rfl⟩
      rw [HI.out] at hli
      simp only [Bool.false_eq_true, if_false, if_true] at hli
      obtain ⟨l, hl1, hl2⟩ := hli
      subst hl2
      have H1 := hid hl1
      by_cases hc : ysI (y + 1) ≤ t / 86400
      · have hy4 := HL.out hc
        rw [hl1] at hc
        clear hl1
        go_wp2_with (go_at_call 74; refine (refLeap_any _ _ (by omega) (by omega)).mono ?_; rintro e w' ⟨rfl, rfl⟩)
        go_round
        case rel => exact ⟨y + 1, by omega, hy4, by rw [H1.out]; omega, by rw [H1.out]; go_num, rfl⟩
        case measure => simp [intOf]; omega
      · have hc' := hc
        rw [hl1] at hc
        have h12 := cumR_12 y hy1 hy2
        have H12 := hid h12
        clear h12 hl1 hc'
        first
          | (have hdec : decide (t / 86400 - ysI y < 365) = true := decide_eq_true (by omega))
          | (have hdec : decide (t / 86400 - ysI y < 366) = true := decide_eq_true (by omega))
        go_wp2_with (go_at_call 74; refine (refLeap_any _ _ (by omega) (by omega)).mono ?_; rintro e w' ⟨rfl, rfl⟩)
        clear hb
        go_loopw [6, 9] (fun d' m' wr => ∃ k : Nat, k < 12 ∧ m' = .int .i64 ((k : Int) + 1) ∧ 0 ≤ t / 86400 - ysI y - cumR y k ∧ d' = .int .i64 (t / 86400 - ysI y - cumR y k) ∧ Below w.heap.size w wr) (fun _ m' _ => (12 - intOf m').toNat)
        case atStart => exact ⟨0, by omega, rfl, by simp [cumR]; omega, by simp [cumR], Below.refl _ _⟩
        case round =>
          obtain ⟨k, hk, rfl, hr, rfl, hbl⟩ := hrel
          have cb := cumR_bd y k
          have db := daysI_bd y ((k : Int) + 1)
          have HC : Hid (cumR y (k + 1) = cumR y k + daysI y ((k : Int) + 1)) := rfl
          by_cases hd : daysI y ((k : Int) + 1) ≤ t / 86400 - ysI y - cumR y k
          · have hk2 : k + 1 < 12 := by
              by_cases e : k = 11
              · exfalso
                subst e
                have a := HC.out
                have b : cumR y (11 + 1) = 365 + leapI y := H12.out
                have c := HS.out
                have d := H1.out
                omega
              · omega
            go_wp2_with (go_at_call 75; refine (refDays_any _ _ _).mono ?_; rintro e w' ⟨rfl, hb⟩; replace hbl := chainB hbl hbl.size hb; clear hb)
            go_roundw
            case rel => exact ⟨k + 1, hk2, by go_num, by rw [HC.out]; omega, by rw [HC.out]; go_num, hbl⟩
            case measure => simp [intOf]; omega
          · have hv : IsDate (t / 86400) y ((k : Int) + 1) (t / 86400 - ysI y - cumR y k + 1) :=
              ⟨hy1, hy2, by omega, by omega, by omega, by omega, by simp; omega⟩
            have HV := hid (dateI_of hv)
            clear hv
            go_wp2_with (go_at_call 75; refine (refDays_any _ _ _).mono ?_; rintro e w' ⟨rfl, hb⟩; replace hbl := chainB hbl hbl.size hb; clear hb)
            refine bodyPost_ret (v := .tuple #[.int .i64 y, .int .i64 ((k : Int) + 1), .int .i64 (t / 86400 - ysI y - cumR y k + 1), .int .i64 (t % 86400)]) (by simp [results, Tryd.results95, go_sem]) rfl ⟨?_, hbl⟩
            rw [HV.out]
end Go.Proofs.YtoolboafbkikjaaDoor
