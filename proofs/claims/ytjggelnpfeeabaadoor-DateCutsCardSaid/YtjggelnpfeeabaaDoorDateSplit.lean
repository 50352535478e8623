/-
  Contracts: Split of package date, and the document's.
-/
import Derived.Test.YtjggelnpfeeabaaDoorDateRefDays
namespace Go.Proofs.YtjggelnpfeeabaaDoor
open Go.RowKit Go.Pantry

theorem Split_no (t : Int) (w : World) (h : t < 0 ∨ 253402300799 < t) :
    Calls Tryd.prog 12 #[.int .i64 t] w fun e w' => e = .returned (.tuple #[.int .i64 0, .int .i64 0, .int .i64 0, .int .i64 0, .int .i64 11]) ∧ w = w' := by
  have h1 : t < 0 ∨ (0 ≤ t ∧ 253402300799 < t) := by omega
  clear h
  rcases h1 with a | ⟨a, b⟩
  all_goals
    go_enter Tryd.func12, Tryd.ntmps12
    go_wp2
    exact bodyPost_ret (v := .tuple #[.int .i64 0, .int .i64 0, .int .i64 0, .int .i64 0, .int .i64 11]) (by simp [results, Tryd.results12, go_sem]) rfl ⟨rfl, rfl⟩

theorem guess (D : Int) (h0 : 0 ≤ D) (h1 : D ≤ 2932896) : 1970 ≤ 1970 + D / 366 ∧ 1970 + D / 366 ≤ 9999 ∧ ysI (1970 + D / 366) ≤ D := by
  have := ysI_guess (D / 366) (by omega)
  have h2 : 1970 + D / 366 ≤ 9999 := by omega
  exact ⟨by omega, h2, by omega⟩
set_option maxHeartbeats 4000000 in
theorem Split_yes (t : Int) (w : World) (h0 : 0 ≤ t) (h1 : t ≤ 253402300799) :
    Calls Tryd.prog 12 #[.int .i64 t] w fun e w' => e = .returned (.tuple #[.int .i64 (dateI (t / 86400)).1, .int .i64 (dateI (t / 86400)).2.1, .int .i64 (dateI (t / 86400)).2.2, .int .i64 (t % 86400), .int .i64 0]) ∧ w = w' := by
  have hD0 : 0 ≤ t / 86400 := by omega
  have hD1 : t / 86400 ≤ 2932896 := by omega
  have hg := guess (t / 86400) hD0 hD1
  go_enter Tryd.func12, Tryd.ntmps12
  go_wp2
  go_loop [8] (fun y' => ∃ y : Int, 1970 ≤ y ∧ y ≤ 9999 ∧ ysI y ≤ t / 86400 ∧ y' = .int .i64 y) (fun y' => (9999 - intOf y').toNat)
  case atStart => exact ⟨_, hg.1, hg.2.1, hg.2.2, rfl⟩
  case round =>
    obtain ⟨y, hy1, hy2, hy3, rfl⟩ := hrel
    clear hg
    have hbd := ysI_bd y (by omega) (by omega)
    by_cases hc : ysI (y + 1) ≤ t / 86400
    · have hle : y + 1 ≤ 9999 := by
        have := ysI_end
        by_cases e : y = 9999
        · subst e; have : ysI (9999 + 1) = 2932897 := ysI_end; omega
        · omega
      go_wp2_with (go_at_call 19; refine (yearStart_any _ _ (by omega) (by omega)).mono ?_; rintro e w' ⟨rfl, rfl⟩)
      go_round
      case rel => exact ⟨y + 1, by omega, hle, hc, rfl⟩
      case measure => simp [intOf]; omega
    · have hs := ysI_succ y (by omega)
      have h12 := cumR_12 y hy1 hy2
      have HS := hid hs
      have H12 := hid h12
      clear hs h12
      go_wp2_with (go_at_call 19; refine (yearStart_any _ _ (by omega) (by omega)).mono ?_; rintro e w' ⟨rfl, rfl⟩)
      go_loop [7, 9] (fun d' m' => ∃ k : Nat, k < 12 ∧ m' = .int .i64 ((k : Int) + 1) ∧ 0 ≤ t / 86400 - ysI y - cumR y k ∧ d' = .int .i64 (t / 86400 - ysI y - cumR y k)) (fun _ m' => (12 - intOf m').toNat)
      case atStart => exact ⟨0, by omega, rfl, by simp [cumR]; omega, by simp [cumR]⟩
      case round =>
        obtain ⟨k, hk, rfl, hr, rfl⟩ := hrel
        have cb := cumR_bd y k
        have db := daysI_bd y ((k : Int) + 1)
        have HC : Hid (cumR y (k + 1) = cumR y k + daysI y ((k : Int) + 1)) := rfl
        by_cases hd : daysI y ((k : Int) + 1) ≤ t / 86400 - ysI y - cumR y k
        · have hk2 : k + 1 < 12 := by
            by_cases e : k = 11
            · exfalso
              subst e
              have a := HC.out
              have b : cumR y (11 + 1) = 365 + leapI y := H12.out
              have c := HS.out
              omega
            · omega
          go_wp2_with (go_at_call 16; refine (Days_any _ _ _).mono ?_; rintro e w' ⟨rfl, rfl⟩)
          go_round
          case rel => exact ⟨k + 1, hk2, by go_num, by rw [HC.out]; omega, by rw [HC.out]; go_num⟩
          case measure => simp [intOf]; omega
        · have hv : IsDate (t / 86400) y ((k : Int) + 1) (t / 86400 - ysI y - cumR y k + 1) :=
            ⟨hy1, hy2, by omega, by omega, by omega, by omega, by simp; omega⟩
          have HV := hid (dateI_of hv)
          clear hv
          go_wp2_with (go_at_call 16; refine (Days_any _ _ _).mono ?_; rintro e w' ⟨rfl, rfl⟩)
          refine bodyPost_ret (v := .tuple #[.int .i64 y, .int .i64 ((k : Int) + 1), .int .i64 (t / 86400 - ysI y - cumR y k + 1), .int .i64 (t % 86400), .int .i64 0]) (by simp [results, Tryd.results12, go_sem]) rfl ⟨?_, rfl⟩
          rw [HV.out]

theorem chainB {b : Nat} {w w1 w2 : World} (h : Below b w w1) (hs : b ≤ w1.heap.size) (h2 : Below w1.heap.size w1 w2) : Below b w w2 := h.trans (h2.mono hs)
set_option maxHeartbeats 4000000 in
theorem refSplit_any (t : Int) (w : World) (h0 : 0 ≤ t) (h1 : t ≤ 253402300799) :
    Calls Tryd.prog 13 #[.int .i64 t] w fun e w' => e = .returned (.tuple #[.int .i64 (dateI (t / 86400)).1, .int .i64 (dateI (t / 86400)).2.1, .int .i64 (dateI (t / 86400)).2.2, .int .i64 (t % 86400)]) ∧ Below w.heap.size w w' := by
  have hD0 : 0 ≤ t / 86400 := by omega
  have hD1 : t / 86400 ≤ 2932896 := by omega
  go_enter Tryd.func13, Tryd.ntmps13
  go_wp2
  go_loop [6, 7] (fun d' y' => ∃ y : Int, 1970 ≤ y ∧ y ≤ 9999 ∧ ysI y ≤ t / 86400 ∧ d' = .int .i64 (t / 86400 - ysI y) ∧ y' = .int .i64 y) (fun _ y' => (9999 - intOf y').toNat)
  case atStart => exact ⟨1970, by omega, by omega, by rw [ysI_first]; exact hD0, by rw [ysI_first]; simp, rfl⟩
  case round =>
    obtain ⟨y, hy1, hy2, hy3, rfl, rfl⟩ := hrel
    have hbd := ysI_bd y (by omega) (by omega)
    have hle : ysI (y + 1) ≤ t / 86400 → y + 1 ≤ 9999 := by
      intro hc
      by_cases e : y = 9999
      · subst e; have : ysI (9999 + 1) = 2932897 := ysI_end; omega
      · omega
    have hs := ysI_succ y (by omega)
    have HS := hid hs
    have HL := hid hle
    clear hs hle
    obtain ⟨b, hb⟩ : ∃ b, leapB y = b := ⟨_, rfl⟩
    have HI : Hid (leapI y = if b = true then 1 else 0) := by show leapI y = _; rw [← hb]; rfl
    cases b
    all_goals
      have hli : ∃ l : Int, ysI (y + 1) = ysI y + 365 + l ∧ l = (leapI y) := ⟨_, HS.out, rfl⟩
      rw [HI.out] at hli
      simp only [Bool.false_eq_true, if_false, if_true] at hli
      obtain ⟨l, hl1, hl2⟩ := hli
      subst hl2
      have H1 := hid hl1
      by_cases hc : ysI (y + 1) ≤ t / 86400
      · have hy4 := HL.out hc
        rw [hl1] at hc
        clear hl1
        go_wp2_with (go_at_call 20; refine (refLeap_any _ _ (by omega) (by omega)).mono ?_; rintro e w' ⟨rfl, rfl⟩)
        go_round
        case rel => exact ⟨y + 1, by omega, hy4, by rw [H1.out]; omega, by rw [H1.out]; go_num, rfl⟩
        case measure => simp [intOf]; omega
      · have hc' := hc
        rw [hl1] at hc
        have h12 := cumR_12 y hy1 hy2
        have H12 := hid h12
        clear h12 hl1 hc'
        first
          | (have hdec : decide (t / 86400 - ysI y < 365) = true := decide_eq_true (by omega))
          | (have hdec : decide (t / 86400 - ysI y < 366) = true := decide_eq_true (by omega))
        go_wp2_with (go_at_call 20; refine (refLeap_any _ _ (by omega) (by omega)).mono ?_; rintro e w' ⟨rfl, rfl⟩)
        clear hb
        go_loopw [6, 9] (fun d' m' wr => ∃ k : Nat, k < 12 ∧ m' = .int .i64 ((k : Int) + 1) ∧ 0 ≤ t / 86400 - ysI y - cumR y k ∧ d' = .int .i64 (t / 86400 - ysI y - cumR y k) ∧ Below w.heap.size w wr) (fun _ m' _ => (12 - intOf m').toNat)
        case atStart => exact ⟨0, by omega, rfl, by simp [cumR]; omega, by simp [cumR], Below.refl _ _⟩
        case round =>
          obtain ⟨k, hk, rfl, hr, rfl, hbl⟩ := hrel
          have cb := cumR_bd y k
          have db := daysI_bd y ((k : Int) + 1)
          have HC : Hid (cumR y (k + 1) = cumR y k + daysI y ((k : Int) + 1)) := rfl
          by_cases hd : daysI y ((k : Int) + 1) ≤ t / 86400 - ysI y - cumR y k
          · have hk2 : k + 1 < 12 := by
              by_cases e : k = 11
              · exfalso
                subst e
                have a := HC.out
                have b : cumR y (11 + 1) = 365 + leapI y := H12.out
                have c := HS.out
                have d := H1.out
                omega
              · omega
            go_wp2_with (go_at_call 17; refine (refDays_any _ _ _).mono ?_; rintro e w' ⟨rfl, hb⟩; replace hbl := chainB hbl hbl.size hb; clear hb)
            go_roundw
            case rel => exact ⟨k + 1, hk2, by go_num, by rw [HC.out]; omega, by rw [HC.out]; go_num, hbl⟩
            case measure => simp [intOf]; omega
          · have hv : IsDate (t / 86400) y ((k : Int) + 1) (t / 86400 - ysI y - cumR y k + 1) :=
              ⟨hy1, hy2, by omega, by omega, by omega, by omega, by simp; omega⟩
            have HV := hid (dateI_of hv)
            clear hv
            go_wp2_with (go_at_call 17; refine (refDays_any _ _ _).mono ?_; rintro e w' ⟨rfl, hb⟩; replace hbl := chainB hbl hbl.size hb; clear hb)
            refine bodyPost_ret (v := .tuple #[.int .i64 y, .int .i64 ((k : Int) + 1), .int .i64 (t / 86400 - ysI y - cumR y k + 1), .int .i64 (t % 86400)]) (by simp [results, Tryd.results13, go_sem]) rfl ⟨?_, hbl⟩
            rw [HV.out]
end Go.Proofs.YtjggelnpfeeabaaDoor
