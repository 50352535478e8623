/-
  The walk of the statement DateOrder.
-/
import Derived.Test.YtjggelnpfeeabaaDoorLaw02A
namespace Go.Proofs.YtjggelnpfeeabaaDoor
open Go.RowKit Go.Pantry

/-- the next day's date -/
theorem next_day {D y m d : Int} (h : IsDate D y m d) (hD : D + 1 ≤ 2932896) :
    (d < daysI y m → IsDate (D + 1) y m (d + 1)) ∧ (¬ d < daysI y m → m < 12 → IsDate (D + 1) y (m + 1) 1) ∧ (¬ d < daysI y m → ¬ m < 12 → IsDate (D + 1) (y + 1) 1 1) := by
  have hn := cumR_next y m h.m1
  obtain ⟨y1, y2, m1, m2, d1, d2, e⟩ := h
  refine ⟨fun h => ⟨y1, y2, m1, m2, by omega, by omega, by omega⟩, fun h1 h2 => ⟨y1, y2, by omega, by omega, by omega, ?_, ?_⟩, fun h1 h2 => ?_⟩
  · have := daysI_lo y (m + 1) y1 y2 (by omega) (by omega); omega
  · rw [show m + 1 - 1 = m by omega, hn]; omega
  · have hm : m = 12 := by omega
    subst hm
    have h12 := cumR_12 y y1 y2
    have hs := ysI_succ y (by omega)
    have hn' : cumR y 12 = cumR y (12 - 1 : Int).toNat + daysI y 12 := hn
    have hy : y + 1 ≤ 9999 := by
      by_cases e9 : y = 9999
      · subst e9; have : ysI (9999 + 1) = 2932897 := ysI_end; omega
      · omega
    refine ⟨by omega, hy, by omega, by omega, by omega, ?_, ?_⟩
    · have := daysI_lo (y + 1) 1 (by omega) hy (by omega) (by omega); omega
    · have : cumR (y + 1) (1 - 1 : Int).toNat = 0 := rfl
      omega

theorem dateOrder_walk (t : Int) (w : World) (hT : Tables w) :
    Calls Tryd.prog 7 #[.int .i64 t] w fun e w' => e = .returned (.bool true) ∧ Below w.heap.size w w' := by
  by_cases hv : t < 0 ∨ 253402300799 - 86400 < t
  · have h1 : t < 0 ∨ (0 ≤ t ∧ 253402214399 < t) := by omega
    clear hv
    rcases h1 with a | ⟨a, b⟩
    all_goals
      go_enter Tryd.func7, Tryd.ntmps7
      go_wp2_with fail
      refine (anchor_any _ hT).mono ?_
      rintro e w1 ⟨rfl, hb⟩
      go_wp2_with fail
      go_ret
      exact ⟨rfl, hb⟩
  · have h0 : 0 ≤ t := by omega
    have h1 : t ≤ 253402214399 := by omega
    have c1 := fun W => Split_yes t W h0 (by omega)
    have c2 := fun W => Split_yes (t + 86400) W (by omega) (by omega)
    have hd := dateI_is (t / 86400) (by omega) (by omega)
    have hnx := next_day hd (by omega)
    rw [show (t + 86400) / 86400 = t / 86400 + 1 by omega, show (t + 86400) % 86400 = t % 86400 by omega] at c2
    generalize t / 86400 = D at c1 c2 hd hnx
    generalize dateI D = p at c1 hd hnx
    obtain ⟨y, m, d⟩ := p
    generalize t % 86400 = r at c1 c2
    simp only at c1 hd hnx
    obtain ⟨y1, y2, m1, m2, d1, d2, -⟩ := hd
    obtain ⟨n1, n2, n3⟩ := hnx
    have hdb := daysI_bd y m
    have C1 := hid c1
    clear c1 hv
    by_cases q1 : d < daysI y m
    · have hdt := dateI_of (n1 q1)
      rw [hdt] at c2
      have C2 := hid c2
      clear c2 hdt n1 n2 n3
      go_enter Tryd.func7, Tryd.ntmps7
      go_wp2_with fail
      refine (anchor_any _ hT).mono ?_
      rintro e w1 ⟨rfl, hb⟩
      go_wp2_with fail
      refine (C1.out _).mono ?_
      rintro e w2 ⟨rfl, rfl⟩
      go_wp2_with fail
      refine (C2.out _).mono ?_
      rintro e w2 ⟨rfl, rfl⟩
      go_wp2_with fail
      refine (Days_any y m _).mono ?_
      rintro e w2 ⟨rfl, rfl⟩
      go_wp2_with fail
      go_ret
      exact ⟨rfl, hb⟩
    · by_cases q2 : m < 12
      · have hdt := dateI_of (n2 q1 q2)
        rw [hdt] at c2
        have C2 := hid c2
        clear c2 hdt n1 n2 n3
        go_enter Tryd.func7, Tryd.ntmps7
        go_wp2_with fail
        refine (anchor_any _ hT).mono ?_
        rintro e w1 ⟨rfl, hb⟩
        go_wp2_with fail
        refine (C1.out _).mono ?_
        rintro e w2 ⟨rfl, rfl⟩
        go_wp2_with fail
        refine (C2.out _).mono ?_
        rintro e w2 ⟨rfl, rfl⟩
        go_wp2_with fail
        refine (Days_any y m _).mono ?_
        rintro e w2 ⟨rfl, rfl⟩
        go_wp2_with fail
        go_ret
        exact ⟨rfl, hb⟩
      · have hdt := dateI_of (n3 q1 q2)
        rw [hdt] at c2
        have C2 := hid c2
        clear c2 hdt n1 n2 n3
        go_enter Tryd.func7, Tryd.ntmps7
        go_wp2_with fail
        refine (anchor_any _ hT).mono ?_
        rintro e w1 ⟨rfl, hb⟩
        go_wp2_with fail
        refine (C1.out _).mono ?_
        rintro e w2 ⟨rfl, rfl⟩
        go_wp2_with fail
        refine (C2.out _).mono ?_
        rintro e w2 ⟨rfl, rfl⟩
        go_wp2_with fail
        refine (Days_any y m _).mono ?_
        rintro e w2 ⟨rfl, rfl⟩
        go_wp2_with fail
        go_ret
        exact ⟨rfl, hb⟩
end Go.Proofs.YtjggelnpfeeabaaDoor
