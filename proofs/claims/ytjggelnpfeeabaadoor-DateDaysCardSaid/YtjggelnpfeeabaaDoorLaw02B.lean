/-
  The walks of the statements of layer 2: DateShows, DateBack, DateDays.
-/
import Derived.Test.YtjggelnpfeeabaaDoorLaw02A
namespace Go.Proofs.YtjggelnpfeeabaaDoor
open Go.RowKit Go.Pantry

theorem dateShows_walk (t : Int) (w : World) (hT : Tables w) :
    Calls Tryd.prog 3 #[.int .i64 t] w fun e w' => e = .returned (.bool true) ∧ Below w.heap.size w w' := by
  by_cases hv : t < 0 ∨ 253402300799 < t
  · have h1 : t < 0 ∨ (0 ≤ t ∧ 253402300799 < t) := by omega
    have HV := hid hv
    clear hv
    rcases h1 with a | ⟨a, b⟩
    all_goals
      go_enter Tryd.func3, Tryd.ntmps3
      go_wp2_with fail
      refine (anchor_any _ hT).mono ?_
      rintro e w1 ⟨rfl, hb⟩
      go_wp2_with fail
      refine (Show_no t _ HV.out).mono ?_
      rintro e w2 ⟨rfl, rfl⟩
      go_wp2_with fail
      refine (Split_no t _ HV.out).mono ?_
      rintro e w2 ⟨rfl, rfl⟩
      go_wp2_with fail
      go_ret
      exact ⟨rfl, hb⟩
  · have h0 : 0 ≤ t := by omega
    have h1 : t ≤ 253402300799 := by omega
    have c1 := fun W => Split_yes t W h0 h1
    have c2 := fun W => refSplit_any t W h0 h1
    generalize dateI (t / 86400) = p at c1 c2
    obtain ⟨y, m, d⟩ := p
    generalize t % 86400 = r at c1 c2
    have C1 := hid c1
    have C2 := hid c2
    clear c1 c2 hv
    have hr : (showL t == showL t) = true := by simp
    go_enter Tryd.func3, Tryd.ntmps3
    go_wp2_with fail
    refine (anchor_any _ hT).mono ?_
    rintro e w1 ⟨rfl, hb⟩
    have hT1 := hT.below hb hT.lt
    go_wp2_with fail
    refine (Show_yes t _ h0 h1 hT1).mono ?_
    rintro e w2 ⟨rfl, hb2⟩
    replace hb := chainB hb hb.size hb2
    clear hb2
    go_wp2_with fail
    refine (C1.out _).mono ?_
    rintro e w3 ⟨rfl, rfl⟩
    go_wp2_with fail
    refine (C2.out _).mono ?_
    rintro e w3 ⟨rfl, hb3⟩
    replace hb := chainB hb hb.size hb3
    clear hb3
    go_wp2_with fail
    refine (refShow_any t _ h0 h1).mono ?_
    rintro e w4 ⟨rfl, hb4⟩
    replace hb := chainB hb hb.size hb4
    clear hb4
    go_wp2_with fail
    go_ret
    exact ⟨rfl, hb⟩

theorem dateBack_walk (t : Int) (w : World) (hT : Tables w) :
    Calls Tryd.prog 4 #[.int .i64 t] w fun e w' => e = .returned (.bool true) ∧ Below w.heap.size w w' := by
  by_cases hv : t < 0 ∨ 253402300799 < t
  · have h1 : t < 0 ∨ (0 ≤ t ∧ 253402300799 < t) := by omega
    have HV := hid hv
    clear hv
    rcases h1 with a | ⟨a, b⟩
    all_goals
      go_enter Tryd.func4, Tryd.ntmps4
      go_wp2_with fail
      refine (anchor_any _ hT).mono ?_
      rintro e w1 ⟨rfl, hb⟩
      go_wp2_with fail
      refine (Show_no t _ HV.out).mono ?_
      rintro e w2 ⟨rfl, rfl⟩
      go_wp2_with fail
      go_ret
      exact ⟨rfl, hb⟩
  · have h0 : 0 ≤ t := by omega
    have h1 : t ≤ 253402300799 := by omega
    have hl := showL_len t h0 h1
    have HR := hid (readL_show t h0 h1)
    obtain ⟨l, hle⟩ : ∃ l, showL t = l := ⟨_, rfl⟩
    have c1 := fun W h => Show_yes t W h0 h1 h
    rw [hle] at hl HR c1
    have C1 := hid c1
    clear hle hv c1
    have HL := hid hl
    go_enter Tryd.func4, Tryd.ntmps4
    go_wp2_with fail
    refine (anchor_any _ hT).mono ?_
    rintro e w1 ⟨rfl, hb⟩
    have hT1 := hT.below hb hT.lt
    go_wp2_with fail
    refine (C1.out _ hT1).mono ?_
    rintro e w2 ⟨rfl, hb2⟩
    have hT2 := hT1.below hb2 hT1.lt
    replace hb := chainB hb hb.size hb2
    clear hb2 hT1
    go_wp2_with fail
    refine (Read_some ⟨l.toArray⟩ t _ hT2 HR.out).mono ?_
    rintro e w3 ⟨rfl, hb3⟩
    replace hb := chainB hb hb.size hb3
    clear hb3 hT2
    go_wp2_with fail
    go_ret
    exact ⟨rfl, hb⟩

theorem dateDays_walk (y m t : Int) (w : World) (hT : Tables w) :
    Calls Tryd.prog 6 #[.int .i64 y, .int .i64 m, .int .i64 t] w fun e w' => e = .returned (.bool true) ∧ Below w.heap.size w w' := by
  by_cases hv : t < 0 ∨ 253402300799 < t
  · have HV := hid hv
    clear hv
    go_enter Tryd.func6, Tryd.ntmps6
    go_wp2_with fail
    refine (anchor_any _ hT).mono ?_
    rintro e w1 ⟨rfl, hb⟩
    go_wp2_with fail
    refine (Days_any y m _).mono ?_
    rintro e w2 ⟨rfl, rfl⟩
    go_wp2_with fail
    refine (refDays_any y m _).mono ?_
    rintro e w3 ⟨rfl, hb3⟩
    replace hb := chainB hb hb.size hb3
    clear hb3
    go_wp2_with fail
    refine (Split_no t _ HV.out).mono ?_
    rintro e w2 ⟨rfl, rfl⟩
    go_wp2_with fail
    go_ret
    exact ⟨rfl, hb⟩
  · have h0 : 0 ≤ t := by omega
    have h1 : t ≤ 253402300799 := by omega
    have c1 := fun W => Split_yes t W h0 h1
    have hd := dateI_is (t / 86400) (by omega) (by omega)
    have hr : 0 ≤ t % 86400 ∧ t % 86400 < 86400 := by omega
    generalize dateI (t / 86400) = p at c1 hd
    obtain ⟨a, b, d⟩ := p
    generalize t % 86400 = r at c1 hr
    obtain ⟨-, -, -, -, d1, d2, -⟩ := hd
    simp only at d1 d2 c1
    have C1 := hid c1
    clear c1 hv
    go_enter Tryd.func6, Tryd.ntmps6
    go_wp2_with fail
    refine (anchor_any _ hT).mono ?_
    rintro e w1 ⟨rfl, hb⟩
    go_wp2_with fail
    refine (Days_any y m _).mono ?_
    rintro e w2 ⟨rfl, rfl⟩
    go_wp2_with fail
    refine (refDays_any y m _).mono ?_
    rintro e w3 ⟨rfl, hb3⟩
    replace hb := chainB hb hb.size hb3
    clear hb3
    go_wp2_with fail
    refine (C1.out _).mono ?_
    rintro e w2 ⟨rfl, rfl⟩
    go_wp2_with fail
    refine (Days_any a b _).mono ?_
    rintro e w2 ⟨rfl, rfl⟩
    go_wp2_with fail
    go_ret
    exact ⟨rfl, hb⟩
end Go.Proofs.YtjggelnpfeeabaaDoor
