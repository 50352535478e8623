/-
  The walk of the statement DateWeek.
-/
import Derived.Test.YtjggelnpfeeabaaDoorLaw02A
namespace Go.Proofs.YtjggelnpfeeabaaDoor
open Go.RowKit Go.Pantry

theorem week_parts (t : Int) (h0 : 0 ≤ t) (h1 : t ≤ 253402300799) : (showL t).take 3 = wdL (t / 86400 % 7) ∧ (showL t).drop 16 = clockL (t % 86400) := by
  have h := dateI_is (t / 86400) (by omega) (by omega)
  have hp := text_parts (t / 86400 % 7) (dateI (t / 86400)).1 (dateI (t / 86400)).2.1 (dateI (t / 86400)).2.2 (t % 86400) (by omega) (by omega) h.m1 h.m2
  exact ⟨hp.2.2.2.2.2.2.1, hp.2.2.2.2.2.2.2⟩
theorem week_days (t : Int) (k : Int) (h0 : 0 ≤ t) (h1 : t ≤ 253401695999) (k1 : 1 ≤ k) (k7 : k ≤ 7) :
    (showL (t + k * 86400)).drop 16 = (showL t).drop 16 ∧ ((showL (t + k * 86400)).take 3 == (showL t).take 3) = (k == 7) := by
  obtain ⟨a1, a2⟩ := week_parts t h0 (by omega)
  obtain ⟨b1, b2⟩ := week_parts (t + k * 86400) (by omega) (by omega)
  have e1 : (t + k * 86400) / 86400 = t / 86400 + k := by omega
  have e2 : (t + k * 86400) % 86400 = t % 86400 := by omega
  rw [e1] at b1
  rw [e2] at b2
  refine ⟨b2.trans a2.symm, ?_⟩
  rw [a1, b1]
  by_cases hk : k = 7
  · subst hk
    rw [show (t / 86400 + 7) % 7 = t / 86400 % 7 by omega]
    simp
  · have hne : wdL ((t / 86400 + k) % 7) ≠ wdL (t / 86400 % 7) := by
      intro e
      have := wdL_inj _ _ (by omega) (by omega) (by omega) (by omega) e
      omega
    have h1 : (k == 7) = false := by simpa using hk
    rw [h1]
    simpa using hne

theorem dateWeek_walk (t : Int) (w : World) (hT : Tables w) :
    Calls Tryd.prog 8 #[.int .i64 t] w fun e w' => e = .returned (.bool true) ∧ Below w.heap.size w w' := by
  by_cases hv : t < 0 ∨ 253401695999 < t
  · have h1 : t < 0 ∨ (0 ≤ t ∧ 253401695999 < t) := by omega
    clear hv
    rcases h1 with a | ⟨a, b⟩
    all_goals
      go_enter Tryd.func8, Tryd.ntmps8
      go_wp2_with fail
      refine (anchor_any _ hT).mono ?_
      rintro e w1 ⟨rfl, hb⟩
      go_wp2_with fail
      go_ret
      exact ⟨rfl, hb⟩
  · have h0 : 0 ≤ t := by omega
    have h1 : t ≤ 253401695999 := by omega
    have hl := showL_len t h0 (by omega)
    obtain ⟨A, hA⟩ : ∃ A : ByteArray, A = ⟨(showL t).toArray⟩ := ⟨_, rfl⟩
    have c1 := fun W h => Show_yes t W h0 (by omega) h
    rw [show strV (showL t) = .string A by rw [hA]] at c1
    have hAl : A.data.toList = showL t := by rw [hA]
    have hAz : (A.size : Int) = 29 := by
      have : A.size = 29 := by rw [← size_list, hAl, hl]
      omega
    have hz1 : ((A.size : Int) == 29) = true := by simpa using hAz
    have hz5 : ((A.size : Int) != 29) = false := by simpa using hAz
    have C1 := hid c1
    have HA := hid hAl
    have HZ := hid hAz
    clear hv c1 hl hA hAl hAz
    go_enter Tryd.func8, Tryd.ntmps8
    go_wp2_with fail
    refine (anchor_any _ hT).mono ?_
    rintro e w1 ⟨rfl, hb⟩
    have hT1 := hT.below hb hT.lt
    go_wp2_with fail
    refine (C1.out _ hT1).mono ?_
    rintro e w2 ⟨rfl, hb2⟩
    have hT2 := hT1.below hb2 hT1.lt
    replace hb := chainB hb hb.size hb2
    clear hb2 hT1 hT
    go_wp2_with fail
    clear hz1 hz5
    go_loopw [5] (fun k' wr => ∃ k : Int, 1 ≤ k ∧ k ≤ 8 ∧ k' = .int .i64 k ∧ Tables wr ∧ Below w.heap.size w wr) (fun k' _ => (8 - intOf k').toNat)
    case atStart => exact ⟨1, by omega, by omega, rfl, hT2, hb⟩
    case round =>
      obtain ⟨k, k1, k8, rfl, hTr, hbr⟩ := hrel
      by_cases hlt : k ≤ 7
      · obtain ⟨q1, q2⟩ := week_days t k h0 h1 k1 hlt
        have hl := showL_len (t + k * 86400) (by omega) (by omega)
        have c2 := fun W h => Show_yes (t + k * 86400) W (by omega) (by omega) h
        obtain ⟨B, hB⟩ : ∃ B : ByteArray, B = ⟨(showL (t + k * 86400)).toArray⟩ := ⟨_, rfl⟩
        rw [show strV (showL (t + k * 86400)) = .string B by rw [hB]] at c2
        have hBl : B.data.toList = showL (t + k * 86400) := by rw [hB]
        have hBz : (B.size : Int) = 29 := by
          have : B.size = 29 := by rw [← size_list, hBl, hl]
          omega
        have C2 := hid c2
        clear c2 hB
        have z1 : (16 : Int) ≤ (B.size : Int) := by omega
        have z2 : (16 : Int) ≤ (A.size : Int) := by have := HZ.out; omega
        have z3 : (3 : Int) ≤ (B.size : Int) := by omega
        have z4 : (3 : Int) ≤ (A.size : Int) := by have := HZ.out; omega
        have f1 : B.extract 16 B.size = A.extract 16 A.size := by
          apply bytes_ext
          rw [extract_sub, extract_sub, hBl, HA.out]
          have e1 : B.size = 29 := by omega
          have e2 : A.size = 29 := by have := HZ.out; omega
          have l1 := showL_len t h0 (by omega)
          rw [e1, e2]
          simp only [sub]
          rw [List.take_of_length_le (by omega), List.take_of_length_le (by omega)]
          exact q1
        have f2 : ((B.extract 0 3).toList == (A.extract 0 3).toList) = (k == 7) := by
          rw [Lib.toList_data, Lib.toList_data, extract_sub, extract_sub, hBl, HA.out]
          exact q2
        have hz3 : ((B.size : Int) == 29) = true := by simpa using hBz
        have hz4 : ((B.size : Int) != 29) = false := by simpa using hBz
        clear hBz hl q1 q2 hBl
        go_wp2_with fail
        refine (C2.out _ hTr).mono ?_
        rintro e w3 ⟨rfl, hb3⟩
        have hT3 := hTr.below hb3 hTr.lt
        replace hbr := chainB hbr hbr.size hb3
        clear hb3 hTr
        go_wp2_with fail
        go_quiet (fail)
        go_wp2_with fail
        go_roundw
        case rel => exact ⟨k + 1, by omega, by omega, rfl, hT3.drewN _, chainB hbr hbr.size (drewN_below _ _)⟩
        case measure => simp [intOf]; omega
      · go_wp2_with fail
        go_ret
        exact ⟨rfl, hbr⟩
end Go.Proofs.YtjggelnpfeeabaaDoor
