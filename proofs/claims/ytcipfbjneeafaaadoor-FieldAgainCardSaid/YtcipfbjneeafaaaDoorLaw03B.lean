/-
  The walk of the statement FieldCases.
-/
import Derived.Test.YtcipfbjneeafaaaDoorLaw03A
import Derived.Test.YtcipfbjneeafaaaDoorRefFieldH
namespace Go.Proofs.YtcipfbjneeafaaaDoor
open Go.RowKit Go.Pantry

set_option maxHeartbeats 4000000 in
theorem fieldCases_walk (v : Value) (L : List Fld) (n x : ByteArray) (w : World) (hl : Reads2 w v L ∧ (∀ f ∈ L, f.1.length ≤ maxLen ∧ f.2.length ≤ maxLen) ∧ L.length ≤ maxLen) (hn : n.size ≤ maxLen) (hx : x.size ≤ maxLen) :
    Calls Tryd.prog 7 #[v, .string n, .string x] w fun e w' => e = .returned (.bool true) ∧ Below w.heap.size w w' := by
  obtain ⟨hr, -, hLl⟩ := hl
  obtain ⟨ao0, cap0, rfl⟩ := hr.form
  unfold maxLen at hn hx hLl
  have cs := fun W h => small_any (.slice ao0 L.length cap0) L W h (by omega)
  obtain ⟨q, hq⟩ : ∃ q, smallF L = q := ⟨_, rfl⟩
  rw [hq] at cs
  have CS := hid cs
  have HR := hid hr
  clear cs hr
  cases q
  · clear hq
    go_enter Tryd.func7, Tryd.ntmps7
    go_wp2_with fail
    refine (anchor_any _).mono ?_
    rintro e w1 ⟨rfl, hb⟩
    go_wp2_with fail
    refine (CS.out _ (HR.out.below hb)).mono ?_
    rintro e w2 ⟨rfl, hb2⟩
    go_wp2_with fail
    go_ret
    exact ⟨rfl, chain2 hb hb.size hb2⟩
  · obtain ⟨hk, hl70, -⟩ := small_ok hq
    clear hq
    by_cases h1 : (100 : Int) < (n.size : Int) ∨ (100 : Int) < (x.size : Int)
    · have hcase : (100 : Int) < (n.size : Int) ∨ ((n.size : Int) ≤ 100 ∧ (100 : Int) < (x.size : Int)) := by omega
      clear h1 hk
      rcases hcase with p | ⟨p, p2⟩
      all_goals
        go_enter Tryd.func7, Tryd.ntmps7
        go_wp2_with fail
        refine (anchor_any _).mono ?_
        rintro e w1 ⟨rfl, hb⟩
        go_wp2_with fail
        refine (CS.out _ (HR.out.below hb)).mono ?_
        rintro e w2 ⟨rfl, hb2⟩
        go_wp2_with fail
        go_ret
        exact ⟨rfl, chain2 hb hb.size hb2⟩
    · have p1 : (n.size : Int) ≤ 100 := by omega
      have p2 : (x.size : Int) ≤ 100 := by omega
      clear h1 hn hx
      obtain ⟨N, rfl⟩ := as_list n
      obtain ⟨X, rfl⟩ := as_list x
      have hNz : N.length ≤ 100 := by rw [szL] at p1; omega
      have hXz : X.length ≤ 100 := by rw [szL] at p2; omega
      have cL := fun W => refLower_any ⟨N.toArray⟩ W (by rw [szL]; omega)
      have cX := fun W => refLower_any ⟨X.toArray⟩ W (by rw [szL]; omega)
      rw [dtL] at cL cX
      have e3 := getF_low L N
      have hlN : (lowerL N).length ≤ 100 := by simp [lowerL]; omega
      have hlX : (lowerL X).length ≤ 100 := by simp [lowerL]; omega
      have g1 := fun W h => lGet_any (.slice ao0 L.length cap0) L ⟨N.toArray⟩ W h hk (by rw [szL]; omega)
      have g2 := fun W h => lGet_any (.slice ao0 L.length cap0) L ⟨(lowerL N).toArray⟩ W h hk (by rw [szL]; omega)
      have b1 := fun W h => lHas_any (.slice ao0 L.length cap0) L ⟨N.toArray⟩ ⟨X.toArray⟩ W h hk (by rw [szL]; omega) (by rw [szL]; omega)
      have b2 := fun W h => lHas_any (.slice ao0 L.length cap0) L ⟨(lowerL N).toArray⟩ ⟨(lowerL X).toArray⟩ W h hk (by rw [szL]; omega) (by rw [szL]; omega)
      have o1 := fun W vn h hh => lWithout_any (.slice ao0 L.length cap0) vn L [N] W h hk hh ⟨by simp, by simp; omega⟩
      have o2 := fun W vn h hh => lWithout_any (.slice ao0 L.length cap0) vn L [lowerL N] W h hk hh ⟨by simp, by simp; omega⟩
      have a2 := fun W h => lAll_any (.slice ao0 L.length cap0) L ⟨(lowerL N).toArray⟩ W h hk (by rw [szL]; omega)
      rw [dtL] at g1 g2 b1 b2 a2
      rw [dtL] at b1 b2
      rw [e3.1, e3.2.1] at g2
      rw [e3.2.1] at a2
      rw [hasF_low] at b2
      rw [outsF_one] at o1 o2
      rw [e3.2.2] at o2
      have hsum := outF_len L N
      generalize getF L N = G at g1 g2
      generalize outF L N = O at o1 o2 hsum
      generalize allF L N = T at g1 g2 a2 hsum
      generalize hasF L N X = q at b1 b2
      have hO : O.length ≤ 70 := by omega
      have hTl : T.length ≤ 70 := by omega
      have hsumI : (O.length : Int) + (T.length : Int) = (L.length : Int) := by omega
      obtain ⟨z, hz⟩ : ∃ z, (!T.isEmpty) = z := ⟨_, rfl⟩
      rw [hz] at g1 g2
      obtain ⟨LN, hLN⟩ : ∃ M, lowerL N = M := ⟨_, rfl⟩
      obtain ⟨LX, hLX⟩ : ∃ M, lowerL X = M := ⟨_, rfl⟩
      rw [hLN] at cL g2 b2 o2 a2
      rw [hLX] at cX b2
      have CL := hid cL
      have CX := hid cX
      have G1 := hid g1
      have G2 := hid g2
      have B1 := hid b1
      have B2 := hid b2
      have O1 := hid o1
      have O2 := hid o2
      have A2 := hid a2
      have HSI := hid hsumI
      clear cL cX g1 g2 b1 b2 o1 o2 a2 e3 hLN hLX hz hsum hsumI hk
      go_enter Tryd.func7, Tryd.ntmps7
      go_wp2_with fail
      refine (anchor_any _).mono ?_
      rintro e w1 ⟨rfl, hb⟩
      go_wp2_with fail
      refine (CS.out _ (HR.out.below hb)).mono ?_
      rintro e w2 ⟨rfl, hb2⟩
      replace hb := chain2 hb hb.size hb2
      clear hb2
      go_wp2_with fail
      refine (CL.out _).mono ?_
      rintro e w3 ⟨rfl, hb2⟩
      replace hb := chain2 hb hb.size hb2
      clear hb2
      go_wp2_with fail
      refine (G1.out _ (HR.out.below hb)).mono ?_
      rintro e w4 ⟨rfl, hb2⟩
      replace hb := chain2 hb hb.size hb2
      clear hb2
      go_wp2_with fail
      refine (G2.out _ (HR.out.below hb)).mono ?_
      rintro e w5 ⟨rfl, hb2⟩
      replace hb := chain2 hb hb.size hb2
      clear hb2
      have gg : (G == G) = true := by simp
      go_wp2_with fail
      refine (B1.out _ (HR.out.below hb)).mono ?_
      rintro e w6 ⟨rfl, hb2⟩
      replace hb := chain2 hb hb.size hb2
      clear hb2
      go_wp2_with fail
      refine (CX.out _).mono ?_
      rintro e w7 ⟨rfl, hb2⟩
      replace hb := chain2 hb hb.size hb2
      clear hb2
      go_wp2_with fail
      refine (B2.out _ (HR.out.below hb)).mono ?_
      rintro e w8 ⟨rfl, hb2⟩
      replace hb := chain2 hb hb.size hb2
      clear hb2
      go_wp2_with fail
      have hba1 := hb.trans ((below_alloc w8 (.cells #[strV N] 9)).mono hb.size)
      refine (O1.out _ _ (HR.out.below hba1) (reads_one w8 N 9 1)).mono ?_
      rintro e w9 ⟨⟨v1, k1, rfl, ho1⟩, hb2⟩
      replace hb := chain2 hba1 hba1.size hb2
      obtain ⟨rfl, hro1⟩ := ho1.reads2
      obtain ⟨ao1, cap1, rfl⟩ := hro1.form
      clear hb2 hba1 ho1 hro1
      go_wp2_with fail
      have hba2 := hb.trans ((below_alloc w9 (.cells #[strV LN] 9)).mono hb.size)
      refine (O2.out _ _ (HR.out.below hba2) (reads_one w9 LN 9 1)).mono ?_
      rintro e w10 ⟨⟨v2, k2, rfl, ho2⟩, hb2⟩
      replace hb := chain2 hba2 hba2.size hb2
      obtain ⟨rfl, hro2⟩ := ho2.reads2
      obtain ⟨ao2, cap2, rfl⟩ := hro2.form
      clear hb2 hba2 ho2 hro2
      go_wp2_with fail
      have hba3 := hb.trans ((below_alloc w10 (.cells #[strV N] 9)).mono hb.size)
      refine (O1.out _ _ (HR.out.below hba3) (reads_one w10 N 9 1)).mono ?_
      rintro e w11 ⟨⟨v3, k3, rfl, ho3⟩, hb2⟩
      replace hb := chain2 hba3 hba3.size hb2
      obtain ⟨rfl, hro3⟩ := ho3.reads2
      obtain ⟨ao3, cap3, rfl⟩ := hro3.form
      clear hb2 hba3 ho3 hro3
      go_wp2_with fail
      refine (A2.out _ (HR.out.below hb)).mono ?_
      rintro e w12 ⟨⟨v4, rfl, ho4⟩, hb2⟩
      replace hb := chain2 hb hb.size hb2
      obtain ⟨ao4, cap4, rfl⟩ := Reads.strs ho4.reads
      clear hb2 ho4
      have hs1 := HSI.out
      have hs2 : ((O.length : Int) + (T.length : Int) == (L.length : Int)) = true := by simpa using hs1
      go_wp2_with fail
      go_ret
      exact ⟨rfl, hb⟩
end Go.Proofs.YtcipfbjneeafaaaDoor
