/-
  The walk of the statement HeadKinds.
-/
import Derived.Test.YtjfkehdlamnigaaDoorLaw05A
import Derived.Test.YtjfkehdlamnigaaDoorHeadX
namespace Go.Proofs.YtjfkehdlamnigaaDoor
open Go.RowKit Go.Pantry

set_option maxRecDepth 100000 in
set_option maxHeartbeats 4000000 in
theorem headKinds_walk (v : Value) (l : List UInt8) (w : World) (hm : MaxOk w) (hl : Reads w v (l.map byteV) ∧ (∀ ao n cap, v = .slice ao n cap → n ≤ cap) ∧ l.length ≤ maxLen) :
    Calls Tryd.prog 6 #[v] w fun e w' => e = .returned (.bool true) ∧ Below w.heap.size w w' := by
  obtain ⟨hr, hroom, hll⟩ := hl
  obtain ⟨ao, cap, rfl⟩ := hr.form
  rw [List.length_map] at *
  have hc := hroom ao l.length cap rfl
  unfold maxLen at hll
  have HR := hid hr
  have ca := fun W h => anchor_any W h
  have CA := hid ca
  clear hr hroom ca
  by_cases h5 : (5000 : Int) < (l.length : Int)
  · go_enter Tryd.func6, Tryd.ntmps6
    go_wp2_with fail
    refine (CA.out _ hm).mono ?_
    rintro e w1 ⟨rfl, hb1⟩
    go_wp2_with fail
    go_ret
    exact ⟨rfl, hb1⟩
  · have d5 : decide ((5000 : Int) < (l.length : Int)) = false := decide_eq_false h5
    have c1 := fun W h1 h2 => ReadRequest_any ao cap l W h1 hc h2
    have c2 := fun W h1 h2 => ReadResponse_any ao cap l W h1 hc h2
    have hk := kinds_cases l
    generalize readL reqL l = x at c1 hk
    generalize readL resL l = y at c2 hk
    obtain ⟨ke, hke⟩ : ∃ k, codeX x = k := ⟨_, rfl⟩
    obtain ⟨kf, hkf⟩ : ∃ k, codeX y = k := ⟨_, rfl⟩
    obtain ⟨n, hn⟩ : ∃ k, nX x = k := ⟨_, rfl⟩
    obtain ⟨m, hm'⟩ : ∃ k, nX y = k := ⟨_, rfl⟩
    rw [hke, hkf, hn, hm'] at hk
    have C1 := hid c1
    have C2 := hid c2
    have KE := hid hke
    have KF := hid hkf
    have NN := hid hn
    have MM := hid hm'
    clear c1 c2 hke hkf hn hm' h5
    go_enter Tryd.func6, Tryd.ntmps6
    go_wp2_with fail
    refine (CA.out _ hm).mono ?_
    rintro e w1 ⟨rfl, hb1⟩
    go_wp2_with fail
    refine (C1.out _ (HR.out.below hb1) (hm.below hb1)).mono ?_
    rintro e w2 ⟨hq, hb2⟩
    obtain ⟨ao1, cp1, rfl, -⟩ := reqRead_form hq
    rw [KE.out, NN.out]
    have hb3 := chain2 hb1 hb1.size hb2
    clear hb1 hb2 hq C1 CA
    generalize (hX x).first = f1
    generalize (hX x).second = f2
    generalize (hX x).minor = f3
    generalize (hX x).flds.length = f4
    obtain ⟨W, hW⟩ : ∃ W, W = w2.alloc (.cells #[strV f1, strV f2, .int .i64 (f3 : Int), .slice ao1 f4 cp1] 30) := ⟨_, rfl⟩
    have hbW : Below w2.heap.size w2 W := by rw [hW]; exact below_alloc _ _
    have hb4 := chain2 hb3 hb3.size hbW
    clear hb3 hbW
    go_wp2_with fail
    rw [← hW]
    clear hW
    refine (C2.out _ (HR.out.below hb4) (hm.below hb4)).mono ?_
    rintro e w3 ⟨hq, hb5⟩
    obtain ⟨ao2, cp2, rfl, -⟩ := resRead_form hq
    rw [KF.out, MM.out]
    have hb6 := chain2 hb4 hb4.size hb5
    clear hb4 hb5 hq C2 KE KF NN MM hm
    generalize (hX y).first = g1
    generalize (hX y).status = g2
    generalize (hX y).minor = g3
    generalize (hX y).flds.length = g4
    have hb7 := chain2 hb6 hb6.size (below_alloc w3 (.cells #[.int .i64 (g2 : Int), strV g1, .int .i64 (g3 : Int), .slice ao2 g4 cp2] 52))
    clear hb6
    rcases hk with ⟨rfl, rfl, rfl, rfl⟩ | ⟨h1, rfl, h2, rfl⟩ | ⟨rfl, h2, rfl⟩ | ⟨h1, rfl, rfl⟩
    · go_wp2_with fail
      go_ret
      exact ⟨rfl, hb7⟩
    · rcases h1 with rfl | rfl <;> rcases h2 with rfl | rfl
      all_goals
        go_wp2_with fail
        go_ret
        exact ⟨rfl, hb7⟩
    · rcases h2 with rfl | rfl
      all_goals
        go_wp2_with fail
        go_ret
        exact ⟨rfl, hb7⟩
    · rcases h1 with rfl | rfl
      all_goals
        go_wp2_with fail
        go_ret
        exact ⟨rfl, hb7⟩
end Go.Proofs.YtjfkehdlamnigaaDoor
