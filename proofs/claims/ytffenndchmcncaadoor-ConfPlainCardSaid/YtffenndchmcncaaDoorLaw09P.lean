/-
  The walk of the statement ConfPlain.
-/
import Derived.Test.YtffenndchmcncaaDoorLaw09F
import Derived.Test.YtffenndchmcncaaDoorConfV
namespace Go.Proofs.YtffenndchmcncaaDoor
open Go.RowKit Go.Pantry

set_option maxRecDepth 100000 in
set_option maxHeartbeats 4000000 in
theorem confPlain_walk (s : ByteArray) (w : World) (hm : MaxOk w) (ht : Tab10 w) (hs : s.size ≤ maxLen) :
    Calls Tryd.prog 3 #[.string s] w fun e w' => e = .returned (.bool true) ∧ Below w.heap.size w w' := by
  have HA := hid (anchor_any w hm ht)
  have HM := hid hm
  have HT := hid ht
  unfold maxLen at hs
  clear hm ht
  by_cases g1 : (5000 : Int) < (s.size : Int)
  · have d1 : decide ((5000 : Int) < (s.size : Int)) = true := decide_eq_true g1
    go_enter Tryd.func3, Tryd.ntmps3
    go_wp2_with (go_at_call 4; refine HA.out.mono ?_; rintro e w1 ⟨rfl, hb1⟩)
    go_ret
    exact ⟨rfl, hb1⟩
  have d1 : decide ((5000 : Int) < (s.size : Int)) = false := decide_eq_false g1
  obtain ⟨T, hT⟩ : ∃ T, s.data.toList = T := ⟨_, rfl⟩
  have hTl : T.length ≤ 5000 := by rw [← hT, size_list]; omega
  have hsT : (.string s : Value) = strV T := by rw [← hT]
  have e1 : ¬ (5000 : Int) < (T.length : Int) := by omega
  have e1' : decide ((5000 : Int) < (T.length : Int)) = false := decide_eq_false e1
  rw [hsT]
  clear g1 d1 hs hT hsT
  go_enter Tryd.func3, Tryd.ntmps3
  go_wp2_with (go_at_call 4; refine HA.out.mono ?_; rintro e w1 ⟨rfl, hb1⟩)
  clear e1 e1' HA
  refine (readQ_any T w1 (HM.out.below hb1) (HT.out.below hb1)).mono ?_
  rintro e w2 ⟨ao1, c1, L1, rfl, hL1, hs1, hb2⟩
  obtain ⟨cd, hcd⟩ : ∃ c, (readM T).2.1 = c := ⟨_, rfl⟩
  obtain ⟨ln, hln⟩ : ∃ l, (readM T).2.2 = l := ⟨_, rfl⟩
  rw [hcd, hln]
  have HCD := hid (And.intro hcd hL1)
  obtain ⟨W1, hW1⟩ : ∃ W, (w2.alloc (.cells #[.slice ao1 L1.length c1] 25)).alloc (.cells #[.int .i64 (cd : Int), .int .i64 (ln : Int)] 28) = W := ⟨_, rfl⟩
  have r6 : rowIs W1 w2.heap.size #[.slice ao1 L1.length c1] 25 := by rw [← hW1]; exact (rowIs_new _ _ _).below (below_alloc _ _)
  have r7 : rowIs W1 (w2.heap.size + 1) #[.int .i64 (cd : Int), .int .i64 (ln : Int)] 28 := by rw [← hW1]; exact rowIs_new_at _ _ _ _ (by simp)
  have b0 : Below w2.heap.size w2 W1 := by rw [← hW1]; exact chainP (below_alloc _ _) (below_alloc _ _)
  have HB1 := hid (chainP (chainP hb1 hb2) b0)
  have k0 := r7.cell 0
  have k1 := r6.cell 0
  by_cases h0 : cd = 0
  rotate_left
  · have hne : L1 = [] := by
      have h1 := hL1
      rw [read_nil (by rw [hcd]; exact h0)] at h1
      exact List.map_eq_nil_iff.1 h1
    subst hne
    have hz : ((cd : Int) != 0) = true := by simpa using h0
    have hz' : ((cd : Int) == 0) = false := by simpa using h0
    have hzz : ¬ (cd : Int) = 0 := by omega
    simp only [List.length_nil] at *
    clear hcd hln hL1 hs1 hb1 hb2 b0 h0 r6 r7
    go_wp2_with fail
    go_ret
    exact ⟨rfl, HB1.out⟩
  subst h0
  have hRC := zs_right hL1 hcd
  have hfew := few_of hRC (zs_rooms hs1)
  have HP1 := hid (And.intro (hs1.readsP.below b0) (And.intro hfew hRC))
  replace hW1 : (w2.alloc (.cells #[.slice ao1 L1.length c1] 25)).alloc (.cells #[.int .i64 0, .int .i64 (ln : Int)] 28) = W1 := hW1
  have hU := read_again hcd
  rw [← hL1, List.map_map] at hU
  rw [show List.map (SiteM.z ∘ fun x => x.1) L1 = (zs L1).map (·.1) from (zs_map L1).symm] at hU
  have HRG := hid hU
  have cs := fun W (hb : Below W1.heap.size W1 W) => show_any (.slice ao1 L1.length c1) (zs L1) W (HP1.out.1.below hb) HP1.out.2.1 (HM.out.below (chainP HB1.out hb)) (HT.out.below (chainP HB1.out hb))
  rw [hRC] at cs
  simp only [if_true] at cs
  obtain ⟨U, hUU⟩ : ∃ U, plainC ((zs L1).map (·.1)) = U := ⟨_, rfl⟩
  rw [hUU] at cs hU HRG
  have CS := hid cs
  have HUU := hid hUU
  clear hcd hln hL1 hs1 hb1 hb2 b0 hRC hfew hU cs hUU
  go_wp2_with (refine wpList_load_row rfl 25 _ rfl w2.heap.size rfl 25 _ (0, 0) _ r6 Tryd.underlying25 rfl infoCfg ?_)
  refine (CS.out W1 (Below.refl _ _)).mono ?_
  rintro e w3 ⟨rfl, hb3⟩
  have HB3 := hid (chainP HB1.out hb3)
  clear r6 r7 k0 k1 hW1 hb3
  go_wp2_with fail
  refine (readQ_any U w3 (HM.out.below HB3.out) (HT.out.below HB3.out)).mono ?_
  rintro e w4 ⟨ao2, c2, L2, rfl, hL2, hs2, hb4⟩
  obtain ⟨cd, hcd⟩ : ∃ c, (readM U).2.1 = c := ⟨_, rfl⟩
  obtain ⟨l2, hl2⟩ : ∃ l, (readM U).2.2 = l := ⟨_, rfl⟩
  rw [hcd, hl2]
  obtain ⟨W2, hW2⟩ : ∃ W, (w4.alloc (.cells #[.slice ao2 L2.length c2] 25)).alloc (.cells #[.int .i64 (cd : Int), .int .i64 (l2 : Int)] 28) = W := ⟨_, rfl⟩
  have r6 : rowIs W2 w4.heap.size #[.slice ao2 L2.length c2] 25 := by rw [← hW2]; exact (rowIs_new _ _ _).below (below_alloc _ _)
  have r7 : rowIs W2 (w4.heap.size + 1) #[.int .i64 (cd : Int), .int .i64 (l2 : Int)] 28 := by rw [← hW2]; exact rowIs_new_at _ _ _ _ (by simp)
  have b2 : Below w4.heap.size w4 W2 := by rw [← hW2]; exact chainP (below_alloc _ _) (below_alloc _ _)
  have HB4 := hid (chainP (chainP HB3.out hb4) b2)
  by_cases g2 : (4096 : Int) < (U.length : Int)
  · clear hcd hl2 hL2 hs2 hb4 b2 r6 r7
    go_wp2_with fail
    go_ret
    exact ⟨rfl, HB4.out⟩
  have hrg := HRG.out (by omega)
  have hcd0 : cd = 0 := by rw [← hcd, hrg]
  subst hcd0
  replace hW2 : (w4.alloc (.cells #[.slice ao2 L2.length c2] 25)).alloc (.cells #[.int .i64 0, .int .i64 (l2 : Int)] 28) = W2 := hW2
  have hRC2 := zs_right hL2 hcd
  have hfew2 := few_of hRC2 (zs_rooms hs2)
  have hsame : (zs L2).map (·.1) = (zs L1).map (·.1) := by
    rw [hrg] at hL2
    refine zs_same ?_
    rw [hL2, HCD.out.2]
  have HP2 := hid (And.intro (hs2.readsP.below b2) hfew2)
  have cs := show_any (.slice ao2 L2.length c2) (zs L2) W2 HP2.out.1 HP2.out.2 (HM.out.below HB4.out) (HT.out.below HB4.out)
  rw [hRC2, hsame, HUU.out] at cs
  simp only [if_true] at cs
  have CS2 := hid cs
  have HR7 := hid r7
  clear hcd hl2 hL2 hs2 hb4 b2 hrg hRC2 hfew2 hsame cs r7
  go_wp2_with (refine wpList_load_row rfl 25 _ rfl w4.heap.size rfl 25 _ (0, 0) _ r6 Tryd.underlying25 rfl infoCfg ?_)
  refine CS2.out.mono ?_
  rintro e w5 ⟨rfl, hb5⟩
  have k0 := kept (HR7.out.cell 0) hb5
  have HB5 := hid (chainP HB4.out hb5)
  have hUeq : (U == U) = true := by simp
  clear r6 hW2 hb5
  go_wp2_with fail
  go_ret
  exact ⟨rfl, HB5.out⟩
end Go.Proofs.YtffenndchmcncaaDoor
