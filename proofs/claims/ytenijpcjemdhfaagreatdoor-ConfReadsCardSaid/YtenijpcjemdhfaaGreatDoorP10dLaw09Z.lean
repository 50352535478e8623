/-
  The walk of the statement ConfReads.
-/
import Derived.Test.YtenijpcjemdhfaaGreatDoorP10dRef9Y
import Derived.Test.YtenijpcjemdhfaaGreatDoorP10d04
import Derived.Test.YtenijpcjemdhfaaGreatDoorP10d05
import Derived.Test.YtenijpcjemdhfaaGreatDoorHeldA
namespace Go.Proofs.YtenijpcjemdhfaaGreatDoor
open Go.RowKit Go.Pantry

set_option maxRecDepth 100000 in
set_option maxHeartbeats 8000000 in
theorem confReads_walk (s : ByteArray) (w : World) (hm : MaxOk w) (ht : Tab10 w) (hs : s.size ≤ maxLen) :
    Calls Tryz.prog 3 #[.string s] w fun e w' => e = .returned (.bool true) ∧ Below w.heap.size w w' := by
  have HA := hid (anchor_any w hm ht)
  have HM := hid (And.intro hm ht)
  unfold maxLen at hs
  clear hm ht
  by_cases g1 : (6000 : Int) < (s.size : Int)
  · have d1 : decide ((6000 : Int) < (s.size : Int)) = true := decide_eq_true g1
    go_enter Tryz.func3, Tryz.ntmps3
    go_wp2_with (go_at_call 9; refine HA.out.mono ?_; rintro e w1 ⟨rfl, hb1⟩)
    go_ret
    exact ⟨rfl, hb1⟩
  have d1 : decide ((6000 : Int) < (s.size : Int)) = false := decide_eq_false g1
  obtain ⟨T, hT⟩ : ∃ T, s.data.toList = T := ⟨_, rfl⟩
  have hsT : strV T = (.string s : Value) := by rw [← hT]
  have HT := hid hT
  have HS := hid (show s.size ≤ 100000 by omega)
  clear g1 hs hT
  go_enter Tryz.func3, Tryz.ntmps3
  go_wp2_with fail
  refine HA.out.mono ?_
  rintro e w1 ⟨rfl, hb1⟩
  have HB1 := hid hb1
  have cq := readQ_any T w1 (HM.out.1.below hb1) (HM.out.2.below hb1)
  rw [hsT] at cq
  have CQ := hid cq
  clear hb1 cq HA hsT
  go_wp2_with fail
  refine CQ.out.mono ?_
  obtain ⟨cd, hcd⟩ : ∃ x, (readM T).2.1 = x := ⟨_, rfl⟩
  obtain ⟨ln, hln⟩ : ∃ x, (readM T).2.2 = x := ⟨_, rfl⟩
  rintro e w2 ⟨ao1, c1, L1, rfl, hL1, hs1, hb2⟩
  rw [hcd, hln]
  obtain ⟨n1, hn1⟩ : ∃ n, L1.length = n := ⟨_, rfl⟩
  have hp1 := hs1.readsP
  rw [hn1] at hp1 ⊢
  obtain ⟨p3, hp3⟩ : ∃ p, w2.heap.size = p := ⟨_, rfl⟩
  obtain ⟨W3, hW3⟩ : ∃ W, (w2.alloc (.cells #[.slice ao1 n1 c1] 25)).alloc (.cells #[.int .i64 (cd : Int), .int .i64 (ln : Int)] 28) = W := ⟨_, rfl⟩
  have hb3 : Below w2.heap.size w2 W3 := by rw [← hW3]; exact chainP (below_alloc _ _) (below_alloc _ _)
  have r3 : rowIs W3 p3 #[.slice ao1 n1 c1] 25 := by rw [← hW3, ← hp3]; exact (rowIs_new _ _ _).below (below_alloc _ _)
  have r4 : rowIs W3 (p3 + 1) #[.int .i64 (cd : Int), .int .i64 (ln : Int)] 28 := by rw [← hW3, ← hp3]; exact rowIs_new_at _ _ _ _ (by simp)
  have hmap : (zs L1).map (·.1) = (readM T).1.map SiteM.z := by rw [zs_map, ← hL1, List.map_map]; rfl
  have hbd := read_bounds T
  have HZ := hid (And.intro (hp1.below hb3) (zs_rooms hs1))
  have HMAP := hid hmap
  have HLEN := hid (show (zs L1).length ≤ 1000000 ∧ ∀ x ∈ zs L1, x.1.heads.length ≤ 1000000 from by
    have h1 : (zs L1).length = (readM T).1.length := by have := congrArg List.length hmap; simpa using this
    refine ⟨by have := hbd.1; omega, fun x hx => ?_⟩
    have h2 : x.1 ∈ (readM T).1.map SiteM.z := by rw [← hmap]; exact List.mem_map.2 ⟨x, hx, rfl⟩
    obtain ⟨y, hy, hyx⟩ := List.mem_map.1 h2
    have := hbd.2 y hy
    rw [← hyx]
    show y.heads.length ≤ _
    omega)
  have HL1 := hid hL1
  have HCD := hid (And.intro hcd hln)
  have R30 : Hid (∀ W', Below W3.heap.size W3 W' → rowIs W' p3 #[.slice ao1 n1 c1] 25) := fun W' h => r3.below h
  have R40 : Hid (∀ W', Below W3.heap.size W3 W' → rowIs W' (p3 + 1) #[.int .i64 (cd : Int), .int .i64 (ln : Int)] 28) := fun W' h => r4.below h
  have HBW := hid (chainP (chainP HB1.out hb2) hb3)
  have HW3 := hid (And.intro hW3 hp3)
  clear hcd hln hL1 hs1 hb2 hp1 hn1 hb3 r3 r4 hmap hbd hW3 hp3 CQ d1
  go_upto_region 6 with fail
  try change Code.wp _ _ _ _ ((w2.alloc (.cells #[.slice ao1 n1 c1] 25)).alloc (.cells #[.int .i64 (cd : Int), .int .i64 (ln : Int)] 28))
  rw [HW3.out.1, HW3.out.2]
  go_wp2_with fail
  refine (refRead_any s W3 HS.out).mono ?_
  rw [HT.out]
  rintro e w4 ⟨vx, Lz, rfl, hLz, hrx, hb4⟩
  rw [HCD.out.1, HCD.out.2]
  obtain ⟨ax, cx, ex, -⟩ := hrx.form
  obtain ⟨nx, hnx⟩ : ∃ n, Lz.length = n := ⟨_, rfl⟩
  rw [hnx] at ex
  subst ex
  obtain ⟨p5, hp5⟩ : ∃ p, w4.heap.size = p := ⟨_, rfl⟩
  obtain ⟨W5, hW5⟩ : ∃ W, w4.alloc (.cells #[.slice ax nx cx] 33) = W := ⟨_, rfl⟩
  have hb5 : Below w4.heap.size w4 W5 := by rw [← hW5]; exact below_alloc _ _
  have r5 : rowIs W5 p5 #[.slice ax nx cx] 33 := by rw [← hW5, ← hp5]; exact rowIs_new _ _ _
  have hb35 := chainP hb4 hb5
  have R5 : Hid (∀ W', Below W5.heap.size W5 W' → rowIs W' p5 #[.slice ax nx cx] 33) := fun W' h => r5.below h
  have R3 : Hid (∀ W', Below W5.heap.size W5 W' → rowIs W' p3 #[.slice ao1 n1 c1] 25) := fun W' h => R30.out W' (chainP hb35 h)
  have HX := hid (And.intro (hrx.below hb5) (HMAP.out.trans hLz.symm))
  have HB5 := hid hb35
  have f0 : W5.cell? ⟨p3 + 1, 0, none⟩ = some (.int .i64 (cd : Int)) := (R40.out _ hb35).cell 0
  have f1 : W5.cell? ⟨p3 + 1, 1, none⟩ = some (.int .i64 (ln : Int)) := (R40.out _ hb35).cell 1
  have zc : ((cd : Int) != (cd : Int)) = false := by simp
  have zl : ((ln : Int) != (ln : Int)) = false := by simp
  have HW5 := hid (And.intro hW5 hp5)
  clear hLz hrx hb4 hnx hW5 hp5 hb5 r5 hb35
  go_upto_region 7 with fail
  try change Code.wp _ _ _ _ (w4.alloc (.cells #[.slice ax nx cx] 33))
  rw [HW5.out.1, HW5.out.2]
  go_upto_region 9 with fail
  clear f0 f1 zc zl
  by_cases h0 : cd = 0
  · subst h0
    have hrc := zs_right HL1.out HCD.out.1
    have HRC := hid hrc
    have HFEW := hid (few_of hrc HZ.out.2)
    clear hrc
    refine wp_region_held_drew (S := fun w' => Below W5.heap.size W5 w') (by kernel_rfl) ((Below.refl _ _).drew) (fun hH => ?_)
    generalize W5.drew = w6 at hH ⊢
    refine wpAnyH_take (i := 0) (v := .agg #[.slice ao1 n1 c1]) rfl (by kernel_rfl) (by kernel_rfl) (by kernel_rfl) (fun _ _ _ h => h) (Or.inl ⟨by kernel_rfl, ?_⟩) hH ?_
    · intro W hS
      exact load_gives rfl _ rfl (R3.out _ hS) Tryz.underlying25 rfl infoCfg
    simp only [Act.put, List.getElem_toArray, List.getElem_cons_succ, List.getElem_cons_zero, List.setIfInBounds_toArray, List.set_cons_zero, List.set_cons_succ]
    refine wpAnyH_take (i := 2) (v := .agg #[.slice ax nx cx]) rfl (by kernel_rfl) (by kernel_rfl) (by kernel_rfl) (fun _ _ _ h => h) (Or.inl ⟨by kernel_rfl, ?_⟩) hH ?_
    · intro W hS
      exact load_gives rfl _ rfl (R5.out _ hS) Tryz.underlying33 rfl infoRefCfg
    simp only [Act.put, List.getElem_toArray, List.getElem_cons_succ, List.getElem_cons_zero, List.setIfInBounds_toArray, List.set_cons_zero, List.set_cons_succ]
    refine wpAnyH_ready (rs := [1]) (by kernel_rfl) (by simp) ?_
    refine AllReadyH.cons rfl (fun K hK => ?_) AllReadyH.nil
    go_simp
    refine (madeConfig_any (.slice ao1 n1 c1) (zs L1) _ (HZ.out.1.below (chainP HB5.out hH)) HLEN.out.1).mono ?_
    rintro e x1 ⟨v1, rfl, hr1, hbx1⟩
    have H1 := hid hr1
    clear hr1
    refine hK.out _ _ (chainP hH hbx1) (fun hH => ?_)
    clear hK K
    try simp only [Act.put, List.getElem_toArray, List.getElem_cons_succ, List.getElem_cons_zero, List.setIfInBounds_toArray, List.set_cons_zero, List.set_cons_succ]
    refine wpAnyH_ready (rs := [3]) (by kernel_rfl) (by simp) ?_
    refine AllReadyH.cons rfl (fun K hK => ?_) AllReadyH.nil
    go_simp
    refine (same_eq v1 (.slice ax nx cx) (zs L1) Lz _ H1.out (HX.out.1.below hH) HX.out.2 HLEN.out.1 HLEN.out.2).mono ?_
    rintro e x3 ⟨rfl, hbx3⟩
    refine hK.out _ _ (chainP hH hbx3) (fun hH => ?_)
    clear hK K
    try simp only [Act.put, List.getElem_toArray, List.getElem_cons_succ, List.getElem_cons_zero, List.setIfInBounds_toArray, List.set_cons_zero, List.set_cons_succ]
    refine wpAnyH_take (i := 4) (v := ?_) rfl (by kernel_rfl) (by kernel_rfl) (by kernel_rfl) (fun _ _ _ h => h) (Or.inl ⟨by kernel_rfl, ?_⟩) hH ?_
    rotate_left
    · intro W hS
      go_simp
      first | done | with_reducible rfl
    simp only [Act.put, List.getElem_toArray, List.getElem_cons_succ, List.getElem_cons_zero, List.setIfInBounds_toArray, List.set_cons_zero, List.set_cons_succ]
    refine wpAnyH_take (i := 5) (v := ?_) rfl (by kernel_rfl) (by kernel_rfl) (by kernel_rfl) (fun _ _ _ h => h) (Or.inl ⟨by kernel_rfl, ?_⟩) hH ?_
    rotate_left
    · intro W hS
      go_simp
      first | done | with_reducible rfl
    simp only [Act.put, List.getElem_toArray, List.getElem_cons_succ, List.getElem_cons_zero, List.setIfInBounds_toArray, List.set_cons_zero, List.set_cons_succ]
    refine wpAnyH_take (i := 6) (v := ?_) rfl (by kernel_rfl) (by kernel_rfl) (by kernel_rfl) (fun _ _ _ h => h) (Or.inl ⟨by kernel_rfl, ?_⟩) hH ?_
    rotate_left
    · intro W hS
      go_simp
      first | done | with_reducible rfl
    simp only [Act.put, List.getElem_toArray, List.getElem_cons_succ, List.getElem_cons_zero, List.setIfInBounds_toArray, List.set_cons_zero, List.set_cons_succ]
    refine wpAnyH_take (i := 7) (v := ?_) rfl (by kernel_rfl) (by kernel_rfl) (by kernel_rfl) (fun _ _ _ h => h) (Or.inl ⟨by kernel_rfl, ?_⟩) hH ?_
    rotate_left
    · intro W hS
      go_simp
      first | done | with_reducible rfl
    simp only [Act.put, List.getElem_toArray, List.getElem_cons_succ, List.getElem_cons_zero, List.setIfInBounds_toArray, List.set_cons_zero, List.set_cons_succ]
    refine wpAnyH_take (i := 8) (v := .agg #[.slice ao1 n1 c1]) rfl (by kernel_rfl) (by kernel_rfl) (by kernel_rfl) (fun _ _ _ h => h) (Or.inl ⟨by kernel_rfl, ?_⟩) hH ?_
    · intro W hS
      exact load_gives rfl _ rfl (R3.out _ hS) Tryz.underlying25 rfl infoCfg
    simp only [Act.put, List.getElem_toArray, List.getElem_cons_succ, List.getElem_cons_zero, List.setIfInBounds_toArray, List.set_cons_zero, List.set_cons_succ]
    refine wpAnyH_ready (rs := [9]) (by kernel_rfl) (by simp) ?_
    refine AllReadyH.cons rfl (fun K hK => ?_) AllReadyH.nil
    go_simp
    refine (configRight_any (.slice ao1 n1 c1) (zs L1) _ (HZ.out.1.below (chainP HB5.out hH)) HFEW.out (HM.out.1.below (chainP HBW.out (chainP HB5.out hH))) (HM.out.2.below (chainP HBW.out (chainP HB5.out hH)))).mono ?_
    rw [HRC.out]
    rintro e x9 ⟨rfl, hbx9⟩
    refine hK.out _ _ (chainP hH hbx9) (fun hH => ?_)
    clear hK K
    try simp only [Act.put, List.getElem_toArray, List.getElem_cons_succ, List.getElem_cons_zero, List.setIfInBounds_toArray, List.set_cons_zero, List.set_cons_succ]
    refine wpAnyH_take (i := 10) (v := ?_) rfl (by kernel_rfl) (by kernel_rfl) (by kernel_rfl) (fun _ _ _ h => h) (Or.inl ⟨by kernel_rfl, ?_⟩) hH ?_
    rotate_left
    · intro W hS
      go_simp
      first | done | with_reducible rfl
    simp only [Act.put, List.getElem_toArray, List.getElem_cons_succ, List.getElem_cons_zero, List.setIfInBounds_toArray, List.set_cons_zero, List.set_cons_succ]
    refine wpAnyH_take (i := 11) (v := ?_) rfl (by kernel_rfl) (by kernel_rfl) (by kernel_rfl) (fun _ _ _ h => h) (Or.inl ⟨by kernel_rfl, ?_⟩) hH ?_
    rotate_left
    · intro W hS
      go_simp
      first | done | with_reducible rfl
    simp only [Act.put, List.getElem_toArray, List.getElem_cons_succ, List.getElem_cons_zero, List.setIfInBounds_toArray, List.set_cons_zero, List.set_cons_succ]
    refine wpAnyH_take (i := 12) (v := ?_) rfl (by kernel_rfl) (by kernel_rfl) (by kernel_rfl) (fun _ _ _ h => h) (Or.inl ⟨by kernel_rfl, ?_⟩) hH ?_
    rotate_left
    · intro W hS
      go_simp
      first | done | with_reducible rfl
    simp only [Act.put, List.getElem_toArray, List.getElem_cons_succ, List.getElem_cons_zero, List.setIfInBounds_toArray, List.set_cons_zero, List.set_cons_succ]
    refine wpAnyH_done (by kernel_rfl) ?_ _

    go_wp2_with fail
    go_ret
    exact ⟨rfl, chainP HBW.out (chainP HB5.out hH)⟩
  · have HCN := hid (show ((cd : Int) != 0) = true by simpa using h0)
    have HCM := hid (show ((cd : Int) == 0) = false by simpa using h0)
    clear h0
    refine wp_region_held_drew (S := fun w' => Below W5.heap.size W5 w') (by kernel_rfl) ((Below.refl _ _).drew) (fun hH => ?_)
    generalize W5.drew = w6 at hH ⊢
    refine wpAnyH_take (i := 0) (v := .agg #[.slice ao1 n1 c1]) rfl (by kernel_rfl) (by kernel_rfl) (by kernel_rfl) (fun _ _ _ h => h) (Or.inl ⟨by kernel_rfl, ?_⟩) hH ?_
    · intro W hS
      exact load_gives rfl _ rfl (R3.out _ hS) Tryz.underlying25 rfl infoCfg
    simp only [Act.put, List.getElem_toArray, List.getElem_cons_succ, List.getElem_cons_zero, List.setIfInBounds_toArray, List.set_cons_zero, List.set_cons_succ]
    refine wpAnyH_take (i := 2) (v := .agg #[.slice ax nx cx]) rfl (by kernel_rfl) (by kernel_rfl) (by kernel_rfl) (fun _ _ _ h => h) (Or.inl ⟨by kernel_rfl, ?_⟩) hH ?_
    · intro W hS
      exact load_gives rfl _ rfl (R5.out _ hS) Tryz.underlying33 rfl infoRefCfg
    simp only [Act.put, List.getElem_toArray, List.getElem_cons_succ, List.getElem_cons_zero, List.setIfInBounds_toArray, List.set_cons_zero, List.set_cons_succ]
    refine wpAnyH_ready (rs := [1]) (by kernel_rfl) (by simp) ?_
    refine AllReadyH.cons rfl (fun K hK => ?_) AllReadyH.nil
    go_simp
    refine (madeConfig_any (.slice ao1 n1 c1) (zs L1) _ (HZ.out.1.below (chainP HB5.out hH)) HLEN.out.1).mono ?_
    rintro e x1 ⟨v1, rfl, hr1, hbx1⟩
    have H1 := hid hr1
    clear hr1
    refine hK.out _ _ (chainP hH hbx1) (fun hH => ?_)
    clear hK K
    try simp only [Act.put, List.getElem_toArray, List.getElem_cons_succ, List.getElem_cons_zero, List.setIfInBounds_toArray, List.set_cons_zero, List.set_cons_succ]
    refine wpAnyH_ready (rs := [3]) (by kernel_rfl) (by simp) ?_
    refine AllReadyH.cons rfl (fun K hK => ?_) AllReadyH.nil
    go_simp
    refine (same_eq v1 (.slice ax nx cx) (zs L1) Lz _ H1.out (HX.out.1.below hH) HX.out.2 HLEN.out.1 HLEN.out.2).mono ?_
    rintro e x3 ⟨rfl, hbx3⟩
    refine hK.out _ _ (chainP hH hbx3) (fun hH => ?_)
    clear hK K
    try simp only [Act.put, List.getElem_toArray, List.getElem_cons_succ, List.getElem_cons_zero, List.setIfInBounds_toArray, List.set_cons_zero, List.set_cons_succ]
    refine wpAnyH_take (i := 4) (v := ?_) rfl (by kernel_rfl) (by kernel_rfl) (by kernel_rfl) (fun _ _ _ h => h) (Or.inl ⟨by kernel_rfl, ?_⟩) hH ?_
    rotate_left
    · intro W hS
      have z1 := HCN.out
      have z2 := HCM.out
      go_simp
      first | done | with_reducible rfl
    simp only [Act.put, List.getElem_toArray, List.getElem_cons_succ, List.getElem_cons_zero, List.setIfInBounds_toArray, List.set_cons_zero, List.set_cons_succ]
    refine wpAnyH_take (i := 5) (v := ?_) rfl (by kernel_rfl) (by kernel_rfl) (by kernel_rfl) (fun _ _ _ h => h) (Or.inl ⟨by kernel_rfl, ?_⟩) hH ?_
    rotate_left
    · intro W hS
      have z1 := HCN.out
      have z2 := HCM.out
      go_simp
      first | done | with_reducible rfl
    simp only [Act.put, List.getElem_toArray, List.getElem_cons_succ, List.getElem_cons_zero, List.setIfInBounds_toArray, List.set_cons_zero, List.set_cons_succ]
    refine wpAnyH_take (i := 6) (v := ?_) rfl (by kernel_rfl) (by kernel_rfl) (by kernel_rfl) (fun _ _ _ h => h) (Or.inl ⟨by kernel_rfl, ?_⟩) hH ?_
    rotate_left
    · intro W hS
      have z1 := HCN.out
      have z2 := HCM.out
      go_simp
      first | done | with_reducible rfl
    simp only [Act.put, List.getElem_toArray, List.getElem_cons_succ, List.getElem_cons_zero, List.setIfInBounds_toArray, List.set_cons_zero, List.set_cons_succ]
    refine wpAnyH_take (i := 7) (v := ?_) rfl (by kernel_rfl) (by kernel_rfl) (by kernel_rfl) (fun _ _ _ h => h) (Or.inl ⟨by kernel_rfl, ?_⟩) hH ?_
    rotate_left
    · intro W hS
      have z1 := HCN.out
      have z2 := HCM.out
      go_simp
      first | done | with_reducible rfl
    simp only [Act.put, List.getElem_toArray, List.getElem_cons_succ, List.getElem_cons_zero, List.setIfInBounds_toArray, List.set_cons_zero, List.set_cons_succ]
    refine wpAnyH_take (i := 8) rfl (by kernel_rfl) (by kernel_rfl) (by kernel_rfl) (fun _ _ _ h => h) (Or.inr ⟨by kernel_rfl, rfl⟩) hH ?_
    simp only [Act.put, List.getElem_toArray, List.getElem_cons_succ, List.getElem_cons_zero, List.setIfInBounds_toArray, List.set_cons_zero, List.set_cons_succ]
    refine wpAnyH_take (i := 9) rfl (by kernel_rfl) (by kernel_rfl) (by kernel_rfl) (fun _ _ _ h => h) (Or.inr ⟨by kernel_rfl, rfl⟩) hH ?_
    simp only [Act.put, List.getElem_toArray, List.getElem_cons_succ, List.getElem_cons_zero, List.setIfInBounds_toArray, List.set_cons_zero, List.set_cons_succ]
    refine wpAnyH_take (i := 10) (v := ?_) rfl (by kernel_rfl) (by kernel_rfl) (by kernel_rfl) (fun _ _ _ h => h) (Or.inl ⟨by kernel_rfl, ?_⟩) hH ?_
    rotate_left
    · intro W hS
      have z1 := HCN.out
      have z2 := HCM.out
      go_simp
      first | done | with_reducible rfl
    simp only [Act.put, List.getElem_toArray, List.getElem_cons_succ, List.getElem_cons_zero, List.setIfInBounds_toArray, List.set_cons_zero, List.set_cons_succ]
    refine wpAnyH_take (i := 11) (v := ?_) rfl (by kernel_rfl) (by kernel_rfl) (by kernel_rfl) (fun _ _ _ h => h) (Or.inl ⟨by kernel_rfl, ?_⟩) hH ?_
    rotate_left
    · intro W hS
      have z1 := HCN.out
      have z2 := HCM.out
      go_simp
      first | done | with_reducible rfl
    simp only [Act.put, List.getElem_toArray, List.getElem_cons_succ, List.getElem_cons_zero, List.setIfInBounds_toArray, List.set_cons_zero, List.set_cons_succ]
    refine wpAnyH_take (i := 12) (v := ?_) rfl (by kernel_rfl) (by kernel_rfl) (by kernel_rfl) (fun _ _ _ h => h) (Or.inl ⟨by kernel_rfl, ?_⟩) hH ?_
    rotate_left
    · intro W hS
      have z1 := HCN.out
      have z2 := HCM.out
      go_simp
      first | done | with_reducible rfl
    simp only [Act.put, List.getElem_toArray, List.getElem_cons_succ, List.getElem_cons_zero, List.setIfInBounds_toArray, List.set_cons_zero, List.set_cons_succ]
    refine wpAnyH_done (by kernel_rfl) ?_ _

    go_wp2_with fail
    go_ret
    exact ⟨rfl, chainP HBW.out (chainP HB5.out hH)⟩
end Go.Proofs.YtenijpcjemdhfaaGreatDoor
