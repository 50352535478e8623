/-
  The walk of the statement ConfShows.
-/
import Derived.Test.YtffenndchmcncaaGreatDoorSmallZ
import Derived.Test.YtffenndchmcncaaGreatDoorRef9C
import Derived.Test.YtffenndchmcncaaGreatDoorRef9S
import Derived.Test.YtffenndchmcncaaGreatDoorLaw09F
import Derived.Test.YtffenndchmcncaaGreatDoorConfN
import Derived.Test.YtffenndchmcncaaGreatDoorFaultEq
import Derived.Test.YtffenndchmcncaaGreatDoorCardConf
import Derived.Deep.RegionHeld3
namespace Go.Proofs.YtffenndchmcncaaGreatDoor
open Go.RowKit Go.Pantry

theorem few_small {L : List (SiteZ × Value)} (h1 : L.length ≤ 12) (h2 : ∀ x ∈ L, x.1.host.length ≤ 100 ∧ x.1.heads.length ≤ 10 ∧ ∀ y ∈ x.1.heads, y.length ≤ 100) (hf : ∀ y ∈ L, SiteFit y.1 y.2) : Few L :=
  ⟨by omega, fun x hx => (hf x hx).1, fun x hx => by have := (h2 x hx).1; omega, fun x hx => by have := (h2 x hx).2.1; omega, fun x hx y hy => by have := (h2 x hx).2.2 y hy; omega⟩
set_option maxRecDepth 100000 in
set_option maxHeartbeats 16000000 in
theorem confShows_walk (V : Value) (L : List (SiteZ × Value)) (w : World) (hm : MaxOk w) (ht : Tab10 w) (h : ReadsP w V L ∧ L.length ≤ maxLen ∧ ∀ y ∈ L, SiteFit y.1 y.2) :
    Calls Tryz.prog 4 #[.agg #[V]] w fun e w' => e = .returned (.bool true) ∧ Below w.heap.size w w' := by
  obtain ⟨hr, hlen, hfit⟩ := h
  unfold maxLen at hlen
  have hheads : ∀ x ∈ L, x.1.heads.length ≤ 9223372036854775807 := fun x hx => by
    have := (hfit x hx).2.2.1
    unfold maxLen at this
    omega
  obtain ⟨W, hW⟩ : ∃ W, w.alloc (.cells #[V] 25) = W := ⟨_, rfl⟩
  have hbW : Below w.heap.size w W := by rw [← hW]; exact below_alloc _ _
  have hrow : rowIs W w.heap.size #[V] 25 := by rw [← hW]; exact rowIs_new _ _ _
  have HA := hid (anchor_any W (hm.below hbW) (ht.below hbW))
  have HRW := hid (And.intro hr (And.intro hbW hrow))
  have HM := hid (And.intro hm ht)
  have HB0 := hid (And.intro hlen (And.intro hheads hfit))
  obtain ⟨ao, c, hv, hcells⟩ := hr.form
  subst hv
  obtain ⟨n, hn⟩ : ∃ n, L.length = n := ⟨_, rfl⟩
  rw [hn] at hlen hW hrow HRW HB0 ⊢
  have HN := hid hn
  clear hm ht hr hfit hbW hcells hn hheads hlen
  go_enter Tryz.func4, Tryz.ntmps4
  go_wp2_with fail
  refine HA.out.mono ?_
  rintro e w1 ⟨rfl, hb1⟩
  have r1 := hrow.below hb1
  have HB1 := hid (And.intro (chainP HRW.out.2.1 hb1) r1)
  have cs := smallSites_any (.slice ao n c) L w1 (HRW.out.1.below HB1.out.1) (by rw [HN.out]; exact HB0.out.1) HB0.out.2.1
  have CS := hid cs
  clear hW hrow hb1 cs HA
  go_wp2_with (refine wpList_load_row rfl 25 _ rfl w.heap.size rfl 25 _ (0, 0) _ r1 Tryz.underlying25 rfl infoCfg ?_)
  refine CS.out.mono ?_
  rintro e w2 ⟨b, rfl, hsm, hb2⟩
  have HSM := hid hsm
  have r2 := r1.below hb2
  have HB2 := hid (chainP HB1.out.1 hb2)
  clear hsm hb2 r1 CS
  cases b
  · go_wp2_with fail
    go_ret
    exact ⟨rfl, HB2.out⟩
  obtain ⟨h12, hall⟩ := HSM.out rfl
  have HFEW := hid (few_small h12 hall HB0.out.2.2)
  rw [HN.out] at h12
  have HN12 := hid h12
  have cm := madeConfig_any (.slice ao n c) L w2 (HRW.out.1.below HB2.out) HFEW.out.len
  have CM := hid cm
  clear hall cm
  go_wp2_with (refine wpList_load_row rfl 25 _ rfl w.heap.size rfl 25 _ (0, 0) _ r2 Tryz.underlying25 rfl infoCfg ?_)
  refine CM.out.mono ?_
  rintro e w3 ⟨u, rfl, hr3, hb3⟩
  obtain ⟨uo, uc, hu, -⟩ := hr3.form
  rw [HN.out] at hu
  subst hu
  have HB3 := hid (chainP HB2.out hb3)
  obtain ⟨W4, hW4⟩ : ∃ W, w3.alloc (.cells #[.slice uo n uc] 33) = W := ⟨_, rfl⟩
  have hb4 : Below w3.heap.size w3 W4 := by rw [← hW4]; exact below_alloc _ _
  have hq4 : rowIs W4 w3.heap.size #[.slice uo n uc] 33 := by rw [← hW4]; exact rowIs_new _ _ _
  have HB4 := hid (chainP HB3.out hb4)
  have R4 := hid ((r2.below hb3).below hb4)
  have Q4 := hid hq4
  have U4 := hid (hr3.below hb4)
  have y0 : W4.cell? ⟨w.heap.size, 0, none⟩ = some (.slice ao n c) := R4.out.cell 0
  clear r2 hb3 hb4 hr3 hq4 CM
  go_wp2_with fail
  clear y0 hW4
  obtain ⟨gq, hgq⟩ : ∃ g, w3.heap.size = g := ⟨_, rfl⟩
  rw [hgq] at Q4 ⊢
  clear hgq
  go_loopw [20] (fun z wr => ∃ (k : Nat), z = .int .i64 (k : Int) ∧ k ≤ n ∧ Below W4.heap.size W4 wr) (fun z _ => n - (intOf z).toNat)
  case atStart => exact ⟨0, rfl, Nat.zero_le _, Below.refl _ _⟩
  case round =>
    obtain ⟨k, rfl, hk, hb⟩ := hrel
    have HB := hid hb
    have HBW := hid (chainP HB4.out hb)
    by_cases hlt : k < n
    · obtain ⟨⟨s, hv⟩, hx⟩ : ∃ x, L[k]? = some x := by
        have := HN.out
        exact ⟨L[k]'(by omega), List.getElem?_eq_getElem (by omega)⟩
      have hmem := List.mem_of_getElem? hx
      have hrd := (HRW.out.1.heads _ hmem).below HBW.out
      obtain ⟨ah, ch, hfv⟩ := hrd.form
      simp only at hfv hrd
      obtain ⟨nh, hnh⟩ : ∃ nh, (s.heads.map strV).length = nh := ⟨_, rfl⟩
      rw [hnh] at hfv
      subst hfv
      obtain ⟨b1, o1, g1, i1⟩ := (HRW.out.1.below HBW.out).at_ hx
      subst g1
      obtain ⟨b3, o3, g3, i3⟩ := (U4.out.below hb).at_ hx
      subst g3
      have hkI : (k : Int) < (n : Int) := by omega
      have hk0 : (0 : Int) ≤ (k : Int) := by omega
      have hkw : IntKind.i64.wrap ((k : Int) + 1) = (k : Int) + 1 := IntWalk.i64_in _ (by omega)
      obtain ⟨p1, hp1⟩ : ∃ p, o1 + k * 7 = p := ⟨_, rfl⟩
      obtain ⟨p3, hp3⟩ : ∃ p, o3 + k * 7 = p := ⟨_, rfl⟩
      rw [hp1] at i1
      rw [hp3] at i3
      have y0 := i1 0 _ rfl
      have y1 := i1 1 _ rfl
      have y2 := i1 2 _ rfl
      have y3 := i1 3 _ rfl
      have y4 := i1 4 _ rfl
      have y5 := i1 5 _ rfl
      have y6 := i1 6 _ rfl
      rw [Nat.add_zero] at y0
      obtain ⟨W5, hW5⟩ : ∃ W, wr.alloc (.cells (rowZ (.slice ah nh ch) s) 42) = W := ⟨_, rfl⟩
      have hb5 : Below wr.heap.size wr W5 := by rw [← hW5]; exact below_alloc _ _
      have R5 := hid (show rowIs W5 wr.heap.size (rowZ (.slice ah nh ch) s) 42 by rw [← hW5]; exact rowIs_new _ _ _)
      have x0 := i3 0 _ rfl
      rw [Nat.add_zero] at x0
      have X0 := hid (kept x0 hb5)
      have X1 := hid (kept (i3 1 _ rfl) hb5)
      have X2 := hid (kept (i3 2 _ rfl) hb5)
      have X3 := hid (kept (i3 3 _ rfl) hb5)
      have X4 := hid (kept (i3 4 _ rfl) hb5)
      have X5 := hid (kept (i3 5 _ rfl) hb5)
      have X6 := hid (kept (i3 6 _ rfl) hb5)
      have QC := hid (kept (kept (Q4.out.cell 0) hb) hb5)
      have HB5 := hid (And.intro (chainP HBW.out hb5) (And.intro (chainP hb hb5) (hrd.below hb5)))
      have C1 : Hid (∀ W, Below W5.heap.size W5 W → Calls Tryz.prog 18 #[.agg (rowZ (.slice ah nh ch) s)] W fun e w' => e = .returned (.bool (rightZ s)) ∧ Below W.heap.size W w') := fun W hS =>
        siteRight_any (.slice ah nh ch) s W (HB5.out.2.2.below hS) (HFEW.out.room _ hmem) (HFEW.out.host _ hmem) (HFEW.out.heads _ hmem) (HFEW.out.texts _ hmem) (HM.out.1.below (chainP HB5.out.1 hS)) (HM.out.2.below (chainP HB5.out.1 hS))
      have C2 : Hid (∀ W, Below W5.heap.size W5 W → Calls Tryz.prog 19 #[.agg (rowZ (.slice ah nh ch) s)] W fun e w' => e = .returned (.bool (rightZ s)) ∧ Below W.heap.size W w') := fun W hS =>
        refSiteRight_any (.slice ah nh ch) s W (HB5.out.2.2.below hS) (HFEW.out.host _ hmem) (HFEW.out.heads _ hmem) (HFEW.out.texts _ hmem)
      obtain ⟨q, hq⟩ : ∃ q, rightZ s = q := ⟨_, rfl⟩
      rw [hq] at C1 C2
      have hqq : (q != q) = false := by simp
      clear hb hx i1 i3 hnh hrd hmem hb5 x0 hq
      go_wp2_with fail
      clear y0 y1 y2 y3 y4 y5 y6 hW5
      refine wp_region_U [] (by kernel_rfl) (fun _ W => Below W5.heap.size W5 W) (b := []) (by kernel_rfl) ((Below.refl _ _).drew) ?_
      refine wpAnyU_take (i := 0) (v := .agg (rowZ (.slice ah nh ch) s)) (by decide) rfl (by kernel_rfl) (by kernel_rfl) (by kernel_rfl) (fun _ _ _ h => h) (Steady.plain (by kernel_rfl) ?_) ?_
      · intro b W hS
        exact load_gives rfl _ rfl (R5.out.below hS) Tryz.underlying42 rfl infoSite
      simp only [Act.put, List.getElem_toArray, List.getElem_cons_succ, List.getElem_cons_zero, List.setIfInBounds_toArray, List.set_cons_zero, List.set_cons_succ]
      refine wpAnyU_take (i := 1) (v := .bool q) (by decide) rfl (by kernel_rfl) (by kernel_rfl) (by kernel_rfl) (fun _ _ _ h => h) (Steady.call (f := 18) (args := #[.agg (rowZ (.slice ah nh ch) s)]) (by kernel_rfl) (fun _ => by kernel_rfl) ?_) ?_
      · intro b W hS
        refine (C1.out W hS).mono ?_
        rintro e w' ⟨he, hb⟩
        exact ⟨he, chainP hS hb⟩
      simp only [Act.put, List.getElem_toArray, List.getElem_cons_succ, List.getElem_cons_zero, List.setIfInBounds_toArray, List.set_cons_zero, List.set_cons_succ]
      refine wpAnyU_take (i := 2) (v := ?_) (by decide) rfl (by kernel_rfl) (by kernel_rfl) (by kernel_rfl) (fun _ _ _ h => h) (Steady.plain (by kernel_rfl) ?_) ?_
      rotate_left
      · intro b W hS
        have qc := kept QC.out hS
        have x0 := kept X0.out hS
        have x1 := kept X1.out hS
        have x2 := kept X2.out hS
        have x3 := kept X3.out hS
        have x4 := kept X4.out hS
        have x5 := kept X5.out hS
        have x6 := kept X6.out hS
        go_simp
        first | done | with_reducible rfl
      simp only [Act.put, List.getElem_toArray, List.getElem_cons_succ, List.getElem_cons_zero, List.setIfInBounds_toArray, List.set_cons_zero, List.set_cons_succ]
      refine wpAnyU_take (i := 3) (v := ?_) (by decide) rfl (by kernel_rfl) (by kernel_rfl) (by kernel_rfl) (fun _ _ _ h => h) (Steady.plain (by kernel_rfl) ?_) ?_
      rotate_left
      · intro b W hS
        have qc := kept QC.out hS
        have x0 := kept X0.out hS
        have x1 := kept X1.out hS
        have x2 := kept X2.out hS
        have x3 := kept X3.out hS
        have x4 := kept X4.out hS
        have x5 := kept X5.out hS
        have x6 := kept X6.out hS
        go_simp
        first | done | with_reducible rfl
      simp only [Act.put, List.getElem_toArray, List.getElem_cons_succ, List.getElem_cons_zero, List.setIfInBounds_toArray, List.set_cons_zero, List.set_cons_succ]
      refine wpAnyU_take (i := 4) (v := ?_) (by decide) rfl (by kernel_rfl) (by kernel_rfl) (by kernel_rfl) (fun _ _ _ h => h) (Steady.plain (by kernel_rfl) ?_) ?_
      rotate_left
      · intro b W hS
        have qc := kept QC.out hS
        have x0 := kept X0.out hS
        have x1 := kept X1.out hS
        have x2 := kept X2.out hS
        have x3 := kept X3.out hS
        have x4 := kept X4.out hS
        have x5 := kept X5.out hS
        have x6 := kept X6.out hS
        go_simp
        first | done | with_reducible rfl
      simp only [Act.put, List.getElem_toArray, List.getElem_cons_succ, List.getElem_cons_zero, List.setIfInBounds_toArray, List.set_cons_zero, List.set_cons_succ]
      refine wpAnyU_take (i := 5) (v := ?_) (by decide) rfl (by kernel_rfl) (by kernel_rfl) (by kernel_rfl) (fun _ _ _ h => h) (Steady.plain (by kernel_rfl) ?_) ?_
      rotate_left
      · intro b W hS
        have qc := kept QC.out hS
        have x0 := kept X0.out hS
        have x1 := kept X1.out hS
        have x2 := kept X2.out hS
        have x3 := kept X3.out hS
        have x4 := kept X4.out hS
        have x5 := kept X5.out hS
        have x6 := kept X6.out hS
        go_simp
        first | done | with_reducible rfl
      simp only [Act.put, List.getElem_toArray, List.getElem_cons_succ, List.getElem_cons_zero, List.setIfInBounds_toArray, List.set_cons_zero, List.set_cons_succ]
      refine wpAnyU_take (i := 6) (v := ?_) (by decide) rfl (by kernel_rfl) (by kernel_rfl) (by kernel_rfl) (fun _ _ _ h => h) (Steady.plain (by kernel_rfl) ?_) ?_
      rotate_left
      · intro b W hS
        have qc := kept QC.out hS
        have x0 := kept X0.out hS
        have x1 := kept X1.out hS
        have x2 := kept X2.out hS
        have x3 := kept X3.out hS
        have x4 := kept X4.out hS
        have x5 := kept X5.out hS
        have x6 := kept X6.out hS
        go_simp
        first | done | with_reducible rfl
      simp only [Act.put, List.getElem_toArray, List.getElem_cons_succ, List.getElem_cons_zero, List.setIfInBounds_toArray, List.set_cons_zero, List.set_cons_succ]
      refine wpAnyU_take (i := 7) (v := .bool q) (by decide) rfl (by kernel_rfl) (by kernel_rfl) (by kernel_rfl) (fun _ _ _ h => h) (Steady.call (f := 19) (args := #[.agg (rowZ (.slice ah nh ch) s)]) (by kernel_rfl) (fun _ => by kernel_rfl) ?_) ?_
      · intro b W hS
        refine (C2.out W hS).mono ?_
        rintro e w' ⟨he, hb⟩
        exact ⟨he, chainP hS hb⟩
      simp only [Act.put, List.getElem_toArray, List.getElem_cons_succ, List.getElem_cons_zero, List.setIfInBounds_toArray, List.set_cons_zero, List.set_cons_succ]
      refine wpAnyU_take (i := 8) (v := ?_) (by decide) rfl (by kernel_rfl) (by kernel_rfl) (by kernel_rfl) (fun _ _ _ h => h) (Steady.plain (by kernel_rfl) ?_) ?_
      rotate_left
      · intro b W hS
        have qc := kept QC.out hS
        have x0 := kept X0.out hS
        have x1 := kept X1.out hS
        have x2 := kept X2.out hS
        have x3 := kept X3.out hS
        have x4 := kept X4.out hS
        have x5 := kept X5.out hS
        have x6 := kept X6.out hS
        go_simp
        first | done | with_reducible rfl
      simp only [Act.put, List.getElem_toArray, List.getElem_cons_succ, List.getElem_cons_zero, List.setIfInBounds_toArray, List.set_cons_zero, List.set_cons_succ]
      refine wpAnyU_done (b := []) (by kernel_rfl) (by kernel_rfl) ?_ _
      intro w6 hS6
      have HB6 := hid (chainP HB5.out.2.1 hS6)
      clear hS6
      go_wp2_with fail
      go_roundw
      case rel => exact ⟨k + 1, by go_num, hlt, HB6.out⟩
      case measure => simp [intOf]; omega
    · have hkn : ¬ (k : Int) < (n : Int) := by omega
      have r5 := R4.out.below hb
      have R5 := hid r5
      have Q5 := hid (Q4.out.below hb)
      have U5 := hid (U4.out.below hb)
      have csh := show_any (.slice ao n c) L wr (HRW.out.1.below HBW.out) HFEW.out (HM.out.1.below HBW.out) (HM.out.2.below HBW.out)
      have C3 : Hid (∀ W, Below wr.heap.size wr W → Calls Tryz.prog 16 #[.agg #[.slice ao n c]] W fun e w' => e = .returned (.bool (rightC (L.map (·.1)))) ∧ Below W.heap.size W w') := fun W hS =>
        configRight_any (.slice ao n c) L W (HRW.out.1.below (chainP HBW.out hS)) HFEW.out (HM.out.1.below (chainP HBW.out hS)) (HM.out.2.below (chainP HBW.out hS))
      have C4 : Hid (∀ W, Below wr.heap.size wr W → Calls Tryz.prog 21 #[.agg #[.slice uo n uc]] W fun e w' => e = .returned (.bool (rightC (L.map (·.1)))) ∧ Below W.heap.size W w') := fun W hS =>
        refConfigRight_any (.slice uo n uc) L W (U5.out.below hS) HFEW.out
      have C5 : Hid (rightC (L.map (·.1)) = true → ∀ W, Below wr.heap.size wr W → Calls Tryz.prog 22 #[.agg #[.slice uo n uc]] W fun e w' => e = .returned (strV (plainC (L.map (·.1)))) ∧ Below W.heap.size W w') := fun hq W hS =>
        refShow_any (.slice uo n uc) L W (U5.out.below hS) HFEW.out hq
      obtain ⟨q, hq⟩ : ∃ q, rightC (L.map (·.1)) = q := ⟨_, rfl⟩
      obtain ⟨U, hU⟩ : ∃ U, plainC (L.map (·.1)) = U := ⟨_, rfl⟩
      rw [hq, hU] at csh
      rw [hq] at C3 C4 C5
      rw [hU] at C5
      have CSH := hid csh
      have HQ := hid (And.intro hq hU)
      have hqq : (q != q) = false := by simp
      clear hb csh hq hU
      cases q
      · simp only [if_true, if_false, Bool.false_eq_true] at CSH
        go_wp2_with (refine wpList_load_row rfl 25 _ rfl w.heap.size rfl 25 _ (0, 0) _ r5 Tryz.underlying25 rfl infoCfg ?_)
        refine CSH.out.mono ?_
        rintro e w6 ⟨rfl, hb6⟩
        have HB6 := hid hb6
        clear r5 hb6 CSH
        go_wp2_with fail
        refine wp_region_U [] (by kernel_rfl) (fun _ W => Below wr.heap.size wr W) (b := []) (by kernel_rfl) (chainP HB6.out (Below.refl _ _).drew) ?_
        refine wpAnyU_take (i := 0) (v := .agg #[.slice ao n c]) (by decide) rfl (by kernel_rfl) (by kernel_rfl) (by kernel_rfl) (fun _ _ _ h => h) (Steady.plain (by kernel_rfl) ?_) ?_
        · intro b W hS
          exact load_gives rfl _ rfl (R5.out.below hS) Tryz.underlying25 rfl infoCfg
        simp only [Act.put, List.getElem_toArray, List.getElem_cons_succ, List.getElem_cons_zero, List.setIfInBounds_toArray, List.set_cons_zero, List.set_cons_succ]
        refine wpAnyU_take (i := 1) (v := .bool false) (by decide) rfl (by kernel_rfl) (by kernel_rfl) (by kernel_rfl) (fun _ _ _ h => h) (Steady.call (f := 16) (args := #[.agg #[.slice ao n c]]) (by kernel_rfl) (fun _ => by kernel_rfl) ?_) ?_
        · intro b W hS
          refine (C3.out W hS).mono ?_
          rintro e w' ⟨he, hb⟩
          exact ⟨he, chainP hS hb⟩
        simp only [Act.put, List.getElem_toArray, List.getElem_cons_succ, List.getElem_cons_zero, List.setIfInBounds_toArray, List.set_cons_zero, List.set_cons_succ]
        refine wpAnyU_take (i := 2) (v := .agg #[.slice uo n uc]) (by decide) rfl (by kernel_rfl) (by kernel_rfl) (by kernel_rfl) (fun _ _ _ h => h) (Steady.plain (by kernel_rfl) ?_) ?_
        · intro b W hS
          exact load_gives rfl _ rfl (Q5.out.below hS) Tryz.underlying33 rfl infoRefCfg
        simp only [Act.put, List.getElem_toArray, List.getElem_cons_succ, List.getElem_cons_zero, List.setIfInBounds_toArray, List.set_cons_zero, List.set_cons_succ]
        refine wpAnyU_take (i := 3) (v := .bool false) (by decide) rfl (by kernel_rfl) (by kernel_rfl) (by kernel_rfl) (fun _ _ _ h => h) (Steady.call (f := 21) (args := #[.agg #[.slice uo n uc]]) (by kernel_rfl) (fun _ => by kernel_rfl) ?_) ?_
        · intro b W hS
          refine (C4.out W hS).mono ?_
          rintro e w' ⟨he, hb⟩
          exact ⟨he, chainP hS hb⟩
        simp only [Act.put, List.getElem_toArray, List.getElem_cons_succ, List.getElem_cons_zero, List.setIfInBounds_toArray, List.set_cons_zero, List.set_cons_succ]
        refine wpAnyU_take (i := 4) (v := ?_) (by decide) rfl (by kernel_rfl) (by kernel_rfl) (by kernel_rfl) (fun _ _ _ h => h) (Steady.plain (by kernel_rfl) ?_) ?_
        rotate_left
        · intro b W hS
          skip
          go_simp
          first | done | with_reducible rfl
        simp only [Act.put, List.getElem_toArray, List.getElem_cons_succ, List.getElem_cons_zero, List.setIfInBounds_toArray, List.set_cons_zero, List.set_cons_succ]
        refine wpAnyU_done (b := []) (by kernel_rfl) (by kernel_rfl) ?_ _
        intro w7 hS7
        have HB7 := hid (chainP HBW.out hS7)
        have q7 := Q5.out.below hS7
        have c4 := C4.out w7 hS7
        have HS7 := hid hS7
        clear hS7
        go_wp2_with (refine wpList_load_row rfl 33 _ rfl _ rfl 33 _ (0, 0) _ q7 Tryz.underlying33 rfl infoRefCfg ?_)
        refine c4.mono ?_
        rintro e w8 ⟨rfl, hb8⟩
        have HB8 := hid (And.intro (chainP HB7.out hb8) (chainP HS7.out hb8))
        clear q7 c4 hb8
        go_wp2_with fail
        go_ret
        exact ⟨rfl, HB8.out.1⟩
      · simp only [if_true, if_false, Bool.false_eq_true] at CSH
        go_wp2_with (refine wpList_load_row rfl 25 _ rfl w.heap.size rfl 25 _ (0, 0) _ r5 Tryz.underlying25 rfl infoCfg ?_)
        refine CSH.out.mono ?_
        rintro e w6 ⟨rfl, hb6⟩
        have HB6 := hid hb6
        clear r5 hb6 CSH
        go_wp2_with fail
        refine wp_region_U [] (by kernel_rfl) (fun _ W => Below wr.heap.size wr W) (b := []) (by kernel_rfl) (chainP HB6.out (Below.refl _ _).drew) ?_
        refine wpAnyU_take (i := 0) (v := .agg #[.slice ao n c]) (by decide) rfl (by kernel_rfl) (by kernel_rfl) (by kernel_rfl) (fun _ _ _ h => h) (Steady.plain (by kernel_rfl) ?_) ?_
        · intro b W hS
          exact load_gives rfl _ rfl (R5.out.below hS) Tryz.underlying25 rfl infoCfg
        simp only [Act.put, List.getElem_toArray, List.getElem_cons_succ, List.getElem_cons_zero, List.setIfInBounds_toArray, List.set_cons_zero, List.set_cons_succ]
        refine wpAnyU_take (i := 1) (v := .bool true) (by decide) rfl (by kernel_rfl) (by kernel_rfl) (by kernel_rfl) (fun _ _ _ h => h) (Steady.call (f := 16) (args := #[.agg #[.slice ao n c]]) (by kernel_rfl) (fun _ => by kernel_rfl) ?_) ?_
        · intro b W hS
          refine (C3.out W hS).mono ?_
          rintro e w' ⟨he, hb⟩
          exact ⟨he, chainP hS hb⟩
        simp only [Act.put, List.getElem_toArray, List.getElem_cons_succ, List.getElem_cons_zero, List.setIfInBounds_toArray, List.set_cons_zero, List.set_cons_succ]
        refine wpAnyU_take (i := 2) (v := .agg #[.slice uo n uc]) (by decide) rfl (by kernel_rfl) (by kernel_rfl) (by kernel_rfl) (fun _ _ _ h => h) (Steady.plain (by kernel_rfl) ?_) ?_
        · intro b W hS
          exact load_gives rfl _ rfl (Q5.out.below hS) Tryz.underlying33 rfl infoRefCfg
        simp only [Act.put, List.getElem_toArray, List.getElem_cons_succ, List.getElem_cons_zero, List.setIfInBounds_toArray, List.set_cons_zero, List.set_cons_succ]
        refine wpAnyU_take (i := 3) (v := .bool true) (by decide) rfl (by kernel_rfl) (by kernel_rfl) (by kernel_rfl) (fun _ _ _ h => h) (Steady.call (f := 21) (args := #[.agg #[.slice uo n uc]]) (by kernel_rfl) (fun _ => by kernel_rfl) ?_) ?_
        · intro b W hS
          refine (C4.out W hS).mono ?_
          rintro e w' ⟨he, hb⟩
          exact ⟨he, chainP hS hb⟩
        simp only [Act.put, List.getElem_toArray, List.getElem_cons_succ, List.getElem_cons_zero, List.setIfInBounds_toArray, List.set_cons_zero, List.set_cons_succ]
        refine wpAnyU_take (i := 4) (v := ?_) (by decide) rfl (by kernel_rfl) (by kernel_rfl) (by kernel_rfl) (fun _ _ _ h => h) (Steady.plain (by kernel_rfl) ?_) ?_
        rotate_left
        · intro b W hS
          skip
          go_simp
          first | done | with_reducible rfl
        simp only [Act.put, List.getElem_toArray, List.getElem_cons_succ, List.getElem_cons_zero, List.setIfInBounds_toArray, List.set_cons_zero, List.set_cons_succ]
        refine wpAnyU_done (b := []) (by kernel_rfl) (by kernel_rfl) ?_ _
        intro w7 hS7
        have HB7 := hid (chainP HBW.out hS7)
        have q7 := Q5.out.below hS7
        have c4 := C4.out w7 hS7
        have HS7 := hid hS7
        clear hS7
        go_wp2_with (refine wpList_load_row rfl 33 _ rfl _ rfl 33 _ (0, 0) _ q7 Tryz.underlying33 rfl infoRefCfg ?_)
        refine c4.mono ?_
        rintro e w8 ⟨rfl, hb8⟩
        have HB8 := hid (And.intro (chainP HB7.out hb8) (chainP HS7.out hb8))
        clear q7 c4 hb8
        have q8 := Q5.out.below HB8.out.2
        have yq := q8.cell 0
        have c5 := C5.out (by trivial) w8 HB8.out.2
        have huu : (U == U) = true := by simp
        have huu2 : (U != U) = false := by simp
        go_wp2_with fail
        refine c5.mono ?_
        rintro e w9 ⟨rfl, hb9⟩
        have HB9 := hid (And.intro (chainP HB8.out.1 hb9) (chainP HB8.out.2 hb9))
        clear q8 yq c5 hb9
        by_cases gl : (4096 : Int) < (U.length : Int)
        · go_wp2_with fail
          go_ret
          exact ⟨rfl, HB9.out.1⟩
        go_wp2_with fail
        refine (readQ_any U w9 (HM.out.1.below HB9.out.1) (HM.out.2.below HB9.out.1)).mono ?_
        rintro e w10 ⟨ao2, c2, L2, rfl, hL2, hs2, hb10⟩
        have hrp := read_plains HQ.out.1 (by rw [HQ.out.2]; omega)
        rw [HQ.out.2] at hrp
        have hz2 : (zs L2).map (·.1) = L.map (·.1) := by
          rw [hrp] at hL2
          have e1 : L2.map (·.1) = (L.map (·.1)).map SiteZ.m := hL2
          have e2 := congrArg (List.map SiteM.z) e1
          rw [right_zs HQ.out.1, List.map_map] at e2
          rw [zs_map]
          exact e2
        rw [hrp]
        simp only
        obtain ⟨W2, hW2⟩ : ∃ W, (w10.alloc (.cells #[.slice ao2 L2.length c2] 25)).alloc (.cells #[.int .i64 0, .int .i64 0] 28) = W := ⟨_, rfl⟩
        have b2 : Below w10.heap.size w10 W2 := by rw [← hW2]; exact chainP (below_alloc _ _) (below_alloc _ _)
        have D6 := hid (show rowIs W2 w10.heap.size #[.slice ao2 L2.length c2] 25 by rw [← hW2]; exact (rowIs_new _ _ _).below (below_alloc _ _))
        have D7 := hid (show rowIs W2 (w10.heap.size + 1) #[.int .i64 0, .int .i64 0] 28 by rw [← hW2]; exact rowIs_new_at _ _ _ _ (by simp))
        have HB10 := hid (And.intro (chainP (chainP HB9.out.1 hb10) b2) (chainP (chainP HB9.out.2 hb10) b2))
        have hll : (zs L2).length ≤ 1000000 := by
          have e1 := congrArg List.length hz2
          rw [List.length_map, List.length_map] at e1
          rw [e1]; exact HFEW.out.len
        have CM2 : Hid (∀ W, Below W2.heap.size W2 W → Calls Tryz.prog 15 #[.agg #[.slice ao2 L2.length c2]] W fun e w' => ∃ v', e = .returned (.agg #[v']) ∧ ReadsP w' v' (zs L2) ∧ Below W.heap.size W w') := fun W hS =>
          madeConfig_any (.slice ao2 L2.length c2) (zs L2) W ((hs2.readsP.below b2).below hS) hll
        have Q6 := hid (Q5.out.below HB10.out.2)
        have U6 := hid (U5.out.below HB10.out.2)
        have HZ := hid (And.intro hz2 hll)
        have hh2 : ∀ x ∈ zs L2, x.1.heads.length ≤ 1000000 := fun x hx => by
          have : x.1 ∈ L.map (·.1) := by rw [← hz2]; exact List.mem_map.2 ⟨x, hx, rfl⟩
          obtain ⟨y, hy, e⟩ := List.mem_map.1 this
          rw [← e]; exact HFEW.out.heads _ hy
        have HH2 := hid hh2
        have HW2 := hid hW2
        clear hL2 hs2 hb10 hrp hz2 b2 hll hh2 huu huu2 hW2
        go_wp2_with fail
        change Code.wp _ _ _ _ ((w10.alloc (.cells #[.slice ao2 L2.length c2] 25)).alloc (.cells #[.int .i64 0, .int .i64 0] 28))
        rw [HW2.out]
        refine wp_region_held_drew (S := fun w' => Below W2.heap.size W2 w') (by kernel_rfl) ((Below.refl _ _).drew) (fun hH => ?_)
        refine wpAnyH_take (i := 0) (v := .agg #[.int .i64 0, .int .i64 0]) rfl (by kernel_rfl) (by kernel_rfl) (by kernel_rfl) (fun _ _ _ h => h) (Or.inl ⟨by kernel_rfl, ?_⟩) hH ?_
        · intro W hS
          exact load_gives rfl _ rfl (D7.out.below hS) Tryz.underlying28 rfl infoFault
        simp only [Act.put, List.getElem_toArray, List.getElem_cons_succ, List.getElem_cons_zero, List.setIfInBounds_toArray, List.set_cons_zero, List.set_cons_succ]
        refine wpAnyH_take (i := 1) (v := ?_) rfl (by kernel_rfl) (by kernel_rfl) (by kernel_rfl) (fun _ _ _ h => h) (Or.inl ⟨by kernel_rfl, ?_⟩) hH ?_
        rotate_left
        · intro W hS
          have eq := eqlFault 0 0 W
          go_simp
          first | done | with_reducible rfl
        simp only [Act.put, List.getElem_toArray, List.getElem_cons_succ, List.getElem_cons_zero, List.setIfInBounds_toArray, List.set_cons_zero, List.set_cons_succ]
        refine wpAnyH_take (i := 2) (v := ?_) rfl (by kernel_rfl) (by kernel_rfl) (by kernel_rfl) (fun _ _ _ h => h) (Or.inl ⟨by kernel_rfl, ?_⟩) hH ?_
        rotate_left
        · intro W hS
          have eq := eqlFault 0 0 W
          go_simp
          first | done | with_reducible rfl
        simp only [Act.put, List.getElem_toArray, List.getElem_cons_succ, List.getElem_cons_zero, List.setIfInBounds_toArray, List.set_cons_zero, List.set_cons_succ]
        refine wpAnyH_take (i := 3) (v := ?_) rfl (by kernel_rfl) (by kernel_rfl) (by kernel_rfl) (fun _ _ _ h => h) (Or.inl ⟨by kernel_rfl, ?_⟩) hH ?_
        rotate_left
        · intro W hS
          have eq := eqlFault 0 0 W
          go_simp
          first | done | with_reducible rfl
        simp only [Act.put, List.getElem_toArray, List.getElem_cons_succ, List.getElem_cons_zero, List.setIfInBounds_toArray, List.set_cons_zero, List.set_cons_succ]
        refine wpAnyH_take (i := 4) (v := .agg #[.slice ao2 L2.length c2]) rfl (by kernel_rfl) (by kernel_rfl) (by kernel_rfl) (fun _ _ _ h => h) (Or.inl ⟨by kernel_rfl, ?_⟩) hH ?_
        · intro W hS
          exact load_gives rfl _ rfl (D6.out.below hS) Tryz.underlying25 rfl infoCfg
        simp only [Act.put, List.getElem_toArray, List.getElem_cons_succ, List.getElem_cons_zero, List.setIfInBounds_toArray, List.set_cons_zero, List.set_cons_succ]
        refine wpAnyH_take (i := 6) (v := .agg #[.slice uo n uc]) rfl (by kernel_rfl) (by kernel_rfl) (by kernel_rfl) (fun _ _ _ h => h) (Or.inl ⟨by kernel_rfl, ?_⟩) hH ?_
        · intro W hS
          exact load_gives rfl _ rfl (Q6.out.below hS) Tryz.underlying33 rfl infoRefCfg
        simp only [Act.put, List.getElem_toArray, List.getElem_cons_succ, List.getElem_cons_zero, List.setIfInBounds_toArray, List.set_cons_zero, List.set_cons_succ]
        refine wpAnyH_ready (rs := [5]) (by kernel_rfl) (by simp) ?_
        refine AllReadyH.cons rfl (fun K hK => ?_) AllReadyH.nil
        go_simp
        refine (CM2.out _ hH).mono ?_
        rintro e w11 ⟨u2, rfl, hr11, hb11⟩
        have HR11 := hid hr11
        clear hr11
        refine hK.out _ _ (chainP hH hb11) (fun hH => ?_)
        clear hK K
        try simp only [Act.put, List.getElem_toArray, List.getElem_cons_succ, List.getElem_cons_zero, List.setIfInBounds_toArray, List.set_cons_zero, List.set_cons_succ]
        refine wpAnyH_ready (rs := [7]) (by kernel_rfl) (by simp) ?_
        refine AllReadyH.cons rfl (fun K hK => ?_) AllReadyH.nil
        go_simp
        refine (same_eq u2 (.slice uo n uc) (zs L2) L _ HR11.out (U6.out.below hH) HZ.out.1 HZ.out.2 HH2.out).mono ?_
        rintro e w12 ⟨rfl, hb12⟩
        refine hK.out _ _ (chainP hH hb12) (fun hH => ?_)
        clear hK K
        try simp only [Act.put, List.getElem_toArray, List.getElem_cons_succ, List.getElem_cons_zero, List.setIfInBounds_toArray, List.set_cons_zero, List.set_cons_succ]
        refine wpAnyH_take (i := 8) (v := ?_) rfl (by kernel_rfl) (by kernel_rfl) (by kernel_rfl) (fun _ _ _ h => h) (Or.inl ⟨by kernel_rfl, ?_⟩) hH ?_
        rotate_left
        · intro W hS
          have eq := eqlFault 0 0 W
          go_simp
          first | done | with_reducible rfl
        simp only [Act.put, List.getElem_toArray, List.getElem_cons_succ, List.getElem_cons_zero, List.setIfInBounds_toArray, List.set_cons_zero, List.set_cons_succ]
        refine wpAnyH_take (i := 9) (v := ?_) rfl (by kernel_rfl) (by kernel_rfl) (by kernel_rfl) (fun _ _ _ h => h) (Or.inl ⟨by kernel_rfl, ?_⟩) hH ?_
        rotate_left
        · intro W hS
          have eq := eqlFault 0 0 W
          go_simp
          first | done | with_reducible rfl
        simp only [Act.put, List.getElem_toArray, List.getElem_cons_succ, List.getElem_cons_zero, List.setIfInBounds_toArray, List.set_cons_zero, List.set_cons_succ]
        refine wpAnyH_done (by kernel_rfl) ?_ _
        go_wp2_with fail
        go_ret
        exact ⟨rfl, chainP HB10.out.1 hH⟩
end Go.Proofs.YtffenndchmcncaaGreatDoor
