/-
  The walk of the statement ConfFinds.
-/
import Derived.Test.YtffenndchmcncaaGreatDoorFindB
import Derived.Test.YtffenndchmcncaaGreatDoorSmallZ
import Derived.Test.YtffenndchmcncaaGreatDoorRef9F
import Derived.Test.YtffenndchmcncaaGreatDoorConfN
import Derived.Test.YtffenndchmcncaaGreatDoorCardConf
import Derived.Deep.RegionHeld3
namespace Go.Proofs.YtffenndchmcncaaGreatDoor
open Go.RowKit Go.Pantry

def zeroZ : SiteZ := ⟨[], 0, 0, 0, false, false, []⟩
set_option maxRecDepth 100000 in
set_option maxHeartbeats 8000000 in
theorem confFinds_walk (V : Value) (L : List (SiteZ × Value)) (s : ByteArray) (w : World) (hm : MaxOk w) (ht : Tab10 w) (h : ReadsP w V L ∧ L.length ≤ maxLen ∧ ∀ y ∈ L, SiteFit y.1 y.2) (hs : s.size ≤ maxLen) :
    Calls Tryz.prog 5 #[.agg #[V], .string s] w fun e w' => e = .returned (.bool true) ∧ Below w.heap.size w w' := by
  obtain ⟨hr, hlen, hfit⟩ := h
  unfold maxLen at hs hlen
  have hheads : ∀ x ∈ L, x.1.heads.length ≤ 9223372036854775807 := fun x hx => by
    have := (hfit x hx).2.2.1
    unfold maxLen at this
    omega
  obtain ⟨W, hW⟩ : ∃ W, w.alloc (.cells #[V] 25) = W := ⟨_, rfl⟩
  have hbW : Below w.heap.size w W := by rw [← hW]; exact below_alloc _ _
  have hrow : rowIs W w.heap.size #[V] 25 := by rw [← hW]; exact rowIs_new _ _ _
  have HA := hid (anchor_any W (hm.below hbW) (ht.below hbW))
  have HRW := hid (And.intro hr (And.intro hbW hrow))
  have HB0 := hid (And.intro hlen hheads)
  obtain ⟨T, hT⟩ : ∃ T, s.data.toList = T := ⟨_, rfl⟩
  have hTl : T.length = s.size := by rw [← hT, size_list]
  have hsT : (.string s : Value) = strV T := by rw [← hT]
  rw [hsT]
  obtain ⟨ao, c, hv, hcells⟩ := hr.form
  subst hv
  obtain ⟨n, hn⟩ : ∃ n, L.length = n := ⟨_, rfl⟩
  rw [hn] at hlen hW hrow HRW HB0 ⊢
  have HN := hid hn
  clear hm ht hr hfit hbW hcells hn hT hsT hs hheads hlen
  go_enter Tryz.func5, Tryz.ntmps5
  go_wp2_with fail
  refine HA.out.mono ?_
  rintro e w1 ⟨rfl, hb1⟩
  have r1 := hrow.below hb1
  have HB1 := hid (And.intro (chainP HRW.out.2.1 hb1) r1)
  have cs := smallSites_any (.slice ao n c) L w1 (HRW.out.1.below HB1.out.1) (by rw [HN.out]; exact HB0.out.1) HB0.out.2
  have CS := hid cs
  clear hW hrow hb1 cs HA
  go_wp2_with (refine wpList_load_row rfl 25 _ rfl w.heap.size rfl 25 _ (0, 0) _ r1 Tryz.underlying25 rfl infoCfg ?_)
  refine CS.out.mono ?_
  rintro e w2 ⟨b, rfl, hsm, hb2⟩
  have HSM := hid hsm
  have r2 := r1.below hb2
  have HB2 := hid (chainP HB1.out.1 hb2)
  clear hsm hb2 r1 CS
  cases b
  · go_wp2_with fail
    go_ret
    exact ⟨rfl, HB2.out⟩
  by_cases g1 : (100 : Int) < (T.length : Int)
  · have d1 : decide ((100 : Int) < (T.length : Int)) = true := decide_eq_true g1
    go_wp2_with fail
    go_ret
    exact ⟨rfl, HB2.out⟩
  have d1 : decide ((100 : Int) < (T.length : Int)) = false := decide_eq_false g1
  obtain ⟨h12, hall⟩ := HSM.out rfl
  have HALL := hid hall
  have cf := find_any (.slice ao n c) L T w2 (HRW.out.1.below HB2.out) (by omega) (fun x hx => by have := (hall x hx).2.1; omega)
  have CF := hid cf
  have HN12 := hid h12
  have R2 := hid r2
  clear hall cf h12
  go_wp2_with (refine wpList_load_row rfl 25 _ rfl w.heap.size rfl 25 _ (0, 0) _ r2 Tryz.underlying25 rfl infoCfg ?_)
  refine CF.out.mono ?_
  rintro e w3 ⟨hp, hb3⟩
  clear r2 d1 g1
  have HB3 := hid (chainP HB2.out hb3)
  have R3 := hid (R2.out.below hb3)
  cases hfd : L.find? (fun x => x.1.host == T) with
  | none =>
    rw [hfd] at hp
    simp only at hp
    subst hp
    obtain ⟨W4, hW4⟩ : ∃ W, w3.alloc (.cells zeroSite 42) = W := ⟨_, rfl⟩
    have r5 : rowIs W4 w3.heap.size zeroSite 42 := by rw [← hW4]; exact rowIs_new _ _ _
    have hb4 : Below w3.heap.size w3 W4 := by rw [← hW4]; exact below_alloc _ _
    have R5 := hid r5
    have r4 := R3.out.below hb4
    have HB4 := hid (chainP HB3.out hb4)
    have cm := madeConfig_any (.slice ao n c) L W4 (HRW.out.1.below HB4.out) (by rw [HN.out] at HN12 ⊢; have := HN12.out; omega)
    have CM := hid cm
    have HFD := hid hfd
    clear hb3 hb4 r5 cm hfd
    rw [← hW4] at r4
    have HW4 := hid hW4
    clear hW4
    go_wp2_with (refine wpList_load_row rfl 25 _ rfl w.heap.size rfl 25 _ (0, 0) _ r4 Tryz.underlying25 rfl infoCfg ?_)
    change Calls _ _ _ (w3.alloc (.cells zeroSite 42)) _
    rw [HW4.out]
    refine CM.out.mono ?_
    rintro e w5 ⟨u, rfl, hr5, hb5⟩
    have cr := refFindC_any u L T w5 hr5 (by have := HN12.out; omega)
    have CR := hid cr
    have HB5 := hid (chainP HB4.out hb5)
    have R5b := hid (R5.out.below hb5)
    clear r4 hb5 hr5 cr
    go_wp2_with fail
    refine CR.out.mono ?_
    rintro e w6 ⟨hp6, hb6⟩
    rcases hp6 with ⟨k, x, rfl, hk, hfx⟩ | ⟨rfl, -⟩
    · rw [HFD.out] at hfx; cases hfx
    have r6 := R5b.out.below hb6
    have HB6 := hid (chainP HB5.out hb6)
    clear hb6
    have q0 := r6.cell 0
    have q1 := r6.cell 1
    have q2 := r6.cell 2
    have q3 := r6.cell 3
    have q4 := r6.cell 4
    have q5 := r6.cell 5
    have q6 := r6.cell 6
    go_wp2_with fail
    refine (madeSite_any (.slice none 0 0) zeroZ w6 ⟨_, _, _, rfl⟩).mono ?_
    rintro e w7 ⟨rfl, hb7⟩
    have HB7 := hid (chainP HB6.out hb7)
    clear r6 hb7 q0 q1 q2 q3 q4 q5 q6
    go_wp2_with fail
    refine (alike_eq (.slice none 0 0) (.slice none 0 0) zeroZ w7 ⟨none, 0, rfl, (fun j u h => by cases h), fun _ => rfl⟩ ⟨none, 0, rfl, (fun j u h => by cases h), fun _ => rfl⟩ (by decide)).mono ?_
    rintro e w8 ⟨rfl, hb8⟩
    have HB8 := hid (chainP HB7.out hb8)
    clear hb8
    go_wp2_with fail
    go_ret
    exact ⟨rfl, HB8.out⟩
  | some x =>
    rw [hfd] at hp
    simp only at hp
    obtain ⟨hv2, rfl, hrh⟩ := hp
    obtain ⟨a2, c2, hf2⟩ := hrh.form
    obtain ⟨n2, hn2⟩ : ∃ n, (x.1.heads.map strV).length = n := ⟨_, rfl⟩
    rw [hn2] at hf2
    obtain ⟨W4, hW4⟩ : ∃ W, w3.alloc (.cells (rowZ hv2 x.1) 42) = W := ⟨_, rfl⟩
    have r5 : rowIs W4 w3.heap.size (rowZ hv2 x.1) 42 := by rw [← hW4]; exact rowIs_new _ _ _
    have hb4 : Below w3.heap.size w3 W4 := by rw [← hW4]; exact below_alloc _ _
    have R5 := hid r5
    have r4 := R3.out.below hb4
    have HB4 := hid (chainP HB3.out hb4)
    have RH2 := hid (hrh.below hb4)
    have HF2 := hid (show ∃ ao n c, hv2 = .slice ao n c from ⟨_, _, _, hf2⟩)
    have cm := madeConfig_any (.slice ao n c) L W4 (HRW.out.1.below HB4.out) (by have := HN12.out; omega)
    have CM := hid cm
    have HFD := hid hfd
    have HF3 := hid hf2
    clear hb3 hb4 r5 cm hfd hrh hn2
    subst hf2
    go_wp2_with (refine wpList_load_row rfl 25 _ rfl w.heap.size rfl 25 _ (0, 0) _ r4 Tryz.underlying25 rfl infoCfg ?_)
    refine CM.out.mono ?_
    rintro e w5 ⟨u, rfl, hr5, hb5⟩
    have cr := refFindC_any u L T w5 hr5 (by have := HN12.out; omega)
    have CR := hid cr
    have HB5 := hid (chainP HB4.out hb5)
    have R5b := hid (R5.out.below hb5)
    have R4b := hid (r4.below hb5)
    have RH3 := hid (RH2.out.below hb5)
    clear r4 hW4 hb5 hr5 cr
    go_wp2_with fail
    refine CR.out.mono ?_
    rintro e w6 ⟨hp6, hb6⟩
    rcases hp6 with ⟨k, x', rfl, hk, hfx⟩ | ⟨rfl, hfx⟩
    rotate_left
    · rw [HFD.out] at hfx; cases hfx
    rw [HFD.out] at hfx
    obtain rfl : x = x' := by simpa using hfx
    have HB6 := hid (chainP HB5.out hb6)
    have R5 := hid (R5b.out.below hb6)
    have R4 := hid (R4b.out.below hb6)
    have RH2 := hid (RH3.out.below hb6)
    have hmem := List.mem_of_getElem? hk
    have hrd := HRW.out.1.heads _ hmem
    have RH1 := hid (hrd.below HB6.out)
    obtain ⟨ah, ch, hfv⟩ := hrd.form
    obtain ⟨nh, hnh⟩ : ∃ n, (x.1.heads.map strV).length = n := ⟨_, rfl⟩
    rw [hnh] at hfv
    obtain ⟨b1, o1, g1, i1⟩ := (HRW.out.1.below HB6.out).at_ hk
    subst g1
    have hkn : k < n := by have := (List.getElem?_eq_some_iff.1 hk).1; rw [HN.out] at this; exact this
    have HL2 := hid (show x.1.heads.length ≤ 1000000 by have := (HALL.out x hmem).2.1; omega)
    obtain ⟨xs, xv⟩ := x
    simp only at hfv
    subst hfv
    obtain ⟨p1, hp1⟩ : ∃ p, o1 + k * 7 = p := ⟨_, rfl⟩
    rw [hp1] at i1
    have Y0 := hid (show w6.cell? ⟨b1, p1, none⟩ = some (strV xs.host) from i1 0 _ rfl)
    have Y1 := hid (i1 1 _ rfl)
    have Y2 := hid (i1 2 _ rfl)
    have Y3 := hid (i1 3 _ rfl)
    have Y4 := hid (i1 4 _ rfl)
    have Y5 := hid (i1 5 _ rfl)
    have Y6 := hid (i1 6 _ rfl)
    have KC := hid (R4.out.cell 0)
    have hkI : (k : Int) < (n : Int) := by omega
    have hk0 : (0 : Int) ≤ (k : Int) := by omega
    have hnk : ¬ (k : Int) < 0 := by omega
    have hdk : decide ((k : Int) < 0) = false := decide_eq_false hnk
    clear hb6 hk hfx hmem hrd hnh i1
    go_wp2_with fail
    refine wp_region_held_drew (S := fun w' => Below w6.heap.size w6 w') (by kernel_rfl) ((Below.refl _ _).drew) (fun hH => ?_)
    refine wpAnyH_take (i := 0) (v := ?_) rfl (by kernel_rfl) (by kernel_rfl) (by kernel_rfl) (fun _ _ _ h => h) (Or.inl ⟨by kernel_rfl, ?_⟩) hH ?_
    rotate_left
    · intro W hS
      have kc := kept KC.out hS
      have y0 := kept Y0.out hS
      have y1 := kept Y1.out hS
      have y2 := kept Y2.out hS
      have y3 := kept Y3.out hS
      have y4 := kept Y4.out hS
      have y5 := kept Y5.out hS
      have y6 := kept Y6.out hS
      go_simp
      first | done | with_reducible rfl
    simp only [Act.put, List.getElem_toArray, List.getElem_cons_succ, List.getElem_cons_zero, List.setIfInBounds_toArray, List.set_cons_zero, List.set_cons_succ]
    refine wpAnyH_take (i := 1) (v := ?_) rfl (by kernel_rfl) (by kernel_rfl) (by kernel_rfl) (fun _ _ _ h => h) (Or.inl ⟨by kernel_rfl, ?_⟩) hH ?_
    rotate_left
    · intro W hS
      have kc := kept KC.out hS
      have y0 := kept Y0.out hS
      have y1 := kept Y1.out hS
      have y2 := kept Y2.out hS
      have y3 := kept Y3.out hS
      have y4 := kept Y4.out hS
      have y5 := kept Y5.out hS
      have y6 := kept Y6.out hS
      go_simp
      first | done | with_reducible rfl
    simp only [Act.put, List.getElem_toArray, List.getElem_cons_succ, List.getElem_cons_zero, List.setIfInBounds_toArray, List.set_cons_zero, List.set_cons_succ]
    refine wpAnyH_take (i := 2) (v := .agg (rowZ (.slice a2 n2 c2) xs)) rfl (by kernel_rfl) (by kernel_rfl) (by kernel_rfl) (fun _ _ _ h => h) (Or.inl ⟨by kernel_rfl, ?_⟩) hH ?_
    · intro W hS
      exact load_gives rfl _ rfl (R5.out.below hS) Tryz.underlying42 rfl infoSite
    simp only [Act.put, List.getElem_toArray, List.getElem_cons_succ, List.getElem_cons_zero, List.setIfInBounds_toArray, List.set_cons_zero, List.set_cons_succ]
    refine wpAnyH_take (i := 4) (v := ?_) rfl (by kernel_rfl) (by kernel_rfl) (by kernel_rfl) (fun _ _ _ h => h) (Or.inl ⟨by kernel_rfl, ?_⟩) hH ?_
    rotate_left
    · intro W hS
      have kc := kept KC.out hS
      have y0 := kept Y0.out hS
      have y1 := kept Y1.out hS
      have y2 := kept Y2.out hS
      have y3 := kept Y3.out hS
      have y4 := kept Y4.out hS
      have y5 := kept Y5.out hS
      have y6 := kept Y6.out hS
      go_simp
      first | done | with_reducible rfl
    simp only [Act.put, List.getElem_toArray, List.getElem_cons_succ, List.getElem_cons_zero, List.setIfInBounds_toArray, List.set_cons_zero, List.set_cons_succ]
    refine wpAnyH_take (i := 5) (v := ?_) rfl (by kernel_rfl) (by kernel_rfl) (by kernel_rfl) (fun _ _ _ h => h) (Or.inl ⟨by kernel_rfl, ?_⟩) hH ?_
    rotate_left
    · intro W hS
      have kc := kept KC.out hS
      have y0 := kept Y0.out hS
      have y1 := kept Y1.out hS
      have y2 := kept Y2.out hS
      have y3 := kept Y3.out hS
      have y4 := kept Y4.out hS
      have y5 := kept Y5.out hS
      have y6 := kept Y6.out hS
      go_simp
      first | done | with_reducible rfl
    simp only [Act.put, List.getElem_toArray, List.getElem_cons_succ, List.getElem_cons_zero, List.setIfInBounds_toArray, List.set_cons_zero, List.set_cons_succ]
    refine wpAnyH_take (i := 6) (v := ?_) rfl (by kernel_rfl) (by kernel_rfl) (by kernel_rfl) (fun _ _ _ h => h) (Or.inl ⟨by kernel_rfl, ?_⟩) hH ?_
    rotate_left
    · intro W hS
      have kc := kept KC.out hS
      have y0 := kept Y0.out hS
      have y1 := kept Y1.out hS
      have y2 := kept Y2.out hS
      have y3 := kept Y3.out hS
      have y4 := kept Y4.out hS
      have y5 := kept Y5.out hS
      have y6 := kept Y6.out hS
      go_simp
      first | done | with_reducible rfl
    simp only [Act.put, List.getElem_toArray, List.getElem_cons_succ, List.getElem_cons_zero, List.setIfInBounds_toArray, List.set_cons_zero, List.set_cons_succ]
    refine wpAnyH_take (i := 7) (v := ?_) rfl (by kernel_rfl) (by kernel_rfl) (by kernel_rfl) (fun _ _ _ h => h) (Or.inl ⟨by kernel_rfl, ?_⟩) hH ?_
    rotate_left
    · intro W hS
      have kc := kept KC.out hS
      have y0 := kept Y0.out hS
      have y1 := kept Y1.out hS
      have y2 := kept Y2.out hS
      have y3 := kept Y3.out hS
      have y4 := kept Y4.out hS
      have y5 := kept Y5.out hS
      have y6 := kept Y6.out hS
      go_simp
      first | done | with_reducible rfl
    simp only [Act.put, List.getElem_toArray, List.getElem_cons_succ, List.getElem_cons_zero, List.setIfInBounds_toArray, List.set_cons_zero, List.set_cons_succ]
    refine wpAnyH_take (i := 8) (v := ?_) rfl (by kernel_rfl) (by kernel_rfl) (by kernel_rfl) (fun _ _ _ h => h) (Or.inl ⟨by kernel_rfl, ?_⟩) hH ?_
    rotate_left
    · intro W hS
      have kc := kept KC.out hS
      have y0 := kept Y0.out hS
      have y1 := kept Y1.out hS
      have y2 := kept Y2.out hS
      have y3 := kept Y3.out hS
      have y4 := kept Y4.out hS
      have y5 := kept Y5.out hS
      have y6 := kept Y6.out hS
      go_simp
      first | done | with_reducible rfl
    simp only [Act.put, List.getElem_toArray, List.getElem_cons_succ, List.getElem_cons_zero, List.setIfInBounds_toArray, List.set_cons_zero, List.set_cons_succ]
    refine wpAnyH_ready (rs := [3]) (by kernel_rfl) (by simp) ?_
    refine AllReadyH.cons rfl (fun K hK => ?_) AllReadyH.nil
    go_simp
    refine (madeSite_any (.slice a2 n2 c2) xs _ HF2.out).mono ?_
    rintro e w7 ⟨rfl, hb7⟩
    refine hK.out _ _ (chainP hH hb7) (fun hH => ?_)
    clear hK K
    try simp only [Act.put, List.getElem_toArray, List.getElem_cons_succ, List.getElem_cons_zero, List.setIfInBounds_toArray, List.set_cons_zero, List.set_cons_succ]
    refine wpAnyH_ready (rs := [9]) (by kernel_rfl) (by simp) ?_
    refine AllReadyH.cons rfl (fun K hK => ?_) AllReadyH.nil
    go_simp
    refine (madeSite_any (.slice ah nh ch) xs _ ⟨_, _, _, rfl⟩).mono ?_
    rintro e w8 ⟨rfl, hb8⟩
    refine hK.out _ _ (chainP hH hb8) (fun hH => ?_)
    clear hK K
    try simp only [Act.put, List.getElem_toArray, List.getElem_cons_succ, List.getElem_cons_zero, List.setIfInBounds_toArray, List.set_cons_zero, List.set_cons_succ]
    refine wpAnyH_ready (rs := [10]) (by kernel_rfl) (by simp) ?_
    refine AllReadyH.cons rfl (fun K hK => ?_) AllReadyH.nil
    go_simp
    refine (alike_eq (.slice a2 n2 c2) (.slice ah nh ch) xs _ (RH2.out.below hH) (RH1.out.below hH) HL2.out).mono ?_
    rintro e w9 ⟨rfl, hb9⟩
    refine hK.out _ _ (chainP hH hb9) (fun hH => ?_)
    clear hK K
    try simp only [Act.put, List.getElem_toArray, List.getElem_cons_succ, List.getElem_cons_zero, List.setIfInBounds_toArray, List.set_cons_zero, List.set_cons_succ]
    refine wpAnyH_take (i := 11) (v := ?_) rfl (by kernel_rfl) (by kernel_rfl) (by kernel_rfl) (fun _ _ _ h => h) (Or.inl ⟨by kernel_rfl, ?_⟩) hH ?_
    rotate_left
    · intro W hS
      have kc := kept KC.out hS
      have y0 := kept Y0.out hS
      have y1 := kept Y1.out hS
      have y2 := kept Y2.out hS
      have y3 := kept Y3.out hS
      have y4 := kept Y4.out hS
      have y5 := kept Y5.out hS
      have y6 := kept Y6.out hS
      go_simp
      first | done | with_reducible rfl
    simp only [Act.put, List.getElem_toArray, List.getElem_cons_succ, List.getElem_cons_zero, List.setIfInBounds_toArray, List.set_cons_zero, List.set_cons_succ]
    refine wpAnyH_take (i := 12) (v := ?_) rfl (by kernel_rfl) (by kernel_rfl) (by kernel_rfl) (fun _ _ _ h => h) (Or.inl ⟨by kernel_rfl, ?_⟩) hH ?_
    rotate_left
    · intro W hS
      have kc := kept KC.out hS
      have y0 := kept Y0.out hS
      have y1 := kept Y1.out hS
      have y2 := kept Y2.out hS
      have y3 := kept Y3.out hS
      have y4 := kept Y4.out hS
      have y5 := kept Y5.out hS
      have y6 := kept Y6.out hS
      go_simp
      first | done | with_reducible rfl
    simp only [Act.put, List.getElem_toArray, List.getElem_cons_succ, List.getElem_cons_zero, List.setIfInBounds_toArray, List.set_cons_zero, List.set_cons_succ]
    refine wpAnyH_done (by kernel_rfl) ?_ _
    go_wp2_with fail
    go_ret
    exact ⟨rfl, chainP HB6.out hH⟩
end Go.Proofs.YtffenndchmcncaaGreatDoor
