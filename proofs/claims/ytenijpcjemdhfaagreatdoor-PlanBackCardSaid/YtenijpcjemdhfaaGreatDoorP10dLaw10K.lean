/-
  The walk of the statement PlanBack.
-/
import Derived.Test.YtenijpcjemdhfaaGreatDoorP10dLaw10E
import Derived.Test.YtenijpcjemdhfaaGreatDoorP10dSmallT
import Derived.Test.YtenijpcjemdhfaaGreatDoorP10d05
import Derived.Deep.CutRange
namespace Go.Proofs.YtenijpcjemdhfaaGreatDoor
open Go.RowKit Go.Pantry

theorem next_ok {w w' : World} {g : Int} {L : List RuleZ} {C : List SiteZ} {e : Ending} (h : NextPost w g L C e w') (hc : (rightT g (tT L) && rightC C && !(g == 253402300799)) = true) :
    ∃ au nu cu LU va, e = .returned (.tuple #[.agg #[.int .i64 (g + 1), .slice au nu cu], va, .int .i64 0]) ∧ tT LU = nextL g (tT L) C ∧ RulesOwn w' w.heap.size (.slice au nu cu) LU ∧ w'.ownsRow w.heap.size 48 2 va (actsP (L.map (·.1)) C).length (actCells (actsP (L.map (·.1)) C)) := by
  obtain ⟨h1, hb⟩ := h
  rw [hc] at h1
  obtain ⟨v, LU, va, he, ht, ho, hw⟩ := h1
  obtain ⟨ao, c, hv⟩ := ownsRow_formN ho.own
  subst hv
  exact ⟨ao, _, c, LU, va, he, ht, ho, hw⟩
theorem next_sites {g : Int} {L LU : List RuleZ} {C : List SiteZ} (h : tT LU = nextL g (tT L) C) : LU.map (·.1) = C := by
  rw [← tT_map, h, nextL_sites]
/-- a host of the actions: in the table, and in the table there and back -/
theorem back_case {g : Int} {L LU LV : List RuleZ} {C : List SiteZ} {k q : Nat} {u : List UInt8} (hx : (actsP (L.map (·.1)) C)[k]? = some (q, u)) (hu : tT LU = nextL g (tT L) C) (hv : tT LV = nextL (g + 1) (tT LU) (L.map (·.1))) {x y : RuleZ} {ok1 ok2 : Bool}
    (h1 : L.find? (fun x => x.1.host == u) = if ok1 then some x else none) (h2 : LV.find? (fun x => x.1.host == u) = if ok2 then some y else none) :
    (q = 3 ∧ ok2 = false) ∨ (q = 0 ∧ ok2 = true ∧ y.2.2 = x.2.2) ∨ ((q = 1 ∨ q = 2) ∧ ok2 = true ∧ y.2.2 = g + 1 + 1) := by
  obtain ⟨hm, hq⟩ := acts_at hx
  have hm := List.mem_of_getElem? hm
  rw [← tT_map] at hm hq
  have hv2 : (tT LV).find? (fun r => r.1.host == u) = (nextL (g + 1) (nextL g (tT L) C) ((tT L).map (·.1))).find? (fun r => r.1.host == u) := by rw [hv, hu, tT_map]
  rw [tT_find, h2] at hv2
  by_cases h3 : q = 3
  · rw [back_new (by rw [← hq]; exact h3)] at hv2
    cases ok2
    · exact .inl ⟨h3, rfl⟩
    · cases hv2
  · obtain ⟨r, r', e1, e2, e3, e4⟩ := back_there (g := g) hm (by rw [← hq]; exact h3)
    rw [e2] at hv2
    rw [tT_find, h1] at e1
    cases ok2
    · cases hv2
    cases ok1
    · cases e1
    simp only [if_true, Option.map_some, Option.some.injEq] at hv2 e1
    subst hv2 e1
    rw [← hq] at e3 e4
    have hq4 : q < 4 := by rw [hq]; exact kindD_le _ _ _
    by_cases h0 : q = 0
    · exact .inr (.inl ⟨h0, rfl, e3 h0⟩)
    · refine .inr (.inr ⟨by omega, rfl, ?_⟩)
      have := e4 (by omega)
      simp only at this
      omega
set_option maxRecDepth 100000 in
set_option maxHeartbeats 16000000 in
theorem planBack_walk (g : Int) (V : Value) (L : List RuleZ) (VC : Value) (LC : List (SiteZ × Value)) (w : World) (hm : MaxOk w) (ht : Tab10 w) (hT : ReadsR w V L ∧ L.length ≤ maxLen ∧ (∀ y ∈ L, SiteFit y.1 y.2.1 ∧ (Lit.int .i64 y.2.2).wf = true) ∧ (Lit.int .i64 g).wf = true) (hA : ReadsP w VC LC ∧ LC.length ≤ maxLen ∧ ∀ y ∈ LC, SiteFit y.1 y.2) (hz : Reach L) :
    Calls Tryz.prog 8 #[.agg #[.int .i64 g, V], .agg #[VC]] w fun e w' => e = .returned (.bool true) ∧ Below w.heap.size w w' := by
  obtain ⟨hrT, hlT, hfT, -⟩ := hT
  obtain ⟨hrC, hlC, hfC⟩ := hA
  unfold maxLen at hlT hlC
  have hhC : ∀ x ∈ LC, x.1.heads.length ≤ 9223372036854775807 := fun x hx => by
    have := (hfC x hx).2.2.1
    unfold maxLen at this
    omega
  obtain ⟨ao, cap, e1, f1⟩ := hrT.form
  obtain ⟨bo, d, e2, f2⟩ := hrC.form
  obtain ⟨n, hln⟩ : ∃ n, L.length = n := ⟨_, rfl⟩
  obtain ⟨m, hlm⟩ : ∃ n, LC.length = n := ⟨_, rfl⟩
  rw [hln] at e1
  rw [hlm] at e2
  subst e1 e2
  obtain ⟨W, hW⟩ : ∃ W, (w.alloc (.cells #[.int .i64 g, .slice ao n cap] 52)).alloc (.cells #[.slice bo m d] 25) = W := ⟨_, rfl⟩
  have hbW : Below w.heap.size w W := by rw [← hW]; exact chainP (below_alloc _ _) (below_alloc _ _)
  have q1 : rowIs W w.heap.size #[.int .i64 g, .slice ao n cap] 52 := by rw [← hW]; exact (rowIs_new _ _ _).below (below_alloc _ _)
  have q2 : rowIs W (w.heap.size + 1) #[.slice bo m d] 25 := by rw [← hW]; exact rowIs_new_at _ _ _ _ (by simp)
  have RT : Hid (∀ W', Below W.heap.size W W' → rowIs W' w.heap.size #[.int .i64 g, .slice ao n cap] 52) := fun W' h => q1.below h
  have RC4 : Hid (∀ W', Below W.heap.size W W' → rowIs W' (w.heap.size + 1) #[.slice bo m d] 25) := fun W' h => q2.below h
  have HR := hid (And.intro (hrT.below hbW) (hrC.below hbW))
  have HBW := hid hbW
  have HM := hid (And.intro (hm.below hbW) (ht.below hbW))
  have HN := hid (And.intro hln hlm)
  have HFT := hid (And.intro hfT (And.intro hfC hz))
  have AN := hid (anchor10_any W (hm.below hbW) (ht.below hbW))
  have SA := hid (And.intro hlC hhC)
  clear hrT hrC hlT hlC hfT hfC hhC f1 f2 hln hlm hbW q1 q2 hm ht hz
  go_enter Tryz.func8, Tryz.ntmps8
  go_wp2_with fail
  refine AN.out.mono ?_
  rintro e w1 ⟨rfl, hb1⟩
  have ra := RT.out _ hb1
  have HB1 := hid hb1
  clear hb1 hW AN
  go_wp2_with (refine wpList_load_row rfl 52 _ rfl w.heap.size rfl 52 _ (0, 0) _ ra Tryz.underlying52 rfl infoTable ?_)
  refine (smallTable_any g (.slice ao n cap) L w1 (HR.out.1.below HB1.out) HFT.out.2.2).mono ?_
  rintro e w2 ⟨b, rfl, hsm, hb2⟩
  have HSA := hid hsm
  have HB2 := hid (chainP HB1.out hb2)
  clear hsm hb2 ra
  cases b
  · go_wp2_with fail
    go_ret
    exact ⟨rfl, chainP HBW.out HB2.out⟩
  have yb : w2.cell? ⟨w.heap.size + 1, 0, none⟩ = some (.slice bo m d) := (RC4.out _ HB2.out).cell 0
  go_wp2_with fail
  refine (smallSites_any (.slice bo m d) LC w2 (HR.out.2.below HB2.out) SA.out.1 SA.out.2).mono ?_
  rintro e w3 ⟨b, rfl, hsm, hb3⟩
  have HSB := hid hsm
  have HB3 := hid (chainP HB2.out hb3)
  clear hsm hb3 yb
  cases b
  · go_wp2_with fail
    go_ret
    exact ⟨rfl, chainP HBW.out HB3.out⟩
  have HF := hid (And.intro (fewR_fit (HSA.out (by trivial)).1 (HSA.out (by trivial)).2 (fun y hy => (HFT.out.1 y hy).1.1)) (few_fit (HSB.out (by trivial)).1 (HSB.out (by trivial)).2 (fun y hy => (HFT.out.2.1 y hy).1)))
  have HL12 := hid (And.intro (HSA.out (by trivial)).1 (HSB.out (by trivial)).1)
  clear HSA HSB
  have y0 : w3.cell? ⟨w.heap.size, 0, none⟩ = some (.int .i64 g) := (RT.out _ HB3.out).cell 0
  have y1 : w3.cell? ⟨w.heap.size, 1, none⟩ = some (.slice ao n cap) := (RT.out _ HB3.out).cell 1
  obtain ⟨qt, hqt⟩ : ∃ q, rightT g (tT L) = q := ⟨_, rfl⟩
  obtain ⟨qc, hqc⟩ : ∃ q, rightC (LC.map (·.1)) = q := ⟨_, rfl⟩
  have HQ := hid (And.intro hqt hqc)
  clear hqt hqc
  go_wp2_with fail
  refine (tableRight_any g (.slice ao n cap) L w3 (HR.out.1.below HB3.out) HF.out.1 (HM.out.1.below HB3.out) (HM.out.2.below HB3.out)).mono ?_
  rw [HQ.out.1]
  rintro e w4 ⟨rfl, hb4⟩
  have HB4 := hid (chainP HB3.out hb4)
  clear hb4 y0 y1
  cases qt
  · go_wp2_with fail
    go_ret
    exact ⟨rfl, chainP HBW.out HB4.out⟩
  have yb : w4.cell? ⟨w.heap.size + 1, 0, none⟩ = some (.slice bo m d) := (RC4.out _ HB4.out).cell 0
  go_wp2_with fail
  refine (configRight_any (.slice bo m d) LC w4 (HR.out.2.below HB4.out) HF.out.2 (HM.out.1.below HB4.out) (HM.out.2.below HB4.out)).mono ?_
  rw [HQ.out.2]
  rintro e w5 ⟨rfl, hb5⟩
  have HB5 := hid (chainP HB4.out hb5)
  clear hb5 yb
  cases qc
  · go_wp2_with fail
    go_ret
    exact ⟨rfl, chainP HBW.out HB5.out⟩
  have yt : w5.cell? ⟨w.heap.size, 0, none⟩ = some (.int .i64 g) := (RT.out _ HB5.out).cell 0
  by_cases hg36 : (68719476736 : Int) < g
  · have d1 : decide ((68719476736 : Int) < g) = true := decide_eq_true hg36
    go_wp2_with fail
    go_ret
    exact ⟨rfl, chainP HBW.out HB5.out⟩
  have d1 : decide ((68719476736 : Int) < g) = false := decide_eq_false hg36
  have HG := hid (show g ≤ 68719476736 by omega)
  have ra := RT.out _ HB5.out
  have rb := RC4.out _ HB5.out
  clear hg36
  go_wp2_with (first | (refine wpList_load_row rfl 52 _ rfl w.heap.size rfl 52 _ (0, 0) _ ra Tryz.underlying52 rfl infoTable ?_) | (refine wpList_load_row rfl 25 _ rfl (w.heap.size + 1) rfl 25 _ (0, 0) _ rb Tryz.underlying25 rfl infoCfg ?_))
  refine (next_any g (.slice ao n cap) (.slice bo m d) L LC w5 (HR.out.1.below HB5.out) HF.out.1 (HR.out.2.below HB5.out) HF.out.2 (HM.out.1.below HB5.out) (HM.out.2.below HB5.out)).mono ?_
  rintro e w6 hq
  have hb6 := hq.2
  obtain ⟨au, nu, cu, LU, va, rfl, htu, hou, hwa⟩ := next_ok hq (by
    rw [HQ.out.1, HQ.out.2]
    have : (g == 253402300799) = false := by have := HG.out; simp; omega
    rw [this]; rfl)
  obtain ⟨p5, hp5⟩ : ∃ p, w6.heap.size = p := ⟨_, rfl⟩
  obtain ⟨W6, hW6⟩ : ∃ W, w6.alloc (.cells #[.int .i64 (g + 1), .slice au nu cu] 52) = W := ⟨_, rfl⟩
  have hb66 : Below w6.heap.size w6 W6 := by rw [← hW6]; exact below_alloc _ _
  have r5 : rowIs W6 p5 #[.int .i64 (g + 1), .slice au nu cu] 52 := by rw [← hW6, ← hp5]; exact rowIs_new _ _ _
  have R5 : Hid (∀ W', Below W6.heap.size W6 W' → rowIs W' p5 #[.int .i64 (g + 1), .slice au nu cu] 52) := fun W' h => r5.below h
  have HB6 := hid (chainP (chainP HB5.out hb6) hb66)
  have hgl : g < 253402300799 := by have := HG.out; omega
  have hrt : rightT (g + 1) (tT LU) = true := by rw [htu]; exact nextL_right HQ.out.1 HQ.out.2 hgl
  have hrl := RulesOwn.readsR (hou.below hb66)
  have HU := hid (And.intro hrl.1 (And.intro htu ((hwa.readsA).2.below hb66)))
  have HFU := hid (fewR_next hrt hrl.2)
  have HRT := hid hrt
  have HCT := hid (show rightC (L.map (·.1)) = true by have := (rightT_iff.1 HQ.out.1).2.2; rw [tT_map] at this; exact this)
  have HCO := hid (show (rightT (g + 1) (tT LU) && rightC (L.map (·.1)) && !(g + 1 == 253402300799)) = true by
    rw [HRT.out, HCT.out]
    have : (g + 1 == 253402300799) = false := by have := HG.out; simp; omega
    rw [this]; rfl)
  have HW6 := hid (And.intro hW6 hp5)
  clear hq hb6 hb66 hW6 hp5 r5 hgl hrt hrl htu hou hwa ra rb yt d1
  go_upto_region 6 with fail
  change Code.wp _ _ _ _ (w6.alloc (.cells #[.int .i64 (g + 1), .slice au nu cu] 52))
  rw [HW6.out.1, HW6.out.2]
  go_cut [8, 9, 10] from 11 to 56 (fun u8 u9 u10 W' => ∃ (p : Nat) (v vm : Value) (LV : List RuleZ), u8 = .pointer (some ⟨p, 0, none⟩) ∧ u9 = vm ∧ u10 = .int .i64 0 ∧ tT LV = nextL (g + 1) (tT LU) (L.map (·.1)) ∧ Nxt W' p (g + 1 + 1) v LV vm (actsP (LU.map (·.1)) (L.map (·.1))) ∧ Below W6.heap.size W6 W')
  case first =>
    refine wp_region_held_drew (S := fun w' => Below W6.heap.size W6 w') (by kernel_rfl) ((Below.refl _ _).drew) (fun hH => ?_)
    generalize W6.drew = w0 at hH ⊢
    refine wpAnyH_take (i := 0) (v := .agg #[.int .i64 (g + 1), .slice au nu cu]) rfl (by kernel_rfl) (by kernel_rfl) (by kernel_rfl) (fun _ _ _ h => h) (Or.inl ⟨by kernel_rfl, ?_⟩) hH ?_
    · intro W hS
      exact load_gives rfl _ rfl (R5.out _ hS) Tryz.underlying52 rfl infoTable
    simp only [Act.put, List.getElem_toArray, List.getElem_cons_succ, List.getElem_cons_zero, List.setIfInBounds_toArray, List.set_cons_zero, List.set_cons_succ]
    refine wpAnyH_take (i := 1) (v := .agg #[.int .i64 g, .slice ao n cap]) rfl (by kernel_rfl) (by kernel_rfl) (by kernel_rfl) (fun _ _ _ h => h) (Or.inl ⟨by kernel_rfl, ?_⟩) hH ?_
    · intro W hS
      exact load_gives rfl _ rfl (RT.out _ (chainP HB6.out hS)) Tryz.underlying52 rfl infoTable
    simp only [Act.put, List.getElem_toArray, List.getElem_cons_succ, List.getElem_cons_zero, List.setIfInBounds_toArray, List.set_cons_zero, List.set_cons_succ]
    refine wpAnyH_ready (rs := [2, 8]) (by kernel_rfl) (by simp) ?_
    refine AllReadyH.cons rfl (fun K hK => ?_) (AllReadyH.cons rfl (fun K hK => ?_) AllReadyH.nil)
    · go_simp
      refine (tableConfig_any g (.slice ao n cap) L _ (HR.out.1.below (chainP HB6.out hH)) HF.out.1.len HF.out.1.heads).mono ?_
      rintro e x0 ⟨v5, L5, rfl, he5, hr5, hro5, hbx0⟩
      have HL5 := hid (And.intro he5 (And.intro hr5 hro5))
      clear he5 hr5 hro5
      obtain ⟨m0, hm0⟩ : ∃ m : Nat, w0.heap.size = m := ⟨_, rfl⟩
      obtain ⟨n0, hn0⟩ : ∃ n : Nat, x0.heap.size = n := ⟨_, rfl⟩
      have T0 := hid (And.intro hm0 (And.intro hn0 (And.intro hbx0.size hH.size)))
      clear hm0 hn0
      have C0 := hid (Below.refl x0.heap.size x0)
      refine hK.out _ _ (chainP hH hbx0) (fun hH => ?_)
      clear hK K hbx0
      try simp only [Act.put, List.getElem_toArray, List.getElem_cons_succ, List.getElem_cons_zero, List.setIfInBounds_toArray, List.set_cons_zero, List.set_cons_succ]
      refine wpAnyH_ready (rs := [3, 8]) (by kernel_rfl) (by simp) ?_
      refine AllReadyH.cons rfl (fun K hK => ?_) (AllReadyH.cons rfl (fun K hK => ?_) AllReadyH.nil)
      · go_simp
        refine (next_any (g + 1) (.slice au nu cu) v5 LU L5 _ (HU.out.1.below hH) HFU.out (HL5.out.2.1.below C0.out) (few_same HF.out.1 HL5.out.1 HL5.out.2.2) (HM.out.1.below (chainP HB6.out hH)) (HM.out.2.below (chainP HB6.out hH))).mono ?_
        rintro e x1 hq
        have hbx1 := hq.2
        obtain ⟨a2, n2, c2, LV, vm, rfl, ht2, ho2, hm2⟩ := next_ok hq (by rw [HL5.out.1]; exact HCO.out)
        rw [HL5.out.1] at ht2 hm2
        have HK1 := hid (And.intro ht2 (And.intro ho2 hm2))
        clear ht2 ho2 hm2 hq
        obtain ⟨m1, hm1⟩ : ∃ m : Nat, x0.heap.size = m := ⟨_, rfl⟩
        obtain ⟨n1, hn1⟩ : ∃ n : Nat, x1.heap.size = n := ⟨_, rfl⟩
        have T1 := hid (And.intro hm1 (And.intro hn1 (And.intro hbx1.size hH.size)))
        clear hm1 hn1
        have C0 := hid (chainP C0.out hbx1)
        have C1 := hid (Below.refl x1.heap.size x1)
        refine hK.out _ _ (chainP hH hbx1) (fun hH => ?_)
        clear hK K hbx1
        try simp only [Act.put, List.getElem_toArray, List.getElem_cons_succ, List.getElem_cons_zero, List.setIfInBounds_toArray, List.set_cons_zero, List.set_cons_succ]
        refine wpAnyH_take (i := 4) (v := ?_) rfl (by kernel_rfl) (by kernel_rfl) (by kernel_rfl) (fun _ _ _ h => h) (Or.inl ⟨by kernel_rfl, ?_⟩) hH ?_
        rotate_left
        · intro W hS
          go_simp
          first | done | with_reducible rfl
        simp only [Act.put, List.getElem_toArray, List.getElem_cons_succ, List.getElem_cons_zero, List.setIfInBounds_toArray, List.set_cons_zero, List.set_cons_succ]
        refine wpAnyH_take (i := 5) (v := ?_) rfl (by kernel_rfl) (by kernel_rfl) (by kernel_rfl) (fun _ _ _ h => h) (Or.inl ⟨by kernel_rfl, ?_⟩) hH ?_
        rotate_left
        · intro W hS
          go_simp
          first | done | with_reducible rfl
        simp only [Act.put, List.getElem_toArray, List.getElem_cons_succ, List.getElem_cons_zero, List.setIfInBounds_toArray, List.set_cons_zero, List.set_cons_succ]
        refine wpAnyH_take (i := 6) (v := ?_) rfl (by kernel_rfl) (by kernel_rfl) (by kernel_rfl) (fun _ _ _ h => h) (Or.inl ⟨by kernel_rfl, ?_⟩) hH ?_
        rotate_left
        · intro W hS
          go_simp
          first | done | with_reducible rfl
        simp only [Act.put, List.getElem_toArray, List.getElem_cons_succ, List.getElem_cons_zero, List.setIfInBounds_toArray, List.set_cons_zero, List.set_cons_succ]
        refine wpAnyH_take (i := 7) (v := ?_) rfl (by kernel_rfl) (by kernel_rfl) (by kernel_rfl) (fun _ _ _ h => h) (Or.inl ⟨by kernel_rfl, ?_⟩) hH ?_
        rotate_left
        · intro W hS
          go_simp
          first | done | with_reducible rfl
        simp only [Act.put, List.getElem_toArray, List.getElem_cons_succ, List.getElem_cons_zero, List.setIfInBounds_toArray, List.set_cons_zero, List.set_cons_succ]
        refine wpAnyH_ready (rs := [8]) (by kernel_rfl) (by simp) ?_
        refine AllReadyH.cons rfl (fun K hK => ?_) AllReadyH.nil
        obtain ⟨x2, hWx2⟩ : ∃ W, W = x1.alloc (.cells zeroTab 52) := ⟨_, rfl⟩
        have hbx2 : Below x1.heap.size x1 x2 := by rw [hWx2]; exact below_alloc _ _
        obtain ⟨p0, hp0⟩ : ∃ p, x1.heap.size = p := ⟨_, rfl⟩
        have P0 : Hid (rowIs x2 p0 zeroTab 52) := by rw [hWx2, ← hp0]; exact rowIs_new _ _ _
        have B0 := hid (show W6.heap.size ≤ p0 from by have := hH.size; omega)
        go_simp
        rw [← hWx2]
        try rw [hp0]
        have A0_0 := hid (show n0 ≤ p0 from by have := C0.out.size; have := T0.out; omega)
        have A1_0 := hid (show n1 ≤ p0 from by have := C1.out.size; have := T1.out; omega)
        clear hWx2 hp0
        have C0 := hid (chainP C0.out hbx2)
        have C1 := hid (chainP C1.out hbx2)
        refine hK.out _ _ (chainP hH hbx2) (fun hH => ?_)
        clear hK K hbx2
        try simp only [Act.put, List.getElem_toArray, List.getElem_cons_succ, List.getElem_cons_zero, List.setIfInBounds_toArray, List.set_cons_zero, List.set_cons_succ]
        refine wpAnyH_ready (rs := [9]) (by kernel_rfl) (by simp) ?_
        refine AllReadyH.cons rfl (fun K hK => ?_) AllReadyH.nil
        rw [if_pos (by kernel_rfl)]
        refine wp_store_row 52 _ _ rfl p0 #[.int .i64 (g + 1 + 1), .slice a2 n2 c2] rfl rfl 52 zeroTab P0.out infoTable rfl (oneTab _ _ _ _) ?_
        refine hK.out _ _ (below_setRow hH B0.out _) (fun hH => ?_)
        clear hK K
        try simp only [Act.put, List.getElem_toArray, List.getElem_cons_succ, List.getElem_cons_zero, List.setIfInBounds_toArray, List.set_cons_zero, List.set_cons_succ]
        refine wpAnyH_take (i := 10) (v := ?_) rfl (by kernel_rfl) (by kernel_rfl) (by kernel_rfl) (fun _ _ _ h => h) (Or.inl ⟨by kernel_rfl, ?_⟩) hH ?_
        rotate_left
        · intro W hS
          go_simp
          first | done | with_reducible rfl
        simp only [Act.put, List.getElem_toArray, List.getElem_cons_succ, List.getElem_cons_zero, List.setIfInBounds_toArray, List.set_cons_zero, List.set_cons_succ]
        refine wpAnyH_take (i := 11) (v := ?_) rfl (by kernel_rfl) (by kernel_rfl) (by kernel_rfl) (fun _ _ _ h => h) (Or.inl ⟨by kernel_rfl, ?_⟩) hH ?_
        rotate_left
        · intro W hS
          go_simp
          first | done | with_reducible rfl
        simp only [Act.put, List.getElem_toArray, List.getElem_cons_succ, List.getElem_cons_zero, List.setIfInBounds_toArray, List.set_cons_zero, List.set_cons_succ]
        refine wpAnyH_done (by kernel_rfl) ?_ _
        go_wp2_with fail
        go_meet
        case rel => exact ⟨p0, .slice a2 n2 c2, _, LV, rfl, rfl, rfl, HK1.out.1, Nxt.made HK1.out.2.1 HK1.out.2.2 C1.out P0.out (by have h1 := T1.out; have h2 := A1_0.out; omega), hH⟩
      · obtain ⟨x1, hWx1⟩ : ∃ W, W = x0.alloc (.cells zeroTab 52) := ⟨_, rfl⟩
        have hbx1 : Below x0.heap.size x0 x1 := by rw [hWx1]; exact below_alloc _ _
        obtain ⟨p0, hp0⟩ : ∃ p, x0.heap.size = p := ⟨_, rfl⟩
        have P0 : Hid (rowIs x1 p0 zeroTab 52) := by rw [hWx1, ← hp0]; exact rowIs_new _ _ _
        have B0 := hid (show W6.heap.size ≤ p0 from by have := hH.size; omega)
        go_simp
        rw [← hWx1]
        try rw [hp0]
        have A0_0 := hid (show n0 ≤ p0 from by have := C0.out.size; have := T0.out; omega)
        clear hWx1 hp0
        have C0 := hid (chainP C0.out hbx1)
        refine hK.out _ _ (chainP hH hbx1) (fun hH => ?_)
        clear hK K hbx1
        try simp only [Act.put, List.getElem_toArray, List.getElem_cons_succ, List.getElem_cons_zero, List.setIfInBounds_toArray, List.set_cons_zero, List.set_cons_succ]
        refine wpAnyH_ready (rs := [3]) (by kernel_rfl) (by simp) ?_
        refine AllReadyH.cons rfl (fun K hK => ?_) AllReadyH.nil
        go_simp
        refine (next_any (g + 1) (.slice au nu cu) v5 LU L5 _ (HU.out.1.below hH) HFU.out (HL5.out.2.1.below C0.out) (few_same HF.out.1 HL5.out.1 HL5.out.2.2) (HM.out.1.below (chainP HB6.out hH)) (HM.out.2.below (chainP HB6.out hH))).mono ?_
        rintro e x2 hq
        have hbx2 := hq.2
        obtain ⟨a2, n2, c2, LV, vm, rfl, ht2, ho2, hm2⟩ := next_ok hq (by rw [HL5.out.1]; exact HCO.out)
        rw [HL5.out.1] at ht2 hm2
        have HK1 := hid (And.intro ht2 (And.intro ho2 hm2))
        clear ht2 ho2 hm2 hq
        obtain ⟨m1, hm1⟩ : ∃ m : Nat, x1.heap.size = m := ⟨_, rfl⟩
        obtain ⟨n1, hn1⟩ : ∃ n : Nat, x2.heap.size = n := ⟨_, rfl⟩
        have T1 := hid (And.intro hm1 (And.intro hn1 (And.intro hbx2.size hH.size)))
        clear hm1 hn1
        have A1_0 := hid (show p0 < m1 from by have := P0.out.lt; have := T1.out; omega)
        have P0 := hid (P0.out.below hbx2)
        have C0 := hid (chainP C0.out hbx2)
        have C1 := hid (Below.refl x2.heap.size x2)
        refine hK.out _ _ (chainP hH hbx2) (fun hH => ?_)
        clear hK K hbx2
        try simp only [Act.put, List.getElem_toArray, List.getElem_cons_succ, List.getElem_cons_zero, List.setIfInBounds_toArray, List.set_cons_zero, List.set_cons_succ]
        refine wpAnyH_take (i := 4) (v := ?_) rfl (by kernel_rfl) (by kernel_rfl) (by kernel_rfl) (fun _ _ _ h => h) (Or.inl ⟨by kernel_rfl, ?_⟩) hH ?_
        rotate_left
        · intro W hS
          go_simp
          first | done | with_reducible rfl
        simp only [Act.put, List.getElem_toArray, List.getElem_cons_succ, List.getElem_cons_zero, List.setIfInBounds_toArray, List.set_cons_zero, List.set_cons_succ]
        refine wpAnyH_take (i := 5) (v := ?_) rfl (by kernel_rfl) (by kernel_rfl) (by kernel_rfl) (fun _ _ _ h => h) (Or.inl ⟨by kernel_rfl, ?_⟩) hH ?_
        rotate_left
        · intro W hS
          go_simp
          first | done | with_reducible rfl
        simp only [Act.put, List.getElem_toArray, List.getElem_cons_succ, List.getElem_cons_zero, List.setIfInBounds_toArray, List.set_cons_zero, List.set_cons_succ]
        refine wpAnyH_take (i := 6) (v := ?_) rfl (by kernel_rfl) (by kernel_rfl) (by kernel_rfl) (fun _ _ _ h => h) (Or.inl ⟨by kernel_rfl, ?_⟩) hH ?_
        rotate_left
        · intro W hS
          go_simp
          first | done | with_reducible rfl
        simp only [Act.put, List.getElem_toArray, List.getElem_cons_succ, List.getElem_cons_zero, List.setIfInBounds_toArray, List.set_cons_zero, List.set_cons_succ]
        refine wpAnyH_take (i := 7) (v := ?_) rfl (by kernel_rfl) (by kernel_rfl) (by kernel_rfl) (fun _ _ _ h => h) (Or.inl ⟨by kernel_rfl, ?_⟩) hH ?_
        rotate_left
        · intro W hS
          go_simp
          first | done | with_reducible rfl
        simp only [Act.put, List.getElem_toArray, List.getElem_cons_succ, List.getElem_cons_zero, List.setIfInBounds_toArray, List.set_cons_zero, List.set_cons_succ]
        refine wpAnyH_ready (rs := [9]) (by kernel_rfl) (by simp) ?_
        refine AllReadyH.cons rfl (fun K hK => ?_) AllReadyH.nil
        rw [if_pos (by kernel_rfl)]
        refine wp_store_row 52 _ _ rfl p0 #[.int .i64 (g + 1 + 1), .slice a2 n2 c2] rfl rfl 52 zeroTab P0.out infoTable rfl (oneTab _ _ _ _) ?_
        refine hK.out _ _ (below_setRow hH B0.out _) (fun hH => ?_)
        clear hK K
        try simp only [Act.put, List.getElem_toArray, List.getElem_cons_succ, List.getElem_cons_zero, List.setIfInBounds_toArray, List.set_cons_zero, List.set_cons_succ]
        refine wpAnyH_take (i := 10) (v := ?_) rfl (by kernel_rfl) (by kernel_rfl) (by kernel_rfl) (fun _ _ _ h => h) (Or.inl ⟨by kernel_rfl, ?_⟩) hH ?_
        rotate_left
        · intro W hS
          go_simp
          first | done | with_reducible rfl
        simp only [Act.put, List.getElem_toArray, List.getElem_cons_succ, List.getElem_cons_zero, List.setIfInBounds_toArray, List.set_cons_zero, List.set_cons_succ]
        refine wpAnyH_take (i := 11) (v := ?_) rfl (by kernel_rfl) (by kernel_rfl) (by kernel_rfl) (fun _ _ _ h => h) (Or.inl ⟨by kernel_rfl, ?_⟩) hH ?_
        rotate_left
        · intro W hS
          go_simp
          first | done | with_reducible rfl
        simp only [Act.put, List.getElem_toArray, List.getElem_cons_succ, List.getElem_cons_zero, List.setIfInBounds_toArray, List.set_cons_zero, List.set_cons_succ]
        refine wpAnyH_done (by kernel_rfl) ?_ _
        go_wp2_with fail
        go_meet
        case rel => exact ⟨p0, .slice a2 n2 c2, _, LV, rfl, rfl, rfl, HK1.out.1, Nxt.made HK1.out.2.1 HK1.out.2.2 C1.out P0.out (by have h1 := T1.out; have h2 := A1_0.out; omega), hH⟩
    · obtain ⟨x0, hWx0⟩ : ∃ W, W = w0.alloc (.cells zeroTab 52) := ⟨_, rfl⟩
      have hbx0 : Below w0.heap.size w0 x0 := by rw [hWx0]; exact below_alloc _ _
      obtain ⟨p0, hp0⟩ : ∃ p, w0.heap.size = p := ⟨_, rfl⟩
      have P0 : Hid (rowIs x0 p0 zeroTab 52) := by rw [hWx0, ← hp0]; exact rowIs_new _ _ _
      have B0 := hid (show W6.heap.size ≤ p0 from by have := hH.size; omega)
      go_simp
      rw [← hWx0]
      try rw [hp0]
      clear hWx0 hp0
      refine hK.out _ _ (chainP hH hbx0) (fun hH => ?_)
      clear hK K hbx0
      try simp only [Act.put, List.getElem_toArray, List.getElem_cons_succ, List.getElem_cons_zero, List.setIfInBounds_toArray, List.set_cons_zero, List.set_cons_succ]
      refine wpAnyH_ready (rs := [2]) (by kernel_rfl) (by simp) ?_
      refine AllReadyH.cons rfl (fun K hK => ?_) AllReadyH.nil
      go_simp
      refine (tableConfig_any g (.slice ao n cap) L _ (HR.out.1.below (chainP HB6.out hH)) HF.out.1.len HF.out.1.heads).mono ?_
      rintro e x1 ⟨v5, L5, rfl, he5, hr5, hro5, hbx1⟩
      have HL5 := hid (And.intro he5 (And.intro hr5 hro5))
      clear he5 hr5 hro5
      obtain ⟨m0, hm0⟩ : ∃ m : Nat, x0.heap.size = m := ⟨_, rfl⟩
      obtain ⟨n0, hn0⟩ : ∃ n : Nat, x1.heap.size = n := ⟨_, rfl⟩
      have T0 := hid (And.intro hm0 (And.intro hn0 (And.intro hbx1.size hH.size)))
      clear hm0 hn0
      have A0_0 := hid (show p0 < m0 from by have := P0.out.lt; have := T0.out; omega)
      have P0 := hid (P0.out.below hbx1)
      have C0 := hid (Below.refl x1.heap.size x1)
      refine hK.out _ _ (chainP hH hbx1) (fun hH => ?_)
      clear hK K hbx1
      try simp only [Act.put, List.getElem_toArray, List.getElem_cons_succ, List.getElem_cons_zero, List.setIfInBounds_toArray, List.set_cons_zero, List.set_cons_succ]
      refine wpAnyH_ready (rs := [3]) (by kernel_rfl) (by simp) ?_
      refine AllReadyH.cons rfl (fun K hK => ?_) AllReadyH.nil
      go_simp
      refine (next_any (g + 1) (.slice au nu cu) v5 LU L5 _ (HU.out.1.below hH) HFU.out (HL5.out.2.1.below C0.out) (few_same HF.out.1 HL5.out.1 HL5.out.2.2) (HM.out.1.below (chainP HB6.out hH)) (HM.out.2.below (chainP HB6.out hH))).mono ?_
      rintro e x2 hq
      have hbx2 := hq.2
      obtain ⟨a2, n2, c2, LV, vm, rfl, ht2, ho2, hm2⟩ := next_ok hq (by rw [HL5.out.1]; exact HCO.out)
      rw [HL5.out.1] at ht2 hm2
      have HK1 := hid (And.intro ht2 (And.intro ho2 hm2))
      clear ht2 ho2 hm2 hq
      obtain ⟨m1, hm1⟩ : ∃ m : Nat, x1.heap.size = m := ⟨_, rfl⟩
      obtain ⟨n1, hn1⟩ : ∃ n : Nat, x2.heap.size = n := ⟨_, rfl⟩
      have T1 := hid (And.intro hm1 (And.intro hn1 (And.intro hbx2.size hH.size)))
      clear hm1 hn1
      have A1_0 := hid (show p0 < m1 from by have := P0.out.lt; have := T1.out; omega)
      have P0 := hid (P0.out.below hbx2)
      have C0 := hid (chainP C0.out hbx2)
      have C1 := hid (Below.refl x2.heap.size x2)
      refine hK.out _ _ (chainP hH hbx2) (fun hH => ?_)
      clear hK K hbx2
      try simp only [Act.put, List.getElem_toArray, List.getElem_cons_succ, List.getElem_cons_zero, List.setIfInBounds_toArray, List.set_cons_zero, List.set_cons_succ]
      refine wpAnyH_take (i := 4) (v := ?_) rfl (by kernel_rfl) (by kernel_rfl) (by kernel_rfl) (fun _ _ _ h => h) (Or.inl ⟨by kernel_rfl, ?_⟩) hH ?_
      rotate_left
      · intro W hS
        go_simp
        first | done | with_reducible rfl
      simp only [Act.put, List.getElem_toArray, List.getElem_cons_succ, List.getElem_cons_zero, List.setIfInBounds_toArray, List.set_cons_zero, List.set_cons_succ]
      refine wpAnyH_take (i := 5) (v := ?_) rfl (by kernel_rfl) (by kernel_rfl) (by kernel_rfl) (fun _ _ _ h => h) (Or.inl ⟨by kernel_rfl, ?_⟩) hH ?_
      rotate_left
      · intro W hS
        go_simp
        first | done | with_reducible rfl
      simp only [Act.put, List.getElem_toArray, List.getElem_cons_succ, List.getElem_cons_zero, List.setIfInBounds_toArray, List.set_cons_zero, List.set_cons_succ]
      refine wpAnyH_take (i := 6) (v := ?_) rfl (by kernel_rfl) (by kernel_rfl) (by kernel_rfl) (fun _ _ _ h => h) (Or.inl ⟨by kernel_rfl, ?_⟩) hH ?_
      rotate_left
      · intro W hS
        go_simp
        first | done | with_reducible rfl
      simp only [Act.put, List.getElem_toArray, List.getElem_cons_succ, List.getElem_cons_zero, List.setIfInBounds_toArray, List.set_cons_zero, List.set_cons_succ]
      refine wpAnyH_take (i := 7) (v := ?_) rfl (by kernel_rfl) (by kernel_rfl) (by kernel_rfl) (fun _ _ _ h => h) (Or.inl ⟨by kernel_rfl, ?_⟩) hH ?_
      rotate_left
      · intro W hS
        go_simp
        first | done | with_reducible rfl
      simp only [Act.put, List.getElem_toArray, List.getElem_cons_succ, List.getElem_cons_zero, List.setIfInBounds_toArray, List.set_cons_zero, List.set_cons_succ]
      refine wpAnyH_ready (rs := [9]) (by kernel_rfl) (by simp) ?_
      refine AllReadyH.cons rfl (fun K hK => ?_) AllReadyH.nil
      rw [if_pos (by kernel_rfl)]
      refine wp_store_row 52 _ _ rfl p0 #[.int .i64 (g + 1 + 1), .slice a2 n2 c2] rfl rfl 52 zeroTab P0.out infoTable rfl (oneTab _ _ _ _) ?_
      refine hK.out _ _ (below_setRow hH B0.out _) (fun hH => ?_)
      clear hK K
      try simp only [Act.put, List.getElem_toArray, List.getElem_cons_succ, List.getElem_cons_zero, List.setIfInBounds_toArray, List.set_cons_zero, List.set_cons_succ]
      refine wpAnyH_take (i := 10) (v := ?_) rfl (by kernel_rfl) (by kernel_rfl) (by kernel_rfl) (fun _ _ _ h => h) (Or.inl ⟨by kernel_rfl, ?_⟩) hH ?_
      rotate_left
      · intro W hS
        go_simp
        first | done | with_reducible rfl
      simp only [Act.put, List.getElem_toArray, List.getElem_cons_succ, List.getElem_cons_zero, List.setIfInBounds_toArray, List.set_cons_zero, List.set_cons_succ]
      refine wpAnyH_take (i := 11) (v := ?_) rfl (by kernel_rfl) (by kernel_rfl) (by kernel_rfl) (fun _ _ _ h => h) (Or.inl ⟨by kernel_rfl, ?_⟩) hH ?_
      rotate_left
      · intro W hS
        go_simp
        first | done | with_reducible rfl
      simp only [Act.put, List.getElem_toArray, List.getElem_cons_succ, List.getElem_cons_zero, List.setIfInBounds_toArray, List.set_cons_zero, List.set_cons_succ]
      refine wpAnyH_done (by kernel_rfl) ?_ _
      go_wp2_with fail
      go_meet
      case rel => exact ⟨p0, .slice a2 n2 c2, _, LV, rfl, rfl, rfl, HK1.out.1, Nxt.made HK1.out.2.1 HK1.out.2.2 C1.out P0.out (by have h1 := T1.out; have h2 := A1_0.out; omega), hH⟩
  case rest =>
  rename World => w8
  obtain ⟨p8, v2, vm, LV, rfl, rfl, rfl, htv, hn, hb8⟩ := hcut
  obtain ⟨a2, c2, e2⟩ := ownsRow_formN hn.rules.own
  obtain ⟨n2, hn2⟩ : ∃ k, LV.length = k := ⟨_, rfl⟩
  rw [hn2] at e2
  subst e2
  have hLV := next_sites htv
  have hLU := next_sites HU.out.2.1
  have hrv := hn.rules.readsR
  have hrt2 : rightT (g + 1 + 1) (tT LV) = true := by rw [htv]; exact nextL_right HRT.out HCT.out (by have := HG.out; omega)
  have R8 : Hid (∀ W', Below w8.heap.size w8 W' → rowIs W' p8 #[.int .i64 (g + 1 + 1), .slice a2 n2 c2] 52) := fun W' h => hn.row.below h
  have HV := hid (And.intro hrv.1 htv)
  have HFV := hid (fewR_next hrt2 hrv.2)
  have HLV := hid hLV
  have HB8 := hid (chainP HB6.out hb8)
  have hma := (hn.acts.readsA).2
  have hla := HU.out.2.2.below hb8
  rw [hLU] at hma
  obtain ⟨am, cm, em⟩ := hma.form
  obtain ⟨al, cl, el⟩ := hla.form
  have hlen : (actsP (LC.map (·.1)) (L.map (·.1))).length = (actsP (L.map (·.1)) (LC.map (·.1))).length := by rw [actsP_len, actsP_len, hostsP_comm]
  rw [hlen] at em
  have hk24 : (actsP (L.map (·.1)) (LC.map (·.1))).length ≤ 24 := by
    have h1 := actsP_len (L.map (·.1)) (LC.map (·.1))
    have h2 := hostsP_len_le (L.map (·.1)) (LC.map (·.1))
    have h3 := HL12.out
    rw [List.length_map, List.length_map] at h2
    omega
  obtain ⟨k7, hk7⟩ : ∃ k, (actsP (L.map (·.1)) (LC.map (·.1))).length = k := ⟨_, rfl⟩
  rw [hk7] at em el hk24
  subst em el
  have HK7 := hid (And.intro hk7 hk24)
  have HLA := hid hla
  have zk : ((k7 : Int) != (k7 : Int)) = false := by simp
  clear htv hn hn2 hLV hLU hrv hrt2 hb8 hma hla hlen hk7 hk24
  go_upto_region 7 with fail
  refine wp_region_held_drew (S := fun w' => Below w8.heap.size w8 w') (by kernel_rfl) ((Below.refl _ _).drew) (fun hH => ?_)
  generalize w8.drew = w9 at hH ⊢
  refine wpAnyH_take (i := 0) (v := ?_) rfl (by kernel_rfl) (by kernel_rfl) (by kernel_rfl) (fun _ _ _ h => h) (Or.inl ⟨by kernel_rfl, ?_⟩) hH ?_
  rotate_left
  · intro W hS
    go_simp
    first | done | with_reducible rfl
  simp only [Act.put, List.getElem_toArray, List.getElem_cons_succ, List.getElem_cons_zero, List.setIfInBounds_toArray, List.set_cons_zero, List.set_cons_succ]
  refine wpAnyH_take (i := 1) (v := ?_) rfl (by kernel_rfl) (by kernel_rfl) (by kernel_rfl) (fun _ _ _ h => h) (Or.inl ⟨by kernel_rfl, ?_⟩) hH ?_
  rotate_left
  · intro W hS
    go_simp
    first | done | with_reducible rfl
  simp only [Act.put, List.getElem_toArray, List.getElem_cons_succ, List.getElem_cons_zero, List.setIfInBounds_toArray, List.set_cons_zero, List.set_cons_succ]
  refine wpAnyH_take (i := 2) (v := ?_) rfl (by kernel_rfl) (by kernel_rfl) (by kernel_rfl) (fun _ _ _ h => h) (Or.inl ⟨by kernel_rfl, ?_⟩) hH ?_
  rotate_left
  · intro W hS
    go_simp
    first | done | with_reducible rfl
  simp only [Act.put, List.getElem_toArray, List.getElem_cons_succ, List.getElem_cons_zero, List.setIfInBounds_toArray, List.set_cons_zero, List.set_cons_succ]
  refine wpAnyH_take (i := 3) (v := ?_) rfl (by kernel_rfl) (by kernel_rfl) (by kernel_rfl) (fun _ _ _ h => h) (Or.inl ⟨by kernel_rfl, ?_⟩) hH ?_
  rotate_left
  · intro W hS
    go_simp
    first | done | with_reducible rfl
  simp only [Act.put, List.getElem_toArray, List.getElem_cons_succ, List.getElem_cons_zero, List.setIfInBounds_toArray, List.set_cons_zero, List.set_cons_succ]
  refine wpAnyH_take (i := 4) (v := ?_) rfl (by kernel_rfl) (by kernel_rfl) (by kernel_rfl) (fun _ _ _ h => h) (Or.inl ⟨by kernel_rfl, ?_⟩) hH ?_
  rotate_left
  · intro W hS
    go_simp
    first | done | with_reducible rfl
  simp only [Act.put, List.getElem_toArray, List.getElem_cons_succ, List.getElem_cons_zero, List.setIfInBounds_toArray, List.set_cons_zero, List.set_cons_succ]
  refine wpAnyH_take (i := 5) (v := ?_) rfl (by kernel_rfl) (by kernel_rfl) (by kernel_rfl) (fun _ _ _ h => h) (Or.inl ⟨by kernel_rfl, ?_⟩) hH ?_
  rotate_left
  · intro W hS
    go_simp
    first | done | with_reducible rfl
  simp only [Act.put, List.getElem_toArray, List.getElem_cons_succ, List.getElem_cons_zero, List.setIfInBounds_toArray, List.set_cons_zero, List.set_cons_succ]
  refine wpAnyH_take (i := 6) (v := ?_) rfl (by kernel_rfl) (by kernel_rfl) (by kernel_rfl) (fun _ _ _ h => h) (Or.inl ⟨by kernel_rfl, ?_⟩) hH ?_
  rotate_left
  · intro W hS
    go_simp
    first | done | with_reducible rfl
  simp only [Act.put, List.getElem_toArray, List.getElem_cons_succ, List.getElem_cons_zero, List.setIfInBounds_toArray, List.set_cons_zero, List.set_cons_succ]
  refine wpAnyH_take (i := 7) (v := ?_) rfl (by kernel_rfl) (by kernel_rfl) (by kernel_rfl) (fun _ _ _ h => h) (Or.inl ⟨by kernel_rfl, ?_⟩) hH ?_
  rotate_left
  · intro W hS
    go_simp
    first | done | with_reducible rfl
  simp only [Act.put, List.getElem_toArray, List.getElem_cons_succ, List.getElem_cons_zero, List.setIfInBounds_toArray, List.set_cons_zero, List.set_cons_succ]
  refine wpAnyH_take (i := 8) (v := ?_) rfl (by kernel_rfl) (by kernel_rfl) (by kernel_rfl) (fun _ _ _ h => h) (Or.inl ⟨by kernel_rfl, ?_⟩) hH ?_
  rotate_left
  · intro W hS
    go_simp
    first | done | with_reducible rfl
  simp only [Act.put, List.getElem_toArray, List.getElem_cons_succ, List.getElem_cons_zero, List.setIfInBounds_toArray, List.set_cons_zero, List.set_cons_succ]
  refine wpAnyH_take (i := 9) (v := ?_) rfl (by kernel_rfl) (by kernel_rfl) (by kernel_rfl) (fun _ _ _ h => h) (Or.inl ⟨by kernel_rfl, ?_⟩) hH ?_
  rotate_left
  · intro W hS
    go_simp
    first | done | with_reducible rfl
  simp only [Act.put, List.getElem_toArray, List.getElem_cons_succ, List.getElem_cons_zero, List.setIfInBounds_toArray, List.set_cons_zero, List.set_cons_succ]
  refine wpAnyH_take (i := 10) (v := ?_) rfl (by kernel_rfl) (by kernel_rfl) (by kernel_rfl) (fun _ _ _ h => h) (Or.inl ⟨by kernel_rfl, ?_⟩) hH ?_
  rotate_left
  · intro W hS
    go_simp
    first | done | with_reducible rfl
  simp only [Act.put, List.getElem_toArray, List.getElem_cons_succ, List.getElem_cons_zero, List.setIfInBounds_toArray, List.set_cons_zero, List.set_cons_succ]
  refine wpAnyH_take (i := 11) (v := ?_) rfl (by kernel_rfl) (by kernel_rfl) (by kernel_rfl) (fun _ _ _ h => h) (Or.inl ⟨by kernel_rfl, ?_⟩) hH ?_
  rotate_left
  · intro W hS
    go_simp
    first | done | with_reducible rfl
  simp only [Act.put, List.getElem_toArray, List.getElem_cons_succ, List.getElem_cons_zero, List.setIfInBounds_toArray, List.set_cons_zero, List.set_cons_succ]
  refine wpAnyH_take (i := 12) (v := ?_) rfl (by kernel_rfl) (by kernel_rfl) (by kernel_rfl) (fun _ _ _ h => h) (Or.inl ⟨by kernel_rfl, ?_⟩) hH ?_
  rotate_left
  · intro W hS
    go_simp
    first | done | with_reducible rfl
  simp only [Act.put, List.getElem_toArray, List.getElem_cons_succ, List.getElem_cons_zero, List.setIfInBounds_toArray, List.set_cons_zero, List.set_cons_succ]
  refine wpAnyH_take (i := 13) (v := ?_) rfl (by kernel_rfl) (by kernel_rfl) (by kernel_rfl) (fun _ _ _ h => h) (Or.inl ⟨by kernel_rfl, ?_⟩) hH ?_
  rotate_left
  · intro W hS
    go_simp
    first | done | with_reducible rfl
  simp only [Act.put, List.getElem_toArray, List.getElem_cons_succ, List.getElem_cons_zero, List.setIfInBounds_toArray, List.set_cons_zero, List.set_cons_succ]
  refine wpAnyH_take (i := 14) (v := .agg #[.int .i64 (g + 1 + 1), .slice a2 n2 c2]) rfl (by kernel_rfl) (by kernel_rfl) (by kernel_rfl) (fun _ _ _ h => h) (Or.inl ⟨by kernel_rfl, ?_⟩) hH ?_
  · intro W hS
    exact load_gives rfl _ rfl (R8.out _ hS) Tryz.underlying52 rfl infoTable
  simp only [Act.put, List.getElem_toArray, List.getElem_cons_succ, List.getElem_cons_zero, List.setIfInBounds_toArray, List.set_cons_zero, List.set_cons_succ]
  refine wpAnyH_take (i := 17) (v := .agg #[.int .i64 g, .slice ao n cap]) rfl (by kernel_rfl) (by kernel_rfl) (by kernel_rfl) (fun _ _ _ h => h) (Or.inl ⟨by kernel_rfl, ?_⟩) hH ?_
  · intro W hS
    exact load_gives rfl _ rfl (RT.out _ (chainP HB8.out hS)) Tryz.underlying52 rfl infoTable
  simp only [Act.put, List.getElem_toArray, List.getElem_cons_succ, List.getElem_cons_zero, List.setIfInBounds_toArray, List.set_cons_zero, List.set_cons_succ]
  refine wpAnyH_ready (rs := [15]) (by kernel_rfl) (by simp) ?_
  refine AllReadyH.cons rfl (fun K hK => ?_) AllReadyH.nil
  go_simp
  refine (tableConfig_any (g + 1 + 1) (.slice a2 n2 c2) LV _ (HV.out.1.below hH) HFV.out.len HFV.out.heads).mono ?_
  rintro e x15 ⟨v15, L15, rfl, he15, hr15, hro15, hbx15⟩
  have H15 := hid (And.intro he15 (And.intro hr15 hro15))
  clear he15 hr15 hro15
  refine hK.out _ _ (chainP hH hbx15) (fun hH => ?_)
  clear hK K
  try simp only [Act.put, List.getElem_toArray, List.getElem_cons_succ, List.getElem_cons_zero, List.setIfInBounds_toArray, List.set_cons_zero, List.set_cons_succ]
  refine wpAnyH_ready (rs := [16]) (by kernel_rfl) (by simp) ?_
  refine AllReadyH.cons rfl (fun K hK => ?_) AllReadyH.nil
  go_simp
  refine (madeConfig_any v15 L15 _ H15.out.2.1 (few_same HFV.out H15.out.1 H15.out.2.2).len).mono ?_
  rintro e x16 ⟨v16, rfl, hr16, hbx16⟩
  have H16 := hid hr16
  clear hr16
  refine hK.out _ _ (chainP hH hbx16) (fun hH => ?_)
  clear hK K
  try simp only [Act.put, List.getElem_toArray, List.getElem_cons_succ, List.getElem_cons_zero, List.setIfInBounds_toArray, List.set_cons_zero, List.set_cons_succ]
  refine wpAnyH_ready (rs := [18]) (by kernel_rfl) (by simp) ?_
  refine AllReadyH.cons rfl (fun K hK => ?_) AllReadyH.nil
  go_simp
  refine (tableConfig_any g (.slice ao n cap) L _ (HR.out.1.below (chainP HB8.out hH)) HF.out.1.len HF.out.1.heads).mono ?_
  rintro e x18 ⟨v18, L18, rfl, he18, hr18, hro18, hbx18⟩
  have H18 := hid (And.intro he18 (And.intro hr18 hro18))
  have H16b := hid (H16.out.below hbx18)
  clear he18 hr18 hro18
  refine hK.out _ _ (chainP hH hbx18) (fun hH => ?_)
  clear hK K
  try simp only [Act.put, List.getElem_toArray, List.getElem_cons_succ, List.getElem_cons_zero, List.setIfInBounds_toArray, List.set_cons_zero, List.set_cons_succ]
  refine wpAnyH_ready (rs := [19]) (by kernel_rfl) (by simp) ?_
  refine AllReadyH.cons rfl (fun K hK => ?_) AllReadyH.nil
  go_simp
  refine (madeConfig_any v18 L18 _ H18.out.2.1 (few_same HF.out.1 H18.out.1 H18.out.2.2).len).mono ?_
  rintro e x19 ⟨v19, rfl, hr19, hbx19⟩
  have H19 := hid hr19
  have H16c := hid (H16b.out.below hbx19)
  clear hr19
  refine hK.out _ _ (chainP hH hbx19) (fun hH => ?_)
  clear hK K
  try simp only [Act.put, List.getElem_toArray, List.getElem_cons_succ, List.getElem_cons_zero, List.setIfInBounds_toArray, List.set_cons_zero, List.set_cons_succ]
  refine wpAnyH_ready (rs := [20]) (by kernel_rfl) (by simp) ?_
  refine AllReadyH.cons rfl (fun K hK => ?_) AllReadyH.nil
  go_simp
  refine (same_eq v16 v19 L15 L18 _ H16c.out H19.out (by rw [H15.out.1, H18.out.1]; exact HLV.out) (few_same HFV.out H15.out.1 H15.out.2.2).len (few_same HFV.out H15.out.1 H15.out.2.2).heads).mono ?_
  rintro e x20 ⟨rfl, hbx20⟩
  refine hK.out _ _ (chainP hH hbx20) (fun hH => ?_)
  clear hK K
  try simp only [Act.put, List.getElem_toArray, List.getElem_cons_succ, List.getElem_cons_zero, List.setIfInBounds_toArray, List.set_cons_zero, List.set_cons_succ]
  refine wpAnyH_take (i := 21) (v := ?_) rfl (by kernel_rfl) (by kernel_rfl) (by kernel_rfl) (fun _ _ _ h => h) (Or.inl ⟨by kernel_rfl, ?_⟩) hH ?_
  rotate_left
  · intro W hS
    go_simp
    first | done | with_reducible rfl
  simp only [Act.put, List.getElem_toArray, List.getElem_cons_succ, List.getElem_cons_zero, List.setIfInBounds_toArray, List.set_cons_zero, List.set_cons_succ]
  refine wpAnyH_take (i := 22) (v := ?_) rfl (by kernel_rfl) (by kernel_rfl) (by kernel_rfl) (fun _ _ _ h => h) (Or.inl ⟨by kernel_rfl, ?_⟩) hH ?_
  rotate_left
  · intro W hS
    go_simp
    first | done | with_reducible rfl
  simp only [Act.put, List.getElem_toArray, List.getElem_cons_succ, List.getElem_cons_zero, List.setIfInBounds_toArray, List.set_cons_zero, List.set_cons_succ]
  refine wpAnyH_done (by kernel_rfl) ?_ _
  have HB9 := hid hH
  clear hH zk
  go_wp2_with fail
  go_loopw [82] (fun z wr => ∃ (k : Nat), z = .int .i64 (k : Int) ∧ k ≤ k7 ∧ Below w8.heap.size w8 wr) (fun z _ => k7 - (intOf z).toNat)
  case atStart => exact ⟨0, rfl, Nat.zero_le _, HB9.out⟩
  case round =>
    obtain ⟨k, rfl, hk, hb⟩ := hrel
    have HBR := hid hb
    by_cases hlt : k < k7
    · obtain ⟨⟨q, u⟩, hx⟩ : ∃ x, (actsP (L.map (·.1)) (LC.map (·.1)))[k]? = some x := by
        have := HK7.out.1
        exact ⟨_, List.getElem?_eq_getElem (by omega)⟩
      obtain ⟨b1, o1, g1, i1, j1⟩ := (HLA.out.below hb).at_ hx
      subst g1
      obtain ⟨q1, hq1⟩ : ∃ p, o1 + k * 2 = p := ⟨_, rfl⟩
      rw [hq1] at i1 j1
      simp only at i1 j1
      have hkI : (k : Int) < (k7 : Int) := by omega
      have hk0 : (0 : Int) ≤ (k : Int) := by omega
      have hkw : IntKind.i64.wrap ((k : Int) + 1) = (k : Int) + 1 := IntWalk.i64_in _ (by have := HK7.out.2; omega)
      obtain ⟨p12, hp12⟩ : ∃ p, wr.heap.size = p := ⟨_, rfl⟩
      obtain ⟨W12, hW12⟩ : ∃ W, wr.alloc (.cells #[.int .i64 (q : Int), strV u] 48) = W := ⟨_, rfl⟩
      have hb12 : Below wr.heap.size wr W12 := by rw [← hW12]; exact below_alloc _ _
      have r12 : rowIs W12 p12 #[.int .i64 (q : Int), strV u] 48 := by rw [← hW12, ← hp12]; exact rowIs_new _ _ _
      have R12 : Hid (∀ W', Below W12.heap.size W12 W' → rowIs W' p12 #[.int .i64 (q : Int), strV u] 48) := fun W' h => r12.below h
      have HB12 := hid (chainP hb hb12)
      have HX := hid hx
      have HW12 := hid (And.intro hW12 hp12)
      clear hb hx hb12 r12 hW12 hp12
      go_upto_region 12 with fail
      change Code.wp _ _ _ _ (wr.alloc (.cells #[.int .i64 (q : Int), strV u] 48))
      rw [HW12.out.1, HW12.out.2]
      have ra := RT.out _ (chainP HB8.out HB12.out)
      have z1 : W12.cell? ⟨p12, 1, none⟩ = some (strV u) := (R12.out _ (Below.refl _ _)).cell 1
      clear i1 j1
      go_wp2_with (refine wpList_load_row rfl 52 _ rfl w.heap.size rfl 52 _ (0, 0) _ ra Tryz.underlying52 rfl infoTable ?_)
      refine (tableFind_any g (.slice ao n cap) L u W12 (HR.out.1.below (chainP HB8.out HB12.out)) HF.out.1.len HF.out.1.heads).mono ?_
      rintro e w13 hf1
      obtain ⟨x, ah, nh, ch, ok1, rfl, -, -, hfd1, hb13⟩ := rfind_form hf1 HF.out.1
      obtain ⟨p13, hp13⟩ : ∃ p, w13.heap.size = p := ⟨_, rfl⟩
      obtain ⟨W13, hW13⟩ : ∃ W, w13.alloc (.cells (rowRz (x.1, .slice ah nh ch, x.2.2)) 66) = W := ⟨_, rfl⟩
      have hb133 : Below w13.heap.size w13 W13 := by rw [← hW13]; exact below_alloc _ _
      have r13 : rowIs W13 p13 (rowRz (x.1, .slice ah nh ch, x.2.2)) 66 := by rw [← hW13, ← hp13]; exact rowIs_new _ _ _
      have R13 : Hid (∀ W', Below W13.heap.size W13 W' → rowIs W' p13 (rowRz (x.1, .slice ah nh ch, x.2.2)) 66) := fun W' h => r13.below h
      have HB13 := hid (chainP hb13 hb133)
      have HF1 := hid hfd1
      have HW13 := hid (And.intro hW13 hp13)
      clear hf1 hfd1 hb13 hb133 r13 hW13 hp13 ra z1
      go_upto_region 13 with fail
      change Code.wp _ _ _ _ (w13.alloc (.cells (rowRz (x.1, .slice ah nh ch, x.2.2)) 66))
      rw [HW13.out.1, HW13.out.2]
      have r8 := R8.out _ (chainP HB12.out HB13.out)
      have z1 : W13.cell? ⟨p12, 1, none⟩ = some (strV u) := (R12.out _ HB13.out).cell 1
      go_wp2_with (refine wpList_load_row rfl 52 _ rfl p8 rfl 52 _ (0, 0) _ r8 Tryz.underlying52 rfl infoTable ?_)
      refine (tableFind_any (g + 1 + 1) (.slice a2 n2 c2) LV u W13 (HV.out.1.below (chainP HB12.out HB13.out)) HFV.out.len HFV.out.heads).mono ?_
      rintro e w14 hf2
      obtain ⟨y, ay, ny, cy, ok2, rfl, -, -, hfd2, hb14⟩ := rfind_form hf2 HFV.out
      obtain ⟨p14, hp14⟩ : ∃ p, w14.heap.size = p := ⟨_, rfl⟩
      obtain ⟨W14, hW14⟩ : ∃ W, w14.alloc (.cells (rowRz (y.1, .slice ay ny cy, y.2.2)) 66) = W := ⟨_, rfl⟩
      have hb144 : Below w14.heap.size w14 W14 := by rw [← hW14]; exact below_alloc _ _
      have r14 : rowIs W14 p14 (rowRz (y.1, .slice ay ny cy, y.2.2)) 66 := by rw [← hW14, ← hp14]; exact rowIs_new _ _ _
      have hb1314 := chainP hb14 hb144
      have hcase := back_case HX.out HU.out.2.1 HV.out.2 HF1.out hfd2
      have HCS := hid hcase
      have HB14 := hid (chainP (chainP HB12.out HB13.out) hb1314)
      have HW14 := hid (And.intro hW14 hp14)
      have C12 := hid ((R12.out _ (chainP HB13.out hb1314)).cell 0)
      have C13 := hid ((R13.out _ hb1314).cell 7)
      have C14 := hid (r14.cell 7)
      have C8 := hid ((R8.out _ HB14.out).cell 0)
      clear hf2 hfd2 hb14 hb144 r14 hb1314 hcase hW14 hp14 r8 z1
      go_upto_region 14 with fail
      change Code.wp _ _ _ _ (w14.alloc (.cells (rowRz (y.1, .slice ay ny cy, y.2.2)) 66))
      rw [HW14.out.1, HW14.out.2]
      have t12 : W14.cell? ⟨p12, 0, none⟩ = some (.int .i64 (q : Int)) := C12.out
      have t13 : W14.cell? ⟨p13, 7, none⟩ = some (.int .i64 x.2.2) := C13.out
      have t14 : W14.cell? ⟨p14, 7, none⟩ = some (.int .i64 y.2.2) := C14.out
      have t8 : W14.cell? ⟨p8, 0, none⟩ = some (.int .i64 (g + 1 + 1)) := C8.out
      rcases HCS.out with ⟨hq, ho⟩ | ⟨hq, ho, hyx⟩ | ⟨hq | hq, ho, hyx⟩
      · subst hq ho
        go_wp2_with fail
        go_roundw
        case rel => exact ⟨k + 1, by go_num, hlt, HB14.out⟩
        case measure => simp [intOf]; omega
      · subst hq ho
        rw [hyx] at t14
        clear hyx
        go_wp2_with fail
        go_roundw
        case rel => exact ⟨k + 1, by go_num, hlt, HB14.out⟩
        case measure => simp [intOf]; omega
      · subst hq ho
        rw [hyx] at t14
        clear hyx
        go_wp2_with fail
        go_roundw
        case rel => exact ⟨k + 1, by go_num, hlt, HB14.out⟩
        case measure => simp [intOf]; omega
      · subst hq ho
        rw [hyx] at t14
        clear hyx
        go_wp2_with fail
        go_roundw
        case rel => exact ⟨k + 1, by go_num, hlt, HB14.out⟩
        case measure => simp [intOf]; omega
    · have hkI : ¬ (k : Int) < (k7 : Int) := by omega
      clear hb
      go_wp2_with fail
      go_ret
      exact ⟨rfl, chainP HBW.out (chainP HB8.out HBR.out)⟩
end Go.Proofs.YtenijpcjemdhfaaGreatDoor
