/-
  The walk of the statement PlanDiffs.
-/
import Derived.Test.YtenijpcjemdhfaaGreatDoorP10d09
import Derived.Test.YtenijpcjemdhfaaGreatDoorP10d06
import Derived.Test.YtenijpcjemdhfaaGreatDoorP10dRef9C
import Derived.Test.YtenijpcjemdhfaaGreatDoorP10d08
import Derived.Test.YtenijpcjemdhfaaGreatDoorCardConf
import Derived.Deep.CutRange

namespace Go.Proofs.YtenijpcjemdhfaaGreatDoor
open Go.RowKit Go.Pantry

theorem oneCfg (ao : Option Addr) (n c : Nat) : (#[.slice ao n c] : Array Value).all (·.oneCell') = true := by simp [Value.oneCell']
theorem row_other {w : World} {g p : Nat} {cs : Array Value} {t : TypeId} (h : rowIs w g cs t) (hn : ¬ p = g) (ds : Array Value) : rowIs (w.setRow p ds) g cs t := h.setRow_other _ (by omega)
theorem two_made {n W : World} {m k : Nat} {e : TypeId} {sz : Nat} {v : Value} {xs : List Value} (p0 p1 : Nat) (ho : n.ownsRow m e sz v k xs) (hb : Below n.heap.size n W) (h0 : p0 < m ∨ n.heap.size ≤ p0) (h1 : p1 < m ∨ n.heap.size ≤ p1) (c0 c1 : Array Value) :
    ((W.setRow p0 c0).setRow p1 c1).ownsRow m e sz v k xs := by
  have kk := ((Kept.of_below (X := fun k => k = p0 ∨ k = p1) hb).setRow (g := p0) (.inl (.inl rfl)) c0).setRow (g := p1) (.inl (.inr rfl)) c1
  exact ownsRow_kept ho kk (fun k hk e => by
    have := ho.lt k hk
    rcases e with e | e <;> (subst e; omega))
/-- what Diff answers, in one form -/
theorem diff_form {w w' : World} {A B : List SiteZ} {e : Ending} (h : DiffPost w A B e w') : ∃ v z, e = .returned (.tuple #[v, .int .i64 z]) ∧ ((rightC A && rightC B) = true ∧ z = 0 ∧ w'.ownsRow w.heap.size 48 2 v (actsP A B).length (actCells (actsP A B)) ∨ (rightC A && rightC B) = false ∧ z = 10 ∧ v = .slice none 0 0) ∧ Below w.heap.size w w' := by
  obtain ⟨h1, hb⟩ := h
  cases q : (rightC A && rightC B)
  · rw [q] at h1
    exact ⟨_, _, h1, .inr ⟨rfl, rfl, rfl⟩, hb⟩
  · rw [q] at h1
    obtain ⟨v, he, ho⟩ := h1
    exact ⟨v, 0, he, .inl ⟨rfl, rfl, ho⟩, hb⟩
set_option maxRecDepth 100000 in
set_option maxHeartbeats 16000000 in
theorem planDiffs_walk (VA : Value) (LA : List (SiteZ × Value)) (VB : Value) (LB : List (SiteZ × Value)) (w : World) (hm : MaxOk w) (ht : Tab10 w) (hA : ReadsP w VA LA ∧ LA.length ≤ maxLen ∧ ∀ y ∈ LA, SiteFit y.1 y.2) (hB : ReadsP w VB LB ∧ LB.length ≤ maxLen ∧ ∀ y ∈ LB, SiteFit y.1 y.2) :
    Calls Tryz.prog 4 #[.agg #[VA], .agg #[VB]] w fun e w' => e = .returned (.bool true) ∧ Below w.heap.size w w' := by
  obtain ⟨hrA, hlA, hfA⟩ := hA
  obtain ⟨hrB, hlB, hfB⟩ := hB
  unfold maxLen at hlA hlB
  have hhA : ∀ x ∈ LA, x.1.heads.length ≤ 9223372036854775807 := fun x hx => by
    have := (hfA x hx).2.2.1
    unfold maxLen at this
    omega
  have hhB : ∀ x ∈ LB, x.1.heads.length ≤ 9223372036854775807 := fun x hx => by
    have := (hfB x hx).2.2.1
    unfold maxLen at this
    omega
  obtain ⟨ao, c, e1, f1⟩ := hrA.form
  obtain ⟨bo, d, e2, f2⟩ := hrB.form
  obtain ⟨n, hln⟩ : ∃ n, LA.length = n := ⟨_, rfl⟩
  obtain ⟨m, hlm⟩ : ∃ n, LB.length = n := ⟨_, rfl⟩
  rw [hln] at e1
  rw [hlm] at e2
  subst e1 e2
  obtain ⟨W, hW⟩ : ∃ W, (w.alloc (.cells #[.slice ao n c] 25)).alloc (.cells #[.slice bo m d] 25) = W := ⟨_, rfl⟩
  have hbW : Below w.heap.size w W := by rw [← hW]; exact chainP (below_alloc _ _) (below_alloc _ _)
  have q1 : rowIs W w.heap.size #[.slice ao n c] 25 := by rw [← hW]; exact (rowIs_new _ _ _).below (below_alloc _ _)
  have q2 : rowIs W (w.heap.size + 1) #[.slice bo m d] 25 := by rw [← hW]; exact rowIs_new_at _ _ _ _ (by simp)
  have RA : Hid (∀ W', Below W.heap.size W W' → rowIs W' w.heap.size #[.slice ao n c] 25) := fun W' h => q1.below h
  have RB : Hid (∀ W', Below W.heap.size W W' → rowIs W' (w.heap.size + 1) #[.slice bo m d] 25) := fun W' h => q2.below h
  have HP := hid (And.intro (hrA.below hbW) (hrB.below hbW))
  have HBW := hid hbW
  have HM := hid (And.intro (hm.below hbW) (ht.below hbW))
  have HN := hid (And.intro hln hlm)
  have HX := hid (And.intro hfA hfB)
  have AN := hid (anchor10_any W (hm.below hbW) (ht.below hbW))
  have SA : Hid (∀ W', Below W.heap.size W W' → Calls Tryz.prog 16 #[.agg #[.slice ao n c]] W' (SmallPost W' LA)) := fun W' h => smallSites_any _ LA W' (HP.out.1.below h) hlA hhA
  have SB : Hid (∀ W', Below W.heap.size W W' → Calls Tryz.prog 16 #[.agg #[.slice bo m d]] W' (SmallPost W' LB)) := fun W' h => smallSites_any _ LB W' (HP.out.2.below h) hlB hhB
  clear hrA hrB hlA hlB hfA hfB hhA hhB f1 f2 hln hlm hbW q1 q2 hm ht
  go_enter Tryz.func4, Tryz.ntmps4
  go_wp2_with fail
  refine AN.out.mono ?_
  rintro e w1 ⟨rfl, hb1⟩
  have ra := RA.out _ hb1
  have rb := RB.out _ hb1
  have HB1 := hid hb1
  clear hb1 hW AN
  go_wp2_with (first | (refine wpList_load_row rfl 25 _ rfl w.heap.size rfl 25 _ (0, 0) _ ra Tryz.underlying25 rfl infoCfg ?_) | (refine wpList_load_row rfl 25 _ rfl (w.heap.size + 1) rfl 25 _ (0, 0) _ rb Tryz.underlying25 rfl infoCfg ?_))
  refine (SA.out _ HB1.out).mono ?_
  rintro e w2 ⟨b, rfl, hsm, hb2⟩
  have HSA := hid hsm
  have HB2 := hid (chainP HB1.out hb2)
  clear hsm hb2 ra rb
  cases b
  · go_wp2_with fail
    go_ret
    exact ⟨rfl, chainP HBW.out HB2.out⟩
  have yb : w2.cell? ⟨w.heap.size + 1, 0, none⟩ = some (.slice bo m d) := (RB.out _ HB2.out).cell 0
  go_wp2_with fail
  refine (SB.out _ HB2.out).mono ?_
  rintro e w3 ⟨b, rfl, hsm, hb3⟩
  have HSB := hid hsm
  have HB3 := hid (chainP HB2.out hb3)
  clear hsm hb3 yb
  cases b
  · go_wp2_with fail
    go_ret
    exact ⟨rfl, chainP HBW.out HB3.out⟩
  have HF0 := hid (few_fit (HSA.out (by trivial)).1 (HSA.out (by trivial)).2 (fun y hy => (HX.out.1 y hy).1))
  have HF1 := hid (few_fit (HSB.out (by trivial)).1 (HSB.out (by trivial)).2 (fun y hy => (HX.out.2 y hy).1))
  have HL := hid (And.intro (HSA.out (by trivial)).1 (HSB.out (by trivial)).1)
  clear HSA HSB
  have ra := RA.out _ HB3.out
  have rb := RB.out _ HB3.out
  go_wp2_with (first | (refine wpList_load_row rfl 25 _ rfl w.heap.size rfl 25 _ (0, 0) _ ra Tryz.underlying25 rfl infoCfg ?_) | (refine wpList_load_row rfl 25 _ rfl (w.heap.size + 1) rfl 25 _ (0, 0) _ rb Tryz.underlying25 rfl infoCfg ?_))
  refine (diff_any (.slice ao n c) (.slice bo m d) LA LB w3 (HP.out.1.below HB3.out) (HP.out.2.below HB3.out) HF0.out HF1.out (HM.out.1.below HB3.out) (HM.out.2.below HB3.out)).mono ?_
  rintro e w5 hq
  obtain ⟨va, z, rfl, hd, hb5⟩ := diff_form hq
  have HD := hid hd
  have HB5 := hid (chainP HB3.out hb5)
  have HR0 := hid (And.intro (RA.out _ HB5.out) (And.intro (HP.out.1.below HB5.out) HF0.out))
  have HR1 := hid (And.intro (RB.out _ HB5.out) (And.intro (HP.out.2.below HB5.out) HF1.out))
  clear hq hd hb5 ra rb
  go_wp2_with fail
  go_cut [7, 8] from 9 to 28 (fun u7 u8 W' => ∃ (p0 p1 : Nat) (vx vy : Value), u7 = .pointer (some ⟨p0, 0, none⟩) ∧ u8 = .pointer (some ⟨p1, 0, none⟩) ∧ rowIs W' p0 #[vx] 33 ∧ rowIs W' p1 #[vy] 33 ∧ ReadsP W' vx LA ∧ ReadsP W' vy LB ∧ Below W.heap.size W W' ∧ Below w5.heap.size w5 W')
  case first =>
    refine wp_region_held_drew (S := fun w' => Below w5.heap.size w5 w') (by kernel_rfl) ((Below.refl _ _).drew) (fun hH => ?_)
    generalize w5.drew = w0 at hH ⊢
    refine wpAnyH_take (i := 0) (v := .agg #[.slice ao n c]) rfl (by kernel_rfl) (by kernel_rfl) (by kernel_rfl) (fun _ _ _ h => h) (Or.inl ⟨by kernel_rfl, ?_⟩) hH ?_
    · intro W hS
      exact load_gives rfl _ rfl (HR0.out.1.below hS) Tryz.underlying25 rfl infoCfg
    simp only [Act.put, List.getElem_toArray, List.getElem_cons_succ, List.getElem_cons_zero, List.setIfInBounds_toArray, List.set_cons_zero, List.set_cons_succ]
    refine wpAnyH_take (i := 2) (v := .agg #[.slice bo m d]) rfl (by kernel_rfl) (by kernel_rfl) (by kernel_rfl) (fun _ _ _ h => h) (Or.inl ⟨by kernel_rfl, ?_⟩) hH ?_
    · intro W hS
      exact load_gives rfl _ rfl (HR1.out.1.below hS) Tryz.underlying25 rfl infoCfg
    simp only [Act.put, List.getElem_toArray, List.getElem_cons_succ, List.getElem_cons_zero, List.setIfInBounds_toArray, List.set_cons_zero, List.set_cons_succ]
    refine wpAnyH_ready (rs := [1, 4, 5]) (by kernel_rfl) (by simp) ?_
    refine AllReadyH.cons rfl (fun K hK => ?_) (AllReadyH.cons rfl (fun K hK => ?_) (AllReadyH.cons rfl (fun K hK => ?_) AllReadyH.nil))
    · go_simp
      refine (madeConfig_own (.slice ao n c) LA _ (HR0.out.2.1.below hH) HF0.out.len).mono ?_
      rintro e x0 ⟨v0, rfl, ho0, hbx0⟩
      obtain ⟨ax0, cx0, hfx0⟩ := ownsRow_formN ho0
      obtain ⟨nx0, hnx0⟩ : ∃ n, LA.length = n := ⟨_, rfl⟩
      rw [hnx0] at hfx0
      subst hfx0
      have HK0 := hid ho0
      clear ho0 hnx0
      obtain ⟨m0, hm0⟩ : ∃ m : Nat, w0.heap.size = m := ⟨_, rfl⟩
      obtain ⟨n0, hn0⟩ : ∃ n : Nat, x0.heap.size = n := ⟨_, rfl⟩
      have T0 := hid (And.intro hm0 (And.intro hn0 (And.intro hbx0.size hH.size)))
      clear hm0 hn0
      have C0 := hid (Below.refl x0.heap.size x0)
      refine hK.out _ _ (chainP hH hbx0) (fun hH => ?_)
      clear hK K hbx0
      try simp only [Act.put, List.getElem_toArray, List.getElem_cons_succ, List.getElem_cons_zero, List.setIfInBounds_toArray, List.set_cons_zero, List.set_cons_succ]
      refine wpAnyH_ready (rs := [3, 4, 5]) (by kernel_rfl) (by simp) ?_
      refine AllReadyH.cons rfl (fun K hK => ?_) (AllReadyH.cons rfl (fun K hK => ?_) (AllReadyH.cons rfl (fun K hK => ?_) AllReadyH.nil))
      · go_simp
        refine (madeConfig_own (.slice bo m d) LB _ (HR1.out.2.1.below hH) HF1.out.len).mono ?_
        rintro e x1 ⟨v1, rfl, ho1, hbx1⟩
        obtain ⟨ax1, cx1, hfx1⟩ := ownsRow_formN ho1
        obtain ⟨nx1, hnx1⟩ : ∃ n, LB.length = n := ⟨_, rfl⟩
        rw [hnx1] at hfx1
        subst hfx1
        have HK1 := hid ho1
        clear ho1 hnx1
        obtain ⟨m1, hm1⟩ : ∃ m : Nat, x0.heap.size = m := ⟨_, rfl⟩
        obtain ⟨n1, hn1⟩ : ∃ n : Nat, x1.heap.size = n := ⟨_, rfl⟩
        have T1 := hid (And.intro hm1 (And.intro hn1 (And.intro hbx1.size hH.size)))
        clear hm1 hn1
        have C0 := hid (chainP C0.out hbx1)
        have C1 := hid (Below.refl x1.heap.size x1)
        refine hK.out _ _ (chainP hH hbx1) (fun hH => ?_)
        clear hK K hbx1
        try simp only [Act.put, List.getElem_toArray, List.getElem_cons_succ, List.getElem_cons_zero, List.setIfInBounds_toArray, List.set_cons_zero, List.set_cons_succ]
        refine wpAnyH_ready (rs := [4, 5]) (by kernel_rfl) (by simp) ?_
        refine AllReadyH.cons rfl (fun K hK => ?_) (AllReadyH.cons rfl (fun K hK => ?_) AllReadyH.nil)
        · obtain ⟨x2, hWx2⟩ : ∃ W, W = x1.alloc (.cells #[.slice none 0 0] 33) := ⟨_, rfl⟩
          have hbx2 : Below x1.heap.size x1 x2 := by rw [hWx2]; exact below_alloc _ _
          obtain ⟨p0, hp0⟩ : ∃ p, x1.heap.size = p := ⟨_, rfl⟩
          have P0 : Hid (rowIs x2 p0 #[.slice none 0 0] 33) := by rw [hWx2, ← hp0]; exact rowIs_new _ _ _
          have B0 := hid (show w5.heap.size ≤ p0 from by have := hH.size; omega)
          go_simp
          rw [← hWx2]
          try rw [hp0]
          have A0_0 := hid (show n0 ≤ p0 from by have := C0.out.size; have := T0.out; omega)
          have A1_0 := hid (show n1 ≤ p0 from by have := C1.out.size; have := T1.out; omega)
          clear hWx2 hp0
          have C0 := hid (chainP C0.out hbx2)
          have C1 := hid (chainP C1.out hbx2)
          refine hK.out _ _ (chainP hH hbx2) (fun hH => ?_)
          clear hK K hbx2
          try simp only [Act.put, List.getElem_toArray, List.getElem_cons_succ, List.getElem_cons_zero, List.setIfInBounds_toArray, List.set_cons_zero, List.set_cons_succ]
          refine wpAnyH_ready (rs := [5]) (by kernel_rfl) (by simp) ?_
          refine AllReadyH.cons rfl (fun K hK => ?_) AllReadyH.nil
          obtain ⟨x3, hWx3⟩ : ∃ W, W = x2.alloc (.cells #[.slice none 0 0] 33) := ⟨_, rfl⟩
          have hbx3 : Below x2.heap.size x2 x3 := by rw [hWx3]; exact below_alloc _ _
          obtain ⟨p1, hp1⟩ : ∃ p, x2.heap.size = p := ⟨_, rfl⟩
          have P1 : Hid (rowIs x3 p1 #[.slice none 0 0] 33) := by rw [hWx3, ← hp1]; exact rowIs_new _ _ _
          have B1 := hid (show w5.heap.size ≤ p1 from by have := hH.size; omega)
          go_simp
          rw [← hWx3]
          try rw [hp1]
          have A0_1 := hid (show n0 ≤ p1 from by have := C0.out.size; have := T0.out; omega)
          have A1_1 := hid (show n1 ≤ p1 from by have := C1.out.size; have := T1.out; omega)
          have D0_1 := hid (show p0 < p1 from by have := P0.out.lt; omega)
          clear hWx3 hp1
          have P0 := hid (P0.out.below hbx3)
          have C0 := hid (chainP C0.out hbx3)
          have C1 := hid (chainP C1.out hbx3)
          refine hK.out _ _ (chainP hH hbx3) (fun hH => ?_)
          clear hK K hbx3
          try simp only [Act.put, List.getElem_toArray, List.getElem_cons_succ, List.getElem_cons_zero, List.setIfInBounds_toArray, List.set_cons_zero, List.set_cons_succ]
          refine wpAnyH_ready (rs := [6]) (by kernel_rfl) (by simp) ?_
          refine AllReadyH.cons rfl (fun K hK => ?_) AllReadyH.nil
          rw [if_pos (by kernel_rfl)]
          refine wp_store_row 33 _ _ rfl p0 #[.slice ax0 nx0 cx0] rfl rfl 33 #[.slice none 0 0] P0.out infoRefCfg rfl (oneCfg _ _ _) ?_
          refine hK.out _ _ (below_setRow hH B0.out _) (fun hH => ?_)
          clear hK K
          try simp only [Act.put, List.getElem_toArray, List.getElem_cons_succ, List.getElem_cons_zero, List.setIfInBounds_toArray, List.set_cons_zero, List.set_cons_succ]
          have PN := hid (show ¬ p0 = p1 from by first | (have := D0_1.out; omega) | (have := D1_0.out; omega))
          have PX := hid (row_other P1.out PN.out #[.slice ax0 nx0 cx0])
          refine wpAnyH_ready (rs := [7]) (by kernel_rfl) (by simp) ?_
          refine AllReadyH.cons rfl (fun K hK => ?_) AllReadyH.nil
          rw [if_pos (by kernel_rfl)]
          refine wp_store_row 33 _ _ rfl p1 #[.slice ax1 nx1 cx1] rfl rfl 33 #[.slice none 0 0] PX.out infoRefCfg rfl (oneCfg _ _ _) ?_
          refine hK.out _ _ (below_setRow hH B1.out _) (fun hH => ?_)
          clear hK K
          try simp only [Act.put, List.getElem_toArray, List.getElem_cons_succ, List.getElem_cons_zero, List.setIfInBounds_toArray, List.set_cons_zero, List.set_cons_succ]
          refine wpAnyH_done (by kernel_rfl) ?_ _
          go_wp2_with fail
          go_meet
          have HO0 := two_made p0 p1 HK0.out C0.out (by have h1 := T0.out; have h2 := A0_0.out; omega) (by have h1 := T0.out; have h2 := A0_1.out; omega) #[.slice ax0 nx0 cx0] #[.slice ax1 nx1 cx1]
          have HO1 := two_made p0 p1 HK1.out C1.out (by have h1 := T1.out; have h2 := A1_0.out; omega) (by have h1 := T1.out; have h2 := A1_1.out; omega) #[.slice ax0 nx0 cx0] #[.slice ax1 nx1 cx1]
          case rel => exact ⟨p0, p1, _, _, rfl, rfl, row_other (P0.out.setRow _) (fun e => PN.out e.symm) _, PX.out.setRow _, readsP_own HO0 (fun x hx => (HR0.out.2.1.heads x hx).below hH), readsP_own HO1 (fun x hx => (HR1.out.2.1.heads x hx).below hH), chainP HB5.out hH, hH⟩
        · obtain ⟨x2, hWx2⟩ : ∃ W, W = x1.alloc (.cells #[.slice none 0 0] 33) := ⟨_, rfl⟩
          have hbx2 : Below x1.heap.size x1 x2 := by rw [hWx2]; exact below_alloc _ _
          obtain ⟨p1, hp1⟩ : ∃ p, x1.heap.size = p := ⟨_, rfl⟩
          have P1 : Hid (rowIs x2 p1 #[.slice none 0 0] 33) := by rw [hWx2, ← hp1]; exact rowIs_new _ _ _
          have B1 := hid (show w5.heap.size ≤ p1 from by have := hH.size; omega)
          go_simp
          rw [← hWx2]
          try rw [hp1]
          have A0_1 := hid (show n0 ≤ p1 from by have := C0.out.size; have := T0.out; omega)
          have A1_1 := hid (show n1 ≤ p1 from by have := C1.out.size; have := T1.out; omega)
          clear hWx2 hp1
          have C0 := hid (chainP C0.out hbx2)
          have C1 := hid (chainP C1.out hbx2)
          refine hK.out _ _ (chainP hH hbx2) (fun hH => ?_)
          clear hK K hbx2
          try simp only [Act.put, List.getElem_toArray, List.getElem_cons_succ, List.getElem_cons_zero, List.setIfInBounds_toArray, List.set_cons_zero, List.set_cons_succ]
          refine wpAnyH_ready (rs := [4]) (by kernel_rfl) (by simp) ?_
          refine AllReadyH.cons rfl (fun K hK => ?_) AllReadyH.nil
          obtain ⟨x3, hWx3⟩ : ∃ W, W = x2.alloc (.cells #[.slice none 0 0] 33) := ⟨_, rfl⟩
          have hbx3 : Below x2.heap.size x2 x3 := by rw [hWx3]; exact below_alloc _ _
          obtain ⟨p0, hp0⟩ : ∃ p, x2.heap.size = p := ⟨_, rfl⟩
          have P0 : Hid (rowIs x3 p0 #[.slice none 0 0] 33) := by rw [hWx3, ← hp0]; exact rowIs_new _ _ _
          have B0 := hid (show w5.heap.size ≤ p0 from by have := hH.size; omega)
          go_simp
          rw [← hWx3]
          try rw [hp0]
          have A0_0 := hid (show n0 ≤ p0 from by have := C0.out.size; have := T0.out; omega)
          have A1_0 := hid (show n1 ≤ p0 from by have := C1.out.size; have := T1.out; omega)
          have D1_0 := hid (show p1 < p0 from by have := P1.out.lt; omega)
          clear hWx3 hp0
          have P1 := hid (P1.out.below hbx3)
          have C0 := hid (chainP C0.out hbx3)
          have C1 := hid (chainP C1.out hbx3)
          refine hK.out _ _ (chainP hH hbx3) (fun hH => ?_)
          clear hK K hbx3
          try simp only [Act.put, List.getElem_toArray, List.getElem_cons_succ, List.getElem_cons_zero, List.setIfInBounds_toArray, List.set_cons_zero, List.set_cons_succ]
          refine wpAnyH_ready (rs := [6]) (by kernel_rfl) (by simp) ?_
          refine AllReadyH.cons rfl (fun K hK => ?_) AllReadyH.nil
          rw [if_pos (by kernel_rfl)]
          refine wp_store_row 33 _ _ rfl p0 #[.slice ax0 nx0 cx0] rfl rfl 33 #[.slice none 0 0] P0.out infoRefCfg rfl (oneCfg _ _ _) ?_
          refine hK.out _ _ (below_setRow hH B0.out _) (fun hH => ?_)
          clear hK K
          try simp only [Act.put, List.getElem_toArray, List.getElem_cons_succ, List.getElem_cons_zero, List.setIfInBounds_toArray, List.set_cons_zero, List.set_cons_succ]
          have PN := hid (show ¬ p0 = p1 from by first | (have := D0_1.out; omega) | (have := D1_0.out; omega))
          have PX := hid (row_other P1.out PN.out #[.slice ax0 nx0 cx0])
          refine wpAnyH_ready (rs := [7]) (by kernel_rfl) (by simp) ?_
          refine AllReadyH.cons rfl (fun K hK => ?_) AllReadyH.nil
          rw [if_pos (by kernel_rfl)]
          refine wp_store_row 33 _ _ rfl p1 #[.slice ax1 nx1 cx1] rfl rfl 33 #[.slice none 0 0] PX.out infoRefCfg rfl (oneCfg _ _ _) ?_
          refine hK.out _ _ (below_setRow hH B1.out _) (fun hH => ?_)
          clear hK K
          try simp only [Act.put, List.getElem_toArray, List.getElem_cons_succ, List.getElem_cons_zero, List.setIfInBounds_toArray, List.set_cons_zero, List.set_cons_succ]
          refine wpAnyH_done (by kernel_rfl) ?_ _
          go_wp2_with fail
          go_meet
          have HO0 := two_made p0 p1 HK0.out C0.out (by have h1 := T0.out; have h2 := A0_0.out; omega) (by have h1 := T0.out; have h2 := A0_1.out; omega) #[.slice ax0 nx0 cx0] #[.slice ax1 nx1 cx1]
          have HO1 := two_made p0 p1 HK1.out C1.out (by have h1 := T1.out; have h2 := A1_0.out; omega) (by have h1 := T1.out; have h2 := A1_1.out; omega) #[.slice ax0 nx0 cx0] #[.slice ax1 nx1 cx1]
          case rel => exact ⟨p0, p1, _, _, rfl, rfl, row_other (P0.out.setRow _) (fun e => PN.out e.symm) _, PX.out.setRow _, readsP_own HO0 (fun x hx => (HR0.out.2.1.heads x hx).below hH), readsP_own HO1 (fun x hx => (HR1.out.2.1.heads x hx).below hH), chainP HB5.out hH, hH⟩
      · obtain ⟨x1, hWx1⟩ : ∃ W, W = x0.alloc (.cells #[.slice none 0 0] 33) := ⟨_, rfl⟩
        have hbx1 : Below x0.heap.size x0 x1 := by rw [hWx1]; exact below_alloc _ _
        obtain ⟨p0, hp0⟩ : ∃ p, x0.heap.size = p := ⟨_, rfl⟩
        have P0 : Hid (rowIs x1 p0 #[.slice none 0 0] 33) := by rw [hWx1, ← hp0]; exact rowIs_new _ _ _
        have B0 := hid (show w5.heap.size ≤ p0 from by have := hH.size; omega)
        go_simp
        rw [← hWx1]
        try rw [hp0]
        have A0_0 := hid (show n0 ≤ p0 from by have := C0.out.size; have := T0.out; omega)
        clear hWx1 hp0
        have C0 := hid (chainP C0.out hbx1)
        refine hK.out _ _ (chainP hH hbx1) (fun hH => ?_)
        clear hK K hbx1
        try simp only [Act.put, List.getElem_toArray, List.getElem_cons_succ, List.getElem_cons_zero, List.setIfInBounds_toArray, List.set_cons_zero, List.set_cons_succ]
        refine wpAnyH_ready (rs := [3, 5]) (by kernel_rfl) (by simp) ?_
        refine AllReadyH.cons rfl (fun K hK => ?_) (AllReadyH.cons rfl (fun K hK => ?_) AllReadyH.nil)
        · go_simp
          refine (madeConfig_own (.slice bo m d) LB _ (HR1.out.2.1.below hH) HF1.out.len).mono ?_
          rintro e x2 ⟨v1, rfl, ho1, hbx2⟩
          obtain ⟨ax1, cx1, hfx1⟩ := ownsRow_formN ho1
          obtain ⟨nx1, hnx1⟩ : ∃ n, LB.length = n := ⟨_, rfl⟩
          rw [hnx1] at hfx1
          subst hfx1
          have HK1 := hid ho1
          clear ho1 hnx1
          obtain ⟨m1, hm1⟩ : ∃ m : Nat, x1.heap.size = m := ⟨_, rfl⟩
          obtain ⟨n1, hn1⟩ : ∃ n : Nat, x2.heap.size = n := ⟨_, rfl⟩
          have T1 := hid (And.intro hm1 (And.intro hn1 (And.intro hbx2.size hH.size)))
          clear hm1 hn1
          have A1_0 := hid (show p0 < m1 from by have := P0.out.lt; have := T1.out; omega)
          have P0 := hid (P0.out.below hbx2)
          have C0 := hid (chainP C0.out hbx2)
          have C1 := hid (Below.refl x2.heap.size x2)
          refine hK.out _ _ (chainP hH hbx2) (fun hH => ?_)
          clear hK K hbx2
          try simp only [Act.put, List.getElem_toArray, List.getElem_cons_succ, List.getElem_cons_zero, List.setIfInBounds_toArray, List.set_cons_zero, List.set_cons_succ]
          refine wpAnyH_ready (rs := [5]) (by kernel_rfl) (by simp) ?_
          refine AllReadyH.cons rfl (fun K hK => ?_) AllReadyH.nil
          obtain ⟨x3, hWx3⟩ : ∃ W, W = x2.alloc (.cells #[.slice none 0 0] 33) := ⟨_, rfl⟩
          have hbx3 : Below x2.heap.size x2 x3 := by rw [hWx3]; exact below_alloc _ _
          obtain ⟨p1, hp1⟩ : ∃ p, x2.heap.size = p := ⟨_, rfl⟩
          have P1 : Hid (rowIs x3 p1 #[.slice none 0 0] 33) := by rw [hWx3, ← hp1]; exact rowIs_new _ _ _
          have B1 := hid (show w5.heap.size ≤ p1 from by have := hH.size; omega)
          go_simp
          rw [← hWx3]
          try rw [hp1]
          have A0_1 := hid (show n0 ≤ p1 from by have := C0.out.size; have := T0.out; omega)
          have A1_1 := hid (show n1 ≤ p1 from by have := C1.out.size; have := T1.out; omega)
          have D0_1 := hid (show p0 < p1 from by have := P0.out.lt; omega)
          clear hWx3 hp1
          have P0 := hid (P0.out.below hbx3)
          have C0 := hid (chainP C0.out hbx3)
          have C1 := hid (chainP C1.out hbx3)
          refine hK.out _ _ (chainP hH hbx3) (fun hH => ?_)
          clear hK K hbx3
          try simp only [Act.put, List.getElem_toArray, List.getElem_cons_succ, List.getElem_cons_zero, List.setIfInBounds_toArray, List.set_cons_zero, List.set_cons_succ]
          refine wpAnyH_ready (rs := [6]) (by kernel_rfl) (by simp) ?_
          refine AllReadyH.cons rfl (fun K hK => ?_) AllReadyH.nil
          rw [if_pos (by kernel_rfl)]
          refine wp_store_row 33 _ _ rfl p0 #[.slice ax0 nx0 cx0] rfl rfl 33 #[.slice none 0 0] P0.out infoRefCfg rfl (oneCfg _ _ _) ?_
          refine hK.out _ _ (below_setRow hH B0.out _) (fun hH => ?_)
          clear hK K
          try simp only [Act.put, List.getElem_toArray, List.getElem_cons_succ, List.getElem_cons_zero, List.setIfInBounds_toArray, List.set_cons_zero, List.set_cons_succ]
          have PN := hid (show ¬ p0 = p1 from by first | (have := D0_1.out; omega) | (have := D1_0.out; omega))
          have PX := hid (row_other P1.out PN.out #[.slice ax0 nx0 cx0])
          refine wpAnyH_ready (rs := [7]) (by kernel_rfl) (by simp) ?_
          refine AllReadyH.cons rfl (fun K hK => ?_) AllReadyH.nil
          rw [if_pos (by kernel_rfl)]
          refine wp_store_row 33 _ _ rfl p1 #[.slice ax1 nx1 cx1] rfl rfl 33 #[.slice none 0 0] PX.out infoRefCfg rfl (oneCfg _ _ _) ?_
          refine hK.out _ _ (below_setRow hH B1.out _) (fun hH => ?_)
          clear hK K
          try simp only [Act.put, List.getElem_toArray, List.getElem_cons_succ, List.getElem_cons_zero, List.setIfInBounds_toArray, List.set_cons_zero, List.set_cons_succ]
          refine wpAnyH_done (by kernel_rfl) ?_ _
          go_wp2_with fail
          go_meet
          have HO0 := two_made p0 p1 HK0.out C0.out (by have h1 := T0.out; have h2 := A0_0.out; omega) (by have h1 := T0.out; have h2 := A0_1.out; omega) #[.slice ax0 nx0 cx0] #[.slice ax1 nx1 cx1]
          have HO1 := two_made p0 p1 HK1.out C1.out (by have h1 := T1.out; have h2 := A1_0.out; omega) (by have h1 := T1.out; have h2 := A1_1.out; omega) #[.slice ax0 nx0 cx0] #[.slice ax1 nx1 cx1]
          case rel => exact ⟨p0, p1, _, _, rfl, rfl, row_other (P0.out.setRow _) (fun e => PN.out e.symm) _, PX.out.setRow _, readsP_own HO0 (fun x hx => (HR0.out.2.1.heads x hx).below hH), readsP_own HO1 (fun x hx => (HR1.out.2.1.heads x hx).below hH), chainP HB5.out hH, hH⟩
        · obtain ⟨x2, hWx2⟩ : ∃ W, W = x1.alloc (.cells #[.slice none 0 0] 33) := ⟨_, rfl⟩
          have hbx2 : Below x1.heap.size x1 x2 := by rw [hWx2]; exact below_alloc _ _
          obtain ⟨p1, hp1⟩ : ∃ p, x1.heap.size = p := ⟨_, rfl⟩
          have P1 : Hid (rowIs x2 p1 #[.slice none 0 0] 33) := by rw [hWx2, ← hp1]; exact rowIs_new _ _ _
          have B1 := hid (show w5.heap.size ≤ p1 from by have := hH.size; omega)
          go_simp
          rw [← hWx2]
          try rw [hp1]
          have A0_1 := hid (show n0 ≤ p1 from by have := C0.out.size; have := T0.out; omega)
          have D0_1 := hid (show p0 < p1 from by have := P0.out.lt; omega)
          clear hWx2 hp1
          have P0 := hid (P0.out.below hbx2)
          have C0 := hid (chainP C0.out hbx2)
          refine hK.out _ _ (chainP hH hbx2) (fun hH => ?_)
          clear hK K hbx2
          try simp only [Act.put, List.getElem_toArray, List.getElem_cons_succ, List.getElem_cons_zero, List.setIfInBounds_toArray, List.set_cons_zero, List.set_cons_succ]
          refine wpAnyH_ready (rs := [3]) (by kernel_rfl) (by simp) ?_
          refine AllReadyH.cons rfl (fun K hK => ?_) AllReadyH.nil
          go_simp
          refine (madeConfig_own (.slice bo m d) LB _ (HR1.out.2.1.below hH) HF1.out.len).mono ?_
          rintro e x3 ⟨v1, rfl, ho1, hbx3⟩
          obtain ⟨ax1, cx1, hfx1⟩ := ownsRow_formN ho1
          obtain ⟨nx1, hnx1⟩ : ∃ n, LB.length = n := ⟨_, rfl⟩
          rw [hnx1] at hfx1
          subst hfx1
          have HK1 := hid ho1
          clear ho1 hnx1
          obtain ⟨m1, hm1⟩ : ∃ m : Nat, x2.heap.size = m := ⟨_, rfl⟩
          obtain ⟨n1, hn1⟩ : ∃ n : Nat, x3.heap.size = n := ⟨_, rfl⟩
          have T1 := hid (And.intro hm1 (And.intro hn1 (And.intro hbx3.size hH.size)))
          clear hm1 hn1
          have A1_0 := hid (show p0 < m1 from by have := P0.out.lt; have := T1.out; omega)
          have A1_1 := hid (show p1 < m1 from by have := P1.out.lt; have := T1.out; omega)
          have P0 := hid (P0.out.below hbx3)
          have P1 := hid (P1.out.below hbx3)
          have C0 := hid (chainP C0.out hbx3)
          have C1 := hid (Below.refl x3.heap.size x3)
          refine hK.out _ _ (chainP hH hbx3) (fun hH => ?_)
          clear hK K hbx3
          try simp only [Act.put, List.getElem_toArray, List.getElem_cons_succ, List.getElem_cons_zero, List.setIfInBounds_toArray, List.set_cons_zero, List.set_cons_succ]
          refine wpAnyH_ready (rs := [6]) (by kernel_rfl) (by simp) ?_
          refine AllReadyH.cons rfl (fun K hK => ?_) AllReadyH.nil
          rw [if_pos (by kernel_rfl)]
          refine wp_store_row 33 _ _ rfl p0 #[.slice ax0 nx0 cx0] rfl rfl 33 #[.slice none 0 0] P0.out infoRefCfg rfl (oneCfg _ _ _) ?_
          refine hK.out _ _ (below_setRow hH B0.out _) (fun hH => ?_)
          clear hK K
          try simp only [Act.put, List.getElem_toArray, List.getElem_cons_succ, List.getElem_cons_zero, List.setIfInBounds_toArray, List.set_cons_zero, List.set_cons_succ]
          have PN := hid (show ¬ p0 = p1 from by first | (have := D0_1.out; omega) | (have := D1_0.out; omega))
          have PX := hid (row_other P1.out PN.out #[.slice ax0 nx0 cx0])
          refine wpAnyH_ready (rs := [7]) (by kernel_rfl) (by simp) ?_
          refine AllReadyH.cons rfl (fun K hK => ?_) AllReadyH.nil
          rw [if_pos (by kernel_rfl)]
          refine wp_store_row 33 _ _ rfl p1 #[.slice ax1 nx1 cx1] rfl rfl 33 #[.slice none 0 0] PX.out infoRefCfg rfl (oneCfg _ _ _) ?_
          refine hK.out _ _ (below_setRow hH B1.out _) (fun hH => ?_)
          clear hK K
          try simp only [Act.put, List.getElem_toArray, List.getElem_cons_succ, List.getElem_cons_zero, List.setIfInBounds_toArray, List.set_cons_zero, List.set_cons_succ]
          refine wpAnyH_done (by kernel_rfl) ?_ _
          go_wp2_with fail
          go_meet
          have HO0 := two_made p0 p1 HK0.out C0.out (by have h1 := T0.out; have h2 := A0_0.out; omega) (by have h1 := T0.out; have h2 := A0_1.out; omega) #[.slice ax0 nx0 cx0] #[.slice ax1 nx1 cx1]
          have HO1 := two_made p0 p1 HK1.out C1.out (by have h1 := T1.out; have h2 := A1_0.out; omega) (by have h1 := T1.out; have h2 := A1_1.out; omega) #[.slice ax0 nx0 cx0] #[.slice ax1 nx1 cx1]
          case rel => exact ⟨p0, p1, _, _, rfl, rfl, row_other (P0.out.setRow _) (fun e => PN.out e.symm) _, PX.out.setRow _, readsP_own HO0 (fun x hx => (HR0.out.2.1.heads x hx).below hH), readsP_own HO1 (fun x hx => (HR1.out.2.1.heads x hx).below hH), chainP HB5.out hH, hH⟩
      · obtain ⟨x1, hWx1⟩ : ∃ W, W = x0.alloc (.cells #[.slice none 0 0] 33) := ⟨_, rfl⟩
        have hbx1 : Below x0.heap.size x0 x1 := by rw [hWx1]; exact below_alloc _ _
        obtain ⟨p1, hp1⟩ : ∃ p, x0.heap.size = p := ⟨_, rfl⟩
        have P1 : Hid (rowIs x1 p1 #[.slice none 0 0] 33) := by rw [hWx1, ← hp1]; exact rowIs_new _ _ _
        have B1 := hid (show w5.heap.size ≤ p1 from by have := hH.size; omega)
        go_simp
        rw [← hWx1]
        try rw [hp1]
        have A0_1 := hid (show n0 ≤ p1 from by have := C0.out.size; have := T0.out; omega)
        clear hWx1 hp1
        have C0 := hid (chainP C0.out hbx1)
        refine hK.out _ _ (chainP hH hbx1) (fun hH => ?_)
        clear hK K hbx1
        try simp only [Act.put, List.getElem_toArray, List.getElem_cons_succ, List.getElem_cons_zero, List.setIfInBounds_toArray, List.set_cons_zero, List.set_cons_succ]
        refine wpAnyH_ready (rs := [3, 4]) (by kernel_rfl) (by simp) ?_
        refine AllReadyH.cons rfl (fun K hK => ?_) (AllReadyH.cons rfl (fun K hK => ?_) AllReadyH.nil)
        · go_simp
          refine (madeConfig_own (.slice bo m d) LB _ (HR1.out.2.1.below hH) HF1.out.len).mono ?_
          rintro e x2 ⟨v1, rfl, ho1, hbx2⟩
          obtain ⟨ax1, cx1, hfx1⟩ := ownsRow_formN ho1
          obtain ⟨nx1, hnx1⟩ : ∃ n, LB.length = n := ⟨_, rfl⟩
          rw [hnx1] at hfx1
          subst hfx1
          have HK1 := hid ho1
          clear ho1 hnx1
          obtain ⟨m1, hm1⟩ : ∃ m : Nat, x1.heap.size = m := ⟨_, rfl⟩
          obtain ⟨n1, hn1⟩ : ∃ n : Nat, x2.heap.size = n := ⟨_, rfl⟩
          have T1 := hid (And.intro hm1 (And.intro hn1 (And.intro hbx2.size hH.size)))
          clear hm1 hn1
          have A1_1 := hid (show p1 < m1 from by have := P1.out.lt; have := T1.out; omega)
          have P1 := hid (P1.out.below hbx2)
          have C0 := hid (chainP C0.out hbx2)
          have C1 := hid (Below.refl x2.heap.size x2)
          refine hK.out _ _ (chainP hH hbx2) (fun hH => ?_)
          clear hK K hbx2
          try simp only [Act.put, List.getElem_toArray, List.getElem_cons_succ, List.getElem_cons_zero, List.setIfInBounds_toArray, List.set_cons_zero, List.set_cons_succ]
          refine wpAnyH_ready (rs := [4]) (by kernel_rfl) (by simp) ?_
          refine AllReadyH.cons rfl (fun K hK => ?_) AllReadyH.nil
          obtain ⟨x3, hWx3⟩ : ∃ W, W = x2.alloc (.cells #[.slice none 0 0] 33) := ⟨_, rfl⟩
          have hbx3 : Below x2.heap.size x2 x3 := by rw [hWx3]; exact below_alloc _ _
          obtain ⟨p0, hp0⟩ : ∃ p, x2.heap.size = p := ⟨_, rfl⟩
          have P0 : Hid (rowIs x3 p0 #[.slice none 0 0] 33) := by rw [hWx3, ← hp0]; exact rowIs_new _ _ _
          have B0 := hid (show w5.heap.size ≤ p0 from by have := hH.size; omega)
          go_simp
          rw [← hWx3]
          try rw [hp0]
          have A0_0 := hid (show n0 ≤ p0 from by have := C0.out.size; have := T0.out; omega)
          have A1_0 := hid (show n1 ≤ p0 from by have := C1.out.size; have := T1.out; omega)
          have D1_0 := hid (show p1 < p0 from by have := P1.out.lt; omega)
          clear hWx3 hp0
          have P1 := hid (P1.out.below hbx3)
          have C0 := hid (chainP C0.out hbx3)
          have C1 := hid (chainP C1.out hbx3)
          refine hK.out _ _ (chainP hH hbx3) (fun hH => ?_)
          clear hK K hbx3
          try simp only [Act.put, List.getElem_toArray, List.getElem_cons_succ, List.getElem_cons_zero, List.setIfInBounds_toArray, List.set_cons_zero, List.set_cons_succ]
          refine wpAnyH_ready (rs := [6]) (by kernel_rfl) (by simp) ?_
          refine AllReadyH.cons rfl (fun K hK => ?_) AllReadyH.nil
          rw [if_pos (by kernel_rfl)]
          refine wp_store_row 33 _ _ rfl p0 #[.slice ax0 nx0 cx0] rfl rfl 33 #[.slice none 0 0] P0.out infoRefCfg rfl (oneCfg _ _ _) ?_
          refine hK.out _ _ (below_setRow hH B0.out _) (fun hH => ?_)
          clear hK K
          try simp only [Act.put, List.getElem_toArray, List.getElem_cons_succ, List.getElem_cons_zero, List.setIfInBounds_toArray, List.set_cons_zero, List.set_cons_succ]
          have PN := hid (show ¬ p0 = p1 from by first | (have := D0_1.out; omega) | (have := D1_0.out; omega))
          have PX := hid (row_other P1.out PN.out #[.slice ax0 nx0 cx0])
          refine wpAnyH_ready (rs := [7]) (by kernel_rfl) (by simp) ?_
          refine AllReadyH.cons rfl (fun K hK => ?_) AllReadyH.nil
          rw [if_pos (by kernel_rfl)]
          refine wp_store_row 33 _ _ rfl p1 #[.slice ax1 nx1 cx1] rfl rfl 33 #[.slice none 0 0] PX.out infoRefCfg rfl (oneCfg _ _ _) ?_
          refine hK.out _ _ (below_setRow hH B1.out _) (fun hH => ?_)
          clear hK K
          try simp only [Act.put, List.getElem_toArray, List.getElem_cons_succ, List.getElem_cons_zero, List.setIfInBounds_toArray, List.set_cons_zero, List.set_cons_succ]
          refine wpAnyH_done (by kernel_rfl) ?_ _
          go_wp2_with fail
          go_meet
          have HO0 := two_made p0 p1 HK0.out C0.out (by have h1 := T0.out; have h2 := A0_0.out; omega) (by have h1 := T0.out; have h2 := A0_1.out; omega) #[.slice ax0 nx0 cx0] #[.slice ax1 nx1 cx1]
          have HO1 := two_made p0 p1 HK1.out C1.out (by have h1 := T1.out; have h2 := A1_0.out; omega) (by have h1 := T1.out; have h2 := A1_1.out; omega) #[.slice ax0 nx0 cx0] #[.slice ax1 nx1 cx1]
          case rel => exact ⟨p0, p1, _, _, rfl, rfl, row_other (P0.out.setRow _) (fun e => PN.out e.symm) _, PX.out.setRow _, readsP_own HO0 (fun x hx => (HR0.out.2.1.heads x hx).below hH), readsP_own HO1 (fun x hx => (HR1.out.2.1.heads x hx).below hH), chainP HB5.out hH, hH⟩
        · obtain ⟨x2, hWx2⟩ : ∃ W, W = x1.alloc (.cells #[.slice none 0 0] 33) := ⟨_, rfl⟩
          have hbx2 : Below x1.heap.size x1 x2 := by rw [hWx2]; exact below_alloc _ _
          obtain ⟨p0, hp0⟩ : ∃ p, x1.heap.size = p := ⟨_, rfl⟩
          have P0 : Hid (rowIs x2 p0 #[.slice none 0 0] 33) := by rw [hWx2, ← hp0]; exact rowIs_new _ _ _
          have B0 := hid (show w5.heap.size ≤ p0 from by have := hH.size; omega)
          go_simp
          rw [← hWx2]
          try rw [hp0]
          have A0_0 := hid (show n0 ≤ p0 from by have := C0.out.size; have := T0.out; omega)
          have D1_0 := hid (show p1 < p0 from by have := P1.out.lt; omega)
          clear hWx2 hp0
          have P1 := hid (P1.out.below hbx2)
          have C0 := hid (chainP C0.out hbx2)
          refine hK.out _ _ (chainP hH hbx2) (fun hH => ?_)
          clear hK K hbx2
          try simp only [Act.put, List.getElem_toArray, List.getElem_cons_succ, List.getElem_cons_zero, List.setIfInBounds_toArray, List.set_cons_zero, List.set_cons_succ]
          refine wpAnyH_ready (rs := [3]) (by kernel_rfl) (by simp) ?_
          refine AllReadyH.cons rfl (fun K hK => ?_) AllReadyH.nil
          go_simp
          refine (madeConfig_own (.slice bo m d) LB _ (HR1.out.2.1.below hH) HF1.out.len).mono ?_
          rintro e x3 ⟨v1, rfl, ho1, hbx3⟩
          obtain ⟨ax1, cx1, hfx1⟩ := ownsRow_formN ho1
          obtain ⟨nx1, hnx1⟩ : ∃ n, LB.length = n := ⟨_, rfl⟩
          rw [hnx1] at hfx1
          subst hfx1
          have HK1 := hid ho1
          clear ho1 hnx1
          obtain ⟨m1, hm1⟩ : ∃ m : Nat, x2.heap.size = m := ⟨_, rfl⟩
          obtain ⟨n1, hn1⟩ : ∃ n : Nat, x3.heap.size = n := ⟨_, rfl⟩
          have T1 := hid (And.intro hm1 (And.intro hn1 (And.intro hbx3.size hH.size)))
          clear hm1 hn1
          have A1_1 := hid (show p1 < m1 from by have := P1.out.lt; have := T1.out; omega)
          have A1_0 := hid (show p0 < m1 from by have := P0.out.lt; have := T1.out; omega)
          have P1 := hid (P1.out.below hbx3)
          have P0 := hid (P0.out.below hbx3)
          have C0 := hid (chainP C0.out hbx3)
          have C1 := hid (Below.refl x3.heap.size x3)
          refine hK.out _ _ (chainP hH hbx3) (fun hH => ?_)
          clear hK K hbx3
          try simp only [Act.put, List.getElem_toArray, List.getElem_cons_succ, List.getElem_cons_zero, List.setIfInBounds_toArray, List.set_cons_zero, List.set_cons_succ]
          refine wpAnyH_ready (rs := [6]) (by kernel_rfl) (by simp) ?_
          refine AllReadyH.cons rfl (fun K hK => ?_) AllReadyH.nil
          rw [if_pos (by kernel_rfl)]
          refine wp_store_row 33 _ _ rfl p0 #[.slice ax0 nx0 cx0] rfl rfl 33 #[.slice none 0 0] P0.out infoRefCfg rfl (oneCfg _ _ _) ?_
          refine hK.out _ _ (below_setRow hH B0.out _) (fun hH => ?_)
          clear hK K
          try simp only [Act.put, List.getElem_toArray, List.getElem_cons_succ, List.getElem_cons_zero, List.setIfInBounds_toArray, List.set_cons_zero, List.set_cons_succ]
          have PN := hid (show ¬ p0 = p1 from by first | (have := D0_1.out; omega) | (have := D1_0.out; omega))
          have PX := hid (row_other P1.out PN.out #[.slice ax0 nx0 cx0])
          refine wpAnyH_ready (rs := [7]) (by kernel_rfl) (by simp) ?_
          refine AllReadyH.cons rfl (fun K hK => ?_) AllReadyH.nil
          rw [if_pos (by kernel_rfl)]
          refine wp_store_row 33 _ _ rfl p1 #[.slice ax1 nx1 cx1] rfl rfl 33 #[.slice none 0 0] PX.out infoRefCfg rfl (oneCfg _ _ _) ?_
          refine hK.out _ _ (below_setRow hH B1.out _) (fun hH => ?_)
          clear hK K
          try simp only [Act.put, List.getElem_toArray, List.getElem_cons_succ, List.getElem_cons_zero, List.setIfInBounds_toArray, List.set_cons_zero, List.set_cons_succ]
          refine wpAnyH_done (by kernel_rfl) ?_ _
          go_wp2_with fail
          go_meet
          have HO0 := two_made p0 p1 HK0.out C0.out (by have h1 := T0.out; have h2 := A0_0.out; omega) (by have h1 := T0.out; have h2 := A0_1.out; omega) #[.slice ax0 nx0 cx0] #[.slice ax1 nx1 cx1]
          have HO1 := two_made p0 p1 HK1.out C1.out (by have h1 := T1.out; have h2 := A1_0.out; omega) (by have h1 := T1.out; have h2 := A1_1.out; omega) #[.slice ax0 nx0 cx0] #[.slice ax1 nx1 cx1]
          case rel => exact ⟨p0, p1, _, _, rfl, rfl, row_other (P0.out.setRow _) (fun e => PN.out e.symm) _, PX.out.setRow _, readsP_own HO0 (fun x hx => (HR0.out.2.1.heads x hx).below hH), readsP_own HO1 (fun x hx => (HR1.out.2.1.heads x hx).below hH), chainP HB5.out hH, hH⟩
    · obtain ⟨x0, hWx0⟩ : ∃ W, W = w0.alloc (.cells #[.slice none 0 0] 33) := ⟨_, rfl⟩
      have hbx0 : Below w0.heap.size w0 x0 := by rw [hWx0]; exact below_alloc _ _
      obtain ⟨p0, hp0⟩ : ∃ p, w0.heap.size = p := ⟨_, rfl⟩
      have P0 : Hid (rowIs x0 p0 #[.slice none 0 0] 33) := by rw [hWx0, ← hp0]; exact rowIs_new _ _ _
      have B0 := hid (show w5.heap.size ≤ p0 from by have := hH.size; omega)
      go_simp
      rw [← hWx0]
      try rw [hp0]
      clear hWx0 hp0
      refine hK.out _ _ (chainP hH hbx0) (fun hH => ?_)
      clear hK K hbx0
      try simp only [Act.put, List.getElem_toArray, List.getElem_cons_succ, List.getElem_cons_zero, List.setIfInBounds_toArray, List.set_cons_zero, List.set_cons_succ]
      refine wpAnyH_ready (rs := [1, 5]) (by kernel_rfl) (by simp) ?_
      refine AllReadyH.cons rfl (fun K hK => ?_) (AllReadyH.cons rfl (fun K hK => ?_) AllReadyH.nil)
      · go_simp
        refine (madeConfig_own (.slice ao n c) LA _ (HR0.out.2.1.below hH) HF0.out.len).mono ?_
        rintro e x1 ⟨v0, rfl, ho0, hbx1⟩
        obtain ⟨ax0, cx0, hfx0⟩ := ownsRow_formN ho0
        obtain ⟨nx0, hnx0⟩ : ∃ n, LA.length = n := ⟨_, rfl⟩
        rw [hnx0] at hfx0
        subst hfx0
        have HK0 := hid ho0
        clear ho0 hnx0
        obtain ⟨m0, hm0⟩ : ∃ m : Nat, x0.heap.size = m := ⟨_, rfl⟩
        obtain ⟨n0, hn0⟩ : ∃ n : Nat, x1.heap.size = n := ⟨_, rfl⟩
        have T0 := hid (And.intro hm0 (And.intro hn0 (And.intro hbx1.size hH.size)))
        clear hm0 hn0
        have A0_0 := hid (show p0 < m0 from by have := P0.out.lt; have := T0.out; omega)
        have P0 := hid (P0.out.below hbx1)
        have C0 := hid (Below.refl x1.heap.size x1)
        refine hK.out _ _ (chainP hH hbx1) (fun hH => ?_)
        clear hK K hbx1
        try simp only [Act.put, List.getElem_toArray, List.getElem_cons_succ, List.getElem_cons_zero, List.setIfInBounds_toArray, List.set_cons_zero, List.set_cons_succ]
        refine wpAnyH_ready (rs := [3, 5]) (by kernel_rfl) (by simp) ?_
        refine AllReadyH.cons rfl (fun K hK => ?_) (AllReadyH.cons rfl (fun K hK => ?_) AllReadyH.nil)
        · go_simp
          refine (madeConfig_own (.slice bo m d) LB _ (HR1.out.2.1.below hH) HF1.out.len).mono ?_
          rintro e x2 ⟨v1, rfl, ho1, hbx2⟩
          obtain ⟨ax1, cx1, hfx1⟩ := ownsRow_formN ho1
          obtain ⟨nx1, hnx1⟩ : ∃ n, LB.length = n := ⟨_, rfl⟩
          rw [hnx1] at hfx1
          subst hfx1
          have HK1 := hid ho1
          clear ho1 hnx1
          obtain ⟨m1, hm1⟩ : ∃ m : Nat, x1.heap.size = m := ⟨_, rfl⟩
          obtain ⟨n1, hn1⟩ : ∃ n : Nat, x2.heap.size = n := ⟨_, rfl⟩
          have T1 := hid (And.intro hm1 (And.intro hn1 (And.intro hbx2.size hH.size)))
          clear hm1 hn1
          have A1_0 := hid (show p0 < m1 from by have := P0.out.lt; have := T1.out; omega)
          have P0 := hid (P0.out.below hbx2)
          have C0 := hid (chainP C0.out hbx2)
          have C1 := hid (Below.refl x2.heap.size x2)
          refine hK.out _ _ (chainP hH hbx2) (fun hH => ?_)
          clear hK K hbx2
          try simp only [Act.put, List.getElem_toArray, List.getElem_cons_succ, List.getElem_cons_zero, List.setIfInBounds_toArray, List.set_cons_zero, List.set_cons_succ]
          refine wpAnyH_ready (rs := [5]) (by kernel_rfl) (by simp) ?_
          refine AllReadyH.cons rfl (fun K hK => ?_) AllReadyH.nil
          obtain ⟨x3, hWx3⟩ : ∃ W, W = x2.alloc (.cells #[.slice none 0 0] 33) := ⟨_, rfl⟩
          have hbx3 : Below x2.heap.size x2 x3 := by rw [hWx3]; exact below_alloc _ _
          obtain ⟨p1, hp1⟩ : ∃ p, x2.heap.size = p := ⟨_, rfl⟩
          have P1 : Hid (rowIs x3 p1 #[.slice none 0 0] 33) := by rw [hWx3, ← hp1]; exact rowIs_new _ _ _
          have B1 := hid (show w5.heap.size ≤ p1 from by have := hH.size; omega)
          go_simp
          rw [← hWx3]
          try rw [hp1]
          have A0_1 := hid (show n0 ≤ p1 from by have := C0.out.size; have := T0.out; omega)
          have A1_1 := hid (show n1 ≤ p1 from by have := C1.out.size; have := T1.out; omega)
          have D0_1 := hid (show p0 < p1 from by have := P0.out.lt; omega)
          clear hWx3 hp1
          have P0 := hid (P0.out.below hbx3)
          have C0 := hid (chainP C0.out hbx3)
          have C1 := hid (chainP C1.out hbx3)
          refine hK.out _ _ (chainP hH hbx3) (fun hH => ?_)
          clear hK K hbx3
          try simp only [Act.put, List.getElem_toArray, List.getElem_cons_succ, List.getElem_cons_zero, List.setIfInBounds_toArray, List.set_cons_zero, List.set_cons_succ]
          refine wpAnyH_ready (rs := [6]) (by kernel_rfl) (by simp) ?_
          refine AllReadyH.cons rfl (fun K hK => ?_) AllReadyH.nil
          rw [if_pos (by kernel_rfl)]
          refine wp_store_row 33 _ _ rfl p0 #[.slice ax0 nx0 cx0] rfl rfl 33 #[.slice none 0 0] P0.out infoRefCfg rfl (oneCfg _ _ _) ?_
          refine hK.out _ _ (below_setRow hH B0.out _) (fun hH => ?_)
          clear hK K
          try simp only [Act.put, List.getElem_toArray, List.getElem_cons_succ, List.getElem_cons_zero, List.setIfInBounds_toArray, List.set_cons_zero, List.set_cons_succ]
          have PN := hid (show ¬ p0 = p1 from by first | (have := D0_1.out; omega) | (have := D1_0.out; omega))
          have PX := hid (row_other P1.out PN.out #[.slice ax0 nx0 cx0])
          refine wpAnyH_ready (rs := [7]) (by kernel_rfl) (by simp) ?_
          refine AllReadyH.cons rfl (fun K hK => ?_) AllReadyH.nil
          rw [if_pos (by kernel_rfl)]
          refine wp_store_row 33 _ _ rfl p1 #[.slice ax1 nx1 cx1] rfl rfl 33 #[.slice none 0 0] PX.out infoRefCfg rfl (oneCfg _ _ _) ?_
          refine hK.out _ _ (below_setRow hH B1.out _) (fun hH => ?_)
          clear hK K
          try simp only [Act.put, List.getElem_toArray, List.getElem_cons_succ, List.getElem_cons_zero, List.setIfInBounds_toArray, List.set_cons_zero, List.set_cons_succ]
          refine wpAnyH_done (by kernel_rfl) ?_ _
          go_wp2_with fail
          go_meet
          have HO0 := two_made p0 p1 HK0.out C0.out (by have h1 := T0.out; have h2 := A0_0.out; omega) (by have h1 := T0.out; have h2 := A0_1.out; omega) #[.slice ax0 nx0 cx0] #[.slice ax1 nx1 cx1]
          have HO1 := two_made p0 p1 HK1.out C1.out (by have h1 := T1.out; have h2 := A1_0.out; omega) (by have h1 := T1.out; have h2 := A1_1.out; omega) #[.slice ax0 nx0 cx0] #[.slice ax1 nx1 cx1]
          case rel => exact ⟨p0, p1, _, _, rfl, rfl, row_other (P0.out.setRow _) (fun e => PN.out e.symm) _, PX.out.setRow _, readsP_own HO0 (fun x hx => (HR0.out.2.1.heads x hx).below hH), readsP_own HO1 (fun x hx => (HR1.out.2.1.heads x hx).below hH), chainP HB5.out hH, hH⟩
        · obtain ⟨x2, hWx2⟩ : ∃ W, W = x1.alloc (.cells #[.slice none 0 0] 33) := ⟨_, rfl⟩
          have hbx2 : Below x1.heap.size x1 x2 := by rw [hWx2]; exact below_alloc _ _
          obtain ⟨p1, hp1⟩ : ∃ p, x1.heap.size = p := ⟨_, rfl⟩
          have P1 : Hid (rowIs x2 p1 #[.slice none 0 0] 33) := by rw [hWx2, ← hp1]; exact rowIs_new _ _ _
          have B1 := hid (show w5.heap.size ≤ p1 from by have := hH.size; omega)
          go_simp
          rw [← hWx2]
          try rw [hp1]
          have A0_1 := hid (show n0 ≤ p1 from by have := C0.out.size; have := T0.out; omega)
          have D0_1 := hid (show p0 < p1 from by have := P0.out.lt; omega)
          clear hWx2 hp1
          have P0 := hid (P0.out.below hbx2)
          have C0 := hid (chainP C0.out hbx2)
          refine hK.out _ _ (chainP hH hbx2) (fun hH => ?_)
          clear hK K hbx2
          try simp only [Act.put, List.getElem_toArray, List.getElem_cons_succ, List.getElem_cons_zero, List.setIfInBounds_toArray, List.set_cons_zero, List.set_cons_succ]
          refine wpAnyH_ready (rs := [3]) (by kernel_rfl) (by simp) ?_
          refine AllReadyH.cons rfl (fun K hK => ?_) AllReadyH.nil
          go_simp
          refine (madeConfig_own (.slice bo m d) LB _ (HR1.out.2.1.below hH) HF1.out.len).mono ?_
          rintro e x3 ⟨v1, rfl, ho1, hbx3⟩
          obtain ⟨ax1, cx1, hfx1⟩ := ownsRow_formN ho1
          obtain ⟨nx1, hnx1⟩ : ∃ n, LB.length = n := ⟨_, rfl⟩
          rw [hnx1] at hfx1
          subst hfx1
          have HK1 := hid ho1
          clear ho1 hnx1
          obtain ⟨m1, hm1⟩ : ∃ m : Nat, x2.heap.size = m := ⟨_, rfl⟩
          obtain ⟨n1, hn1⟩ : ∃ n : Nat, x3.heap.size = n := ⟨_, rfl⟩
          have T1 := hid (And.intro hm1 (And.intro hn1 (And.intro hbx3.size hH.size)))
          clear hm1 hn1
          have A1_0 := hid (show p0 < m1 from by have := P0.out.lt; have := T1.out; omega)
          have A1_1 := hid (show p1 < m1 from by have := P1.out.lt; have := T1.out; omega)
          have P0 := hid (P0.out.below hbx3)
          have P1 := hid (P1.out.below hbx3)
          have C0 := hid (chainP C0.out hbx3)
          have C1 := hid (Below.refl x3.heap.size x3)
          refine hK.out _ _ (chainP hH hbx3) (fun hH => ?_)
          clear hK K hbx3
          try simp only [Act.put, List.getElem_toArray, List.getElem_cons_succ, List.getElem_cons_zero, List.setIfInBounds_toArray, List.set_cons_zero, List.set_cons_succ]
          refine wpAnyH_ready (rs := [6]) (by kernel_rfl) (by simp) ?_
          refine AllReadyH.cons rfl (fun K hK => ?_) AllReadyH.nil
          rw [if_pos (by kernel_rfl)]
          refine wp_store_row 33 _ _ rfl p0 #[.slice ax0 nx0 cx0] rfl rfl 33 #[.slice none 0 0] P0.out infoRefCfg rfl (oneCfg _ _ _) ?_
          refine hK.out _ _ (below_setRow hH B0.out _) (fun hH => ?_)
          clear hK K
          try simp only [Act.put, List.getElem_toArray, List.getElem_cons_succ, List.getElem_cons_zero, List.setIfInBounds_toArray, List.set_cons_zero, List.set_cons_succ]
          have PN := hid (show ¬ p0 = p1 from by first | (have := D0_1.out; omega) | (have := D1_0.out; omega))
          have PX := hid (row_other P1.out PN.out #[.slice ax0 nx0 cx0])
          refine wpAnyH_ready (rs := [7]) (by kernel_rfl) (by simp) ?_
          refine AllReadyH.cons rfl (fun K hK => ?_) AllReadyH.nil
          rw [if_pos (by kernel_rfl)]
          refine wp_store_row 33 _ _ rfl p1 #[.slice ax1 nx1 cx1] rfl rfl 33 #[.slice none 0 0] PX.out infoRefCfg rfl (oneCfg _ _ _) ?_
          refine hK.out _ _ (below_setRow hH B1.out _) (fun hH => ?_)
          clear hK K
          try simp only [Act.put, List.getElem_toArray, List.getElem_cons_succ, List.getElem_cons_zero, List.setIfInBounds_toArray, List.set_cons_zero, List.set_cons_succ]
          refine wpAnyH_done (by kernel_rfl) ?_ _
          go_wp2_with fail
          go_meet
          have HO0 := two_made p0 p1 HK0.out C0.out (by have h1 := T0.out; have h2 := A0_0.out; omega) (by have h1 := T0.out; have h2 := A0_1.out; omega) #[.slice ax0 nx0 cx0] #[.slice ax1 nx1 cx1]
          have HO1 := two_made p0 p1 HK1.out C1.out (by have h1 := T1.out; have h2 := A1_0.out; omega) (by have h1 := T1.out; have h2 := A1_1.out; omega) #[.slice ax0 nx0 cx0] #[.slice ax1 nx1 cx1]
          case rel => exact ⟨p0, p1, _, _, rfl, rfl, row_other (P0.out.setRow _) (fun e => PN.out e.symm) _, PX.out.setRow _, readsP_own HO0 (fun x hx => (HR0.out.2.1.heads x hx).below hH), readsP_own HO1 (fun x hx => (HR1.out.2.1.heads x hx).below hH), chainP HB5.out hH, hH⟩
      · obtain ⟨x1, hWx1⟩ : ∃ W, W = x0.alloc (.cells #[.slice none 0 0] 33) := ⟨_, rfl⟩
        have hbx1 : Below x0.heap.size x0 x1 := by rw [hWx1]; exact below_alloc _ _
        obtain ⟨p1, hp1⟩ : ∃ p, x0.heap.size = p := ⟨_, rfl⟩
        have P1 : Hid (rowIs x1 p1 #[.slice none 0 0] 33) := by rw [hWx1, ← hp1]; exact rowIs_new _ _ _
        have B1 := hid (show w5.heap.size ≤ p1 from by have := hH.size; omega)
        go_simp
        rw [← hWx1]
        try rw [hp1]
        have D0_1 := hid (show p0 < p1 from by have := P0.out.lt; omega)
        clear hWx1 hp1
        have P0 := hid (P0.out.below hbx1)
        refine hK.out _ _ (chainP hH hbx1) (fun hH => ?_)
        clear hK K hbx1
        try simp only [Act.put, List.getElem_toArray, List.getElem_cons_succ, List.getElem_cons_zero, List.setIfInBounds_toArray, List.set_cons_zero, List.set_cons_succ]
        refine wpAnyH_ready (rs := [1]) (by kernel_rfl) (by simp) ?_
        refine AllReadyH.cons rfl (fun K hK => ?_) AllReadyH.nil
        go_simp
        refine (madeConfig_own (.slice ao n c) LA _ (HR0.out.2.1.below hH) HF0.out.len).mono ?_
        rintro e x2 ⟨v0, rfl, ho0, hbx2⟩
        obtain ⟨ax0, cx0, hfx0⟩ := ownsRow_formN ho0
        obtain ⟨nx0, hnx0⟩ : ∃ n, LA.length = n := ⟨_, rfl⟩
        rw [hnx0] at hfx0
        subst hfx0
        have HK0 := hid ho0
        clear ho0 hnx0
        obtain ⟨m0, hm0⟩ : ∃ m : Nat, x1.heap.size = m := ⟨_, rfl⟩
        obtain ⟨n0, hn0⟩ : ∃ n : Nat, x2.heap.size = n := ⟨_, rfl⟩
        have T0 := hid (And.intro hm0 (And.intro hn0 (And.intro hbx2.size hH.size)))
        clear hm0 hn0
        have A0_0 := hid (show p0 < m0 from by have := P0.out.lt; have := T0.out; omega)
        have A0_1 := hid (show p1 < m0 from by have := P1.out.lt; have := T0.out; omega)
        have P0 := hid (P0.out.below hbx2)
        have P1 := hid (P1.out.below hbx2)
        have C0 := hid (Below.refl x2.heap.size x2)
        refine hK.out _ _ (chainP hH hbx2) (fun hH => ?_)
        clear hK K hbx2
        try simp only [Act.put, List.getElem_toArray, List.getElem_cons_succ, List.getElem_cons_zero, List.setIfInBounds_toArray, List.set_cons_zero, List.set_cons_succ]
        refine wpAnyH_ready (rs := [3]) (by kernel_rfl) (by simp) ?_
        refine AllReadyH.cons rfl (fun K hK => ?_) AllReadyH.nil
        go_simp
        refine (madeConfig_own (.slice bo m d) LB _ (HR1.out.2.1.below hH) HF1.out.len).mono ?_
        rintro e x3 ⟨v1, rfl, ho1, hbx3⟩
        obtain ⟨ax1, cx1, hfx1⟩ := ownsRow_formN ho1
        obtain ⟨nx1, hnx1⟩ : ∃ n, LB.length = n := ⟨_, rfl⟩
        rw [hnx1] at hfx1
        subst hfx1
        have HK1 := hid ho1
        clear ho1 hnx1
        obtain ⟨m1, hm1⟩ : ∃ m : Nat, x2.heap.size = m := ⟨_, rfl⟩
        obtain ⟨n1, hn1⟩ : ∃ n : Nat, x3.heap.size = n := ⟨_, rfl⟩
        have T1 := hid (And.intro hm1 (And.intro hn1 (And.intro hbx3.size hH.size)))
        clear hm1 hn1
        have A1_0 := hid (show p0 < m1 from by have := P0.out.lt; have := T1.out; omega)
        have A1_1 := hid (show p1 < m1 from by have := P1.out.lt; have := T1.out; omega)
        have P0 := hid (P0.out.below hbx3)
        have P1 := hid (P1.out.below hbx3)
        have C0 := hid (chainP C0.out hbx3)
        have C1 := hid (Below.refl x3.heap.size x3)
        refine hK.out _ _ (chainP hH hbx3) (fun hH => ?_)
        clear hK K hbx3
        try simp only [Act.put, List.getElem_toArray, List.getElem_cons_succ, List.getElem_cons_zero, List.setIfInBounds_toArray, List.set_cons_zero, List.set_cons_succ]
        refine wpAnyH_ready (rs := [6]) (by kernel_rfl) (by simp) ?_
        refine AllReadyH.cons rfl (fun K hK => ?_) AllReadyH.nil
        rw [if_pos (by kernel_rfl)]
        refine wp_store_row 33 _ _ rfl p0 #[.slice ax0 nx0 cx0] rfl rfl 33 #[.slice none 0 0] P0.out infoRefCfg rfl (oneCfg _ _ _) ?_
        refine hK.out _ _ (below_setRow hH B0.out _) (fun hH => ?_)
        clear hK K
        try simp only [Act.put, List.getElem_toArray, List.getElem_cons_succ, List.getElem_cons_zero, List.setIfInBounds_toArray, List.set_cons_zero, List.set_cons_succ]
        have PN := hid (show ¬ p0 = p1 from by first | (have := D0_1.out; omega) | (have := D1_0.out; omega))
        have PX := hid (row_other P1.out PN.out #[.slice ax0 nx0 cx0])
        refine wpAnyH_ready (rs := [7]) (by kernel_rfl) (by simp) ?_
        refine AllReadyH.cons rfl (fun K hK => ?_) AllReadyH.nil
        rw [if_pos (by kernel_rfl)]
        refine wp_store_row 33 _ _ rfl p1 #[.slice ax1 nx1 cx1] rfl rfl 33 #[.slice none 0 0] PX.out infoRefCfg rfl (oneCfg _ _ _) ?_
        refine hK.out _ _ (below_setRow hH B1.out _) (fun hH => ?_)
        clear hK K
        try simp only [Act.put, List.getElem_toArray, List.getElem_cons_succ, List.getElem_cons_zero, List.setIfInBounds_toArray, List.set_cons_zero, List.set_cons_succ]
        refine wpAnyH_done (by kernel_rfl) ?_ _
        go_wp2_with fail
        go_meet
        have HO0 := two_made p0 p1 HK0.out C0.out (by have h1 := T0.out; have h2 := A0_0.out; omega) (by have h1 := T0.out; have h2 := A0_1.out; omega) #[.slice ax0 nx0 cx0] #[.slice ax1 nx1 cx1]
        have HO1 := two_made p0 p1 HK1.out C1.out (by have h1 := T1.out; have h2 := A1_0.out; omega) (by have h1 := T1.out; have h2 := A1_1.out; omega) #[.slice ax0 nx0 cx0] #[.slice ax1 nx1 cx1]
        case rel => exact ⟨p0, p1, _, _, rfl, rfl, row_other (P0.out.setRow _) (fun e => PN.out e.symm) _, PX.out.setRow _, readsP_own HO0 (fun x hx => (HR0.out.2.1.heads x hx).below hH), readsP_own HO1 (fun x hx => (HR1.out.2.1.heads x hx).below hH), chainP HB5.out hH, hH⟩
    · obtain ⟨x0, hWx0⟩ : ∃ W, W = w0.alloc (.cells #[.slice none 0 0] 33) := ⟨_, rfl⟩
      have hbx0 : Below w0.heap.size w0 x0 := by rw [hWx0]; exact below_alloc _ _
      obtain ⟨p1, hp1⟩ : ∃ p, w0.heap.size = p := ⟨_, rfl⟩
      have P1 : Hid (rowIs x0 p1 #[.slice none 0 0] 33) := by rw [hWx0, ← hp1]; exact rowIs_new _ _ _
      have B1 := hid (show w5.heap.size ≤ p1 from by have := hH.size; omega)
      go_simp
      rw [← hWx0]
      try rw [hp1]
      clear hWx0 hp1
      refine hK.out _ _ (chainP hH hbx0) (fun hH => ?_)
      clear hK K hbx0
      try simp only [Act.put, List.getElem_toArray, List.getElem_cons_succ, List.getElem_cons_zero, List.setIfInBounds_toArray, List.set_cons_zero, List.set_cons_succ]
      refine wpAnyH_ready (rs := [1, 4]) (by kernel_rfl) (by simp) ?_
      refine AllReadyH.cons rfl (fun K hK => ?_) (AllReadyH.cons rfl (fun K hK => ?_) AllReadyH.nil)
      · go_simp
        refine (madeConfig_own (.slice ao n c) LA _ (HR0.out.2.1.below hH) HF0.out.len).mono ?_
        rintro e x1 ⟨v0, rfl, ho0, hbx1⟩
        obtain ⟨ax0, cx0, hfx0⟩ := ownsRow_formN ho0
        obtain ⟨nx0, hnx0⟩ : ∃ n, LA.length = n := ⟨_, rfl⟩
        rw [hnx0] at hfx0
        subst hfx0
        have HK0 := hid ho0
        clear ho0 hnx0
        obtain ⟨m0, hm0⟩ : ∃ m : Nat, x0.heap.size = m := ⟨_, rfl⟩
        obtain ⟨n0, hn0⟩ : ∃ n : Nat, x1.heap.size = n := ⟨_, rfl⟩
        have T0 := hid (And.intro hm0 (And.intro hn0 (And.intro hbx1.size hH.size)))
        clear hm0 hn0
        have A0_1 := hid (show p1 < m0 from by have := P1.out.lt; have := T0.out; omega)
        have P1 := hid (P1.out.below hbx1)
        have C0 := hid (Below.refl x1.heap.size x1)
        refine hK.out _ _ (chainP hH hbx1) (fun hH => ?_)
        clear hK K hbx1
        try simp only [Act.put, List.getElem_toArray, List.getElem_cons_succ, List.getElem_cons_zero, List.setIfInBounds_toArray, List.set_cons_zero, List.set_cons_succ]
        refine wpAnyH_ready (rs := [3, 4]) (by kernel_rfl) (by simp) ?_
        refine AllReadyH.cons rfl (fun K hK => ?_) (AllReadyH.cons rfl (fun K hK => ?_) AllReadyH.nil)
        · go_simp
          refine (madeConfig_own (.slice bo m d) LB _ (HR1.out.2.1.below hH) HF1.out.len).mono ?_
          rintro e x2 ⟨v1, rfl, ho1, hbx2⟩
          obtain ⟨ax1, cx1, hfx1⟩ := ownsRow_formN ho1
          obtain ⟨nx1, hnx1⟩ : ∃ n, LB.length = n := ⟨_, rfl⟩
          rw [hnx1] at hfx1
          subst hfx1
          have HK1 := hid ho1
          clear ho1 hnx1
          obtain ⟨m1, hm1⟩ : ∃ m : Nat, x1.heap.size = m := ⟨_, rfl⟩
          obtain ⟨n1, hn1⟩ : ∃ n : Nat, x2.heap.size = n := ⟨_, rfl⟩
          have T1 := hid (And.intro hm1 (And.intro hn1 (And.intro hbx2.size hH.size)))
          clear hm1 hn1
          have A1_1 := hid (show p1 < m1 from by have := P1.out.lt; have := T1.out; omega)
          have P1 := hid (P1.out.below hbx2)
          have C0 := hid (chainP C0.out hbx2)
          have C1 := hid (Below.refl x2.heap.size x2)
          refine hK.out _ _ (chainP hH hbx2) (fun hH => ?_)
          clear hK K hbx2
          try simp only [Act.put, List.getElem_toArray, List.getElem_cons_succ, List.getElem_cons_zero, List.setIfInBounds_toArray, List.set_cons_zero, List.set_cons_succ]
          refine wpAnyH_ready (rs := [4]) (by kernel_rfl) (by simp) ?_
          refine AllReadyH.cons rfl (fun K hK => ?_) AllReadyH.nil
          obtain ⟨x3, hWx3⟩ : ∃ W, W = x2.alloc (.cells #[.slice none 0 0] 33) := ⟨_, rfl⟩
          have hbx3 : Below x2.heap.size x2 x3 := by rw [hWx3]; exact below_alloc _ _
          obtain ⟨p0, hp0⟩ : ∃ p, x2.heap.size = p := ⟨_, rfl⟩
          have P0 : Hid (rowIs x3 p0 #[.slice none 0 0] 33) := by rw [hWx3, ← hp0]; exact rowIs_new _ _ _
          have B0 := hid (show w5.heap.size ≤ p0 from by have := hH.size; omega)
          go_simp
          rw [← hWx3]
          try rw [hp0]
          have A0_0 := hid (show n0 ≤ p0 from by have := C0.out.size; have := T0.out; omega)
          have A1_0 := hid (show n1 ≤ p0 from by have := C1.out.size; have := T1.out; omega)
          have D1_0 := hid (show p1 < p0 from by have := P1.out.lt; omega)
          clear hWx3 hp0
          have P1 := hid (P1.out.below hbx3)
          have C0 := hid (chainP C0.out hbx3)
          have C1 := hid (chainP C1.out hbx3)
          refine hK.out _ _ (chainP hH hbx3) (fun hH => ?_)
          clear hK K hbx3
          try simp only [Act.put, List.getElem_toArray, List.getElem_cons_succ, List.getElem_cons_zero, List.setIfInBounds_toArray, List.set_cons_zero, List.set_cons_succ]
          refine wpAnyH_ready (rs := [6]) (by kernel_rfl) (by simp) ?_
          refine AllReadyH.cons rfl (fun K hK => ?_) AllReadyH.nil
          rw [if_pos (by kernel_rfl)]
          refine wp_store_row 33 _ _ rfl p0 #[.slice ax0 nx0 cx0] rfl rfl 33 #[.slice none 0 0] P0.out infoRefCfg rfl (oneCfg _ _ _) ?_
          refine hK.out _ _ (below_setRow hH B0.out _) (fun hH => ?_)
          clear hK K
          try simp only [Act.put, List.getElem_toArray, List.getElem_cons_succ, List.getElem_cons_zero, List.setIfInBounds_toArray, List.set_cons_zero, List.set_cons_succ]
          have PN := hid (show ¬ p0 = p1 from by first | (have := D0_1.out; omega) | (have := D1_0.out; omega))
          have PX := hid (row_other P1.out PN.out #[.slice ax0 nx0 cx0])
          refine wpAnyH_ready (rs := [7]) (by kernel_rfl) (by simp) ?_
          refine AllReadyH.cons rfl (fun K hK => ?_) AllReadyH.nil
          rw [if_pos (by kernel_rfl)]
          refine wp_store_row 33 _ _ rfl p1 #[.slice ax1 nx1 cx1] rfl rfl 33 #[.slice none 0 0] PX.out infoRefCfg rfl (oneCfg _ _ _) ?_
          refine hK.out _ _ (below_setRow hH B1.out _) (fun hH => ?_)
          clear hK K
          try simp only [Act.put, List.getElem_toArray, List.getElem_cons_succ, List.getElem_cons_zero, List.setIfInBounds_toArray, List.set_cons_zero, List.set_cons_succ]
          refine wpAnyH_done (by kernel_rfl) ?_ _
          go_wp2_with fail
          go_meet
          have HO0 := two_made p0 p1 HK0.out C0.out (by have h1 := T0.out; have h2 := A0_0.out; omega) (by have h1 := T0.out; have h2 := A0_1.out; omega) #[.slice ax0 nx0 cx0] #[.slice ax1 nx1 cx1]
          have HO1 := two_made p0 p1 HK1.out C1.out (by have h1 := T1.out; have h2 := A1_0.out; omega) (by have h1 := T1.out; have h2 := A1_1.out; omega) #[.slice ax0 nx0 cx0] #[.slice ax1 nx1 cx1]
          case rel => exact ⟨p0, p1, _, _, rfl, rfl, row_other (P0.out.setRow _) (fun e => PN.out e.symm) _, PX.out.setRow _, readsP_own HO0 (fun x hx => (HR0.out.2.1.heads x hx).below hH), readsP_own HO1 (fun x hx => (HR1.out.2.1.heads x hx).below hH), chainP HB5.out hH, hH⟩
        · obtain ⟨x2, hWx2⟩ : ∃ W, W = x1.alloc (.cells #[.slice none 0 0] 33) := ⟨_, rfl⟩
          have hbx2 : Below x1.heap.size x1 x2 := by rw [hWx2]; exact below_alloc _ _
          obtain ⟨p0, hp0⟩ : ∃ p, x1.heap.size = p := ⟨_, rfl⟩
          have P0 : Hid (rowIs x2 p0 #[.slice none 0 0] 33) := by rw [hWx2, ← hp0]; exact rowIs_new _ _ _
          have B0 := hid (show w5.heap.size ≤ p0 from by have := hH.size; omega)
          go_simp
          rw [← hWx2]
          try rw [hp0]
          have A0_0 := hid (show n0 ≤ p0 from by have := C0.out.size; have := T0.out; omega)
          have D1_0 := hid (show p1 < p0 from by have := P1.out.lt; omega)
          clear hWx2 hp0
          have P1 := hid (P1.out.below hbx2)
          have C0 := hid (chainP C0.out hbx2)
          refine hK.out _ _ (chainP hH hbx2) (fun hH => ?_)
          clear hK K hbx2
          try simp only [Act.put, List.getElem_toArray, List.getElem_cons_succ, List.getElem_cons_zero, List.setIfInBounds_toArray, List.set_cons_zero, List.set_cons_succ]
          refine wpAnyH_ready (rs := [3]) (by kernel_rfl) (by simp) ?_
          refine AllReadyH.cons rfl (fun K hK => ?_) AllReadyH.nil
          go_simp
          refine (madeConfig_own (.slice bo m d) LB _ (HR1.out.2.1.below hH) HF1.out.len).mono ?_
          rintro e x3 ⟨v1, rfl, ho1, hbx3⟩
          obtain ⟨ax1, cx1, hfx1⟩ := ownsRow_formN ho1
          obtain ⟨nx1, hnx1⟩ : ∃ n, LB.length = n := ⟨_, rfl⟩
          rw [hnx1] at hfx1
          subst hfx1
          have HK1 := hid ho1
          clear ho1 hnx1
          obtain ⟨m1, hm1⟩ : ∃ m : Nat, x2.heap.size = m := ⟨_, rfl⟩
          obtain ⟨n1, hn1⟩ : ∃ n : Nat, x3.heap.size = n := ⟨_, rfl⟩
          have T1 := hid (And.intro hm1 (And.intro hn1 (And.intro hbx3.size hH.size)))
          clear hm1 hn1
          have A1_1 := hid (show p1 < m1 from by have := P1.out.lt; have := T1.out; omega)
          have A1_0 := hid (show p0 < m1 from by have := P0.out.lt; have := T1.out; omega)
          have P1 := hid (P1.out.below hbx3)
          have P0 := hid (P0.out.below hbx3)
          have C0 := hid (chainP C0.out hbx3)
          have C1 := hid (Below.refl x3.heap.size x3)
          refine hK.out _ _ (chainP hH hbx3) (fun hH => ?_)
          clear hK K hbx3
          try simp only [Act.put, List.getElem_toArray, List.getElem_cons_succ, List.getElem_cons_zero, List.setIfInBounds_toArray, List.set_cons_zero, List.set_cons_succ]
          refine wpAnyH_ready (rs := [6]) (by kernel_rfl) (by simp) ?_
          refine AllReadyH.cons rfl (fun K hK => ?_) AllReadyH.nil
          rw [if_pos (by kernel_rfl)]
          refine wp_store_row 33 _ _ rfl p0 #[.slice ax0 nx0 cx0] rfl rfl 33 #[.slice none 0 0] P0.out infoRefCfg rfl (oneCfg _ _ _) ?_
          refine hK.out _ _ (below_setRow hH B0.out _) (fun hH => ?_)
          clear hK K
          try simp only [Act.put, List.getElem_toArray, List.getElem_cons_succ, List.getElem_cons_zero, List.setIfInBounds_toArray, List.set_cons_zero, List.set_cons_succ]
          have PN := hid (show ¬ p0 = p1 from by first | (have := D0_1.out; omega) | (have := D1_0.out; omega))
          have PX := hid (row_other P1.out PN.out #[.slice ax0 nx0 cx0])
          refine wpAnyH_ready (rs := [7]) (by kernel_rfl) (by simp) ?_
          refine AllReadyH.cons rfl (fun K hK => ?_) AllReadyH.nil
          rw [if_pos (by kernel_rfl)]
          refine wp_store_row 33 _ _ rfl p1 #[.slice ax1 nx1 cx1] rfl rfl 33 #[.slice none 0 0] PX.out infoRefCfg rfl (oneCfg _ _ _) ?_
          refine hK.out _ _ (below_setRow hH B1.out _) (fun hH => ?_)
          clear hK K
          try simp only [Act.put, List.getElem_toArray, List.getElem_cons_succ, List.getElem_cons_zero, List.setIfInBounds_toArray, List.set_cons_zero, List.set_cons_succ]
          refine wpAnyH_done (by kernel_rfl) ?_ _
          go_wp2_with fail
          go_meet
          have HO0 := two_made p0 p1 HK0.out C0.out (by have h1 := T0.out; have h2 := A0_0.out; omega) (by have h1 := T0.out; have h2 := A0_1.out; omega) #[.slice ax0 nx0 cx0] #[.slice ax1 nx1 cx1]
          have HO1 := two_made p0 p1 HK1.out C1.out (by have h1 := T1.out; have h2 := A1_0.out; omega) (by have h1 := T1.out; have h2 := A1_1.out; omega) #[.slice ax0 nx0 cx0] #[.slice ax1 nx1 cx1]
          case rel => exact ⟨p0, p1, _, _, rfl, rfl, row_other (P0.out.setRow _) (fun e => PN.out e.symm) _, PX.out.setRow _, readsP_own HO0 (fun x hx => (HR0.out.2.1.heads x hx).below hH), readsP_own HO1 (fun x hx => (HR1.out.2.1.heads x hx).below hH), chainP HB5.out hH, hH⟩
      · obtain ⟨x1, hWx1⟩ : ∃ W, W = x0.alloc (.cells #[.slice none 0 0] 33) := ⟨_, rfl⟩
        have hbx1 : Below x0.heap.size x0 x1 := by rw [hWx1]; exact below_alloc _ _
        obtain ⟨p0, hp0⟩ : ∃ p, x0.heap.size = p := ⟨_, rfl⟩
        have P0 : Hid (rowIs x1 p0 #[.slice none 0 0] 33) := by rw [hWx1, ← hp0]; exact rowIs_new _ _ _
        have B0 := hid (show w5.heap.size ≤ p0 from by have := hH.size; omega)
        go_simp
        rw [← hWx1]
        try rw [hp0]
        have D1_0 := hid (show p1 < p0 from by have := P1.out.lt; omega)
        clear hWx1 hp0
        have P1 := hid (P1.out.below hbx1)
        refine hK.out _ _ (chainP hH hbx1) (fun hH => ?_)
        clear hK K hbx1
        try simp only [Act.put, List.getElem_toArray, List.getElem_cons_succ, List.getElem_cons_zero, List.setIfInBounds_toArray, List.set_cons_zero, List.set_cons_succ]
        refine wpAnyH_ready (rs := [1]) (by kernel_rfl) (by simp) ?_
        refine AllReadyH.cons rfl (fun K hK => ?_) AllReadyH.nil
        go_simp
        refine (madeConfig_own (.slice ao n c) LA _ (HR0.out.2.1.below hH) HF0.out.len).mono ?_
        rintro e x2 ⟨v0, rfl, ho0, hbx2⟩
        obtain ⟨ax0, cx0, hfx0⟩ := ownsRow_formN ho0
        obtain ⟨nx0, hnx0⟩ : ∃ n, LA.length = n := ⟨_, rfl⟩
        rw [hnx0] at hfx0
        subst hfx0
        have HK0 := hid ho0
        clear ho0 hnx0
        obtain ⟨m0, hm0⟩ : ∃ m : Nat, x1.heap.size = m := ⟨_, rfl⟩
        obtain ⟨n0, hn0⟩ : ∃ n : Nat, x2.heap.size = n := ⟨_, rfl⟩
        have T0 := hid (And.intro hm0 (And.intro hn0 (And.intro hbx2.size hH.size)))
        clear hm0 hn0
        have A0_1 := hid (show p1 < m0 from by have := P1.out.lt; have := T0.out; omega)
        have A0_0 := hid (show p0 < m0 from by have := P0.out.lt; have := T0.out; omega)
        have P1 := hid (P1.out.below hbx2)
        have P0 := hid (P0.out.below hbx2)
        have C0 := hid (Below.refl x2.heap.size x2)
        refine hK.out _ _ (chainP hH hbx2) (fun hH => ?_)
        clear hK K hbx2
        try simp only [Act.put, List.getElem_toArray, List.getElem_cons_succ, List.getElem_cons_zero, List.setIfInBounds_toArray, List.set_cons_zero, List.set_cons_succ]
        refine wpAnyH_ready (rs := [3]) (by kernel_rfl) (by simp) ?_
        refine AllReadyH.cons rfl (fun K hK => ?_) AllReadyH.nil
        go_simp
        refine (madeConfig_own (.slice bo m d) LB _ (HR1.out.2.1.below hH) HF1.out.len).mono ?_
        rintro e x3 ⟨v1, rfl, ho1, hbx3⟩
        obtain ⟨ax1, cx1, hfx1⟩ := ownsRow_formN ho1
        obtain ⟨nx1, hnx1⟩ : ∃ n, LB.length = n := ⟨_, rfl⟩
        rw [hnx1] at hfx1
        subst hfx1
        have HK1 := hid ho1
        clear ho1 hnx1
        obtain ⟨m1, hm1⟩ : ∃ m : Nat, x2.heap.size = m := ⟨_, rfl⟩
        obtain ⟨n1, hn1⟩ : ∃ n : Nat, x3.heap.size = n := ⟨_, rfl⟩
        have T1 := hid (And.intro hm1 (And.intro hn1 (And.intro hbx3.size hH.size)))
        clear hm1 hn1
        have A1_1 := hid (show p1 < m1 from by have := P1.out.lt; have := T1.out; omega)
        have A1_0 := hid (show p0 < m1 from by have := P0.out.lt; have := T1.out; omega)
        have P1 := hid (P1.out.below hbx3)
        have P0 := hid (P0.out.below hbx3)
        have C0 := hid (chainP C0.out hbx3)
        have C1 := hid (Below.refl x3.heap.size x3)
        refine hK.out _ _ (chainP hH hbx3) (fun hH => ?_)
        clear hK K hbx3
        try simp only [Act.put, List.getElem_toArray, List.getElem_cons_succ, List.getElem_cons_zero, List.setIfInBounds_toArray, List.set_cons_zero, List.set_cons_succ]
        refine wpAnyH_ready (rs := [6]) (by kernel_rfl) (by simp) ?_
        refine AllReadyH.cons rfl (fun K hK => ?_) AllReadyH.nil
        rw [if_pos (by kernel_rfl)]
        refine wp_store_row 33 _ _ rfl p0 #[.slice ax0 nx0 cx0] rfl rfl 33 #[.slice none 0 0] P0.out infoRefCfg rfl (oneCfg _ _ _) ?_
        refine hK.out _ _ (below_setRow hH B0.out _) (fun hH => ?_)
        clear hK K
        try simp only [Act.put, List.getElem_toArray, List.getElem_cons_succ, List.getElem_cons_zero, List.setIfInBounds_toArray, List.set_cons_zero, List.set_cons_succ]
        have PN := hid (show ¬ p0 = p1 from by first | (have := D0_1.out; omega) | (have := D1_0.out; omega))
        have PX := hid (row_other P1.out PN.out #[.slice ax0 nx0 cx0])
        refine wpAnyH_ready (rs := [7]) (by kernel_rfl) (by simp) ?_
        refine AllReadyH.cons rfl (fun K hK => ?_) AllReadyH.nil
        rw [if_pos (by kernel_rfl)]
        refine wp_store_row 33 _ _ rfl p1 #[.slice ax1 nx1 cx1] rfl rfl 33 #[.slice none 0 0] PX.out infoRefCfg rfl (oneCfg _ _ _) ?_
        refine hK.out _ _ (below_setRow hH B1.out _) (fun hH => ?_)
        clear hK K
        try simp only [Act.put, List.getElem_toArray, List.getElem_cons_succ, List.getElem_cons_zero, List.setIfInBounds_toArray, List.set_cons_zero, List.set_cons_succ]
        refine wpAnyH_done (by kernel_rfl) ?_ _
        go_wp2_with fail
        go_meet
        have HO0 := two_made p0 p1 HK0.out C0.out (by have h1 := T0.out; have h2 := A0_0.out; omega) (by have h1 := T0.out; have h2 := A0_1.out; omega) #[.slice ax0 nx0 cx0] #[.slice ax1 nx1 cx1]
        have HO1 := two_made p0 p1 HK1.out C1.out (by have h1 := T1.out; have h2 := A1_0.out; omega) (by have h1 := T1.out; have h2 := A1_1.out; omega) #[.slice ax0 nx0 cx0] #[.slice ax1 nx1 cx1]
        case rel => exact ⟨p0, p1, _, _, rfl, rfl, row_other (P0.out.setRow _) (fun e => PN.out e.symm) _, PX.out.setRow _, readsP_own HO0 (fun x hx => (HR0.out.2.1.heads x hx).below hH), readsP_own HO1 (fun x hx => (HR1.out.2.1.heads x hx).below hH), chainP HB5.out hH, hH⟩
  case rest =>
  rename World => w8
  obtain ⟨p0, p1, vx, vy, rfl, rfl, hx, hy, hrx, hry, hb8, hb58⟩ := hcut
  obtain ⟨ax, cx, ex, -⟩ := hrx.form
  obtain ⟨ay, cy, ey, -⟩ := hry.form
  rw [HN.out.1] at ex
  rw [HN.out.2] at ey
  subst ex ey
  have HB8 := hid hb8
  have RX : Hid (∀ W', Below w8.heap.size w8 W' → rowIs W' p0 #[.slice ax n cx] 33) := fun W' h => hx.below h
  have RY : Hid (∀ W', Below w8.heap.size w8 W' → rowIs W' p1 #[.slice ay m cy] 33) := fun W' h => hy.below h
  have HRX := hid (And.intro hrx hry)
  have CX := hid (refConfigRight_any (.slice ax n cx) LA w8 hrx HF0.out)
  have CY : Hid (∀ W', Below w8.heap.size w8 W' → Calls Tryz.prog 18 #[.agg #[.slice ay m cy]] W' fun e w' => e = .returned (.bool (rightC (LB.map (·.1)))) ∧ Below W'.heap.size W' w') := fun W' h => refConfigRight_any _ LB W' (HRX.out.2.below h) HF1.out
  have hx := hx
  clear hrx hry hb8 hy
  rcases HD.out with ⟨hr, rfl, ho⟩ | ⟨hr, rfl, rfl⟩
  · rw [Bool.and_eq_true] at hr
    obtain ⟨ha, hb⟩ := hr
    have HO := hid (ownsRow_kept ho (Kept.of_below (X := fun _ => False) hb58) (fun _ _ h => h))
    clear ho hb58 HD
    go_wp2_with (refine wpList_load_row rfl 33 _ rfl p0 rfl 33 _ (0, 0) _ hx Tryz.underlying33 rfl infoRefCfg ?_)
    refine CX.out.mono ?_
    rw [ha]
    rintro e w9 ⟨rfl, hb9⟩
    have HB9 := hid hb9
    have hy : w9.cell? ⟨p1, 0, none⟩ = some (.slice ay m cy) := (RY.out _ hb9).cell 0
    clear hb9 hx
    go_wp2_with fail
    refine (CY.out _ HB9.out).mono ?_
    rw [hb]
    rintro e w10 ⟨rfl, hb10⟩
    have HB10 := hid (chainP HB9.out hb10)
    clear hb10 hy ha hb
    have hx : w10.cell? ⟨p0, 0, none⟩ = some (.slice ax n cx) := (RX.out _ HB10.out).cell 0
    have hy : w10.cell? ⟨p1, 0, none⟩ = some (.slice ay m cy) := (RY.out _ HB10.out).cell 0
    go_wp2_with fail
    refine (refDiff_any (.slice ax n cx) (.slice ay m cy) LA LB w10 (HRX.out.1.below HB10.out) (HRX.out.2.below HB10.out) HF0.out HF1.out (by have := HL.out; omega)).mono ?_
    rintro e w11 ⟨vb, rfl, hob, hb11⟩
    have HB11 := hid (chainP HB10.out hb11)
    have HOB := hid (And.intro hob hb11)
    clear hob hb11 hx hy
    go_wp2_with fail
    refine (lawActions_eq va vb (actsP (LA.map (·.1)) (LB.map (·.1))) w11 ((HO.out.readsA).2.below HB11.out) (HOB.out.1.readsA).2 (by
      have h1 := actsP_len (LA.map (·.1)) (LB.map (·.1))
      have h2 := hostsP_len_le (LA.map (·.1)) (LB.map (·.1))
      have h3 := HL.out
      rw [List.length_map, List.length_map] at h2
      omega)).mono ?_
    rintro e w12 ⟨rfl, hb12⟩
    have HB12 := hid (chainP HB11.out hb12)
    clear hb12
    go_wp2_with fail
    go_ret
    exact ⟨rfl, chainP HBW.out (chainP HB8.out HB12.out)⟩
  · clear hb58 HD
    have HRF := hid hr
    clear hr
    obtain ⟨qa, hqa⟩ : ∃ q, rightC (LA.map (·.1)) = q := ⟨_, rfl⟩
    obtain ⟨qb, hqb⟩ : ∃ q, rightC (LB.map (·.1)) = q := ⟨_, rfl⟩
    have HRG := hid (show (qa && qb) = false by rw [← hqa, ← hqb]; exact HRF.out)
    have HQ := hid (And.intro hqa hqb)
    clear hqa hqb HRF
    go_wp2_with (refine wpList_load_row rfl 33 _ rfl p0 rfl 33 _ (0, 0) _ hx Tryz.underlying33 rfl infoRefCfg ?_)
    refine CX.out.mono ?_
    rw [HQ.out.1]
    rintro e w9 ⟨rfl, hb9⟩
    have HB9 := hid hb9
    have hy : w9.cell? ⟨p1, 0, none⟩ = some (.slice ay m cy) := (RY.out _ hb9).cell 0
    clear hb9 hx
    cases qa
    · go_wp2_with fail
      go_ret
      exact ⟨rfl, chainP HBW.out (chainP HB8.out HB9.out)⟩
    go_wp2_with fail
    refine (CY.out _ HB9.out).mono ?_
    rw [HQ.out.2]
    rintro e w10 ⟨rfl, hb10⟩
    have HB10 := hid (chainP HB9.out hb10)
    clear hb10 hy
    cases qb
    · go_wp2_with fail
      go_ret
      exact ⟨rfl, chainP HBW.out (chainP HB8.out HB10.out)⟩
    · exact absurd HRG.out (by simp)
end Go.Proofs.YtenijpcjemdhfaaGreatDoor
