/-
  The walk of the statement PlanNexts.
-/
import Derived.Test.YtenijpcjemdhfaaGreatDoorP10dLaw10E
import Derived.Test.YtenijpcjemdhfaaGreatDoorP10dRef9C
import Derived.Test.YtenijpcjemdhfaaGreatDoorP10d08
import Derived.Test.YtenijpcjemdhfaaGreatDoorP10dMadeT
import Derived.Test.YtenijpcjemdhfaaGreatDoorP10dSmallT
import Derived.Test.YtenijpcjemdhfaaGreatDoorP10dRef10C
import Derived.Test.YtenijpcjemdhfaaGreatDoorP10dRef10D
import Derived.Test.YtenijpcjemdhfaaGreatDoorP10dRef10E
import Derived.Test.YtenijpcjemdhfaaGreatDoorP10dRef9G
namespace Go.Pantry
theorem g1 {α : Type} {a : List α} {i : Nat} (h : i < a.toArray.size) : a.toArray[i] = a[i]'(by simpa using h) := List.getElem_toArray h
theorem g2 {α : Type} {a : α} {l : List α} {i : Nat} (h : i + 1 < (a :: l).length) : (a :: l)[i + 1] = l[i]'(Nat.lt_of_succ_lt_succ h) := List.getElem_cons_succ ..
theorem g3 {α : Type} {a : α} {l : List α} (h : 0 < (a :: l).length) : (a :: l)[0] = a := List.getElem_cons_zero ..
theorem g4 {α : Type} {l : List α} {i : Nat} {a : α} : l.toArray.setIfInBounds i a = (l.set i a).toArray := List.setIfInBounds_toArray ..
theorem g5 {α : Type} {l : List α} {x a : α} : (x :: l).set 0 a = a :: l := List.set_cons_zero ..
theorem g6 {α : Type} {l : List α} {x a : α} {i : Nat} : (x :: l).set (i + 1) a = x :: l.set i a := List.set_cons_succ ..
end Go.Pantry
namespace Go.Proofs.YtenijpcjemdhfaaGreatDoor
open Go.RowKit Go.Pantry

set_option maxRecDepth 100000 in
set_option maxHeartbeats 16000000 in
theorem planNexts_walk (g : Int) (V : Value) (L : List RuleZ) (VC : Value) (LC : List (SiteZ × Value)) (s : ByteArray) (w : World) (hm : MaxOk w) (ht : Tab10 w) (hT : ReadsR w V L ∧ L.length ≤ maxLen ∧ (∀ y ∈ L, SiteFit y.1 y.2.1 ∧ (Lit.int .i64 y.2.2).wf = true) ∧ (Lit.int .i64 g).wf = true) (hA : ReadsP w VC LC ∧ LC.length ≤ maxLen ∧ ∀ y ∈ LC, SiteFit y.1 y.2) (hs : s.size ≤ maxLen) (hz : Reach L) :
    Calls Tryz.prog 6 #[.agg #[.int .i64 g, V], .agg #[VC], .string s] w fun e w' => e = .returned (.bool true) ∧ Below w.heap.size w w' := by
  obtain ⟨hrT, hlT, hfT, -⟩ := hT
  obtain ⟨hrC, hlC, hfC⟩ := hA
  unfold maxLen at hlT hlC hs
  have hhC : ∀ x ∈ LC, x.1.heads.length ≤ 9223372036854775807 := fun x hx => by
    have := (hfC x hx).2.2.1
    unfold maxLen at this
    omega
  obtain ⟨T0, hT0⟩ : ∃ T, s.data.toList = T := ⟨_, rfl⟩
  have hTl : T0.length = s.size := by rw [← hT0, size_list]
  have hsT : (.string s : Value) = strV T0 := by rw [← hT0]
  rw [hsT]
  obtain ⟨ao, cap, e1, f1⟩ := hrT.form
  obtain ⟨bo, d, e2, f2⟩ := hrC.form
  obtain ⟨n, hln⟩ : ∃ n, L.length = n := ⟨_, rfl⟩
  obtain ⟨m, hlm⟩ : ∃ n, LC.length = n := ⟨_, rfl⟩
  rw [hln] at e1
  rw [hlm] at e2
  subst e1 e2
  obtain ⟨W, hW⟩ : ∃ W, (w.alloc (.cells #[.int .i64 g, .slice ao n cap] 52)).alloc (.cells #[.slice bo m d] 25) = W := ⟨_, rfl⟩
  have hbW : Below w.heap.size w W := by rw [← hW]; exact chainP (below_alloc _ _) (below_alloc _ _)
  have q1 : rowIs W w.heap.size #[.int .i64 g, .slice ao n cap] 52 := by rw [← hW]; exact (rowIs_new _ _ _).below (below_alloc _ _)
  have q2 : rowIs W (w.heap.size + 1) #[.slice bo m d] 25 := by rw [← hW]; exact rowIs_new_at _ _ _ _ (by simp)
  have RT : Hid (∀ W', Below W.heap.size W W' → rowIs W' w.heap.size #[.int .i64 g, .slice ao n cap] 52) := fun W' h => q1.below h
  have RC4 : Hid (∀ W', Below W.heap.size W W' → rowIs W' (w.heap.size + 1) #[.slice bo m d] 25) := fun W' h => q2.below h
  have HR := hid (And.intro (hrT.below hbW) (hrC.below hbW))
  have HBW := hid hbW
  have HM := hid (And.intro (hm.below hbW) (ht.below hbW))
  have HN := hid (And.intro hln hlm)
  have HFT := hid (And.intro hfT (And.intro hfC hz))
  have AN := hid (anchor10_any W (hm.below hbW) (ht.below hbW))
  have SA := hid (And.intro hlC hhC)
  clear hrT hrC hlT hlC hfT hfC hhC f1 f2 hln hlm hbW q1 q2 hm ht hT0 hsT hs hz
  go_enter Tryz.func6, Tryz.ntmps6
  go_wp2_with fail
  refine AN.out.mono ?_
  rintro e w1 ⟨rfl, hb1⟩
  have ra := RT.out _ hb1
  have HB1 := hid hb1
  clear hb1 hW AN
  go_wp2_with (refine wpList_load_row rfl 52 _ rfl w.heap.size rfl 52 _ (0, 0) _ ra Tryz.underlying52 rfl infoTable ?_)
  refine (smallTable_any g (.slice ao n cap) L w1 (HR.out.1.below HB1.out) HFT.out.2.2).mono ?_
  rintro e w2 ⟨b, rfl, hsm, hb2⟩
  have HSA := hid hsm
  have HB2 := hid (chainP HB1.out hb2)
  clear hsm hb2 ra
  cases b
  · go_wp2_with fail
    go_ret
    exact ⟨rfl, chainP HBW.out HB2.out⟩
  have yb : w2.cell? ⟨w.heap.size + 1, 0, none⟩ = some (.slice bo m d) := (RC4.out _ HB2.out).cell 0
  go_wp2_with fail
  refine (smallSites_any (.slice bo m d) LC w2 (HR.out.2.below HB2.out) SA.out.1 SA.out.2).mono ?_
  rintro e w3 ⟨b, rfl, hsm, hb3⟩
  have HSB := hid hsm
  have HB3 := hid (chainP HB2.out hb3)
  clear hsm hb3 yb
  cases b
  · go_wp2_with fail
    go_ret
    exact ⟨rfl, chainP HBW.out HB3.out⟩
  have HF := hid (And.intro (fewR_fit (HSA.out (by trivial)).1 (HSA.out (by trivial)).2 (fun y hy => (HFT.out.1 y hy).1.1)) (few_fit (HSB.out (by trivial)).1 (HSB.out (by trivial)).2 (fun y hy => (HFT.out.2.1 y hy).1)))
  have HL12 := hid (And.intro (HSA.out (by trivial)).1 (HSB.out (by trivial)).1)
  clear HSA HSB
  by_cases h100 : (100 : Int) < (T0.length : Int)
  · have d1 : decide ((100 : Int) < (T0.length : Int)) = true := decide_eq_true h100
    go_wp2_with fail
    go_ret
    exact ⟨rfl, chainP HBW.out HB3.out⟩
  have d1 : decide ((100 : Int) < (T0.length : Int)) = false := decide_eq_false h100
  have HR0 := hid (HR.out.1.below HB3.out)
  have HR1 := hid (HR.out.2.below HB3.out)
  clear h100 hTl
  go_wp2_with fail
  go_cut [7, 8] from 9 to 33 (fun u7 u8 W' => ∃ (p0 p1 : Nat) (vx vy : Value), u7 = .pointer (some ⟨p0, 0, none⟩) ∧ u8 = .pointer (some ⟨p1, 0, none⟩) ∧ rowIs W' p0 #[.int .i64 g, vx] 56 ∧ rowIs W' p1 #[vy] 33 ∧ ReadsR W' vx L ∧ ReadsP W' vy LC ∧ Below W.heap.size W W')
  case first =>
   refine wp_region_held_drew (S := fun w' => Below w3.heap.size w3 w') (by kernel_rfl) ((Below.refl _ _).drew) (fun hH => ?_)
   generalize w3.drew = w0 at hH ⊢
   refine wpAnyH_take (i := 0) (v := .agg #[.int .i64 g, .slice ao n cap]) rfl (by kernel_rfl) (by kernel_rfl) (by kernel_rfl) (fun _ _ _ h => h) (Or.inl ⟨by kernel_rfl, ?_⟩) hH ?_
   · intro W hS
     exact load_gives rfl _ rfl (RT.out _ (chainP HB3.out hS)) Tryz.underlying52 rfl infoTable
   simp only [Act.put, g1, g2, g3, g4, g5, g6]
   refine wpAnyH_take (i := 2) (v := .agg #[.slice bo m d]) rfl (by kernel_rfl) (by kernel_rfl) (by kernel_rfl) (fun _ _ _ h => h) (Or.inl ⟨by kernel_rfl, ?_⟩) hH ?_
   · intro W hS
     exact load_gives rfl _ rfl (RC4.out _ (chainP HB3.out hS)) Tryz.underlying25 rfl infoCfg
   simp only [Act.put, g1, g2, g3, g4, g5, g6]
   refine wpAnyH_ready (rs := [1, 4, 5]) (by kernel_rfl) (by simp) ?_
   refine AllReadyH.cons rfl (fun K hK => ?_) (AllReadyH.cons rfl (fun K hK => ?_) (AllReadyH.cons rfl (fun K hK => ?_) AllReadyH.nil))
   · go_simp
     refine (madeTable_own g (.slice ao n cap) L _ (HR0.out.below hH) HF.out.1.len).mono ?_
     rintro e x0 ⟨v0, rfl, ho0, hbx0⟩
     obtain ⟨ax0, cx0, hfx0⟩ := ownsRow_formN ho0
     obtain ⟨nx0, hnx0⟩ : ∃ k, L.length = k := ⟨_, rfl⟩
     rw [hnx0] at hfx0
     subst hfx0
     have HK0 := hid ho0
     clear ho0 hnx0
     obtain ⟨m0, hm0⟩ : ∃ m : Nat, w0.heap.size = m := ⟨_, rfl⟩
     obtain ⟨n0, hn0⟩ : ∃ n : Nat, x0.heap.size = n := ⟨_, rfl⟩
     have T0 := hid (And.intro hm0 (And.intro hn0 (And.intro hbx0.size hH.size)))
     clear hm0 hn0
     have C0 := hid (Below.refl x0.heap.size x0)
     refine hK.out _ _ (chainP hH hbx0) (fun hH => ?_)
     clear hK K hbx0
     try simp only [Act.put, g1, g2, g3, g4, g5, g6]
     refine wpAnyH_ready (rs := [3, 4, 5]) (by kernel_rfl) (by simp) ?_
     refine AllReadyH.cons rfl (fun K hK => ?_) (AllReadyH.cons rfl (fun K hK => ?_) (AllReadyH.cons rfl (fun K hK => ?_) AllReadyH.nil))
     · go_simp
       refine (madeConfig_own (.slice bo m d) LC _ (HR1.out.below hH) HF.out.2.len).mono ?_
       rintro e x1 ⟨v1, rfl, ho1, hbx1⟩
       obtain ⟨ax1, cx1, hfx1⟩ := ownsRow_formN ho1
       obtain ⟨nx1, hnx1⟩ : ∃ k, LC.length = k := ⟨_, rfl⟩
       rw [hnx1] at hfx1
       subst hfx1
       have HK1 := hid ho1
       clear ho1 hnx1
       obtain ⟨m1, hm1⟩ : ∃ m : Nat, x0.heap.size = m := ⟨_, rfl⟩
       obtain ⟨n1, hn1⟩ : ∃ n : Nat, x1.heap.size = n := ⟨_, rfl⟩
       have T1 := hid (And.intro hm1 (And.intro hn1 (And.intro hbx1.size hH.size)))
       clear hm1 hn1
       have C0 := hid (chainP C0.out hbx1)
       have C1 := hid (Below.refl x1.heap.size x1)
       refine hK.out _ _ (chainP hH hbx1) (fun hH => ?_)
       clear hK K hbx1
       try simp only [Act.put, g1, g2, g3, g4, g5, g6]
       refine wpAnyH_ready (rs := [4, 5]) (by kernel_rfl) (by simp) ?_
       refine AllReadyH.cons rfl (fun K hK => ?_) (AllReadyH.cons rfl (fun K hK => ?_) AllReadyH.nil)
       · obtain ⟨x2, hWx2⟩ : ∃ W, W = x1.alloc (.cells zeroTab 56) := ⟨_, rfl⟩
         have hbx2 : Below x1.heap.size x1 x2 := by rw [hWx2]; exact below_alloc _ _
         obtain ⟨p0, hp0⟩ : ∃ p, x1.heap.size = p := ⟨_, rfl⟩
         have P0 : Hid (rowIs x2 p0 zeroTab 56) := by rw [hWx2, ← hp0]; exact rowIs_new _ _ _
         have B0 := hid (show w3.heap.size ≤ p0 from by have := hH.size; omega)
         go_simp
         rw [← hWx2]
         try rw [hp0]
         have A0_0 := hid (show n0 ≤ p0 from by have := C0.out.size; have := T0.out; omega)
         have A1_0 := hid (show n1 ≤ p0 from by have := C1.out.size; have := T1.out; omega)
         clear hWx2 hp0
         have C0 := hid (chainP C0.out hbx2)
         have C1 := hid (chainP C1.out hbx2)
         refine hK.out _ _ (chainP hH hbx2) (fun hH => ?_)
         clear hK K hbx2
         try simp only [Act.put, g1, g2, g3, g4, g5, g6]
         refine wpAnyH_ready (rs := [5]) (by kernel_rfl) (by simp) ?_
         refine AllReadyH.cons rfl (fun K hK => ?_) AllReadyH.nil
         obtain ⟨x3, hWx3⟩ : ∃ W, W = x2.alloc (.cells #[.slice none 0 0] 33) := ⟨_, rfl⟩
         have hbx3 : Below x2.heap.size x2 x3 := by rw [hWx3]; exact below_alloc _ _
         obtain ⟨p1, hp1⟩ : ∃ p, x2.heap.size = p := ⟨_, rfl⟩
         have P1 : Hid (rowIs x3 p1 #[.slice none 0 0] 33) := by rw [hWx3, ← hp1]; exact rowIs_new _ _ _
         have B1 := hid (show w3.heap.size ≤ p1 from by have := hH.size; omega)
         go_simp
         rw [← hWx3]
         try rw [hp1]
         have A0_1 := hid (show n0 ≤ p1 from by have := C0.out.size; have := T0.out; omega)
         have A1_1 := hid (show n1 ≤ p1 from by have := C1.out.size; have := T1.out; omega)
         have D0_1 := hid (show p0 < p1 from by have := P0.out.lt; omega)
         clear hWx3 hp1
         have P0 := hid (P0.out.below hbx3)
         have C0 := hid (chainP C0.out hbx3)
         have C1 := hid (chainP C1.out hbx3)
         refine hK.out _ _ (chainP hH hbx3) (fun hH => ?_)
         clear hK K hbx3
         try simp only [Act.put, g1, g2, g3, g4, g5, g6]
         refine wpAnyH_ready (rs := [6]) (by kernel_rfl) (by simp) ?_
         refine AllReadyH.cons rfl (fun K hK => ?_) AllReadyH.nil
         rw [if_pos (by kernel_rfl)]
         refine wp_store_row 56 _ _ rfl p0 #[.int .i64 g, .slice ax0 nx0 cx0] rfl rfl 56 zeroTab P0.out infoRefTable rfl (oneTab _ _ _ _) ?_
         refine hK.out _ _ (below_setRow hH B0.out _) (fun hH => ?_)
         clear hK K
         try simp only [Act.put, g1, g2, g3, g4, g5, g6]
         have PN := hid (show ¬ p0 = p1 from by first | (have := D0_1.out; omega) | (have := D1_0.out; omega))
         have PX := hid (row_other P1.out PN.out #[.int .i64 g, .slice ax0 nx0 cx0])
         refine wpAnyH_ready (rs := [7]) (by kernel_rfl) (by simp) ?_
         refine AllReadyH.cons rfl (fun K hK => ?_) AllReadyH.nil
         rw [if_pos (by kernel_rfl)]
         refine wp_store_row 33 _ _ rfl p1 #[.slice ax1 nx1 cx1] rfl rfl 33 #[.slice none 0 0] PX.out infoRefCfg rfl (oneCfg _ _ _) ?_
         refine hK.out _ _ (below_setRow hH B1.out _) (fun hH => ?_)
         clear hK K
         try simp only [Act.put, g1, g2, g3, g4, g5, g6]
         refine wpAnyH_done (by kernel_rfl) ?_ _
         go_wp2_with fail
         go_meet
         have HO0 := two_made p0 p1 HK0.out C0.out (by have h1 := T0.out; have h2 := A0_0.out; omega) (by have h1 := T0.out; have h2 := A0_1.out; omega) #[.int .i64 g, .slice ax0 nx0 cx0] #[.slice ax1 nx1 cx1]
         have HO1 := two_made p0 p1 HK1.out C1.out (by have h1 := T1.out; have h2 := A1_0.out; omega) (by have h1 := T1.out; have h2 := A1_1.out; omega) #[.int .i64 g, .slice ax0 nx0 cx0] #[.slice ax1 nx1 cx1]
         case rel => exact ⟨p0, p1, _, _, rfl, rfl, row_other (P0.out.setRow _) (fun e => PN.out e.symm) _, PX.out.setRow _, readsR_own HO0 (fun x hx => (HR0.out.heads x hx).below hH), readsP_own HO1 (fun x hx => (HR1.out.heads x hx).below hH), chainP HB3.out hH⟩
       · obtain ⟨x2, hWx2⟩ : ∃ W, W = x1.alloc (.cells #[.slice none 0 0] 33) := ⟨_, rfl⟩
         have hbx2 : Below x1.heap.size x1 x2 := by rw [hWx2]; exact below_alloc _ _
         obtain ⟨p1, hp1⟩ : ∃ p, x1.heap.size = p := ⟨_, rfl⟩
         have P1 : Hid (rowIs x2 p1 #[.slice none 0 0] 33) := by rw [hWx2, ← hp1]; exact rowIs_new _ _ _
         have B1 := hid (show w3.heap.size ≤ p1 from by have := hH.size; omega)
         go_simp
         rw [← hWx2]
         try rw [hp1]
         have A0_1 := hid (show n0 ≤ p1 from by have := C0.out.size; have := T0.out; omega)
         have A1_1 := hid (show n1 ≤ p1 from by have := C1.out.size; have := T1.out; omega)
         clear hWx2 hp1
         have C0 := hid (chainP C0.out hbx2)
         have C1 := hid (chainP C1.out hbx2)
         refine hK.out _ _ (chainP hH hbx2) (fun hH => ?_)
         clear hK K hbx2
         try simp only [Act.put, g1, g2, g3, g4, g5, g6]
         refine wpAnyH_ready (rs := [4]) (by kernel_rfl) (by simp) ?_
         refine AllReadyH.cons rfl (fun K hK => ?_) AllReadyH.nil
         obtain ⟨x3, hWx3⟩ : ∃ W, W = x2.alloc (.cells zeroTab 56) := ⟨_, rfl⟩
         have hbx3 : Below x2.heap.size x2 x3 := by rw [hWx3]; exact below_alloc _ _
         obtain ⟨p0, hp0⟩ : ∃ p, x2.heap.size = p := ⟨_, rfl⟩
         have P0 : Hid (rowIs x3 p0 zeroTab 56) := by rw [hWx3, ← hp0]; exact rowIs_new _ _ _
         have B0 := hid (show w3.heap.size ≤ p0 from by have := hH.size; omega)
         go_simp
         rw [← hWx3]
         try rw [hp0]
         have A0_0 := hid (show n0 ≤ p0 from by have := C0.out.size; have := T0.out; omega)
         have A1_0 := hid (show n1 ≤ p0 from by have := C1.out.size; have := T1.out; omega)
         have D1_0 := hid (show p1 < p0 from by have := P1.out.lt; omega)
         clear hWx3 hp0
         have P1 := hid (P1.out.below hbx3)
         have C0 := hid (chainP C0.out hbx3)
         have C1 := hid (chainP C1.out hbx3)
         refine hK.out _ _ (chainP hH hbx3) (fun hH => ?_)
         clear hK K hbx3
         try simp only [Act.put, g1, g2, g3, g4, g5, g6]
         refine wpAnyH_ready (rs := [6]) (by kernel_rfl) (by simp) ?_
         refine AllReadyH.cons rfl (fun K hK => ?_) AllReadyH.nil
         rw [if_pos (by kernel_rfl)]
         refine wp_store_row 56 _ _ rfl p0 #[.int .i64 g, .slice ax0 nx0 cx0] rfl rfl 56 zeroTab P0.out infoRefTable rfl (oneTab _ _ _ _) ?_
         refine hK.out _ _ (below_setRow hH B0.out _) (fun hH => ?_)
         clear hK K
         try simp only [Act.put, g1, g2, g3, g4, g5, g6]
         have PN := hid (show ¬ p0 = p1 from by first | (have := D0_1.out; omega) | (have := D1_0.out; omega))
         have PX := hid (row_other P1.out PN.out #[.int .i64 g, .slice ax0 nx0 cx0])
         refine wpAnyH_ready (rs := [7]) (by kernel_rfl) (by simp) ?_
         refine AllReadyH.cons rfl (fun K hK => ?_) AllReadyH.nil
         rw [if_pos (by kernel_rfl)]
         refine wp_store_row 33 _ _ rfl p1 #[.slice ax1 nx1 cx1] rfl rfl 33 #[.slice none 0 0] PX.out infoRefCfg rfl (oneCfg _ _ _) ?_
         refine hK.out _ _ (below_setRow hH B1.out _) (fun hH => ?_)
         clear hK K
         try simp only [Act.put, g1, g2, g3, g4, g5, g6]
         refine wpAnyH_done (by kernel_rfl) ?_ _
         go_wp2_with fail
         go_meet
         have HO0 := two_made p0 p1 HK0.out C0.out (by have h1 := T0.out; have h2 := A0_0.out; omega) (by have h1 := T0.out; have h2 := A0_1.out; omega) #[.int .i64 g, .slice ax0 nx0 cx0] #[.slice ax1 nx1 cx1]
         have HO1 := two_made p0 p1 HK1.out C1.out (by have h1 := T1.out; have h2 := A1_0.out; omega) (by have h1 := T1.out; have h2 := A1_1.out; omega) #[.int .i64 g, .slice ax0 nx0 cx0] #[.slice ax1 nx1 cx1]
         case rel => exact ⟨p0, p1, _, _, rfl, rfl, row_other (P0.out.setRow _) (fun e => PN.out e.symm) _, PX.out.setRow _, readsR_own HO0 (fun x hx => (HR0.out.heads x hx).below hH), readsP_own HO1 (fun x hx => (HR1.out.heads x hx).below hH), chainP HB3.out hH⟩
     · obtain ⟨x1, hWx1⟩ : ∃ W, W = x0.alloc (.cells zeroTab 56) := ⟨_, rfl⟩
       have hbx1 : Below x0.heap.size x0 x1 := by rw [hWx1]; exact below_alloc _ _
       obtain ⟨p0, hp0⟩ : ∃ p, x0.heap.size = p := ⟨_, rfl⟩
       have P0 : Hid (rowIs x1 p0 zeroTab 56) := by rw [hWx1, ← hp0]; exact rowIs_new _ _ _
       have B0 := hid (show w3.heap.size ≤ p0 from by have := hH.size; omega)
       go_simp
       rw [← hWx1]
       try rw [hp0]
       have A0_0 := hid (show n0 ≤ p0 from by have := C0.out.size; have := T0.out; omega)
       clear hWx1 hp0
       have C0 := hid (chainP C0.out hbx1)
       refine hK.out _ _ (chainP hH hbx1) (fun hH => ?_)
       clear hK K hbx1
       try simp only [Act.put, g1, g2, g3, g4, g5, g6]
       refine wpAnyH_ready (rs := [3, 5]) (by kernel_rfl) (by simp) ?_
       refine AllReadyH.cons rfl (fun K hK => ?_) (AllReadyH.cons rfl (fun K hK => ?_) AllReadyH.nil)
       · go_simp
         refine (madeConfig_own (.slice bo m d) LC _ (HR1.out.below hH) HF.out.2.len).mono ?_
         rintro e x2 ⟨v1, rfl, ho1, hbx2⟩
         obtain ⟨ax1, cx1, hfx1⟩ := ownsRow_formN ho1
         obtain ⟨nx1, hnx1⟩ : ∃ k, LC.length = k := ⟨_, rfl⟩
         rw [hnx1] at hfx1
         subst hfx1
         have HK1 := hid ho1
         clear ho1 hnx1
         obtain ⟨m1, hm1⟩ : ∃ m : Nat, x1.heap.size = m := ⟨_, rfl⟩
         obtain ⟨n1, hn1⟩ : ∃ n : Nat, x2.heap.size = n := ⟨_, rfl⟩
         have T1 := hid (And.intro hm1 (And.intro hn1 (And.intro hbx2.size hH.size)))
         clear hm1 hn1
         have A1_0 := hid (show p0 < m1 from by have := P0.out.lt; have := T1.out; omega)
         have P0 := hid (P0.out.below hbx2)
         have C0 := hid (chainP C0.out hbx2)
         have C1 := hid (Below.refl x2.heap.size x2)
         refine hK.out _ _ (chainP hH hbx2) (fun hH => ?_)
         clear hK K hbx2
         try simp only [Act.put, g1, g2, g3, g4, g5, g6]
         refine wpAnyH_ready (rs := [5]) (by kernel_rfl) (by simp) ?_
         refine AllReadyH.cons rfl (fun K hK => ?_) AllReadyH.nil
         obtain ⟨x3, hWx3⟩ : ∃ W, W = x2.alloc (.cells #[.slice none 0 0] 33) := ⟨_, rfl⟩
         have hbx3 : Below x2.heap.size x2 x3 := by rw [hWx3]; exact below_alloc _ _
         obtain ⟨p1, hp1⟩ : ∃ p, x2.heap.size = p := ⟨_, rfl⟩
         have P1 : Hid (rowIs x3 p1 #[.slice none 0 0] 33) := by rw [hWx3, ← hp1]; exact rowIs_new _ _ _
         have B1 := hid (show w3.heap.size ≤ p1 from by have := hH.size; omega)
         go_simp
         rw [← hWx3]
         try rw [hp1]
         have A0_1 := hid (show n0 ≤ p1 from by have := C0.out.size; have := T0.out; omega)
         have A1_1 := hid (show n1 ≤ p1 from by have := C1.out.size; have := T1.out; omega)
         have D0_1 := hid (show p0 < p1 from by have := P0.out.lt; omega)
         clear hWx3 hp1
         have P0 := hid (P0.out.below hbx3)
         have C0 := hid (chainP C0.out hbx3)
         have C1 := hid (chainP C1.out hbx3)
         refine hK.out _ _ (chainP hH hbx3) (fun hH => ?_)
         clear hK K hbx3
         try simp only [Act.put, g1, g2, g3, g4, g5, g6]
         refine wpAnyH_ready (rs := [6]) (by kernel_rfl) (by simp) ?_
         refine AllReadyH.cons rfl (fun K hK => ?_) AllReadyH.nil
         rw [if_pos (by kernel_rfl)]
         refine wp_store_row 56 _ _ rfl p0 #[.int .i64 g, .slice ax0 nx0 cx0] rfl rfl 56 zeroTab P0.out infoRefTable rfl (oneTab _ _ _ _) ?_
         refine hK.out _ _ (below_setRow hH B0.out _) (fun hH => ?_)
         clear hK K
         try simp only [Act.put, g1, g2, g3, g4, g5, g6]
         have PN := hid (show ¬ p0 = p1 from by first | (have := D0_1.out; omega) | (have := D1_0.out; omega))
         have PX := hid (row_other P1.out PN.out #[.int .i64 g, .slice ax0 nx0 cx0])
         refine wpAnyH_ready (rs := [7]) (by kernel_rfl) (by simp) ?_
         refine AllReadyH.cons rfl (fun K hK => ?_) AllReadyH.nil
         rw [if_pos (by kernel_rfl)]
         refine wp_store_row 33 _ _ rfl p1 #[.slice ax1 nx1 cx1] rfl rfl 33 #[.slice none 0 0] PX.out infoRefCfg rfl (oneCfg _ _ _) ?_
         refine hK.out _ _ (below_setRow hH B1.out _) (fun hH => ?_)
         clear hK K
         try simp only [Act.put, g1, g2, g3, g4, g5, g6]
         refine wpAnyH_done (by kernel_rfl) ?_ _
         go_wp2_with fail
         go_meet
         have HO0 := two_made p0 p1 HK0.out C0.out (by have h1 := T0.out; have h2 := A0_0.out; omega) (by have h1 := T0.out; have h2 := A0_1.out; omega) #[.int .i64 g, .slice ax0 nx0 cx0] #[.slice ax1 nx1 cx1]
         have HO1 := two_made p0 p1 HK1.out C1.out (by have h1 := T1.out; have h2 := A1_0.out; omega) (by have h1 := T1.out; have h2 := A1_1.out; omega) #[.int .i64 g, .slice ax0 nx0 cx0] #[.slice ax1 nx1 cx1]
         case rel => exact ⟨p0, p1, _, _, rfl, rfl, row_other (P0.out.setRow _) (fun e => PN.out e.symm) _, PX.out.setRow _, readsR_own HO0 (fun x hx => (HR0.out.heads x hx).below hH), readsP_own HO1 (fun x hx => (HR1.out.heads x hx).below hH), chainP HB3.out hH⟩
       · obtain ⟨x2, hWx2⟩ : ∃ W, W = x1.alloc (.cells #[.slice none 0 0] 33) := ⟨_, rfl⟩
         have hbx2 : Below x1.heap.size x1 x2 := by rw [hWx2]; exact below_alloc _ _
         obtain ⟨p1, hp1⟩ : ∃ p, x1.heap.size = p := ⟨_, rfl⟩
         have P1 : Hid (rowIs x2 p1 #[.slice none 0 0] 33) := by rw [hWx2, ← hp1]; exact rowIs_new _ _ _
         have B1 := hid (show w3.heap.size ≤ p1 from by have := hH.size; omega)
         go_simp
         rw [← hWx2]
         try rw [hp1]
         have A0_1 := hid (show n0 ≤ p1 from by have := C0.out.size; have := T0.out; omega)
         have D0_1 := hid (show p0 < p1 from by have := P0.out.lt; omega)
         clear hWx2 hp1
         have P0 := hid (P0.out.below hbx2)
         have C0 := hid (chainP C0.out hbx2)
         refine hK.out _ _ (chainP hH hbx2) (fun hH => ?_)
         clear hK K hbx2
         try simp only [Act.put, g1, g2, g3, g4, g5, g6]
         refine wpAnyH_ready (rs := [3]) (by kernel_rfl) (by simp) ?_
         refine AllReadyH.cons rfl (fun K hK => ?_) AllReadyH.nil
         go_simp
         refine (madeConfig_own (.slice bo m d) LC _ (HR1.out.below hH) HF.out.2.len).mono ?_
         rintro e x3 ⟨v1, rfl, ho1, hbx3⟩
         obtain ⟨ax1, cx1, hfx1⟩ := ownsRow_formN ho1
         obtain ⟨nx1, hnx1⟩ : ∃ k, LC.length = k := ⟨_, rfl⟩
         rw [hnx1] at hfx1
         subst hfx1
         have HK1 := hid ho1
         clear ho1 hnx1
         obtain ⟨m1, hm1⟩ : ∃ m : Nat, x2.heap.size = m := ⟨_, rfl⟩
         obtain ⟨n1, hn1⟩ : ∃ n : Nat, x3.heap.size = n := ⟨_, rfl⟩
         have T1 := hid (And.intro hm1 (And.intro hn1 (And.intro hbx3.size hH.size)))
         clear hm1 hn1
         have A1_0 := hid (show p0 < m1 from by have := P0.out.lt; have := T1.out; omega)
         have A1_1 := hid (show p1 < m1 from by have := P1.out.lt; have := T1.out; omega)
         have P0 := hid (P0.out.below hbx3)
         have P1 := hid (P1.out.below hbx3)
         have C0 := hid (chainP C0.out hbx3)
         have C1 := hid (Below.refl x3.heap.size x3)
         refine hK.out _ _ (chainP hH hbx3) (fun hH => ?_)
         clear hK K hbx3
         try simp only [Act.put, g1, g2, g3, g4, g5, g6]
         refine wpAnyH_ready (rs := [6]) (by kernel_rfl) (by simp) ?_
         refine AllReadyH.cons rfl (fun K hK => ?_) AllReadyH.nil
         rw [if_pos (by kernel_rfl)]
         refine wp_store_row 56 _ _ rfl p0 #[.int .i64 g, .slice ax0 nx0 cx0] rfl rfl 56 zeroTab P0.out infoRefTable rfl (oneTab _ _ _ _) ?_
         refine hK.out _ _ (below_setRow hH B0.out _) (fun hH => ?_)
         clear hK K
         try simp only [Act.put, g1, g2, g3, g4, g5, g6]
         have PN := hid (show ¬ p0 = p1 from by first | (have := D0_1.out; omega) | (have := D1_0.out; omega))
         have PX := hid (row_other P1.out PN.out #[.int .i64 g, .slice ax0 nx0 cx0])
         refine wpAnyH_ready (rs := [7]) (by kernel_rfl) (by simp) ?_
         refine AllReadyH.cons rfl (fun K hK => ?_) AllReadyH.nil
         rw [if_pos (by kernel_rfl)]
         refine wp_store_row 33 _ _ rfl p1 #[.slice ax1 nx1 cx1] rfl rfl 33 #[.slice none 0 0] PX.out infoRefCfg rfl (oneCfg _ _ _) ?_
         refine hK.out _ _ (below_setRow hH B1.out _) (fun hH => ?_)
         clear hK K
         try simp only [Act.put, g1, g2, g3, g4, g5, g6]
         refine wpAnyH_done (by kernel_rfl) ?_ _
         go_wp2_with fail
         go_meet
         have HO0 := two_made p0 p1 HK0.out C0.out (by have h1 := T0.out; have h2 := A0_0.out; omega) (by have h1 := T0.out; have h2 := A0_1.out; omega) #[.int .i64 g, .slice ax0 nx0 cx0] #[.slice ax1 nx1 cx1]
         have HO1 := two_made p0 p1 HK1.out C1.out (by have h1 := T1.out; have h2 := A1_0.out; omega) (by have h1 := T1.out; have h2 := A1_1.out; omega) #[.int .i64 g, .slice ax0 nx0 cx0] #[.slice ax1 nx1 cx1]
         case rel => exact ⟨p0, p1, _, _, rfl, rfl, row_other (P0.out.setRow _) (fun e => PN.out e.symm) _, PX.out.setRow _, readsR_own HO0 (fun x hx => (HR0.out.heads x hx).below hH), readsP_own HO1 (fun x hx => (HR1.out.heads x hx).below hH), chainP HB3.out hH⟩
     · obtain ⟨x1, hWx1⟩ : ∃ W, W = x0.alloc (.cells #[.slice none 0 0] 33) := ⟨_, rfl⟩
       have hbx1 : Below x0.heap.size x0 x1 := by rw [hWx1]; exact below_alloc _ _
       obtain ⟨p1, hp1⟩ : ∃ p, x0.heap.size = p := ⟨_, rfl⟩
       have P1 : Hid (rowIs x1 p1 #[.slice none 0 0] 33) := by rw [hWx1, ← hp1]; exact rowIs_new _ _ _
       have B1 := hid (show w3.heap.size ≤ p1 from by have := hH.size; omega)
       go_simp
       rw [← hWx1]
       try rw [hp1]
       have A0_1 := hid (show n0 ≤ p1 from by have := C0.out.size; have := T0.out; omega)
       clear hWx1 hp1
       have C0 := hid (chainP C0.out hbx1)
       refine hK.out _ _ (chainP hH hbx1) (fun hH => ?_)
       clear hK K hbx1
       try simp only [Act.put, g1, g2, g3, g4, g5, g6]
       refine wpAnyH_ready (rs := [3, 4]) (by kernel_rfl) (by simp) ?_
       refine AllReadyH.cons rfl (fun K hK => ?_) (AllReadyH.cons rfl (fun K hK => ?_) AllReadyH.nil)
       · go_simp
         refine (madeConfig_own (.slice bo m d) LC _ (HR1.out.below hH) HF.out.2.len).mono ?_
         rintro e x2 ⟨v1, rfl, ho1, hbx2⟩
         obtain ⟨ax1, cx1, hfx1⟩ := ownsRow_formN ho1
         obtain ⟨nx1, hnx1⟩ : ∃ k, LC.length = k := ⟨_, rfl⟩
         rw [hnx1] at hfx1
         subst hfx1
         have HK1 := hid ho1
         clear ho1 hnx1
         obtain ⟨m1, hm1⟩ : ∃ m : Nat, x1.heap.size = m := ⟨_, rfl⟩
         obtain ⟨n1, hn1⟩ : ∃ n : Nat, x2.heap.size = n := ⟨_, rfl⟩
         have T1 := hid (And.intro hm1 (And.intro hn1 (And.intro hbx2.size hH.size)))
         clear hm1 hn1
         have A1_1 := hid (show p1 < m1 from by have := P1.out.lt; have := T1.out; omega)
         have P1 := hid (P1.out.below hbx2)
         have C0 := hid (chainP C0.out hbx2)
         have C1 := hid (Below.refl x2.heap.size x2)
         refine hK.out _ _ (chainP hH hbx2) (fun hH => ?_)
         clear hK K hbx2
         try simp only [Act.put, g1, g2, g3, g4, g5, g6]
         refine wpAnyH_ready (rs := [4]) (by kernel_rfl) (by simp) ?_
         refine AllReadyH.cons rfl (fun K hK => ?_) AllReadyH.nil
         obtain ⟨x3, hWx3⟩ : ∃ W, W = x2.alloc (.cells zeroTab 56) := ⟨_, rfl⟩
         have hbx3 : Below x2.heap.size x2 x3 := by rw [hWx3]; exact below_alloc _ _
         obtain ⟨p0, hp0⟩ : ∃ p, x2.heap.size = p := ⟨_, rfl⟩
         have P0 : Hid (rowIs x3 p0 zeroTab 56) := by rw [hWx3, ← hp0]; exact rowIs_new _ _ _
         have B0 := hid (show w3.heap.size ≤ p0 from by have := hH.size; omega)
         go_simp
         rw [← hWx3]
         try rw [hp0]
         have A0_0 := hid (show n0 ≤ p0 from by have := C0.out.size; have := T0.out; omega)
         have A1_0 := hid (show n1 ≤ p0 from by have := C1.out.size; have := T1.out; omega)
         have D1_0 := hid (show p1 < p0 from by have := P1.out.lt; omega)
         clear hWx3 hp0
         have P1 := hid (P1.out.below hbx3)
         have C0 := hid (chainP C0.out hbx3)
         have C1 := hid (chainP C1.out hbx3)
         refine hK.out _ _ (chainP hH hbx3) (fun hH => ?_)
         clear hK K hbx3
         try simp only [Act.put, g1, g2, g3, g4, g5, g6]
         refine wpAnyH_ready (rs := [6]) (by kernel_rfl) (by simp) ?_
         refine AllReadyH.cons rfl (fun K hK => ?_) AllReadyH.nil
         rw [if_pos (by kernel_rfl)]
         refine wp_store_row 56 _ _ rfl p0 #[.int .i64 g, .slice ax0 nx0 cx0] rfl rfl 56 zeroTab P0.out infoRefTable rfl (oneTab _ _ _ _) ?_
         refine hK.out _ _ (below_setRow hH B0.out _) (fun hH => ?_)
         clear hK K
         try simp only [Act.put, g1, g2, g3, g4, g5, g6]
         have PN := hid (show ¬ p0 = p1 from by first | (have := D0_1.out; omega) | (have := D1_0.out; omega))
         have PX := hid (row_other P1.out PN.out #[.int .i64 g, .slice ax0 nx0 cx0])
         refine wpAnyH_ready (rs := [7]) (by kernel_rfl) (by simp) ?_
         refine AllReadyH.cons rfl (fun K hK => ?_) AllReadyH.nil
         rw [if_pos (by kernel_rfl)]
         refine wp_store_row 33 _ _ rfl p1 #[.slice ax1 nx1 cx1] rfl rfl 33 #[.slice none 0 0] PX.out infoRefCfg rfl (oneCfg _ _ _) ?_
         refine hK.out _ _ (below_setRow hH B1.out _) (fun hH => ?_)
         clear hK K
         try simp only [Act.put, g1, g2, g3, g4, g5, g6]
         refine wpAnyH_done (by kernel_rfl) ?_ _
         go_wp2_with fail
         go_meet
         have HO0 := two_made p0 p1 HK0.out C0.out (by have h1 := T0.out; have h2 := A0_0.out; omega) (by have h1 := T0.out; have h2 := A0_1.out; omega) #[.int .i64 g, .slice ax0 nx0 cx0] #[.slice ax1 nx1 cx1]
         have HO1 := two_made p0 p1 HK1.out C1.out (by have h1 := T1.out; have h2 := A1_0.out; omega) (by have h1 := T1.out; have h2 := A1_1.out; omega) #[.int .i64 g, .slice ax0 nx0 cx0] #[.slice ax1 nx1 cx1]
         case rel => exact ⟨p0, p1, _, _, rfl, rfl, row_other (P0.out.setRow _) (fun e => PN.out e.symm) _, PX.out.setRow _, readsR_own HO0 (fun x hx => (HR0.out.heads x hx).below hH), readsP_own HO1 (fun x hx => (HR1.out.heads x hx).below hH), chainP HB3.out hH⟩
       · obtain ⟨x2, hWx2⟩ : ∃ W, W = x1.alloc (.cells zeroTab 56) := ⟨_, rfl⟩
         have hbx2 : Below x1.heap.size x1 x2 := by rw [hWx2]; exact below_alloc _ _
         obtain ⟨p0, hp0⟩ : ∃ p, x1.heap.size = p := ⟨_, rfl⟩
         have P0 : Hid (rowIs x2 p0 zeroTab 56) := by rw [hWx2, ← hp0]; exact rowIs_new _ _ _
         have B0 := hid (show w3.heap.size ≤ p0 from by have := hH.size; omega)
         go_simp
         rw [← hWx2]
         try rw [hp0]
         have A0_0 := hid (show n0 ≤ p0 from by have := C0.out.size; have := T0.out; omega)
         have D1_0 := hid (show p1 < p0 from by have := P1.out.lt; omega)
         clear hWx2 hp0
         have P1 := hid (P1.out.below hbx2)
         have C0 := hid (chainP C0.out hbx2)
         refine hK.out _ _ (chainP hH hbx2) (fun hH => ?_)
         clear hK K hbx2
         try simp only [Act.put, g1, g2, g3, g4, g5, g6]
         refine wpAnyH_ready (rs := [3]) (by kernel_rfl) (by simp) ?_
         refine AllReadyH.cons rfl (fun K hK => ?_) AllReadyH.nil
         go_simp
         refine (madeConfig_own (.slice bo m d) LC _ (HR1.out.below hH) HF.out.2.len).mono ?_
         rintro e x3 ⟨v1, rfl, ho1, hbx3⟩
         obtain ⟨ax1, cx1, hfx1⟩ := ownsRow_formN ho1
         obtain ⟨nx1, hnx1⟩ : ∃ k, LC.length = k := ⟨_, rfl⟩
         rw [hnx1] at hfx1
         subst hfx1
         have HK1 := hid ho1
         clear ho1 hnx1
         obtain ⟨m1, hm1⟩ : ∃ m : Nat, x2.heap.size = m := ⟨_, rfl⟩
         obtain ⟨n1, hn1⟩ : ∃ n : Nat, x3.heap.size = n := ⟨_, rfl⟩
         have T1 := hid (And.intro hm1 (And.intro hn1 (And.intro hbx3.size hH.size)))
         clear hm1 hn1
         have A1_1 := hid (show p1 < m1 from by have := P1.out.lt; have := T1.out; omega)
         have A1_0 := hid (show p0 < m1 from by have := P0.out.lt; have := T1.out; omega)
         have P1 := hid (P1.out.below hbx3)
         have P0 := hid (P0.out.below hbx3)
         have C0 := hid (chainP C0.out hbx3)
         have C1 := hid (Below.refl x3.heap.size x3)
         refine hK.out _ _ (chainP hH hbx3) (fun hH => ?_)
         clear hK K hbx3
         try simp only [Act.put, g1, g2, g3, g4, g5, g6]
         refine wpAnyH_ready (rs := [6]) (by kernel_rfl) (by simp) ?_
         refine AllReadyH.cons rfl (fun K hK => ?_) AllReadyH.nil
         rw [if_pos (by kernel_rfl)]
         refine wp_store_row 56 _ _ rfl p0 #[.int .i64 g, .slice ax0 nx0 cx0] rfl rfl 56 zeroTab P0.out infoRefTable rfl (oneTab _ _ _ _) ?_
         refine hK.out _ _ (below_setRow hH B0.out _) (fun hH => ?_)
         clear hK K
         try simp only [Act.put, g1, g2, g3, g4, g5, g6]
         have PN := hid (show ¬ p0 = p1 from by first | (have := D0_1.out; omega) | (have := D1_0.out; omega))
         have PX := hid (row_other P1.out PN.out #[.int .i64 g, .slice ax0 nx0 cx0])
         refine wpAnyH_ready (rs := [7]) (by kernel_rfl) (by simp) ?_
         refine AllReadyH.cons rfl (fun K hK => ?_) AllReadyH.nil
         rw [if_pos (by kernel_rfl)]
         refine wp_store_row 33 _ _ rfl p1 #[.slice ax1 nx1 cx1] rfl rfl 33 #[.slice none 0 0] PX.out infoRefCfg rfl (oneCfg _ _ _) ?_
         refine hK.out _ _ (below_setRow hH B1.out _) (fun hH => ?_)
         clear hK K
         try simp only [Act.put, g1, g2, g3, g4, g5, g6]
         refine wpAnyH_done (by kernel_rfl) ?_ _
         go_wp2_with fail
         go_meet
         have HO0 := two_made p0 p1 HK0.out C0.out (by have h1 := T0.out; have h2 := A0_0.out; omega) (by have h1 := T0.out; have h2 := A0_1.out; omega) #[.int .i64 g, .slice ax0 nx0 cx0] #[.slice ax1 nx1 cx1]
         have HO1 := two_made p0 p1 HK1.out C1.out (by have h1 := T1.out; have h2 := A1_0.out; omega) (by have h1 := T1.out; have h2 := A1_1.out; omega) #[.int .i64 g, .slice ax0 nx0 cx0] #[.slice ax1 nx1 cx1]
         case rel => exact ⟨p0, p1, _, _, rfl, rfl, row_other (P0.out.setRow _) (fun e => PN.out e.symm) _, PX.out.setRow _, readsR_own HO0 (fun x hx => (HR0.out.heads x hx).below hH), readsP_own HO1 (fun x hx => (HR1.out.heads x hx).below hH), chainP HB3.out hH⟩
   · obtain ⟨x0, hWx0⟩ : ∃ W, W = w0.alloc (.cells zeroTab 56) := ⟨_, rfl⟩
     have hbx0 : Below w0.heap.size w0 x0 := by rw [hWx0]; exact below_alloc _ _
     obtain ⟨p0, hp0⟩ : ∃ p, w0.heap.size = p := ⟨_, rfl⟩
     have P0 : Hid (rowIs x0 p0 zeroTab 56) := by rw [hWx0, ← hp0]; exact rowIs_new _ _ _
     have B0 := hid (show w3.heap.size ≤ p0 from by have := hH.size; omega)
     go_simp
     rw [← hWx0]
     try rw [hp0]
     clear hWx0 hp0
     refine hK.out _ _ (chainP hH hbx0) (fun hH => ?_)
     clear hK K hbx0
     try simp only [Act.put, g1, g2, g3, g4, g5, g6]
     refine wpAnyH_ready (rs := [1, 5]) (by kernel_rfl) (by simp) ?_
     refine AllReadyH.cons rfl (fun K hK => ?_) (AllReadyH.cons rfl (fun K hK => ?_) AllReadyH.nil)
     · go_simp
       refine (madeTable_own g (.slice ao n cap) L _ (HR0.out.below hH) HF.out.1.len).mono ?_
       rintro e x1 ⟨v0, rfl, ho0, hbx1⟩
       obtain ⟨ax0, cx0, hfx0⟩ := ownsRow_formN ho0
       obtain ⟨nx0, hnx0⟩ : ∃ k, L.length = k := ⟨_, rfl⟩
       rw [hnx0] at hfx0
       subst hfx0
       have HK0 := hid ho0
       clear ho0 hnx0
       obtain ⟨m0, hm0⟩ : ∃ m : Nat, x0.heap.size = m := ⟨_, rfl⟩
       obtain ⟨n0, hn0⟩ : ∃ n : Nat, x1.heap.size = n := ⟨_, rfl⟩
       have T0 := hid (And.intro hm0 (And.intro hn0 (And.intro hbx1.size hH.size)))
       clear hm0 hn0
       have A0_0 := hid (show p0 < m0 from by have := P0.out.lt; have := T0.out; omega)
       have P0 := hid (P0.out.below hbx1)
       have C0 := hid (Below.refl x1.heap.size x1)
       refine hK.out _ _ (chainP hH hbx1) (fun hH => ?_)
       clear hK K hbx1
       try simp only [Act.put, g1, g2, g3, g4, g5, g6]
       refine wpAnyH_ready (rs := [3, 5]) (by kernel_rfl) (by simp) ?_
       refine AllReadyH.cons rfl (fun K hK => ?_) (AllReadyH.cons rfl (fun K hK => ?_) AllReadyH.nil)
       · go_simp
         refine (madeConfig_own (.slice bo m d) LC _ (HR1.out.below hH) HF.out.2.len).mono ?_
         rintro e x2 ⟨v1, rfl, ho1, hbx2⟩
         obtain ⟨ax1, cx1, hfx1⟩ := ownsRow_formN ho1
         obtain ⟨nx1, hnx1⟩ : ∃ k, LC.length = k := ⟨_, rfl⟩
         rw [hnx1] at hfx1
         subst hfx1
         have HK1 := hid ho1
         clear ho1 hnx1
         obtain ⟨m1, hm1⟩ : ∃ m : Nat, x1.heap.size = m := ⟨_, rfl⟩
         obtain ⟨n1, hn1⟩ : ∃ n : Nat, x2.heap.size = n := ⟨_, rfl⟩
         have T1 := hid (And.intro hm1 (And.intro hn1 (And.intro hbx2.size hH.size)))
         clear hm1 hn1
         have A1_0 := hid (show p0 < m1 from by have := P0.out.lt; have := T1.out; omega)
         have P0 := hid (P0.out.below hbx2)
         have C0 := hid (chainP C0.out hbx2)
         have C1 := hid (Below.refl x2.heap.size x2)
         refine hK.out _ _ (chainP hH hbx2) (fun hH => ?_)
         clear hK K hbx2
         try simp only [Act.put, g1, g2, g3, g4, g5, g6]
         refine wpAnyH_ready (rs := [5]) (by kernel_rfl) (by simp) ?_
         refine AllReadyH.cons rfl (fun K hK => ?_) AllReadyH.nil
         obtain ⟨x3, hWx3⟩ : ∃ W, W = x2.alloc (.cells #[.slice none 0 0] 33) := ⟨_, rfl⟩
         have hbx3 : Below x2.heap.size x2 x3 := by rw [hWx3]; exact below_alloc _ _
         obtain ⟨p1, hp1⟩ : ∃ p, x2.heap.size = p := ⟨_, rfl⟩
         have P1 : Hid (rowIs x3 p1 #[.slice none 0 0] 33) := by rw [hWx3, ← hp1]; exact rowIs_new _ _ _
         have B1 := hid (show w3.heap.size ≤ p1 from by have := hH.size; omega)
         go_simp
         rw [← hWx3]
         try rw [hp1]
         have A0_1 := hid (show n0 ≤ p1 from by have := C0.out.size; have := T0.out; omega)
         have A1_1 := hid (show n1 ≤ p1 from by have := C1.out.size; have := T1.out; omega)
         have D0_1 := hid (show p0 < p1 from by have := P0.out.lt; omega)
         clear hWx3 hp1
         have P0 := hid (P0.out.below hbx3)
         have C0 := hid (chainP C0.out hbx3)
         have C1 := hid (chainP C1.out hbx3)
         refine hK.out _ _ (chainP hH hbx3) (fun hH => ?_)
         clear hK K hbx3
         try simp only [Act.put, g1, g2, g3, g4, g5, g6]
         refine wpAnyH_ready (rs := [6]) (by kernel_rfl) (by simp) ?_
         refine AllReadyH.cons rfl (fun K hK => ?_) AllReadyH.nil
         rw [if_pos (by kernel_rfl)]
         refine wp_store_row 56 _ _ rfl p0 #[.int .i64 g, .slice ax0 nx0 cx0] rfl rfl 56 zeroTab P0.out infoRefTable rfl (oneTab _ _ _ _) ?_
         refine hK.out _ _ (below_setRow hH B0.out _) (fun hH => ?_)
         clear hK K
         try simp only [Act.put, g1, g2, g3, g4, g5, g6]
         have PN := hid (show ¬ p0 = p1 from by first | (have := D0_1.out; omega) | (have := D1_0.out; omega))
         have PX := hid (row_other P1.out PN.out #[.int .i64 g, .slice ax0 nx0 cx0])
         refine wpAnyH_ready (rs := [7]) (by kernel_rfl) (by simp) ?_
         refine AllReadyH.cons rfl (fun K hK => ?_) AllReadyH.nil
         rw [if_pos (by kernel_rfl)]
         refine wp_store_row 33 _ _ rfl p1 #[.slice ax1 nx1 cx1] rfl rfl 33 #[.slice none 0 0] PX.out infoRefCfg rfl (oneCfg _ _ _) ?_
         refine hK.out _ _ (below_setRow hH B1.out _) (fun hH => ?_)
         clear hK K
         try simp only [Act.put, g1, g2, g3, g4, g5, g6]
         refine wpAnyH_done (by kernel_rfl) ?_ _
         go_wp2_with fail
         go_meet
         have HO0 := two_made p0 p1 HK0.out C0.out (by have h1 := T0.out; have h2 := A0_0.out; omega) (by have h1 := T0.out; have h2 := A0_1.out; omega) #[.int .i64 g, .slice ax0 nx0 cx0] #[.slice ax1 nx1 cx1]
         have HO1 := two_made p0 p1 HK1.out C1.out (by have h1 := T1.out; have h2 := A1_0.out; omega) (by have h1 := T1.out; have h2 := A1_1.out; omega) #[.int .i64 g, .slice ax0 nx0 cx0] #[.slice ax1 nx1 cx1]
         case rel => exact ⟨p0, p1, _, _, rfl, rfl, row_other (P0.out.setRow _) (fun e => PN.out e.symm) _, PX.out.setRow _, readsR_own HO0 (fun x hx => (HR0.out.heads x hx).below hH), readsP_own HO1 (fun x hx => (HR1.out.heads x hx).below hH), chainP HB3.out hH⟩
       · obtain ⟨x2, hWx2⟩ : ∃ W, W = x1.alloc (.cells #[.slice none 0 0] 33) := ⟨_, rfl⟩
         have hbx2 : Below x1.heap.size x1 x2 := by rw [hWx2]; exact below_alloc _ _
         obtain ⟨p1, hp1⟩ : ∃ p, x1.heap.size = p := ⟨_, rfl⟩
         have P1 : Hid (rowIs x2 p1 #[.slice none 0 0] 33) := by rw [hWx2, ← hp1]; exact rowIs_new _ _ _
         have B1 := hid (show w3.heap.size ≤ p1 from by have := hH.size; omega)
         go_simp
         rw [← hWx2]
         try rw [hp1]
         have A0_1 := hid (show n0 ≤ p1 from by have := C0.out.size; have := T0.out; omega)
         have D0_1 := hid (show p0 < p1 from by have := P0.out.lt; omega)
         clear hWx2 hp1
         have P0 := hid (P0.out.below hbx2)
         have C0 := hid (chainP C0.out hbx2)
         refine hK.out _ _ (chainP hH hbx2) (fun hH => ?_)
         clear hK K hbx2
         try simp only [Act.put, g1, g2, g3, g4, g5, g6]
         refine wpAnyH_ready (rs := [3]) (by kernel_rfl) (by simp) ?_
         refine AllReadyH.cons rfl (fun K hK => ?_) AllReadyH.nil
         go_simp
         refine (madeConfig_own (.slice bo m d) LC _ (HR1.out.below hH) HF.out.2.len).mono ?_
         rintro e x3 ⟨v1, rfl, ho1, hbx3⟩
         obtain ⟨ax1, cx1, hfx1⟩ := ownsRow_formN ho1
         obtain ⟨nx1, hnx1⟩ : ∃ k, LC.length = k := ⟨_, rfl⟩
         rw [hnx1] at hfx1
         subst hfx1
         have HK1 := hid ho1
         clear ho1 hnx1
         obtain ⟨m1, hm1⟩ : ∃ m : Nat, x2.heap.size = m := ⟨_, rfl⟩
         obtain ⟨n1, hn1⟩ : ∃ n : Nat, x3.heap.size = n := ⟨_, rfl⟩
         have T1 := hid (And.intro hm1 (And.intro hn1 (And.intro hbx3.size hH.size)))
         clear hm1 hn1
         have A1_0 := hid (show p0 < m1 from by have := P0.out.lt; have := T1.out; omega)
         have A1_1 := hid (show p1 < m1 from by have := P1.out.lt; have := T1.out; omega)
         have P0 := hid (P0.out.below hbx3)
         have P1 := hid (P1.out.below hbx3)
         have C0 := hid (chainP C0.out hbx3)
         have C1 := hid (Below.refl x3.heap.size x3)
         refine hK.out _ _ (chainP hH hbx3) (fun hH => ?_)
         clear hK K hbx3
         try simp only [Act.put, g1, g2, g3, g4, g5, g6]
         refine wpAnyH_ready (rs := [6]) (by kernel_rfl) (by simp) ?_
         refine AllReadyH.cons rfl (fun K hK => ?_) AllReadyH.nil
         rw [if_pos (by kernel_rfl)]
         refine wp_store_row 56 _ _ rfl p0 #[.int .i64 g, .slice ax0 nx0 cx0] rfl rfl 56 zeroTab P0.out infoRefTable rfl (oneTab _ _ _ _) ?_
         refine hK.out _ _ (below_setRow hH B0.out _) (fun hH => ?_)
         clear hK K
         try simp only [Act.put, g1, g2, g3, g4, g5, g6]
         have PN := hid (show ¬ p0 = p1 from by first | (have := D0_1.out; omega) | (have := D1_0.out; omega))
         have PX := hid (row_other P1.out PN.out #[.int .i64 g, .slice ax0 nx0 cx0])
         refine wpAnyH_ready (rs := [7]) (by kernel_rfl) (by simp) ?_
         refine AllReadyH.cons rfl (fun K hK => ?_) AllReadyH.nil
         rw [if_pos (by kernel_rfl)]
         refine wp_store_row 33 _ _ rfl p1 #[.slice ax1 nx1 cx1] rfl rfl 33 #[.slice none 0 0] PX.out infoRefCfg rfl (oneCfg _ _ _) ?_
         refine hK.out _ _ (below_setRow hH B1.out _) (fun hH => ?_)
         clear hK K
         try simp only [Act.put, g1, g2, g3, g4, g5, g6]
         refine wpAnyH_done (by kernel_rfl) ?_ _
         go_wp2_with fail
         go_meet
         have HO0 := two_made p0 p1 HK0.out C0.out (by have h1 := T0.out; have h2 := A0_0.out; omega) (by have h1 := T0.out; have h2 := A0_1.out; omega) #[.int .i64 g, .slice ax0 nx0 cx0] #[.slice ax1 nx1 cx1]
         have HO1 := two_made p0 p1 HK1.out C1.out (by have h1 := T1.out; have h2 := A1_0.out; omega) (by have h1 := T1.out; have h2 := A1_1.out; omega) #[.int .i64 g, .slice ax0 nx0 cx0] #[.slice ax1 nx1 cx1]
         case rel => exact ⟨p0, p1, _, _, rfl, rfl, row_other (P0.out.setRow _) (fun e => PN.out e.symm) _, PX.out.setRow _, readsR_own HO0 (fun x hx => (HR0.out.heads x hx).below hH), readsP_own HO1 (fun x hx => (HR1.out.heads x hx).below hH), chainP HB3.out hH⟩
     · obtain ⟨x1, hWx1⟩ : ∃ W, W = x0.alloc (.cells #[.slice none 0 0] 33) := ⟨_, rfl⟩
       have hbx1 : Below x0.heap.size x0 x1 := by rw [hWx1]; exact below_alloc _ _
       obtain ⟨p1, hp1⟩ : ∃ p, x0.heap.size = p := ⟨_, rfl⟩
       have P1 : Hid (rowIs x1 p1 #[.slice none 0 0] 33) := by rw [hWx1, ← hp1]; exact rowIs_new _ _ _
       have B1 := hid (show w3.heap.size ≤ p1 from by have := hH.size; omega)
       go_simp
       rw [← hWx1]
       try rw [hp1]
       have D0_1 := hid (show p0 < p1 from by have := P0.out.lt; omega)
       clear hWx1 hp1
       have P0 := hid (P0.out.below hbx1)
       refine hK.out _ _ (chainP hH hbx1) (fun hH => ?_)
       clear hK K hbx1
       try simp only [Act.put, g1, g2, g3, g4, g5, g6]
       refine wpAnyH_ready (rs := [1]) (by kernel_rfl) (by simp) ?_
       refine AllReadyH.cons rfl (fun K hK => ?_) AllReadyH.nil
       go_simp
       refine (madeTable_own g (.slice ao n cap) L _ (HR0.out.below hH) HF.out.1.len).mono ?_
       rintro e x2 ⟨v0, rfl, ho0, hbx2⟩
       obtain ⟨ax0, cx0, hfx0⟩ := ownsRow_formN ho0
       obtain ⟨nx0, hnx0⟩ : ∃ k, L.length = k := ⟨_, rfl⟩
       rw [hnx0] at hfx0
       subst hfx0
       have HK0 := hid ho0
       clear ho0 hnx0
       obtain ⟨m0, hm0⟩ : ∃ m : Nat, x1.heap.size = m := ⟨_, rfl⟩
       obtain ⟨n0, hn0⟩ : ∃ n : Nat, x2.heap.size = n := ⟨_, rfl⟩
       have T0 := hid (And.intro hm0 (And.intro hn0 (And.intro hbx2.size hH.size)))
       clear hm0 hn0
       have A0_0 := hid (show p0 < m0 from by have := P0.out.lt; have := T0.out; omega)
       have A0_1 := hid (show p1 < m0 from by have := P1.out.lt; have := T0.out; omega)
       have P0 := hid (P0.out.below hbx2)
       have P1 := hid (P1.out.below hbx2)
       have C0 := hid (Below.refl x2.heap.size x2)
       refine hK.out _ _ (chainP hH hbx2) (fun hH => ?_)
       clear hK K hbx2
       try simp only [Act.put, g1, g2, g3, g4, g5, g6]
       refine wpAnyH_ready (rs := [3]) (by kernel_rfl) (by simp) ?_
       refine AllReadyH.cons rfl (fun K hK => ?_) AllReadyH.nil
       go_simp
       refine (madeConfig_own (.slice bo m d) LC _ (HR1.out.below hH) HF.out.2.len).mono ?_
       rintro e x3 ⟨v1, rfl, ho1, hbx3⟩
       obtain ⟨ax1, cx1, hfx1⟩ := ownsRow_formN ho1
       obtain ⟨nx1, hnx1⟩ : ∃ k, LC.length = k := ⟨_, rfl⟩
       rw [hnx1] at hfx1
       subst hfx1
       have HK1 := hid ho1
       clear ho1 hnx1
       obtain ⟨m1, hm1⟩ : ∃ m : Nat, x2.heap.size = m := ⟨_, rfl⟩
       obtain ⟨n1, hn1⟩ : ∃ n : Nat, x3.heap.size = n := ⟨_, rfl⟩
       have T1 := hid (And.intro hm1 (And.intro hn1 (And.intro hbx3.size hH.size)))
       clear hm1 hn1
       have A1_0 := hid (show p0 < m1 from by have := P0.out.lt; have := T1.out; omega)
       have A1_1 := hid (show p1 < m1 from by have := P1.out.lt; have := T1.out; omega)
       have P0 := hid (P0.out.below hbx3)
       have P1 := hid (P1.out.below hbx3)
       have C0 := hid (chainP C0.out hbx3)
       have C1 := hid (Below.refl x3.heap.size x3)
       refine hK.out _ _ (chainP hH hbx3) (fun hH => ?_)
       clear hK K hbx3
       try simp only [Act.put, g1, g2, g3, g4, g5, g6]
       refine wpAnyH_ready (rs := [6]) (by kernel_rfl) (by simp) ?_
       refine AllReadyH.cons rfl (fun K hK => ?_) AllReadyH.nil
       rw [if_pos (by kernel_rfl)]
       refine wp_store_row 56 _ _ rfl p0 #[.int .i64 g, .slice ax0 nx0 cx0] rfl rfl 56 zeroTab P0.out infoRefTable rfl (oneTab _ _ _ _) ?_
       refine hK.out _ _ (below_setRow hH B0.out _) (fun hH => ?_)
       clear hK K
       try simp only [Act.put, g1, g2, g3, g4, g5, g6]
       have PN := hid (show ¬ p0 = p1 from by first | (have := D0_1.out; omega) | (have := D1_0.out; omega))
       have PX := hid (row_other P1.out PN.out #[.int .i64 g, .slice ax0 nx0 cx0])
       refine wpAnyH_ready (rs := [7]) (by kernel_rfl) (by simp) ?_
       refine AllReadyH.cons rfl (fun K hK => ?_) AllReadyH.nil
       rw [if_pos (by kernel_rfl)]
       refine wp_store_row 33 _ _ rfl p1 #[.slice ax1 nx1 cx1] rfl rfl 33 #[.slice none 0 0] PX.out infoRefCfg rfl (oneCfg _ _ _) ?_
       refine hK.out _ _ (below_setRow hH B1.out _) (fun hH => ?_)
       clear hK K
       try simp only [Act.put, g1, g2, g3, g4, g5, g6]
       refine wpAnyH_done (by kernel_rfl) ?_ _
       go_wp2_with fail
       go_meet
       have HO0 := two_made p0 p1 HK0.out C0.out (by have h1 := T0.out; have h2 := A0_0.out; omega) (by have h1 := T0.out; have h2 := A0_1.out; omega) #[.int .i64 g, .slice ax0 nx0 cx0] #[.slice ax1 nx1 cx1]
       have HO1 := two_made p0 p1 HK1.out C1.out (by have h1 := T1.out; have h2 := A1_0.out; omega) (by have h1 := T1.out; have h2 := A1_1.out; omega) #[.int .i64 g, .slice ax0 nx0 cx0] #[.slice ax1 nx1 cx1]
       case rel => exact ⟨p0, p1, _, _, rfl, rfl, row_other (P0.out.setRow _) (fun e => PN.out e.symm) _, PX.out.setRow _, readsR_own HO0 (fun x hx => (HR0.out.heads x hx).below hH), readsP_own HO1 (fun x hx => (HR1.out.heads x hx).below hH), chainP HB3.out hH⟩
   · obtain ⟨x0, hWx0⟩ : ∃ W, W = w0.alloc (.cells #[.slice none 0 0] 33) := ⟨_, rfl⟩
     have hbx0 : Below w0.heap.size w0 x0 := by rw [hWx0]; exact below_alloc _ _
     obtain ⟨p1, hp1⟩ : ∃ p, w0.heap.size = p := ⟨_, rfl⟩
     have P1 : Hid (rowIs x0 p1 #[.slice none 0 0] 33) := by rw [hWx0, ← hp1]; exact rowIs_new _ _ _
     have B1 := hid (show w3.heap.size ≤ p1 from by have := hH.size; omega)
     go_simp
     rw [← hWx0]
     try rw [hp1]
     clear hWx0 hp1
     refine hK.out _ _ (chainP hH hbx0) (fun hH => ?_)
     clear hK K hbx0
     try simp only [Act.put, g1, g2, g3, g4, g5, g6]
     refine wpAnyH_ready (rs := [1, 4]) (by kernel_rfl) (by simp) ?_
     refine AllReadyH.cons rfl (fun K hK => ?_) (AllReadyH.cons rfl (fun K hK => ?_) AllReadyH.nil)
     · go_simp
       refine (madeTable_own g (.slice ao n cap) L _ (HR0.out.below hH) HF.out.1.len).mono ?_
       rintro e x1 ⟨v0, rfl, ho0, hbx1⟩
       obtain ⟨ax0, cx0, hfx0⟩ := ownsRow_formN ho0
       obtain ⟨nx0, hnx0⟩ : ∃ k, L.length = k := ⟨_, rfl⟩
       rw [hnx0] at hfx0
       subst hfx0
       have HK0 := hid ho0
       clear ho0 hnx0
       obtain ⟨m0, hm0⟩ : ∃ m : Nat, x0.heap.size = m := ⟨_, rfl⟩
       obtain ⟨n0, hn0⟩ : ∃ n : Nat, x1.heap.size = n := ⟨_, rfl⟩
       have T0 := hid (And.intro hm0 (And.intro hn0 (And.intro hbx1.size hH.size)))
       clear hm0 hn0
       have A0_1 := hid (show p1 < m0 from by have := P1.out.lt; have := T0.out; omega)
       have P1 := hid (P1.out.below hbx1)
       have C0 := hid (Below.refl x1.heap.size x1)
       refine hK.out _ _ (chainP hH hbx1) (fun hH => ?_)
       clear hK K hbx1
       try simp only [Act.put, g1, g2, g3, g4, g5, g6]
       refine wpAnyH_ready (rs := [3, 4]) (by kernel_rfl) (by simp) ?_
       refine AllReadyH.cons rfl (fun K hK => ?_) (AllReadyH.cons rfl (fun K hK => ?_) AllReadyH.nil)
       · go_simp
         refine (madeConfig_own (.slice bo m d) LC _ (HR1.out.below hH) HF.out.2.len).mono ?_
         rintro e x2 ⟨v1, rfl, ho1, hbx2⟩
         obtain ⟨ax1, cx1, hfx1⟩ := ownsRow_formN ho1
         obtain ⟨nx1, hnx1⟩ : ∃ k, LC.length = k := ⟨_, rfl⟩
         rw [hnx1] at hfx1
         subst hfx1
         have HK1 := hid ho1
         clear ho1 hnx1
         obtain ⟨m1, hm1⟩ : ∃ m : Nat, x1.heap.size = m := ⟨_, rfl⟩
         obtain ⟨n1, hn1⟩ : ∃ n : Nat, x2.heap.size = n := ⟨_, rfl⟩
         have T1 := hid (And.intro hm1 (And.intro hn1 (And.intro hbx2.size hH.size)))
         clear hm1 hn1
         have A1_1 := hid (show p1 < m1 from by have := P1.out.lt; have := T1.out; omega)
         have P1 := hid (P1.out.below hbx2)
         have C0 := hid (chainP C0.out hbx2)
         have C1 := hid (Below.refl x2.heap.size x2)
         refine hK.out _ _ (chainP hH hbx2) (fun hH => ?_)
         clear hK K hbx2
         try simp only [Act.put, g1, g2, g3, g4, g5, g6]
         refine wpAnyH_ready (rs := [4]) (by kernel_rfl) (by simp) ?_
         refine AllReadyH.cons rfl (fun K hK => ?_) AllReadyH.nil
         obtain ⟨x3, hWx3⟩ : ∃ W, W = x2.alloc (.cells zeroTab 56) := ⟨_, rfl⟩
         have hbx3 : Below x2.heap.size x2 x3 := by rw [hWx3]; exact below_alloc _ _
         obtain ⟨p0, hp0⟩ : ∃ p, x2.heap.size = p := ⟨_, rfl⟩
         have P0 : Hid (rowIs x3 p0 zeroTab 56) := by rw [hWx3, ← hp0]; exact rowIs_new _ _ _
         have B0 := hid (show w3.heap.size ≤ p0 from by have := hH.size; omega)
         go_simp
         rw [← hWx3]
         try rw [hp0]
         have A0_0 := hid (show n0 ≤ p0 from by have := C0.out.size; have := T0.out; omega)
         have A1_0 := hid (show n1 ≤ p0 from by have := C1.out.size; have := T1.out; omega)
         have D1_0 := hid (show p1 < p0 from by have := P1.out.lt; omega)
         clear hWx3 hp0
         have P1 := hid (P1.out.below hbx3)
         have C0 := hid (chainP C0.out hbx3)
         have C1 := hid (chainP C1.out hbx3)
         refine hK.out _ _ (chainP hH hbx3) (fun hH => ?_)
         clear hK K hbx3
         try simp only [Act.put, g1, g2, g3, g4, g5, g6]
         refine wpAnyH_ready (rs := [6]) (by kernel_rfl) (by simp) ?_
         refine AllReadyH.cons rfl (fun K hK => ?_) AllReadyH.nil
         rw [if_pos (by kernel_rfl)]
         refine wp_store_row 56 _ _ rfl p0 #[.int .i64 g, .slice ax0 nx0 cx0] rfl rfl 56 zeroTab P0.out infoRefTable rfl (oneTab _ _ _ _) ?_
         refine hK.out _ _ (below_setRow hH B0.out _) (fun hH => ?_)
         clear hK K
         try simp only [Act.put, g1, g2, g3, g4, g5, g6]
         have PN := hid (show ¬ p0 = p1 from by first | (have := D0_1.out; omega) | (have := D1_0.out; omega))
         have PX := hid (row_other P1.out PN.out #[.int .i64 g, .slice ax0 nx0 cx0])
         refine wpAnyH_ready (rs := [7]) (by kernel_rfl) (by simp) ?_
         refine AllReadyH.cons rfl (fun K hK => ?_) AllReadyH.nil
         rw [if_pos (by kernel_rfl)]
         refine wp_store_row 33 _ _ rfl p1 #[.slice ax1 nx1 cx1] rfl rfl 33 #[.slice none 0 0] PX.out infoRefCfg rfl (oneCfg _ _ _) ?_
         refine hK.out _ _ (below_setRow hH B1.out _) (fun hH => ?_)
         clear hK K
         try simp only [Act.put, g1, g2, g3, g4, g5, g6]
         refine wpAnyH_done (by kernel_rfl) ?_ _
         go_wp2_with fail
         go_meet
         have HO0 := two_made p0 p1 HK0.out C0.out (by have h1 := T0.out; have h2 := A0_0.out; omega) (by have h1 := T0.out; have h2 := A0_1.out; omega) #[.int .i64 g, .slice ax0 nx0 cx0] #[.slice ax1 nx1 cx1]
         have HO1 := two_made p0 p1 HK1.out C1.out (by have h1 := T1.out; have h2 := A1_0.out; omega) (by have h1 := T1.out; have h2 := A1_1.out; omega) #[.int .i64 g, .slice ax0 nx0 cx0] #[.slice ax1 nx1 cx1]
         case rel => exact ⟨p0, p1, _, _, rfl, rfl, row_other (P0.out.setRow _) (fun e => PN.out e.symm) _, PX.out.setRow _, readsR_own HO0 (fun x hx => (HR0.out.heads x hx).below hH), readsP_own HO1 (fun x hx => (HR1.out.heads x hx).below hH), chainP HB3.out hH⟩
       · obtain ⟨x2, hWx2⟩ : ∃ W, W = x1.alloc (.cells zeroTab 56) := ⟨_, rfl⟩
         have hbx2 : Below x1.heap.size x1 x2 := by rw [hWx2]; exact below_alloc _ _
         obtain ⟨p0, hp0⟩ : ∃ p, x1.heap.size = p := ⟨_, rfl⟩
         have P0 : Hid (rowIs x2 p0 zeroTab 56) := by rw [hWx2, ← hp0]; exact rowIs_new _ _ _
         have B0 := hid (show w3.heap.size ≤ p0 from by have := hH.size; omega)
         go_simp
         rw [← hWx2]
         try rw [hp0]
         have A0_0 := hid (show n0 ≤ p0 from by have := C0.out.size; have := T0.out; omega)
         have D1_0 := hid (show p1 < p0 from by have := P1.out.lt; omega)
         clear hWx2 hp0
         have P1 := hid (P1.out.below hbx2)
         have C0 := hid (chainP C0.out hbx2)
         refine hK.out _ _ (chainP hH hbx2) (fun hH => ?_)
         clear hK K hbx2
         try simp only [Act.put, g1, g2, g3, g4, g5, g6]
         refine wpAnyH_ready (rs := [3]) (by kernel_rfl) (by simp) ?_
         refine AllReadyH.cons rfl (fun K hK => ?_) AllReadyH.nil
         go_simp
         refine (madeConfig_own (.slice bo m d) LC _ (HR1.out.below hH) HF.out.2.len).mono ?_
         rintro e x3 ⟨v1, rfl, ho1, hbx3⟩
         obtain ⟨ax1, cx1, hfx1⟩ := ownsRow_formN ho1
         obtain ⟨nx1, hnx1⟩ : ∃ k, LC.length = k := ⟨_, rfl⟩
         rw [hnx1] at hfx1
         subst hfx1
         have HK1 := hid ho1
         clear ho1 hnx1
         obtain ⟨m1, hm1⟩ : ∃ m : Nat, x2.heap.size = m := ⟨_, rfl⟩
         obtain ⟨n1, hn1⟩ : ∃ n : Nat, x3.heap.size = n := ⟨_, rfl⟩
         have T1 := hid (And.intro hm1 (And.intro hn1 (And.intro hbx3.size hH.size)))
         clear hm1 hn1
         have A1_1 := hid (show p1 < m1 from by have := P1.out.lt; have := T1.out; omega)
         have A1_0 := hid (show p0 < m1 from by have := P0.out.lt; have := T1.out; omega)
         have P1 := hid (P1.out.below hbx3)
         have P0 := hid (P0.out.below hbx3)
         have C0 := hid (chainP C0.out hbx3)
         have C1 := hid (Below.refl x3.heap.size x3)
         refine hK.out _ _ (chainP hH hbx3) (fun hH => ?_)
         clear hK K hbx3
         try simp only [Act.put, g1, g2, g3, g4, g5, g6]
         refine wpAnyH_ready (rs := [6]) (by kernel_rfl) (by simp) ?_
         refine AllReadyH.cons rfl (fun K hK => ?_) AllReadyH.nil
         rw [if_pos (by kernel_rfl)]
         refine wp_store_row 56 _ _ rfl p0 #[.int .i64 g, .slice ax0 nx0 cx0] rfl rfl 56 zeroTab P0.out infoRefTable rfl (oneTab _ _ _ _) ?_
         refine hK.out _ _ (below_setRow hH B0.out _) (fun hH => ?_)
         clear hK K
         try simp only [Act.put, g1, g2, g3, g4, g5, g6]
         have PN := hid (show ¬ p0 = p1 from by first | (have := D0_1.out; omega) | (have := D1_0.out; omega))
         have PX := hid (row_other P1.out PN.out #[.int .i64 g, .slice ax0 nx0 cx0])
         refine wpAnyH_ready (rs := [7]) (by kernel_rfl) (by simp) ?_
         refine AllReadyH.cons rfl (fun K hK => ?_) AllReadyH.nil
         rw [if_pos (by kernel_rfl)]
         refine wp_store_row 33 _ _ rfl p1 #[.slice ax1 nx1 cx1] rfl rfl 33 #[.slice none 0 0] PX.out infoRefCfg rfl (oneCfg _ _ _) ?_
         refine hK.out _ _ (below_setRow hH B1.out _) (fun hH => ?_)
         clear hK K
         try simp only [Act.put, g1, g2, g3, g4, g5, g6]
         refine wpAnyH_done (by kernel_rfl) ?_ _
         go_wp2_with fail
         go_meet
         have HO0 := two_made p0 p1 HK0.out C0.out (by have h1 := T0.out; have h2 := A0_0.out; omega) (by have h1 := T0.out; have h2 := A0_1.out; omega) #[.int .i64 g, .slice ax0 nx0 cx0] #[.slice ax1 nx1 cx1]
         have HO1 := two_made p0 p1 HK1.out C1.out (by have h1 := T1.out; have h2 := A1_0.out; omega) (by have h1 := T1.out; have h2 := A1_1.out; omega) #[.int .i64 g, .slice ax0 nx0 cx0] #[.slice ax1 nx1 cx1]
         case rel => exact ⟨p0, p1, _, _, rfl, rfl, row_other (P0.out.setRow _) (fun e => PN.out e.symm) _, PX.out.setRow _, readsR_own HO0 (fun x hx => (HR0.out.heads x hx).below hH), readsP_own HO1 (fun x hx => (HR1.out.heads x hx).below hH), chainP HB3.out hH⟩
     · obtain ⟨x1, hWx1⟩ : ∃ W, W = x0.alloc (.cells zeroTab 56) := ⟨_, rfl⟩
       have hbx1 : Below x0.heap.size x0 x1 := by rw [hWx1]; exact below_alloc _ _
       obtain ⟨p0, hp0⟩ : ∃ p, x0.heap.size = p := ⟨_, rfl⟩
       have P0 : Hid (rowIs x1 p0 zeroTab 56) := by rw [hWx1, ← hp0]; exact rowIs_new _ _ _
       have B0 := hid (show w3.heap.size ≤ p0 from by have := hH.size; omega)
       go_simp
       rw [← hWx1]
       try rw [hp0]
       have D1_0 := hid (show p1 < p0 from by have := P1.out.lt; omega)
       clear hWx1 hp0
       have P1 := hid (P1.out.below hbx1)
       refine hK.out _ _ (chainP hH hbx1) (fun hH => ?_)
       clear hK K hbx1
       try simp only [Act.put, g1, g2, g3, g4, g5, g6]
       refine wpAnyH_ready (rs := [1]) (by kernel_rfl) (by simp) ?_
       refine AllReadyH.cons rfl (fun K hK => ?_) AllReadyH.nil
       go_simp
       refine (madeTable_own g (.slice ao n cap) L _ (HR0.out.below hH) HF.out.1.len).mono ?_
       rintro e x2 ⟨v0, rfl, ho0, hbx2⟩
       obtain ⟨ax0, cx0, hfx0⟩ := ownsRow_formN ho0
       obtain ⟨nx0, hnx0⟩ : ∃ k, L.length = k := ⟨_, rfl⟩
       rw [hnx0] at hfx0
       subst hfx0
       have HK0 := hid ho0
       clear ho0 hnx0
       obtain ⟨m0, hm0⟩ : ∃ m : Nat, x1.heap.size = m := ⟨_, rfl⟩
       obtain ⟨n0, hn0⟩ : ∃ n : Nat, x2.heap.size = n := ⟨_, rfl⟩
       have T0 := hid (And.intro hm0 (And.intro hn0 (And.intro hbx2.size hH.size)))
       clear hm0 hn0
       have A0_1 := hid (show p1 < m0 from by have := P1.out.lt; have := T0.out; omega)
       have A0_0 := hid (show p0 < m0 from by have := P0.out.lt; have := T0.out; omega)
       have P1 := hid (P1.out.below hbx2)
       have P0 := hid (P0.out.below hbx2)
       have C0 := hid (Below.refl x2.heap.size x2)
       refine hK.out _ _ (chainP hH hbx2) (fun hH => ?_)
       clear hK K hbx2
       try simp only [Act.put, g1, g2, g3, g4, g5, g6]
       refine wpAnyH_ready (rs := [3]) (by kernel_rfl) (by simp) ?_
       refine AllReadyH.cons rfl (fun K hK => ?_) AllReadyH.nil
       go_simp
       refine (madeConfig_own (.slice bo m d) LC _ (HR1.out.below hH) HF.out.2.len).mono ?_
       rintro e x3 ⟨v1, rfl, ho1, hbx3⟩
       obtain ⟨ax1, cx1, hfx1⟩ := ownsRow_formN ho1
       obtain ⟨nx1, hnx1⟩ : ∃ k, LC.length = k := ⟨_, rfl⟩
       rw [hnx1] at hfx1
       subst hfx1
       have HK1 := hid ho1
       clear ho1 hnx1
       obtain ⟨m1, hm1⟩ : ∃ m : Nat, x2.heap.size = m := ⟨_, rfl⟩
       obtain ⟨n1, hn1⟩ : ∃ n : Nat, x3.heap.size = n := ⟨_, rfl⟩
       have T1 := hid (And.intro hm1 (And.intro hn1 (And.intro hbx3.size hH.size)))
       clear hm1 hn1
       have A1_1 := hid (show p1 < m1 from by have := P1.out.lt; have := T1.out; omega)
       have A1_0 := hid (show p0 < m1 from by have := P0.out.lt; have := T1.out; omega)
       have P1 := hid (P1.out.below hbx3)
       have P0 := hid (P0.out.below hbx3)
       have C0 := hid (chainP C0.out hbx3)
       have C1 := hid (Below.refl x3.heap.size x3)
       refine hK.out _ _ (chainP hH hbx3) (fun hH => ?_)
       clear hK K hbx3
       try simp only [Act.put, g1, g2, g3, g4, g5, g6]
       refine wpAnyH_ready (rs := [6]) (by kernel_rfl) (by simp) ?_
       refine AllReadyH.cons rfl (fun K hK => ?_) AllReadyH.nil
       rw [if_pos (by kernel_rfl)]
       refine wp_store_row 56 _ _ rfl p0 #[.int .i64 g, .slice ax0 nx0 cx0] rfl rfl 56 zeroTab P0.out infoRefTable rfl (oneTab _ _ _ _) ?_
       refine hK.out _ _ (below_setRow hH B0.out _) (fun hH => ?_)
       clear hK K
       try simp only [Act.put, g1, g2, g3, g4, g5, g6]
       have PN := hid (show ¬ p0 = p1 from by first | (have := D0_1.out; omega) | (have := D1_0.out; omega))
       have PX := hid (row_other P1.out PN.out #[.int .i64 g, .slice ax0 nx0 cx0])
       refine wpAnyH_ready (rs := [7]) (by kernel_rfl) (by simp) ?_
       refine AllReadyH.cons rfl (fun K hK => ?_) AllReadyH.nil
       rw [if_pos (by kernel_rfl)]
       refine wp_store_row 33 _ _ rfl p1 #[.slice ax1 nx1 cx1] rfl rfl 33 #[.slice none 0 0] PX.out infoRefCfg rfl (oneCfg _ _ _) ?_
       refine hK.out _ _ (below_setRow hH B1.out _) (fun hH => ?_)
       clear hK K
       try simp only [Act.put, g1, g2, g3, g4, g5, g6]
       refine wpAnyH_done (by kernel_rfl) ?_ _
       go_wp2_with fail
       go_meet
       have HO0 := two_made p0 p1 HK0.out C0.out (by have h1 := T0.out; have h2 := A0_0.out; omega) (by have h1 := T0.out; have h2 := A0_1.out; omega) #[.int .i64 g, .slice ax0 nx0 cx0] #[.slice ax1 nx1 cx1]
       have HO1 := two_made p0 p1 HK1.out C1.out (by have h1 := T1.out; have h2 := A1_0.out; omega) (by have h1 := T1.out; have h2 := A1_1.out; omega) #[.int .i64 g, .slice ax0 nx0 cx0] #[.slice ax1 nx1 cx1]
       case rel => exact ⟨p0, p1, _, _, rfl, rfl, row_other (P0.out.setRow _) (fun e => PN.out e.symm) _, PX.out.setRow _, readsR_own HO0 (fun x hx => (HR0.out.heads x hx).below hH), readsP_own HO1 (fun x hx => (HR1.out.heads x hx).below hH), chainP HB3.out hH⟩
  case rest =>
  rename World => w8
  obtain ⟨p7, p8, vx, vy, rfl, rfl, hx, hy, hrx, hry, hb8⟩ := hcut
  obtain ⟨ax, cx, ex, -⟩ := hrx.form
  obtain ⟨ay, cy, ey, -⟩ := hry.form
  rw [HN.out.1] at ex
  rw [HN.out.2] at ey
  subst ex ey
  have HB8 := hid hb8
  have R7 : Hid (∀ W', Below w8.heap.size w8 W' → rowIs W' p7 #[.int .i64 g, .slice ax n cx] 56) := fun W' h => hx.below h
  have R8 : Hid (∀ W', Below w8.heap.size w8 W' → rowIs W' p8 #[.slice ay m cy] 33) := fun W' h => hy.below h
  have HX := hid (And.intro hrx hry)
  have ra := RT.out _ hb8
  have rb := RC4.out _ hb8
  clear hx hy hrx hry hb8 HR0 HR1 d1
  go_wp2_with (first | (refine wpList_load_row rfl 52 _ rfl w.heap.size rfl 52 _ (0, 0) _ ra Tryz.underlying52 rfl infoTable ?_) | (refine wpList_load_row rfl 25 _ rfl (w.heap.size + 1) rfl 25 _ (0, 0) _ rb Tryz.underlying25 rfl infoCfg ?_))
  refine (next_any g (.slice ao n cap) (.slice bo m d) L LC w8 (HR.out.1.below HB8.out) HF.out.1 (HR.out.2.below HB8.out) HF.out.2 (HM.out.1.below HB8.out) (HM.out.2.below HB8.out)).mono ?_
  rintro e w9 hq
  obtain ⟨gu, au, nu, cu, va, z, rfl, hd, hb9⟩ := next_both hq
  obtain ⟨p9, hp9⟩ : ∃ p, w9.heap.size = p := ⟨_, rfl⟩
  obtain ⟨W9, hW9⟩ : ∃ W, w9.alloc (.cells #[.int .i64 gu, .slice au nu cu] 52) = W := ⟨_, rfl⟩
  have hb99 : Below w9.heap.size w9 W9 := by rw [← hW9]; exact below_alloc _ _
  have r9 : rowIs W9 p9 #[.int .i64 gu, .slice au nu cu] 52 := by rw [← hW9, ← hp9]; exact rowIs_new _ _ _
  have R9 : Hid (∀ W', Below W9.heap.size W9 W' → rowIs W' p9 #[.int .i64 gu, .slice au nu cu] 52) := fun W' h => r9.below h
  have HB9 := hid (chainP hb9 hb99)
  have HD := hid (And.intro hd hb99)
  have HW9 := hid (And.intro hW9 hp9)
  clear hq hd hb9 hb99 r9 hW9 hp9 ra rb
  go_upto_region 7 with fail
  change Code.wp _ _ _ _ (w9.alloc (.cells #[.int .i64 gu, .slice au nu cu] 52))
  rw [HW9.out.1, HW9.out.2]
  refine wp_region_held_drew (S := fun w' => Below W9.heap.size W9 w') (by kernel_rfl) ((Below.refl _ _).drew) (fun hH => ?_)
  generalize W9.drew = w10 at hH ⊢
  refine wpAnyH_take (i := 0) (v := .agg #[.int .i64 g, .slice ao n cap]) rfl (by kernel_rfl) (by kernel_rfl) (by kernel_rfl) (fun _ _ _ h => h) (Or.inl ⟨by kernel_rfl, ?_⟩) hH ?_
  · intro W hS
    exact load_gives rfl _ rfl (RT.out _ (chainP (chainP HB8.out HB9.out) hS)) Tryz.underlying52 rfl infoTable
  simp only [Act.put, g1, g2, g3, g4, g5, g6]
  refine wpAnyH_take (i := 2) (v := .agg #[.int .i64 g, .slice ax n cx]) rfl (by kernel_rfl) (by kernel_rfl) (by kernel_rfl) (fun _ _ _ h => h) (Or.inl ⟨by kernel_rfl, ?_⟩) hH ?_
  · intro W hS
    exact load_gives rfl _ rfl (R7.out _ (chainP HB9.out hS)) Tryz.underlying56 rfl infoRefTable
  simp only [Act.put, g1, g2, g3, g4, g5, g6]
  refine wpAnyH_ready (rs := [1]) (by kernel_rfl) (by simp) ?_
  refine AllReadyH.cons rfl (fun K hK => ?_) AllReadyH.nil
  go_simp
  refine (tableRight_any g (.slice ao n cap) L _ (HR.out.1.below (chainP (chainP HB8.out HB9.out) hH)) HF.out.1 (HM.out.1.below (chainP (chainP HB8.out HB9.out) hH)) (HM.out.2.below (chainP (chainP HB8.out HB9.out) hH))).mono ?_
  rintro e x1 ⟨rfl, hbx1⟩
  refine hK.out _ _ (chainP hH hbx1) (fun hH => ?_)
  clear hK K
  try simp only [Act.put, g1, g2, g3, g4, g5, g6]
  refine wpAnyH_ready (rs := [3]) (by kernel_rfl) (by simp) ?_
  refine AllReadyH.cons rfl (fun K hK => ?_) AllReadyH.nil
  go_simp
  refine (refTRight_any g (.slice ax n cx) L _ (HX.out.1.below (chainP HB9.out hH)) HF.out.1).mono ?_
  rintro e x3 ⟨rfl, hbx3⟩
  refine hK.out _ _ (chainP hH hbx3) (fun hH => ?_)
  clear hK K
  try simp only [Act.put, g1, g2, g3, g4, g5, g6]
  refine wpAnyH_take (i := 4) (v := ?_) rfl (by kernel_rfl) (by kernel_rfl) (by kernel_rfl) (fun _ _ _ h => h) (Or.inl ⟨by kernel_rfl, ?_⟩) hH ?_
  rotate_left
  · intro W hS
    go_simp
    first | done | with_reducible rfl
  simp only [Act.put, g1, g2, g3, g4, g5, g6]
  refine wpAnyH_take (i := 5) (v := ?_) rfl (by kernel_rfl) (by kernel_rfl) (by kernel_rfl) (fun _ _ _ h => h) (Or.inl ⟨by kernel_rfl, ?_⟩) hH ?_
  rotate_left
  · intro W hS
    go_simp
    first | done | with_reducible rfl
  simp only [Act.put, g1, g2, g3, g4, g5, g6]
  refine wpAnyH_take (i := 6) (v := .agg #[.int .i64 g, .slice ao n cap]) rfl (by kernel_rfl) (by kernel_rfl) (by kernel_rfl) (fun _ _ _ h => h) (Or.inl ⟨by kernel_rfl, ?_⟩) hH ?_
  · intro W hS
    exact load_gives rfl _ rfl (RT.out _ (chainP (chainP HB8.out HB9.out) hS)) Tryz.underlying52 rfl infoTable
  simp only [Act.put, g1, g2, g3, g4, g5, g6]
  refine wpAnyH_take (i := 9) (v := .agg #[.int .i64 g, .slice ax n cx]) rfl (by kernel_rfl) (by kernel_rfl) (by kernel_rfl) (fun _ _ _ h => h) (Or.inl ⟨by kernel_rfl, ?_⟩) hH ?_
  · intro W hS
    exact load_gives rfl _ rfl (R7.out _ (chainP HB9.out hS)) Tryz.underlying56 rfl infoRefTable
  simp only [Act.put, g1, g2, g3, g4, g5, g6]
  refine wpAnyH_ready (rs := [7]) (by kernel_rfl) (by simp) ?_
  refine AllReadyH.cons rfl (fun K hK => ?_) AllReadyH.nil
  go_simp
  refine (tableConfig_any g (.slice ao n cap) L _ (HR.out.1.below (chainP (chainP HB8.out HB9.out) hH)) HF.out.1.len HF.out.1.heads).mono ?_
  rintro e x7 ⟨v7, L7, rfl, he7, hr7, hro7, hbx7⟩
  have H7 := hid (And.intro he7 (And.intro hr7 hro7))
  clear he7 hr7 hro7
  refine hK.out _ _ (chainP hH hbx7) (fun hH => ?_)
  clear hK K
  try simp only [Act.put, g1, g2, g3, g4, g5, g6]
  refine wpAnyH_ready (rs := [8]) (by kernel_rfl) (by simp) ?_
  refine AllReadyH.cons rfl (fun K hK => ?_) AllReadyH.nil
  go_simp
  refine (madeConfig_any v7 L7 _ H7.out.2.1 (few_same HF.out.1 H7.out.1 H7.out.2.2).len).mono ?_
  rintro e x8 ⟨v8, rfl, hr8, hbx8⟩
  have H8 := hid hr8
  clear hr8
  refine hK.out _ _ (chainP hH hbx8) (fun hH => ?_)
  clear hK K
  try simp only [Act.put, g1, g2, g3, g4, g5, g6]
  refine wpAnyH_ready (rs := [10]) (by kernel_rfl) (by simp) ?_
  refine AllReadyH.cons rfl (fun K hK => ?_) AllReadyH.nil
  go_simp
  refine (refTConfig_any g (.slice ax n cx) L _ (HX.out.1.below (chainP HB9.out hH)) HF.out.1.len).mono ?_
  rintro e x10 ⟨v10, rfl, hr10, hbx10⟩
  have H10 := hid hr10
  have H8b := hid (H8.out.below hbx10)
  clear hr10
  refine hK.out _ _ (chainP hH hbx10) (fun hH => ?_)
  clear hK K
  try simp only [Act.put, g1, g2, g3, g4, g5, g6]
  refine wpAnyH_ready (rs := [11]) (by kernel_rfl) (by simp) ?_
  refine AllReadyH.cons rfl (fun K hK => ?_) AllReadyH.nil
  go_simp
  refine (same_eq v8 v10 L7 (zT L) _ H8b.out H10.out (by rw [zT_map]; exact H7.out.1) (few_same HF.out.1 H7.out.1 H7.out.2.2).len (few_same HF.out.1 H7.out.1 H7.out.2.2).heads).mono ?_
  rintro e x11 ⟨rfl, hbx11⟩
  refine hK.out _ _ (chainP hH hbx11) (fun hH => ?_)
  clear hK K
  try simp only [Act.put, g1, g2, g3, g4, g5, g6]
  refine wpAnyH_take (i := 12) (v := ?_) rfl (by kernel_rfl) (by kernel_rfl) (by kernel_rfl) (fun _ _ _ h => h) (Or.inl ⟨by kernel_rfl, ?_⟩) hH ?_
  rotate_left
  · intro W hS
    go_simp
    first | done | with_reducible rfl
  simp only [Act.put, g1, g2, g3, g4, g5, g6]
  refine wpAnyH_take (i := 13) (v := ?_) rfl (by kernel_rfl) (by kernel_rfl) (by kernel_rfl) (fun _ _ _ h => h) (Or.inl ⟨by kernel_rfl, ?_⟩) hH ?_
  rotate_left
  · intro W hS
    go_simp
    first | done | with_reducible rfl
  simp only [Act.put, g1, g2, g3, g4, g5, g6]
  refine wpAnyH_done (by kernel_rfl) ?_ _
  have HB17 := hid hH
  have ra := RT.out _ (chainP (chainP HB8.out HB9.out) hH)
  clear hH
  go_wp2_with (refine wpList_load_row rfl 52 _ rfl w.heap.size rfl 52 _ (0, 0) _ ra Tryz.underlying52 rfl infoTable ?_)
  refine (tableFind_any g (.slice ao n cap) L T0 x11 (HR.out.1.below (chainP (chainP HB8.out HB9.out) HB17.out)) HF.out.1.len HF.out.1.heads).mono ?_
  rintro e w18 hq
  obtain ⟨x, ah, nh, ch, ok, rfl, hrh, hlh, hfd, hb18⟩ := rfind_form hq HF.out.1
  obtain ⟨p12, hp12⟩ : ∃ p, w18.heap.size = p := ⟨_, rfl⟩
  obtain ⟨W12, hW12⟩ : ∃ W, w18.alloc (.cells (rowRz (x.1, .slice ah nh ch, x.2.2)) 66) = W := ⟨_, rfl⟩
  have hb12 : Below w18.heap.size w18 W12 := by rw [← hW12]; exact below_alloc _ _
  have r12 : rowIs W12 p12 (rowRz (x.1, .slice ah nh ch, x.2.2)) 66 := by rw [← hW12, ← hp12]; exact rowIs_new _ _ _
  have R12 : Hid (∀ W', Below W12.heap.size W12 W' → rowIs W' p12 (rowRz (x.1, .slice ah nh ch, x.2.2)) 66) := fun W' h => r12.below h
  have HB12 := hid (chainP (chainP HB17.out hb18) hb12)
  have HRH0 := hid (And.intro (hrh.below hb12) (And.intro hlh hfd))
  have HW12 := hid (And.intro hW12 hp12)
  clear hq hrh hlh hfd hb18 hb12 hp12 hW12 r12 ra
  go_upto_region 10 with fail
  change Code.wp _ _ _ _ (w18.alloc (.cells (rowRz (x.1, .slice ah nh ch, x.2.2)) 66))
  rw [HW12.out.1, HW12.out.2]
  have rx := R7.out _ (chainP HB9.out HB12.out)
  go_wp2_with (refine wpList_load_row rfl 56 _ rfl p7 rfl 56 _ (0, 0) _ rx Tryz.underlying56 rfl infoRefTable ?_)
  refine (refTConfig_any g (.slice ax n cx) L W12 (HX.out.1.below (chainP HB9.out HB12.out)) HF.out.1.len).mono ?_
  rintro e w20 ⟨v20, rfl, hr20, hb20⟩
  have H20 := hid hr20
  have HB20 := hid hb20
  clear rx hr20 hb20
  go_wp2_with fail
  refine (refFindC_first v20 (zT L) T0 w20 H20.out (by rw [zT_len]; exact HF.out.1.len)).mono ?_
  rintro e w22 ⟨hq22, hb22⟩
  obtain ⟨i, rfl, hi⟩ : ∃ i : Int, e = .returned (.int .i64 i) ∧ ((ok = true ∧ ∃ j : Nat, i = (j : Int) ∧ L[j]? = some x) ∨ (ok = false ∧ i = -1)) := by
    have hfd := HRH0.out.2.2
    cases ok
    · rcases hq22 with ⟨k, y, he, hy, hh, hn⟩ | ⟨he, hn⟩
      · exact (first_none hfd hy hh).elim
      · exact ⟨-1, he, .inr ⟨rfl, rfl⟩⟩
    · rcases hq22 with ⟨k, y, he, hy, hh, hn⟩ | ⟨he, hn⟩
      · exact ⟨k, he, .inl ⟨rfl, k, rfl, first_rule hfd hy hh hn⟩⟩
      · exact (first_some hfd hn).elim
  have HI := hid hi
  have HB22 := hid (chainP HB20.out hb22)
  clear hq22 hb22 hi
  go_upto_region 11 with fail
  go_cut [95] from 41 to 94 (fun u W' => u = .bool false ∧ Below w22.heap.size w22 W')
  case first =>
    rcases HI.out with ⟨rfl, j, rfl, hj⟩ | ⟨rfl, rfl⟩
    · have hmem := List.mem_of_getElem? hj
      have hall := chainP HB12.out HB22.out
      obtain ⟨bx, ox, eax, hcx⟩ := (HX.out.1.below (chainP HB9.out hall)).at_ hj
      subst eax
      obtain ⟨px, hpx⟩ : ∃ p, ox + j * 8 = p := ⟨_, rfl⟩
      rw [hpx] at hcx
      have QE : Hid (∀ W', Below w22.heap.size w22 W' → W'.cell? ⟨bx, px + 7, none⟩ = some (.int .i64 x.2.2)) := fun W' h => kept (hcx 7 _ rfl) h
      have QR : Hid (∀ W', Below w22.heap.size w22 W' → W'.rangeAt bx px (rowZ x.2.1 x.1).toList) := fun W' h => range_rule (fun i u hu => kept (hcx i u hu) h)
      have QX : Hid (∀ W', Below w22.heap.size w22 W' → W'.cell? ⟨p7, 1, none⟩ = some (.slice (some ⟨bx, ox, none⟩) n cx)) := fun W' h => (R7.out _ (chainP (chainP HB9.out hall) h)).cell 1
      have QS7 : Hid (∀ W', Below w22.heap.size w22 W' → W'.cell? ⟨p12, 7, none⟩ = some (.int .i64 x.2.2)) := fun W' h => (R12.out _ (chainP HB22.out h)).cell 7
      have R12b : Hid (∀ W', Below w22.heap.size w22 W' → rowIs W' p12 (rowRz (x.1, .slice ah nh ch, x.2.2)) 66) := fun W' h => R12.out _ (chainP HB22.out h)
      have HRH := hid (HRH0.out.1.below HB22.out)
      have HHX := hid ((HX.out.1.heads _ hmem).below (chainP HB9.out hall))
      have HLEN := hid HRH0.out.2.1
      have HJJ := hid (show (0 : Int) ≤ (j : Int) ∧ (j : Int) < (n : Int) from by
        have := (List.getElem?_eq_some_iff.1 hj).1
        have := HN.out.1
        omega)
      clear hmem hall hcx hj
      refine wp_region_held_drew (S := fun w' => Below w22.heap.size w22 w') (by kernel_rfl) ((Below.refl _ _).drew) (fun hH => ?_)
      generalize w22.drew = w23 at hH ⊢
      refine wpAnyH_take (i := 0) (v := ?_) rfl (by kernel_rfl) (by kernel_rfl) (by kernel_rfl) (fun _ _ _ h => h) (Or.inl ⟨by kernel_rfl, ?_⟩) hH ?_
      rotate_left
      · intro W hS
        have q7 := QS7.out W hS
        have qx := QX.out W hS
        have qs := QE.out W hS
        have hj0 := HJJ.out.1
        have hj1 := HJJ.out.2
        go_simp
        first | done | with_reducible rfl
      simp only [Act.put, g1, g2, g3, g4, g5, g6]
      refine wpAnyH_take (i := 1) (v := ?_) rfl (by kernel_rfl) (by kernel_rfl) (by kernel_rfl) (fun _ _ _ h => h) (Or.inl ⟨by kernel_rfl, ?_⟩) hH ?_
      rotate_left
      · intro W hS
        have q7 := QS7.out W hS
        have qx := QX.out W hS
        have qs := QE.out W hS
        have hj0 := HJJ.out.1
        have hj1 := HJJ.out.2
        go_simp
        first | done | with_reducible rfl
      simp only [Act.put, g1, g2, g3, g4, g5, g6]
      refine wpAnyH_take (i := 2) (v := ?_) rfl (by kernel_rfl) (by kernel_rfl) (by kernel_rfl) (fun _ _ _ h => h) (Or.inl ⟨by kernel_rfl, ?_⟩) hH ?_
      rotate_left
      · intro W hS
        have q7 := QS7.out W hS
        have qx := QX.out W hS
        have qs := QE.out W hS
        have hj0 := HJJ.out.1
        have hj1 := HJJ.out.2
        go_simp
        first | done | with_reducible rfl
      simp only [Act.put, g1, g2, g3, g4, g5, g6]
      refine wpAnyH_take (i := 3) (v := ?_) rfl (by kernel_rfl) (by kernel_rfl) (by kernel_rfl) (fun _ _ _ h => h) (Or.inl ⟨by kernel_rfl, ?_⟩) hH ?_
      rotate_left
      · intro W hS
        have q7 := QS7.out W hS
        have qx := QX.out W hS
        have qs := QE.out W hS
        have hj0 := HJJ.out.1
        have hj1 := HJJ.out.2
        go_simp
        first | done | with_reducible rfl
      simp only [Act.put, g1, g2, g3, g4, g5, g6]
      refine wpAnyH_take (i := 4) (v := ?_) rfl (by kernel_rfl) (by kernel_rfl) (by kernel_rfl) (fun _ _ _ h => h) (Or.inl ⟨by kernel_rfl, ?_⟩) hH ?_
      rotate_left
      · intro W hS
        have q7 := QS7.out W hS
        have qx := QX.out W hS
        have qs := QE.out W hS
        have hj0 := HJJ.out.1
        have hj1 := HJJ.out.2
        go_simp
        first | done | with_reducible rfl
      simp only [Act.put, g1, g2, g3, g4, g5, g6]
      refine wpAnyH_take (i := 5) (v := ?_) rfl (by kernel_rfl) (by kernel_rfl) (by kernel_rfl) (fun _ _ _ h => h) (Or.inl ⟨by kernel_rfl, ?_⟩) hH ?_
      rotate_left
      · intro W hS
        have q7 := QS7.out W hS
        have qx := QX.out W hS
        have qs := QE.out W hS
        have hj0 := HJJ.out.1
        have hj1 := HJJ.out.2
        go_simp
        first | done | with_reducible rfl
      simp only [Act.put, g1, g2, g3, g4, g5, g6]
      refine wpAnyH_take (i := 6) (v := ?_) rfl (by kernel_rfl) (by kernel_rfl) (by kernel_rfl) (fun _ _ _ h => h) (Or.inl ⟨by kernel_rfl, ?_⟩) hH ?_
      rotate_left
      · intro W hS
        have q7 := QS7.out W hS
        have qx := QX.out W hS
        have qs := QE.out W hS
        have hj0 := HJJ.out.1
        have hj1 := HJJ.out.2
        go_simp
        first | done | with_reducible rfl
      simp only [Act.put, g1, g2, g3, g4, g5, g6]
      refine wpAnyH_take (i := 7) (v := ?_) rfl (by kernel_rfl) (by kernel_rfl) (by kernel_rfl) (fun _ _ _ h => h) (Or.inl ⟨by kernel_rfl, ?_⟩) hH ?_
      rotate_left
      · intro W hS
        have q7 := QS7.out W hS
        have qx := QX.out W hS
        have qs := QE.out W hS
        have hj0 := HJJ.out.1
        have hj1 := HJJ.out.2
        go_simp
        first | done | with_reducible rfl
      simp only [Act.put, g1, g2, g3, g4, g5, g6]
      refine wpAnyH_take (i := 8) (v := ?_) rfl (by kernel_rfl) (by kernel_rfl) (by kernel_rfl) (fun _ _ _ h => h) (Or.inl ⟨by kernel_rfl, ?_⟩) hH ?_
      rotate_left
      · intro W hS
        have q7 := QS7.out W hS
        have qx := QX.out W hS
        have qs := QE.out W hS
        have hj0 := HJJ.out.1
        have hj1 := HJJ.out.2
        go_simp
        first | done | with_reducible rfl
      simp only [Act.put, g1, g2, g3, g4, g5, g6]
      refine wpAnyH_take (i := 9) (v := ?_) rfl (by kernel_rfl) (by kernel_rfl) (by kernel_rfl) (fun _ _ _ h => h) (Or.inl ⟨by kernel_rfl, ?_⟩) hH ?_
      rotate_left
      · intro W hS
        have q7 := QS7.out W hS
        have qx := QX.out W hS
        have qs := QE.out W hS
        have hj0 := HJJ.out.1
        have hj1 := HJJ.out.2
        go_simp
        first | done | with_reducible rfl
      simp only [Act.put, g1, g2, g3, g4, g5, g6]
      refine wpAnyH_take (i := 10) (v := ?_) rfl (by kernel_rfl) (by kernel_rfl) (by kernel_rfl) (fun _ _ _ h => h) (Or.inl ⟨by kernel_rfl, ?_⟩) hH ?_
      rotate_left
      · intro W hS
        have q7 := QS7.out W hS
        have qx := QX.out W hS
        have qs := QE.out W hS
        have hj0 := HJJ.out.1
        have hj1 := HJJ.out.2
        go_simp
        first | done | with_reducible rfl
      simp only [Act.put, g1, g2, g3, g4, g5, g6]
      refine wpAnyH_take (i := 11) (v := ?_) rfl (by kernel_rfl) (by kernel_rfl) (by kernel_rfl) (fun _ _ _ h => h) (Or.inl ⟨by kernel_rfl, ?_⟩) hH ?_
      rotate_left
      · intro W hS
        have q7 := QS7.out W hS
        have qx := QX.out W hS
        have qs := QE.out W hS
        have hj0 := HJJ.out.1
        have hj1 := HJJ.out.2
        go_simp
        first | done | with_reducible rfl
      simp only [Act.put, g1, g2, g3, g4, g5, g6]
      refine wpAnyH_take (i := 12) (v := ?_) rfl (by kernel_rfl) (by kernel_rfl) (by kernel_rfl) (fun _ _ _ h => h) (Or.inl ⟨by kernel_rfl, ?_⟩) hH ?_
      rotate_left
      · intro W hS
        have q7 := QS7.out W hS
        have qx := QX.out W hS
        have qs := QE.out W hS
        have hj0 := HJJ.out.1
        have hj1 := HJJ.out.2
        go_simp
        first | done | with_reducible rfl
      simp only [Act.put, g1, g2, g3, g4, g5, g6]
      refine wpAnyH_take (i := 13) (v := ?_) rfl (by kernel_rfl) (by kernel_rfl) (by kernel_rfl) (fun _ _ _ h => h) (Or.inl ⟨by kernel_rfl, ?_⟩) hH ?_
      rotate_left
      · intro W hS
        have q7 := QS7.out W hS
        have qx := QX.out W hS
        have qs := QE.out W hS
        have hj0 := HJJ.out.1
        have hj1 := HJJ.out.2
        go_simp
        first | done | with_reducible rfl
      simp only [Act.put, g1, g2, g3, g4, g5, g6]
      refine wpAnyH_take (i := 14) (v := ?_) rfl (by kernel_rfl) (by kernel_rfl) (by kernel_rfl) (fun _ _ _ h => h) (Or.inl ⟨by kernel_rfl, ?_⟩) hH ?_
      rotate_left
      · intro W hS
        have q7 := QS7.out W hS
        have qx := QX.out W hS
        have qs := QE.out W hS
        have hj0 := HJJ.out.1
        have hj1 := HJJ.out.2
        go_simp
        first | done | with_reducible rfl
      simp only [Act.put, g1, g2, g3, g4, g5, g6]
      refine wpAnyH_take (i := 15) (v := ?_) rfl (by kernel_rfl) (by kernel_rfl) (by kernel_rfl) (fun _ _ _ h => h) (Or.inl ⟨by kernel_rfl, ?_⟩) hH ?_
      rotate_left
      · intro W hS
        have q7 := QS7.out W hS
        have qx := QX.out W hS
        have qs := QE.out W hS
        have hj0 := HJJ.out.1
        have hj1 := HJJ.out.2
        go_simp
        first | done | with_reducible rfl
      simp only [Act.put, g1, g2, g3, g4, g5, g6]
      refine wpAnyH_take (i := 16) (v := ?_) rfl (by kernel_rfl) (by kernel_rfl) (by kernel_rfl) (fun _ _ _ h => h) (Or.inl ⟨by kernel_rfl, ?_⟩) hH ?_
      rotate_left
      · intro W hS
        have q7 := QS7.out W hS
        have qx := QX.out W hS
        have qs := QE.out W hS
        have hj0 := HJJ.out.1
        have hj1 := HJJ.out.2
        go_simp
        first | done | with_reducible rfl
      simp only [Act.put, g1, g2, g3, g4, g5, g6]
      refine wpAnyH_take (i := 17) (v := ?_) rfl (by kernel_rfl) (by kernel_rfl) (by kernel_rfl) (fun _ _ _ h => h) (Or.inl ⟨by kernel_rfl, ?_⟩) hH ?_
      rotate_left
      · intro W hS
        have q7 := QS7.out W hS
        have qx := QX.out W hS
        have qs := QE.out W hS
        have hj0 := HJJ.out.1
        have hj1 := HJJ.out.2
        go_simp
        first | done | with_reducible rfl
      simp only [Act.put, g1, g2, g3, g4, g5, g6]
      refine wpAnyH_take (i := 18) (v := .agg (rowZ (.slice ah nh ch) x.1)) rfl (by kernel_rfl) (by kernel_rfl) (by kernel_rfl) (fun _ _ _ h => h) (Or.inl ⟨by kernel_rfl, ?_⟩) hH ?_
      · intro W hS
        exact load_site rfl p12 rfl (R12b.out _ hS) Tryz.underlying64 rfl infoSite
      simp only [Act.put, g1, g2, g3, g4, g5, g6]
      refine wpAnyH_take (i := 20) (v := ?_) rfl (by kernel_rfl) (by kernel_rfl) (by kernel_rfl) (fun _ _ _ h => h) (Or.inl ⟨by kernel_rfl, ?_⟩) hH ?_
      rotate_left
      · intro W hS
        have q7 := QS7.out W hS
        have qx := QX.out W hS
        have qs := QE.out W hS
        have hj0 := HJJ.out.1
        have hj1 := HJJ.out.2
        go_simp
        first | done | with_reducible rfl
      simp only [Act.put, g1, g2, g3, g4, g5, g6]
      refine wpAnyH_take (i := 21) (v := ?_) rfl (by kernel_rfl) (by kernel_rfl) (by kernel_rfl) (fun _ _ _ h => h) (Or.inl ⟨by kernel_rfl, ?_⟩) hH ?_
      rotate_left
      · intro W hS
        have q7 := QS7.out W hS
        have qx := QX.out W hS
        have qs := QE.out W hS
        have hj0 := HJJ.out.1
        have hj1 := HJJ.out.2
        go_simp
        first | done | with_reducible rfl
      simp only [Act.put, g1, g2, g3, g4, g5, g6]
      refine wpAnyH_take (i := 22) (v := ?_) rfl (by kernel_rfl) (by kernel_rfl) (by kernel_rfl) (fun _ _ _ h => h) (Or.inl ⟨by kernel_rfl, ?_⟩) hH ?_
      rotate_left
      · intro W hS
        have q7 := QS7.out W hS
        have qx := QX.out W hS
        have qs := QE.out W hS
        have hj0 := HJJ.out.1
        have hj1 := HJJ.out.2
        go_simp
        first | done | with_reducible rfl
      simp only [Act.put, g1, g2, g3, g4, g5, g6]
      refine wpAnyH_take (i := 23) (v := ?_) rfl (by kernel_rfl) (by kernel_rfl) (by kernel_rfl) (fun _ _ _ h => h) (Or.inl ⟨by kernel_rfl, ?_⟩) hH ?_
      rotate_left
      · intro W hS
        have q7 := QS7.out W hS
        have qx := QX.out W hS
        have qs := QE.out W hS
        have hj0 := HJJ.out.1
        have hj1 := HJJ.out.2
        go_simp
        first | done | with_reducible rfl
      simp only [Act.put, g1, g2, g3, g4, g5, g6]
      refine wpAnyH_take (i := 24) (v := ?_) rfl (by kernel_rfl) (by kernel_rfl) (by kernel_rfl) (fun _ _ _ h => h) (Or.inl ⟨by kernel_rfl, ?_⟩) hH ?_
      rotate_left
      · intro W hS
        have q7 := QS7.out W hS
        have qx := QX.out W hS
        have qs := QE.out W hS
        have hj0 := HJJ.out.1
        have hj1 := HJJ.out.2
        go_simp
        first | done | with_reducible rfl
      simp only [Act.put, g1, g2, g3, g4, g5, g6]
      refine wpAnyH_take (i := 25) (v := .agg (rowZ x.2.1 x.1)) rfl (by kernel_rfl) (by kernel_rfl) (by kernel_rfl) (fun _ _ _ h => h) (Or.inl ⟨by kernel_rfl, ?_⟩) hH ?_
      · intro W hS
        exact load_mid rfl bx px rfl (rowZ x.2.1 x.1).toList (QR.out _ hS) Tryz.underlying70 rfl infoRefSite
      simp only [Act.put, g1, g2, g3, g4, g5, g6]
      refine wpAnyH_ready (rs := [19]) (by kernel_rfl) (by simp) ?_
      refine AllReadyH.cons rfl (fun K hK => ?_) AllReadyH.nil
      go_simp
      refine (madeSite_any (.slice ah nh ch) x.1 _ ⟨_, _, _, rfl⟩).mono ?_
      rintro e x19 ⟨rfl, hbx19⟩
      refine hK.out _ _ (chainP hH hbx19) (fun hH => ?_)
      clear hK K
      try simp only [Act.put, g1, g2, g3, g4, g5, g6]
      refine wpAnyH_ready (rs := [26]) (by kernel_rfl) (by simp) ?_
      refine AllReadyH.cons rfl (fun K hK => ?_) AllReadyH.nil
      go_simp
      refine (alike_eq (.slice ah nh ch) x.2.1 x.1 _ (HRH.out.below hH) (HHX.out.below hH) HLEN.out).mono ?_
      rintro e x26 ⟨rfl, hbx26⟩
      refine hK.out _ _ (chainP hH hbx26) (fun hH => ?_)
      clear hK K
      try simp only [Act.put, g1, g2, g3, g4, g5, g6]
      refine wpAnyH_take (i := 27) (v := ?_) rfl (by kernel_rfl) (by kernel_rfl) (by kernel_rfl) (fun _ _ _ h => h) (Or.inl ⟨by kernel_rfl, ?_⟩) hH ?_
      rotate_left
      · intro W hS
        have q7 := QS7.out W hS
        have qx := QX.out W hS
        have qs := QE.out W hS
        have hj0 := HJJ.out.1
        have hj1 := HJJ.out.2
        go_simp
        first | done | with_reducible rfl
      simp only [Act.put, g1, g2, g3, g4, g5, g6]
      refine wpAnyH_take (i := 28) (v := ?_) rfl (by kernel_rfl) (by kernel_rfl) (by kernel_rfl) (fun _ _ _ h => h) (Or.inl ⟨by kernel_rfl, ?_⟩) hH ?_
      rotate_left
      · intro W hS
        have q7 := QS7.out W hS
        have qx := QX.out W hS
        have qs := QE.out W hS
        have hj0 := HJJ.out.1
        have hj1 := HJJ.out.2
        go_simp
        first | done | with_reducible rfl
      simp only [Act.put, g1, g2, g3, g4, g5, g6]
      refine wpAnyH_take (i := 29) (v := ?_) rfl (by kernel_rfl) (by kernel_rfl) (by kernel_rfl) (fun _ _ _ h => h) (Or.inl ⟨by kernel_rfl, ?_⟩) hH ?_
      rotate_left
      · intro W hS
        have q7 := QS7.out W hS
        have qx := QX.out W hS
        have qs := QE.out W hS
        have hj0 := HJJ.out.1
        have hj1 := HJJ.out.2
        go_simp
        first | done | with_reducible rfl
      simp only [Act.put, g1, g2, g3, g4, g5, g6]
      refine wpAnyH_take (i := 30) (v := ?_) rfl (by kernel_rfl) (by kernel_rfl) (by kernel_rfl) (fun _ _ _ h => h) (Or.inl ⟨by kernel_rfl, ?_⟩) hH ?_
      rotate_left
      · intro W hS
        have q7 := QS7.out W hS
        have qx := QX.out W hS
        have qs := QE.out W hS
        have hj0 := HJJ.out.1
        have hj1 := HJJ.out.2
        go_simp
        first | done | with_reducible rfl
      simp only [Act.put, g1, g2, g3, g4, g5, g6]
      refine wpAnyH_done (by kernel_rfl) ?_ _
      go_wp2_with fail
      go_meet
      case rel => exact ⟨rfl, hH⟩
    · refine wp_region_held_drew (S := fun w' => Below w22.heap.size w22 w') (by kernel_rfl) ((Below.refl _ _).drew) (fun hH => ?_)
      generalize w22.drew = w23 at hH ⊢
      refine wpAnyH_take (i := 0) (v := ?_) rfl (by kernel_rfl) (by kernel_rfl) (by kernel_rfl) (fun _ _ _ h => h) (Or.inl ⟨by kernel_rfl, ?_⟩) hH ?_
      rotate_left
      · intro W hS
        go_simp
        first | done | with_reducible rfl
      simp only [Act.put, g1, g2, g3, g4, g5, g6]
      refine wpAnyH_take (i := 1) (v := ?_) rfl (by kernel_rfl) (by kernel_rfl) (by kernel_rfl) (fun _ _ _ h => h) (Or.inl ⟨by kernel_rfl, ?_⟩) hH ?_
      rotate_left
      · intro W hS
        go_simp
        first | done | with_reducible rfl
      simp only [Act.put, g1, g2, g3, g4, g5, g6]
      refine wpAnyH_take (i := 2) (v := ?_) rfl (by kernel_rfl) (by kernel_rfl) (by kernel_rfl) (fun _ _ _ h => h) (Or.inl ⟨by kernel_rfl, ?_⟩) hH ?_
      rotate_left
      · intro W hS
        go_simp
        first | done | with_reducible rfl
      simp only [Act.put, g1, g2, g3, g4, g5, g6]
      refine wpAnyH_take (i := 3) (v := ?_) rfl (by kernel_rfl) (by kernel_rfl) (by kernel_rfl) (fun _ _ _ h => h) (Or.inl ⟨by kernel_rfl, ?_⟩) hH ?_
      rotate_left
      · intro W hS
        go_simp
        first | done | with_reducible rfl
      simp only [Act.put, g1, g2, g3, g4, g5, g6]
      refine wpAnyH_take (i := 4) (v := ?_) rfl (by kernel_rfl) (by kernel_rfl) (by kernel_rfl) (fun _ _ _ h => h) (Or.inl ⟨by kernel_rfl, ?_⟩) hH ?_
      rotate_left
      · intro W hS
        go_simp
        first | done | with_reducible rfl
      simp only [Act.put, g1, g2, g3, g4, g5, g6]
      refine wpAnyH_take (i := 5) (v := ?_) rfl (by kernel_rfl) (by kernel_rfl) (by kernel_rfl) (fun _ _ _ h => h) (Or.inl ⟨by kernel_rfl, ?_⟩) hH ?_
      rotate_left
      · intro W hS
        go_simp
        first | done | with_reducible rfl
      simp only [Act.put, g1, g2, g3, g4, g5, g6]
      refine wpAnyH_take (i := 6) (v := ?_) rfl (by kernel_rfl) (by kernel_rfl) (by kernel_rfl) (fun _ _ _ h => h) (Or.inl ⟨by kernel_rfl, ?_⟩) hH ?_
      rotate_left
      · intro W hS
        go_simp
        first | done | with_reducible rfl
      simp only [Act.put, g1, g2, g3, g4, g5, g6]
      refine wpAnyH_take (i := 7) rfl (by kernel_rfl) (by kernel_rfl) (by kernel_rfl) (fun _ _ _ h => h) (Or.inr ⟨by kernel_rfl, rfl⟩) hH ?_
      simp only [Act.put, g1, g2, g3, g4, g5, g6]
      refine wpAnyH_take (i := 8) rfl (by kernel_rfl) (by kernel_rfl) (by kernel_rfl) (fun _ _ _ h => h) (Or.inr ⟨by kernel_rfl, rfl⟩) hH ?_
      simp only [Act.put, g1, g2, g3, g4, g5, g6]
      refine wpAnyH_take (i := 9) rfl (by kernel_rfl) (by kernel_rfl) (by kernel_rfl) (fun _ _ _ h => h) (Or.inr ⟨by kernel_rfl, rfl⟩) hH ?_
      simp only [Act.put, g1, g2, g3, g4, g5, g6]
      refine wpAnyH_take (i := 10) rfl (by kernel_rfl) (by kernel_rfl) (by kernel_rfl) (fun _ _ _ h => h) (Or.inr ⟨by kernel_rfl, rfl⟩) hH ?_
      simp only [Act.put, g1, g2, g3, g4, g5, g6]
      refine wpAnyH_take (i := 11) rfl (by kernel_rfl) (by kernel_rfl) (by kernel_rfl) (fun _ _ _ h => h) (Or.inr ⟨by kernel_rfl, rfl⟩) hH ?_
      simp only [Act.put, g1, g2, g3, g4, g5, g6]
      refine wpAnyH_take (i := 12) rfl (by kernel_rfl) (by kernel_rfl) (by kernel_rfl) (fun _ _ _ h => h) (Or.inr ⟨by kernel_rfl, rfl⟩) hH ?_
      simp only [Act.put, g1, g2, g3, g4, g5, g6]
      refine wpAnyH_take (i := 13) rfl (by kernel_rfl) (by kernel_rfl) (by kernel_rfl) (fun _ _ _ h => h) (Or.inr ⟨by kernel_rfl, rfl⟩) hH ?_
      simp only [Act.put, g1, g2, g3, g4, g5, g6]
      refine wpAnyH_take (i := 14) rfl (by kernel_rfl) (by kernel_rfl) (by kernel_rfl) (fun _ _ _ h => h) (Or.inr ⟨by kernel_rfl, rfl⟩) hH ?_
      simp only [Act.put, g1, g2, g3, g4, g5, g6]
      refine wpAnyH_take (i := 15) rfl (by kernel_rfl) (by kernel_rfl) (by kernel_rfl) (fun _ _ _ h => h) (Or.inr ⟨by kernel_rfl, rfl⟩) hH ?_
      simp only [Act.put, g1, g2, g3, g4, g5, g6]
      refine wpAnyH_take (i := 16) rfl (by kernel_rfl) (by kernel_rfl) (by kernel_rfl) (fun _ _ _ h => h) (Or.inr ⟨by kernel_rfl, rfl⟩) hH ?_
      simp only [Act.put, g1, g2, g3, g4, g5, g6]
      refine wpAnyH_take (i := 17) rfl (by kernel_rfl) (by kernel_rfl) (by kernel_rfl) (fun _ _ _ h => h) (Or.inr ⟨by kernel_rfl, rfl⟩) hH ?_
      simp only [Act.put, g1, g2, g3, g4, g5, g6]
      refine wpAnyH_take (i := 18) rfl (by kernel_rfl) (by kernel_rfl) (by kernel_rfl) (fun _ _ _ h => h) (Or.inr ⟨by kernel_rfl, rfl⟩) hH ?_
      simp only [Act.put, g1, g2, g3, g4, g5, g6]
      refine wpAnyH_take (i := 19) rfl (by kernel_rfl) (by kernel_rfl) (by kernel_rfl) (fun _ _ _ h => h) (Or.inr ⟨by kernel_rfl, rfl⟩) hH ?_
      simp only [Act.put, g1, g2, g3, g4, g5, g6]
      refine wpAnyH_take (i := 20) rfl (by kernel_rfl) (by kernel_rfl) (by kernel_rfl) (fun _ _ _ h => h) (Or.inr ⟨by kernel_rfl, rfl⟩) hH ?_
      simp only [Act.put, g1, g2, g3, g4, g5, g6]
      refine wpAnyH_take (i := 21) rfl (by kernel_rfl) (by kernel_rfl) (by kernel_rfl) (fun _ _ _ h => h) (Or.inr ⟨by kernel_rfl, rfl⟩) hH ?_
      simp only [Act.put, g1, g2, g3, g4, g5, g6]
      refine wpAnyH_take (i := 22) rfl (by kernel_rfl) (by kernel_rfl) (by kernel_rfl) (fun _ _ _ h => h) (Or.inr ⟨by kernel_rfl, rfl⟩) hH ?_
      simp only [Act.put, g1, g2, g3, g4, g5, g6]
      refine wpAnyH_take (i := 23) rfl (by kernel_rfl) (by kernel_rfl) (by kernel_rfl) (fun _ _ _ h => h) (Or.inr ⟨by kernel_rfl, rfl⟩) hH ?_
      simp only [Act.put, g1, g2, g3, g4, g5, g6]
      refine wpAnyH_take (i := 24) rfl (by kernel_rfl) (by kernel_rfl) (by kernel_rfl) (fun _ _ _ h => h) (Or.inr ⟨by kernel_rfl, rfl⟩) hH ?_
      simp only [Act.put, g1, g2, g3, g4, g5, g6]
      refine wpAnyH_take (i := 25) rfl (by kernel_rfl) (by kernel_rfl) (by kernel_rfl) (fun _ _ _ h => h) (Or.inr ⟨by kernel_rfl, rfl⟩) hH ?_
      simp only [Act.put, g1, g2, g3, g4, g5, g6]
      refine wpAnyH_take (i := 26) rfl (by kernel_rfl) (by kernel_rfl) (by kernel_rfl) (fun _ _ _ h => h) (Or.inr ⟨by kernel_rfl, rfl⟩) hH ?_
      simp only [Act.put, g1, g2, g3, g4, g5, g6]
      refine wpAnyH_take (i := 27) rfl (by kernel_rfl) (by kernel_rfl) (by kernel_rfl) (fun _ _ _ h => h) (Or.inr ⟨by kernel_rfl, rfl⟩) hH ?_
      simp only [Act.put, g1, g2, g3, g4, g5, g6]
      refine wpAnyH_take (i := 28) rfl (by kernel_rfl) (by kernel_rfl) (by kernel_rfl) (fun _ _ _ h => h) (Or.inr ⟨by kernel_rfl, rfl⟩) hH ?_
      simp only [Act.put, g1, g2, g3, g4, g5, g6]
      refine wpAnyH_take (i := 29) (v := ?_) rfl (by kernel_rfl) (by kernel_rfl) (by kernel_rfl) (fun _ _ _ h => h) (Or.inl ⟨by kernel_rfl, ?_⟩) hH ?_
      rotate_left
      · intro W hS
        go_simp
        first | done | with_reducible rfl
      simp only [Act.put, g1, g2, g3, g4, g5, g6]
      refine wpAnyH_take (i := 30) (v := ?_) rfl (by kernel_rfl) (by kernel_rfl) (by kernel_rfl) (fun _ _ _ h => h) (Or.inl ⟨by kernel_rfl, ?_⟩) hH ?_
      rotate_left
      · intro W hS
        go_simp
        first | done | with_reducible rfl
      simp only [Act.put, g1, g2, g3, g4, g5, g6]
      refine wpAnyH_done (by kernel_rfl) ?_ _
      go_wp2_with fail
      go_meet
      case rel => exact ⟨rfl, hH⟩
  case rest =>
  rename World => w30
  obtain ⟨rfl, hb30⟩ := hcut
  have HB30 := hid (chainP (chainP HB12.out HB22.out) hb30)
  have HB830 := hid (chainP HB9.out HB30.out)
  clear hb30
  have HBW30 := hid (chainP HB8.out HB830.out)
  have rx := R7.out _ HB830.out
  rcases HD.out.1 with ⟨hc, rfl, rfl, LU, htu, hou, hwa⟩ | ⟨hc, rfl, rfl, rfl, rfl⟩
  · rw [Bool.and_eq_true, Bool.and_eq_true, Bool.not_eq_true'] at hc
    obtain ⟨⟨hqt, hqc⟩, hgb⟩ := hc
    have hgl : g < 253402300799 := by
      have h1 := (rightT_iff.1 hqt).1.2
      have h2 : ¬ g = 253402300799 := by simpa using hgb
      omega
    have hrt : rightT (g + 1) (tT LU) = true := by rw [htu]; exact nextL_right hqt hqc hgl
    have HQ := hid (And.intro hqt (And.intro hqc hgb))
    have hrl := RulesOwn.readsR (hou.below HD.out.2)
    have HU := hid (And.intro hrl.1 (And.intro htu ((hwa.readsA).2.below HD.out.2)))
    have HFU := hid (fewR_next hrt hrl.2)
    have HRT := hid hrt
    have HA24 := hid (show (actsP (L.map (·.1)) (LC.map (·.1))).length ≤ 2000000 by
      have h1 := actsP_len (L.map (·.1)) (LC.map (·.1))
      have h2 := hostsP_len_le (L.map (·.1)) (LC.map (·.1))
      have h3 := HL12.out
      rw [List.length_map, List.length_map] at h2
      omega)
    clear hqt hqc hgb hgl hrt hrl htu hou hwa
    go_wp2_with (refine wpList_load_row rfl 56 _ rfl p7 rfl 56 _ (0, 0) _ rx Tryz.underlying56 rfl infoRefTable ?_)
    refine (refTRight_any g (.slice ax n cx) L w30 (HX.out.1.below HB830.out) HF.out.1).mono ?_
    rw [HQ.out.1]
    rintro e w31 ⟨rfl, hb31⟩
    have HB31 := hid hb31
    have y8 : w31.cell? ⟨p8, 0, none⟩ = some (.slice ay m cy) := (R8.out _ (chainP HB830.out hb31)).cell 0
    clear hb31 rx
    go_wp2_with fail
    refine (refConfigRight_any (.slice ay m cy) LC w31 (HX.out.2.below (chainP HB830.out HB31.out)) HF.out.2).mono ?_
    rw [HQ.out.2.1]
    rintro e w33 ⟨rfl, hb33⟩
    have HB3033 := hid (chainP HB31.out hb33)
    have HB33 := hid (chainP HB30.out HB3033.out)
    have HB833 := hid (chainP HB9.out HB33.out)
    have HBW33 := hid (chainP HB8.out HB833.out)
    have yt : w33.cell? ⟨w.heap.size, 0, none⟩ = some (.int .i64 g) := (RT.out _ HBW33.out).cell 0
    have hgb := HQ.out.2.2
    clear hb33 y8
    go_wp2_with fail
    clear yt hgb
    refine wp_region_held_drew (S := fun w' => Below w33.heap.size w33 w') (by kernel_rfl) ((Below.refl _ _).drew) (fun hH => ?_)
    generalize w33.drew = w34 at hH ⊢
    refine wpAnyH_take (i := 0) (v := ?_) rfl (by kernel_rfl) (by kernel_rfl) (by kernel_rfl) (fun _ _ _ h => h) (Or.inl ⟨by kernel_rfl, ?_⟩) hH ?_
    rotate_left
    · intro W hS
      have hrr := HRT.out
      go_simp
      first | done | with_reducible rfl
    simp only [Act.put, g1, g2, g3, g4, g5, g6]
    refine wpAnyH_take (i := 1) (v := ?_) rfl (by kernel_rfl) (by kernel_rfl) (by kernel_rfl) (fun _ _ _ h => h) (Or.inl ⟨by kernel_rfl, ?_⟩) hH ?_
    rotate_left
    · intro W hS
      have hrr := HRT.out
      go_simp
      first | done | with_reducible rfl
    simp only [Act.put, g1, g2, g3, g4, g5, g6]
    refine wpAnyH_take (i := 2) (v := ?_) rfl (by kernel_rfl) (by kernel_rfl) (by kernel_rfl) (fun _ _ _ h => h) (Or.inl ⟨by kernel_rfl, ?_⟩) hH ?_
    rotate_left
    · intro W hS
      have hrr := HRT.out
      go_simp
      first | done | with_reducible rfl
    simp only [Act.put, g1, g2, g3, g4, g5, g6]
    refine wpAnyH_take (i := 3) (v := .agg #[.int .i64 (g + 1), .slice au nu cu]) rfl (by kernel_rfl) (by kernel_rfl) (by kernel_rfl) (fun _ _ _ h => h) (Or.inl ⟨by kernel_rfl, ?_⟩) hH ?_
    · intro W hS
      exact load_gives rfl _ rfl (R9.out _ (chainP HB33.out hS)) Tryz.underlying52 rfl infoTable
    simp only [Act.put, g1, g2, g3, g4, g5, g6]
    refine wpAnyH_take (i := 5) (v := .agg #[.int .i64 g, .slice ax n cx]) rfl (by kernel_rfl) (by kernel_rfl) (by kernel_rfl) (fun _ _ _ h => h) (Or.inl ⟨by kernel_rfl, ?_⟩) hH ?_
    · intro W hS
      exact load_gives rfl _ rfl (R7.out _ (chainP HB833.out hS)) Tryz.underlying56 rfl infoRefTable
    simp only [Act.put, g1, g2, g3, g4, g5, g6]
    refine wpAnyH_take (i := 6) (v := .agg #[.slice ay m cy]) rfl (by kernel_rfl) (by kernel_rfl) (by kernel_rfl) (fun _ _ _ h => h) (Or.inl ⟨by kernel_rfl, ?_⟩) hH ?_
    · intro W hS
      exact load_gives rfl _ rfl (R8.out _ (chainP HB833.out hS)) Tryz.underlying33 rfl infoRefCfg
    simp only [Act.put, g1, g2, g3, g4, g5, g6]
    refine wpAnyH_ready (rs := [4]) (by kernel_rfl) (by simp) ?_
    refine AllReadyH.cons rfl (fun K hK => ?_) AllReadyH.nil
    go_simp
    refine (madeTable_any (g + 1) (.slice au nu cu) LU _ (HU.out.1.below (chainP HB33.out hH)) HFU.out.len).mono ?_
    rintro e x4 ⟨v4, rfl, hr4, hbx4⟩
    have H4 := hid hr4
    clear hr4
    refine hK.out _ _ (chainP hH hbx4) (fun hH => ?_)
    clear hK K
    try simp only [Act.put, g1, g2, g3, g4, g5, g6]
    refine wpAnyH_ready (rs := [7]) (by kernel_rfl) (by simp) ?_
    refine AllReadyH.cons rfl (fun K hK => ?_) AllReadyH.nil
    go_simp
    refine (refTNext_any g (.slice ax n cx) (.slice ay m cy) L LC _ (HX.out.1.below (chainP HB833.out hH)) HF.out.1 (HX.out.2.below (chainP HB833.out hH)) HF.out.2 HQ.out.1 HQ.out.2.1).mono ?_
    rintro e x7 ⟨v7, L7, rfl, ht7, hz7, ho7, hbx7⟩
    have H7 := hid (And.intro ht7 (readsR_own ho7 (fun y hy => by
      have hyz : (y.1, y.2.1) ∈ zT L7 := by unfold zT; exact List.mem_map.2 ⟨y, hy, rfl⟩
      rw [hz7] at hyz
      exact (HX.out.2.heads _ hyz).below (chainP (chainP HB833.out hH) hbx7))))
    have H4b := hid (H4.out.below hbx7)
    clear ht7 hz7 ho7
    refine hK.out _ _ (chainP hH hbx7) (fun hH => ?_)
    clear hK K
    try simp only [Act.put, g1, g2, g3, g4, g5, g6]
    refine wpAnyH_ready (rs := [8]) (by kernel_rfl) (by simp) ?_
    refine AllReadyH.cons rfl (fun K hK => ?_) AllReadyH.nil
    go_simp
    refine (refSameT_eq (g + 1) v4 v7 LU L7 _ H4b.out H7.out.2 (HU.out.2.1.trans H7.out.1.symm) HFU.out).mono ?_
    rintro e x8 ⟨rfl, hbx8⟩
    refine hK.out _ _ (chainP hH hbx8) (fun hH => ?_)
    clear hK K
    try simp only [Act.put, g1, g2, g3, g4, g5, g6]
    refine wpAnyH_take (i := 9) (v := ?_) rfl (by kernel_rfl) (by kernel_rfl) (by kernel_rfl) (fun _ _ _ h => h) (Or.inl ⟨by kernel_rfl, ?_⟩) hH ?_
    rotate_left
    · intro W hS
      have hrr := HRT.out
      go_simp
      first | done | with_reducible rfl
    simp only [Act.put, g1, g2, g3, g4, g5, g6]
    refine wpAnyH_take (i := 10) (v := ?_) rfl (by kernel_rfl) (by kernel_rfl) (by kernel_rfl) (fun _ _ _ h => h) (Or.inl ⟨by kernel_rfl, ?_⟩) hH ?_
    rotate_left
    · intro W hS
      have hrr := HRT.out
      go_simp
      first | done | with_reducible rfl
    simp only [Act.put, g1, g2, g3, g4, g5, g6]
    refine wpAnyH_take (i := 11) (v := ?_) rfl (by kernel_rfl) (by kernel_rfl) (by kernel_rfl) (fun _ _ _ h => h) (Or.inl ⟨by kernel_rfl, ?_⟩) hH ?_
    rotate_left
    · intro W hS
      have hrr := HRT.out
      go_simp
      first | done | with_reducible rfl
    simp only [Act.put, g1, g2, g3, g4, g5, g6]
    refine wpAnyH_take (i := 12) (v := .agg #[.int .i64 g, .slice ax n cx]) rfl (by kernel_rfl) (by kernel_rfl) (by kernel_rfl) (fun _ _ _ h => h) (Or.inl ⟨by kernel_rfl, ?_⟩) hH ?_
    · intro W hS
      exact load_gives rfl _ rfl (R7.out _ (chainP HB833.out hS)) Tryz.underlying56 rfl infoRefTable
    simp only [Act.put, g1, g2, g3, g4, g5, g6]
    refine wpAnyH_take (i := 14) (v := .agg #[.slice ay m cy]) rfl (by kernel_rfl) (by kernel_rfl) (by kernel_rfl) (fun _ _ _ h => h) (Or.inl ⟨by kernel_rfl, ?_⟩) hH ?_
    · intro W hS
      exact load_gives rfl _ rfl (R8.out _ (chainP HB833.out hS)) Tryz.underlying33 rfl infoRefCfg
    simp only [Act.put, g1, g2, g3, g4, g5, g6]
    refine wpAnyH_ready (rs := [13]) (by kernel_rfl) (by simp) ?_
    refine AllReadyH.cons rfl (fun K hK => ?_) AllReadyH.nil
    go_simp
    refine (refTConfig_any g (.slice ax n cx) L _ (HX.out.1.below (chainP HB833.out hH)) HF.out.1.len).mono ?_
    rintro e x13 ⟨v13, rfl, hr13, hbx13⟩
    have H13 := hid hr13
    clear hr13
    refine hK.out _ _ (chainP hH hbx13) (fun hH => ?_)
    clear hK K
    try simp only [Act.put, g1, g2, g3, g4, g5, g6]
    refine wpAnyH_ready (rs := [15]) (by kernel_rfl) (by simp) ?_
    refine AllReadyH.cons rfl (fun K hK => ?_) AllReadyH.nil
    go_simp
    refine (refDiff_any v13 (.slice ay m cy) (zT L) LC _ H13.out (HX.out.2.below (chainP HB833.out hH)) (few_zT HF.out.1) HF.out.2 (by rw [zT_len]; have := HL12.out; omega)).mono ?_
    rintro e x15 ⟨v15, rfl, ho15, hbx15⟩
    rw [zT_map] at ho15
    have H15 := hid (ho15.readsA).2
    clear ho15
    refine hK.out _ _ (chainP hH hbx15) (fun hH => ?_)
    clear hK K
    try simp only [Act.put, g1, g2, g3, g4, g5, g6]
    refine wpAnyH_ready (rs := [16]) (by kernel_rfl) (by simp) ?_
    refine AllReadyH.cons rfl (fun K hK => ?_) AllReadyH.nil
    go_simp
    refine (lawActions_eq va v15 (actsP (L.map (·.1)) (LC.map (·.1))) _ (HU.out.2.2.below (chainP HB33.out hH)) H15.out (by have := HA24.out; omega)).mono ?_
    rintro e x16 ⟨rfl, hbx16⟩
    refine hK.out _ _ (chainP hH hbx16) (fun hH => ?_)
    clear hK K
    try simp only [Act.put, g1, g2, g3, g4, g5, g6]
    refine wpAnyH_take (i := 17) (v := ?_) rfl (by kernel_rfl) (by kernel_rfl) (by kernel_rfl) (fun _ _ _ h => h) (Or.inl ⟨by kernel_rfl, ?_⟩) hH ?_
    rotate_left
    · intro W hS
      have hrr := HRT.out
      go_simp
      first | done | with_reducible rfl
    simp only [Act.put, g1, g2, g3, g4, g5, g6]
    refine wpAnyH_take (i := 18) (v := ?_) rfl (by kernel_rfl) (by kernel_rfl) (by kernel_rfl) (fun _ _ _ h => h) (Or.inl ⟨by kernel_rfl, ?_⟩) hH ?_
    rotate_left
    · intro W hS
      have hrr := HRT.out
      go_simp
      first | done | with_reducible rfl
    simp only [Act.put, g1, g2, g3, g4, g5, g6]
    refine wpAnyH_take (i := 19) (v := .agg #[.int .i64 (g + 1), .slice au nu cu]) rfl (by kernel_rfl) (by kernel_rfl) (by kernel_rfl) (fun _ _ _ h => h) (Or.inl ⟨by kernel_rfl, ?_⟩) hH ?_
    · intro W hS
      exact load_gives rfl _ rfl (R9.out _ (chainP HB33.out hS)) Tryz.underlying52 rfl infoTable
    simp only [Act.put, g1, g2, g3, g4, g5, g6]
    refine wpAnyH_ready (rs := [20]) (by kernel_rfl) (by simp) ?_
    refine AllReadyH.cons rfl (fun K hK => ?_) AllReadyH.nil
    go_simp
    refine (tableRight_any (g + 1) (.slice au nu cu) LU _ (HU.out.1.below (chainP HB33.out hH)) HFU.out (HM.out.1.below (chainP HBW33.out hH)) (HM.out.2.below (chainP HBW33.out hH))).mono ?_
    rintro e x20 ⟨rfl, hbx20⟩
    refine hK.out _ _ (chainP hH hbx20) (fun hH => ?_)
    clear hK K
    try simp only [Act.put, g1, g2, g3, g4, g5, g6]
    refine wpAnyH_take (i := 21) (v := ?_) rfl (by kernel_rfl) (by kernel_rfl) (by kernel_rfl) (fun _ _ _ h => h) (Or.inl ⟨by kernel_rfl, ?_⟩) hH ?_
    rotate_left
    · intro W hS
      have hrr := HRT.out
      go_simp
      first | done | with_reducible rfl
    simp only [Act.put, g1, g2, g3, g4, g5, g6]
    refine wpAnyH_take (i := 22) (v := ?_) rfl (by kernel_rfl) (by kernel_rfl) (by kernel_rfl) (fun _ _ _ h => h) (Or.inl ⟨by kernel_rfl, ?_⟩) hH ?_
    rotate_left
    · intro W hS
      have hrr := HRT.out
      go_simp
      first | done | with_reducible rfl
    simp only [Act.put, g1, g2, g3, g4, g5, g6]
    refine wpAnyH_done (by kernel_rfl) ?_ _
    go_wp2_with fail
    go_ret
    exact ⟨by first | rfl | (rw [HRT.out]; rfl), chainP HBW.out (chainP HBW33.out hH)⟩
  · obtain ⟨qt, hqt⟩ : ∃ q, rightT g (tT L) = q := ⟨_, rfl⟩
    obtain ⟨qc, hqc⟩ : ∃ q, rightC (LC.map (·.1)) = q := ⟨_, rfl⟩
    obtain ⟨gm, hgm⟩ : ∃ q, (g == 253402300799) = q := ⟨_, rfl⟩
    rw [hqt, hqc, hgm] at hc
    have HC := hid hc
    have HQ := hid (And.intro hqt (And.intro hqc hgm))
    clear hc hqt hqc hgm
    go_wp2_with (refine wpList_load_row rfl 56 _ rfl p7 rfl 56 _ (0, 0) _ rx Tryz.underlying56 rfl infoRefTable ?_)
    refine (refTRight_any g (.slice ax n cx) L w30 (HX.out.1.below HB830.out) HF.out.1).mono ?_
    rw [HQ.out.1]
    rintro e w31 ⟨rfl, hb31⟩
    have HB31 := hid hb31
    have y8 : w31.cell? ⟨p8, 0, none⟩ = some (.slice ay m cy) := (R8.out _ (chainP HB830.out hb31)).cell 0
    have u0 : w31.cell? ⟨p9, 0, none⟩ = some (.int .i64 0) := (R9.out _ (chainP HB30.out hb31)).cell 0
    have u1 : w31.cell? ⟨p9, 1, none⟩ = some (.slice au 0 cu) := (R9.out _ (chainP HB30.out hb31)).cell 1
    clear hb31 rx
    cases qt
    · go_wp2_with fail
      go_ret
      exact ⟨rfl, chainP HBW.out (chainP HBW30.out HB31.out)⟩
    clear u0 u1
    go_wp2_with fail
    refine (refConfigRight_any (.slice ay m cy) LC w31 (HX.out.2.below (chainP HB830.out HB31.out)) HF.out.2).mono ?_
    rw [HQ.out.2.1]
    rintro e w33 ⟨rfl, hb33⟩
    have HB33 := hid (chainP HB31.out hb33)
    have yt : w33.cell? ⟨w.heap.size, 0, none⟩ = some (.int .i64 g) := (RT.out _ (chainP HBW30.out HB33.out)).cell 0
    have u0 : w33.cell? ⟨p9, 0, none⟩ = some (.int .i64 0) := (R9.out _ (chainP HB30.out HB33.out)).cell 0
    have u1 : w33.cell? ⟨p9, 1, none⟩ = some (.slice au 0 cu) := (R9.out _ (chainP HB30.out HB33.out)).cell 1
    clear hb33 y8
    cases qc
    · clear yt
      go_wp2_with fail
      go_ret
      exact ⟨rfl, chainP HBW.out (chainP HBW30.out HB33.out)⟩
    cases gm
    · exact absurd HC.out (by simp)
    have hgb := HQ.out.2.2
    go_wp2_with fail
    go_ret
    exact ⟨rfl, chainP HBW.out (chainP HBW30.out HB33.out)⟩
end Go.Proofs.YtenijpcjemdhfaaGreatDoor
