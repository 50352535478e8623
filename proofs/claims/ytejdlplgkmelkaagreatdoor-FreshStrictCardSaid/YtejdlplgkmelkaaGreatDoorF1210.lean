/-
  Several texts in one: FreshA, Ref12F, Ref12G, FreshB, FreshC.
-/
import Derived.Test.YtejdlplgkmelkaaGreatDoorF12Law12C
import Derived.Test.YtejdlplgkmelkaaGreatDoorF1208
import Derived.Test.YtejdlplgkmelkaaGreatDoorF1207
import Derived.Test.YtejdlplgkmelkaaGreatDoorF1209
import Derived.Test.YtejdlplgkmelkaaGreatDoorF12Ref12B
import Derived.Test.YtejdlplgkmelkaaGreatDoorF1213
import Derived.Deep.CutRange
import Derived.Test.YtejdlplgkmelkaaGreatDoorF12Ref11N
import Derived.Test.YtejdlplgkmelkaaGreatDoorF1214
set_option linter.unusedVariables false
set_option linter.unusedSimpArgs false
/-
  Contracts of package fresh: said, past, has, timeOf, born.
-/
namespace Go.Pantry
open Go.RowKit
theorem allF_same {a b : List UInt8} (h : lowerL a = lowerL b) (L : List Fld) : allF L a = allF L b := by
  have h1 : isF a = isF b := funext fun f => isF_same h f
  unfold allF; rw [h1]
theorem getF_same {a b : List UInt8} (h : lowerL a = lowerL b) (L : List Fld) : getF L a = getF L b := by
  unfold getF; rw [allF_same h]
theorem datedF_same {a b : List UInt8} (h : lowerL a = lowerL b) (L : List Fld) : datedF L a = datedF L b := by
  unfold datedF; rw [getF_same h]
end Go.Pantry
namespace Go.Proofs.YtejdlplgkmelkaaGreatDoor
open Go.RowKit Go.Pantry

theorem fSaid_any (n : Int) (w : World) :
    Calls Tryz.prog 32 #[.int .i64 n] w fun e w' => e = .returned (.bool (decide (0 ≤ n))) ∧ w = w' := by
  go_enter Tryz.func32, Tryz.ntmps32
  go_wp2_with fail
  go_ret
  exact ⟨rfl, rfl⟩
theorem fPast_any (a b : Int) (w : World) (ha : 0 ≤ a ∧ a ≤ 253402300799) (hb : 0 ≤ b ∧ b ≤ 253402300799) :
    Calls Tryz.prog 41 #[.int .i64 a, .int .i64 b] w fun e w' => e = .returned (.int .i64 (max 0 (b - a))) ∧ w = w' := by
  have k1 : IntKind.i64.wrap (b - a) = b - a := IntWalk.i64_in _ (by omega)
  obtain ⟨m, hm⟩ : ∃ m, max 0 (b - a) = m := ⟨_, rfl⟩
  rw [hm]
  have HM := hid hm
  have k2 : max (b - a) 0 = m := by omega
  have k3 : (if b - a < 0 then 0 else b - a) = m := by rw [← hm]; split <;> omega
  clear hm
  go_enter Tryz.func41, Tryz.ntmps41
  go_wp2_with fail
  go_ret
  exact ⟨rfl, rfl⟩
set_option maxRecDepth 8000 in
theorem fHas_any (v : Value) (l : List Fld) (n : List UInt8) (w : World) (hr : Reads2 w v l) (hs : SmallF l) (hn : n.length ≤ 100000) :
    Calls Tryz.prog 29 #[v, strV n] w fun e w' => e = .returned (.bool (!(allF l n).isEmpty)) ∧ Below w.heap.size w w' := by
  have c1 := lGet_any v l ⟨n.toArray⟩ w hr hs.okFs (by rw [szL]; omega)
  rw [dtL] at c1
  generalize getF l n = G at c1
  generalize (!(allF l n).isEmpty) = b at c1 ⊢
  have C1 := hid c1
  clear c1 hr hs hn
  go_enter Tryz.func29, Tryz.ntmps29
  go_wp2_with fail
  refine C1.out.mono ?_
  rintro e w1 ⟨rfl, hb1⟩
  go_wp2_with fail
  go_ret
  exact ⟨rfl, hb1⟩
set_option maxRecDepth 8000 in
theorem fTimeOf_any (v : Value) (l : List Fld) (n : List UInt8) (w : World) (hT : Tables w) (hr : Reads2 w v l) (hs : SmallF l) (hn : n.length ≤ 100000) :
    Calls Tryz.prog 63 #[v, strV n] w fun e w' => e = .returned (timeV (datedF l n)) ∧ Below w.heap.size w w' := by
  have c1 := lGet_any v l ⟨n.toArray⟩ w hr hs.okFs (by rw [szL]; omega)
  rw [dtL] at c1
  generalize (!(allF l n).isEmpty) = b at c1
  have hd : readDL (getF l n) = datedF l n := rfl
  generalize getF l n = G at c1 hd
  have C1 := hid c1
  have HT := hid hT
  cases hq : datedF l n with
  | none =>
    rw [hq] at hd
    have C2 := hid (fun (W : World) (h : Tables W) => Read_none ⟨G.toArray⟩ W h (by rw [dtL]; exact hd))
    clear c1 hr hs hn hd hq hT
    go_enter Tryz.func63, Tryz.ntmps63
    go_wp2_with fail
    refine C1.out.mono ?_
    rintro e w1 ⟨rfl, hb1⟩
    have hT1 := hid (HT.out.below hb1 HT.out.lt)
    have HB1 := hid hb1
    clear hb1
    go_wp2_with fail
    refine (C2.out _ hT1.out).mono ?_
    rintro e w2 ⟨rfl, hb2⟩
    have HB2 := hid (chain2 HB1.out HB1.out.size hb2)
    clear hb2
    go_wp2_with fail
    go_ret2
    exact ⟨rfl, HB2.out⟩
  | some t =>
    rw [hq] at hd
    have C2 := hid (fun (W : World) (h : Tables W) => Read_some ⟨G.toArray⟩ t W h (by rw [dtL]; exact hd))
    clear c1 hr hs hn hd hq hT
    go_enter Tryz.func63, Tryz.ntmps63
    go_wp2_with fail
    refine C1.out.mono ?_
    rintro e w1 ⟨rfl, hb1⟩
    have hT1 := hid (HT.out.below hb1 HT.out.lt)
    have HB1 := hid hb1
    clear hb1
    go_wp2_with fail
    refine (C2.out _ hT1.out).mono ?_
    rintro e w2 ⟨rfl, hb2⟩
    have HB2 := hid (chain2 HB1.out HB1.out.size hb2)
    clear hb2
    go_wp2_with fail
    go_ret2
    exact ⟨rfl, HB2.out⟩
set_option maxRecDepth 8000 in
theorem fBorn_any (v : Value) (l : List Fld) (z : Int) (w : World) (hT : Tables w) (hr : Reads2 w v l) (hs : SmallF l) :
    Calls Tryz.prog 42 #[v, .int .i64 z] w fun e w' => e = .returned (.int .i64 (dayF l z)) ∧ Below w.heap.size w w' := by
  have c1 := fTimeOf_any v l [68, 97, 116, 101] w hT hr hs (by decide)
  rw [datedF_same (show lowerL [68, 97, 116, 101] = lowerL nDate by decide)] at c1
  have hda : dayF l z = (datedF l nDate).getD z := rfl
  rw [hda]
  generalize datedF l nDate = D at c1
  have C1 := hid c1
  clear c1 hr hs hT hda
  cases D with
  | none =>
    unfold timeV at C1
    go_enter Tryz.func42, Tryz.ntmps42
    go_wp2_with fail
    refine C1.out.mono ?_
    rintro e w1 ⟨rfl, hb1⟩
    go_wp2_with fail
    go_ret
    exact ⟨rfl, hb1⟩
  | some t =>
    unfold timeV at C1
    go_enter Tryz.func42, Tryz.ntmps42
    go_wp2_with fail
    refine C1.out.mono ?_
    rintro e w1 ⟨rfl, hb1⟩
    go_wp2_with fail
    go_ret
    exact ⟨rfl, hb1⟩
end Go.Proofs.YtejdlplgkmelkaaGreatDoor
/-
  The document's answers of layer 12: Use.
-/
namespace Go.Proofs.YtejdlplgkmelkaaGreatDoor
open Go.RowKit Go.Pantry

theorem infoSiteD : (Tryz.prog.info? 32).map (·.size) = some 7 := by kernel_rfl
theorem infoCtlD : (Tryz.prog.info? 65).map (·.size) = some 10 := by kernel_rfl
set_option maxRecDepth 8000 in
set_option maxHeartbeats 4000000 in
theorem r12Use_any (no : Option Addr) (n nc : Nat) (s : SiteZ) (rv cv : Value) (req came : List Fld) (x y z : Int) (w : World) (hr : Reads2 w rv req) (hc : Reads2 w cv came) (hsr : SmallF req) (hsc : SmallF came) (hlo : 0 ≤ s.min ∧ s.min ≤ 2147483648) (hhi : 0 ≤ s.max ∧ s.max ≤ 2147483648) :
    Calls Tryz.prog 22 #[.agg (rowZ (.slice no n nc) s), rv, cv, .int .i64 x, .int .i64 y, .int .i64 z] w fun e w' => e = .returned (.int .i64 (useF s.min s.max req came x y z)) ∧ Below w.heap.size w w' := by
  obtain ⟨W, hW⟩ : ∃ W, w.alloc (.cells (rowZ (.slice no n nc) s) 32) = W := ⟨_, rfl⟩
  have hbW : Below w.heap.size w W := by rw [← hW]; exact below_alloc _ _
  have q1 : rowIs W w.heap.size (rowZ (.slice no n nc) s) 32 := by rw [← hW]; exact rowIs_new _ _ _
  have HQ := hid (And.intro q1 hbW)
  have c1 := refOfS_any rv req W (hr.below hbW) hsr
  rw [ctlV_row] at c1
  have C1 := hid c1
  have hu : useF s.min s.max req came x y z = if isT x && (isT y && isT z) && mayF (ctlF req) (ctlF came) (ageF came x y z) (lifeF s.min s.max came y) then 0 else if (ctlF req).only then 2 else 1 := rfl
  have HU := hid hu
  have hlb := lifeF_le came y hlo.1 hhi.1 hhi.2 hlo.2
  have hab := ageF_le came x y z
  have C2 := hid (fun (W' : World) (h : Below w.heap.size w W') => refOfS_any cv came W' (hc.below h) hsc)
  have C3 := hid (fun (W' : World) (h : Below w.heap.size w W') => r12Age_any cv came x y z W' (hc.below h) hsc)
  have C4 := hid (fun (W' : World) (h : Below w.heap.size w W') => r12Life_any no n nc s cv came y W' (hc.below h) hsc)
  have C5 := hid (fun (W' : World) => r12May_any (ctlF req) (ctlF came) (ageF came x y z) (lifeF s.min s.max came y) W' (ctlF_bd req) hab.1 hab.2 (by omega) (by omega))
  simp only [ctlV_row] at C2
  generalize ageF came x y z = AG at C3 C5 HU
  generalize lifeF s.min s.max came y = LI at C4 C5 HU
  generalize mayF (ctlF req) (ctlF came) AG LI = MY at C5 HU
  have hR : (isT x && (isT y && isT z)) = (decide (0 ≤ x) && (decide (0 ≤ y) && (decide (0 ≤ z) && (decide (x ≤ 253402300799) && (decide (y ≤ 253402300799) && decide (z ≤ 253402300799)))))) := by
    have eT : ∀ t : Int, isT t = (decide (0 ≤ t) && decide (t ≤ 253402300799)) := fun t => rfl
    rw [eT x, eT y, eT z]
    cases decide (0 ≤ x) <;> cases decide (0 ≤ y) <;> cases decide (0 ≤ z) <;> cases decide (x ≤ 253402300799) <;> cases decide (y ≤ 253402300799) <;> rfl
  generalize useF s.min s.max req came x y z = US at HU ⊢
  obtain ⟨R, hRR⟩ : ∃ R, (isT x && (isT y && isT z)) = R := ⟨_, rfl⟩
  rw [hRR] at HU hR
  have HRE := hid hR
  clear hu c1 hr hc hsr hsc hlo hhi q1 hbW hlb hab hR hRR
  go_enter Tryz.func22, Tryz.ntmps22
  go_wp2_with fail
  clear hW
  refine C1.out.mono ?_
  rintro e w1 ⟨rfl, hb1⟩
  obtain ⟨CQ, hCQ⟩ : ∃ x, ctlF req = x := ⟨_, rfl⟩
  obtain ⟨CP, hCP⟩ : ∃ x, ctlF came = x := ⟨_, rfl⟩
  rw [hCQ] at C5 HU ⊢
  rw [hCP] at C5 C2
  clear C1 hCQ hCP
  have hb2 := below_alloc w1 (.cells (rowC CQ) 65)
  have R1 := hid (HQ.out.1.below (chain2 hb1 hb1.size hb2))
  have HB2 := hid (chain2 HQ.out.2 HQ.out.2.size (chain2 hb1 hb1.size hb2))
  have R2 := hid (rowIs_new w1 (rowC CQ) 65)
  clear hb1 hb2 HQ
  go_upto_region 2 with fail
  change Code.wp _ _ _ _ (w1.alloc (.cells (rowC CQ) 65))
  obtain ⟨G, hG⟩ : ∃ G, w1.heap.size = G := ⟨_, rfl⟩
  rw [hG] at R2 ⊢
  generalize w1.alloc (.cells (rowC CQ) 65) = w2 at R1 R2 HB2 ⊢
  clear hG
  go_cut [14] from 17 to 38 (fun u W' => u = .bool R ∧ W' = w2)
  case first =>
    by_cases ha0 : 0 ≤ x
    rotate_left
    · have da0 : decide (0 ≤ x) = false := decide_eq_false ha0
      have HF := hid (show R = false by rw [HRE.out, da0]; simp)
      go_wp2_with fail
      go_meet
      case rel => exact ⟨by rw [HF.out], rfl⟩
    have da0 : decide (0 ≤ x) = true := decide_eq_true ha0
    by_cases ha1 : 0 ≤ y
    rotate_left
    · have da1 : decide (0 ≤ y) = false := decide_eq_false ha1
      have HF := hid (show R = false by rw [HRE.out, da0, da1]; simp)
      go_wp2_with fail
      go_meet
      case rel => exact ⟨by rw [HF.out], rfl⟩
    have da1 : decide (0 ≤ y) = true := decide_eq_true ha1
    by_cases ha2 : 0 ≤ z
    rotate_left
    · have da2 : decide (0 ≤ z) = false := decide_eq_false ha2
      have HF := hid (show R = false by rw [HRE.out, da0, da1, da2]; simp)
      go_wp2_with fail
      go_meet
      case rel => exact ⟨by rw [HF.out], rfl⟩
    have da2 : decide (0 ≤ z) = true := decide_eq_true ha2
    by_cases ha3 : x ≤ 253402300799
    rotate_left
    · have da3 : decide (x ≤ 253402300799) = false := decide_eq_false ha3
      have HF := hid (show R = false by rw [HRE.out, da0, da1, da2, da3]; simp)
      go_wp2_with fail
      go_meet
      case rel => exact ⟨by rw [HF.out], rfl⟩
    have da3 : decide (x ≤ 253402300799) = true := decide_eq_true ha3
    by_cases ha4 : y ≤ 253402300799
    rotate_left
    · have da4 : decide (y ≤ 253402300799) = false := decide_eq_false ha4
      have HF := hid (show R = false by rw [HRE.out, da0, da1, da2, da3, da4]; simp)
      go_wp2_with fail
      go_meet
      case rel => exact ⟨by rw [HF.out], rfl⟩
    have da4 : decide (y ≤ 253402300799) = true := decide_eq_true ha4
    by_cases ha5 : z ≤ 253402300799
    rotate_left
    · have da5 : decide (z ≤ 253402300799) = false := decide_eq_false ha5
      have HF := hid (show R = false by rw [HRE.out, da0, da1, da2, da3, da4, da5]; simp)
      go_wp2_with fail
      go_meet
      case rel => exact ⟨by rw [HF.out], rfl⟩
    have da5 : decide (z ≤ 253402300799) = true := decide_eq_true ha5
    have HF := hid (show R = true by rw [HRE.out, da0, da1, da2, da3, da4, da5]; rfl)
    go_wp2_with fail
    go_meet
    case rel => exact ⟨by rw [HF.out], rfl⟩
  case rest =>
    obtain ⟨rfl, hwc⟩ := hcut
    rw [hwc]
    clear hwc wc HRE
    cases R with
    | false =>
      have HV := hid (show US = if CQ.only then 2 else 1 by rw [HU.out]; rfl)
      have y5 : w2.cell? ⟨G, 5, none⟩ = some (.bool CQ.only) := R2.out.cell 5
      generalize CQ.only = on at HV y5
      go_wp2_with fail
      refine wp_region_U [] (by kernel_rfl) (fun _ W => Below w2.heap.size w2 W) (b := []) (by kernel_rfl) ((Below.refl _ _).drew) ?_
      refine wpAnyU_take (i := 0) (v := ?_) (by decide) rfl (by kernel_rfl) (by kernel_rfl) (by kernel_rfl) (fun _ _ _ h => h) (Steady.plain (by kernel_rfl) ?_) ?_
      rotate_left
      · intro b W hS
        skip
        go_simp
        first | done | with_reducible rfl
      simp only [Act.put, List.getElem_toArray, List.getElem_cons_succ, List.getElem_cons_zero, List.setIfInBounds_toArray, List.set_cons_zero, List.set_cons_succ]
      refine wpAnyU_take (i := 1) (v := ?_) (by decide) rfl (by kernel_rfl) (by kernel_rfl) (by kernel_rfl) (fun _ _ _ h => h) (Steady.plain (by kernel_rfl) ?_) ?_
      rotate_left
      · intro b W hS
        skip
        go_simp
        first | done | with_reducible rfl
      simp only [Act.put, List.getElem_toArray, List.getElem_cons_succ, List.getElem_cons_zero, List.setIfInBounds_toArray, List.set_cons_zero, List.set_cons_succ]
      refine wpAnyU_take (i := 2) (by decide) rfl (by kernel_rfl) (by kernel_rfl) (by kernel_rfl) (fun _ _ _ h => h) (Steady.off (by kernel_rfl)) ?_
      simp only [Act.put, List.getElem_toArray, List.getElem_cons_succ, List.getElem_cons_zero, List.setIfInBounds_toArray, List.set_cons_zero, List.set_cons_succ]
      refine wpAnyU_take (i := 3) (by decide) rfl (by kernel_rfl) (by kernel_rfl) (by kernel_rfl) (fun _ _ _ h => h) (Steady.off (by kernel_rfl)) ?_
      simp only [Act.put, List.getElem_toArray, List.getElem_cons_succ, List.getElem_cons_zero, List.setIfInBounds_toArray, List.set_cons_zero, List.set_cons_succ]
      refine wpAnyU_take (i := 4) (by decide) rfl (by kernel_rfl) (by kernel_rfl) (by kernel_rfl) (fun _ _ _ h => h) (Steady.off (by kernel_rfl)) ?_
      simp only [Act.put, List.getElem_toArray, List.getElem_cons_succ, List.getElem_cons_zero, List.setIfInBounds_toArray, List.set_cons_zero, List.set_cons_succ]
      refine wpAnyU_take (i := 5) (by decide) rfl (by kernel_rfl) (by kernel_rfl) (by kernel_rfl) (fun _ _ _ h => h) (Steady.off (by kernel_rfl)) ?_
      simp only [Act.put, List.getElem_toArray, List.getElem_cons_succ, List.getElem_cons_zero, List.setIfInBounds_toArray, List.set_cons_zero, List.set_cons_succ]
      refine wpAnyU_take (i := 6) (by decide) rfl (by kernel_rfl) (by kernel_rfl) (by kernel_rfl) (fun _ _ _ h => h) (Steady.off (by kernel_rfl)) ?_
      simp only [Act.put, List.getElem_toArray, List.getElem_cons_succ, List.getElem_cons_zero, List.setIfInBounds_toArray, List.set_cons_zero, List.set_cons_succ]
      refine wpAnyU_take (i := 7) (by decide) rfl (by kernel_rfl) (by kernel_rfl) (by kernel_rfl) (fun _ _ _ h => h) (Steady.off (by kernel_rfl)) ?_
      simp only [Act.put, List.getElem_toArray, List.getElem_cons_succ, List.getElem_cons_zero, List.setIfInBounds_toArray, List.set_cons_zero, List.set_cons_succ]
      refine wpAnyU_take (i := 8) (by decide) rfl (by kernel_rfl) (by kernel_rfl) (by kernel_rfl) (fun _ _ _ h => h) (Steady.off (by kernel_rfl)) ?_
      simp only [Act.put, List.getElem_toArray, List.getElem_cons_succ, List.getElem_cons_zero, List.setIfInBounds_toArray, List.set_cons_zero, List.set_cons_succ]
      refine wpAnyU_take (i := 9) (by decide) rfl (by kernel_rfl) (by kernel_rfl) (by kernel_rfl) (fun _ _ _ h => h) (Steady.off (by kernel_rfl)) ?_
      simp only [Act.put, List.getElem_toArray, List.getElem_cons_succ, List.getElem_cons_zero, List.setIfInBounds_toArray, List.set_cons_zero, List.set_cons_succ]
      refine wpAnyU_take (i := 10) (by decide) rfl (by kernel_rfl) (by kernel_rfl) (by kernel_rfl) (fun _ _ _ h => h) (Steady.off (by kernel_rfl)) ?_
      simp only [Act.put, List.getElem_toArray, List.getElem_cons_succ, List.getElem_cons_zero, List.setIfInBounds_toArray, List.set_cons_zero, List.set_cons_succ]
      refine wpAnyU_take (i := 11) (by decide) rfl (by kernel_rfl) (by kernel_rfl) (by kernel_rfl) (fun _ _ _ h => h) (Steady.off (by kernel_rfl)) ?_
      simp only [Act.put, List.getElem_toArray, List.getElem_cons_succ, List.getElem_cons_zero, List.setIfInBounds_toArray, List.set_cons_zero, List.set_cons_succ]
      refine wpAnyU_take (i := 12) (by decide) rfl (by kernel_rfl) (by kernel_rfl) (by kernel_rfl) (fun _ _ _ h => h) (Steady.off (by kernel_rfl)) ?_
      simp only [Act.put, List.getElem_toArray, List.getElem_cons_succ, List.getElem_cons_zero, List.setIfInBounds_toArray, List.set_cons_zero, List.set_cons_succ]
      refine wpAnyU_take (i := 13) (by decide) rfl (by kernel_rfl) (by kernel_rfl) (by kernel_rfl) (fun _ _ _ h => h) (Steady.off (by kernel_rfl)) ?_
      simp only [Act.put, List.getElem_toArray, List.getElem_cons_succ, List.getElem_cons_zero, List.setIfInBounds_toArray, List.set_cons_zero, List.set_cons_succ]
      refine wpAnyU_take (i := 14) (by decide) rfl (by kernel_rfl) (by kernel_rfl) (by kernel_rfl) (fun _ _ _ h => h) (Steady.off (by kernel_rfl)) ?_
      simp only [Act.put, List.getElem_toArray, List.getElem_cons_succ, List.getElem_cons_zero, List.setIfInBounds_toArray, List.set_cons_zero, List.set_cons_succ]
      refine wpAnyU_take (i := 15) (v := ?_) (by decide) rfl (by kernel_rfl) (by kernel_rfl) (by kernel_rfl) (fun _ _ _ h => h) (Steady.plain (by kernel_rfl) ?_) ?_
      rotate_left
      · intro b W hS
        skip
        go_simp
        first | done | with_reducible rfl
      simp only [Act.put, List.getElem_toArray, List.getElem_cons_succ, List.getElem_cons_zero, List.setIfInBounds_toArray, List.set_cons_zero, List.set_cons_succ]
      refine wpAnyU_done (b := []) (by kernel_rfl) (by kernel_rfl) ?_ _
      intro w3 hS3
      have y6 := kept y5 hS3
      have HB3 := hid (chain2 HB2.out HB2.out.size hS3)
      clear y5 hS3
      cases on with
      | false =>
        go_wp2_with fail
        go_ret
        exact ⟨ret_int (by rw [HV.out]; rfl), HB3.out⟩
      | true =>
        go_wp2_with fail
        go_ret
        exact ⟨ret_int (by rw [HV.out]; rfl), HB3.out⟩
    | true =>
      have HV := hid (show US = if MY then 0 else if CQ.only then 2 else 1 by rw [HU.out]; rfl)
      go_wp2_with fail
      refine wp_region_U [] (by kernel_rfl) (fun _ W => Below w2.heap.size w2 W) (b := []) (by kernel_rfl) ((Below.refl _ _).drew) ?_
      refine wpAnyU_take (i := 0) (v := ?_) (by decide) rfl (by kernel_rfl) (by kernel_rfl) (by kernel_rfl) (fun _ _ _ h => h) (Steady.plain (by kernel_rfl) ?_) ?_
      rotate_left
      · intro b W hS
        skip
        go_simp
        first | done | with_reducible rfl
      simp only [Act.put, List.getElem_toArray, List.getElem_cons_succ, List.getElem_cons_zero, List.setIfInBounds_toArray, List.set_cons_zero, List.set_cons_succ]
      refine wpAnyU_take (i := 1) (v := ?_) (by decide) rfl (by kernel_rfl) (by kernel_rfl) (by kernel_rfl) (fun _ _ _ h => h) (Steady.plain (by kernel_rfl) ?_) ?_
      rotate_left
      · intro b W hS
        skip
        go_simp
        first | done | with_reducible rfl
      simp only [Act.put, List.getElem_toArray, List.getElem_cons_succ, List.getElem_cons_zero, List.setIfInBounds_toArray, List.set_cons_zero, List.set_cons_succ]
      refine wpAnyU_take (i := 2) (v := .agg (rowC CQ)) (by decide) rfl (by kernel_rfl) (by kernel_rfl) (by kernel_rfl) (fun _ _ _ h => h) (Steady.plain (by kernel_rfl) ?_) ?_
      · intro b W hS
        exact load_gives (x := .tmp 13) (by kernel_rfl) G (by kernel_rfl) (R2.out.below hS) Tryz.underlying65 rfl infoCtlD
      simp only [Act.put, List.getElem_toArray, List.getElem_cons_succ, List.getElem_cons_zero, List.setIfInBounds_toArray, List.set_cons_zero, List.set_cons_succ]
      refine wpAnyU_take (i := 3) (v := ?_) (by decide) rfl (by kernel_rfl) (by kernel_rfl) (by kernel_rfl) (fun _ _ _ h => h) (Steady.plain (by kernel_rfl) ?_) ?_
      rotate_left
      · intro b W hS
        skip
        go_simp
        first | done | with_reducible rfl
      simp only [Act.put, List.getElem_toArray, List.getElem_cons_succ, List.getElem_cons_zero, List.setIfInBounds_toArray, List.set_cons_zero, List.set_cons_succ]
      refine wpAnyU_take (i := 4) (v := .agg (rowC CP)) (by decide) rfl (by kernel_rfl) (by kernel_rfl) (by kernel_rfl) (fun _ _ _ h => h) (Steady.call (f := 33) (args := #[cv]) (by kernel_rfl) (fun _ => by kernel_rfl) ?_) ?_
      · intro b W hS
        refine (C2.out W (chain2 HB2.out HB2.out.size hS)).mono ?_
        rintro e w' ⟨he, hb⟩
        exact ⟨he, chain2 hS hS.size hb⟩
      simp only [Act.put, List.getElem_toArray, List.getElem_cons_succ, List.getElem_cons_zero, List.setIfInBounds_toArray, List.set_cons_zero, List.set_cons_succ]
      refine wpAnyU_take (i := 5) (v := ?_) (by decide) rfl (by kernel_rfl) (by kernel_rfl) (by kernel_rfl) (fun _ _ _ h => h) (Steady.plain (by kernel_rfl) ?_) ?_
      rotate_left
      · intro b W hS
        skip
        go_simp
        first | done | with_reducible rfl
      simp only [Act.put, List.getElem_toArray, List.getElem_cons_succ, List.getElem_cons_zero, List.setIfInBounds_toArray, List.set_cons_zero, List.set_cons_succ]
      refine wpAnyU_take (i := 6) (v := ?_) (by decide) rfl (by kernel_rfl) (by kernel_rfl) (by kernel_rfl) (fun _ _ _ h => h) (Steady.plain (by kernel_rfl) ?_) ?_
      rotate_left
      · intro b W hS
        skip
        go_simp
        first | done | with_reducible rfl
      simp only [Act.put, List.getElem_toArray, List.getElem_cons_succ, List.getElem_cons_zero, List.setIfInBounds_toArray, List.set_cons_zero, List.set_cons_succ]
      refine wpAnyU_take (i := 7) (v := ?_) (by decide) rfl (by kernel_rfl) (by kernel_rfl) (by kernel_rfl) (fun _ _ _ h => h) (Steady.plain (by kernel_rfl) ?_) ?_
      rotate_left
      · intro b W hS
        skip
        go_simp
        first | done | with_reducible rfl
      simp only [Act.put, List.getElem_toArray, List.getElem_cons_succ, List.getElem_cons_zero, List.setIfInBounds_toArray, List.set_cons_zero, List.set_cons_succ]
      refine wpAnyU_take (i := 8) (v := ?_) (by decide) rfl (by kernel_rfl) (by kernel_rfl) (by kernel_rfl) (fun _ _ _ h => h) (Steady.plain (by kernel_rfl) ?_) ?_
      rotate_left
      · intro b W hS
        skip
        go_simp
        first | done | with_reducible rfl
      simp only [Act.put, List.getElem_toArray, List.getElem_cons_succ, List.getElem_cons_zero, List.setIfInBounds_toArray, List.set_cons_zero, List.set_cons_succ]
      refine wpAnyU_take (i := 9) (v := .int .i64 AG) (by decide) rfl (by kernel_rfl) (by kernel_rfl) (by kernel_rfl) (fun _ _ _ h => h) (Steady.call (f := 20) (args := #[cv, .int .i64 x, .int .i64 y, .int .i64 z]) (by kernel_rfl) (fun _ => by kernel_rfl) ?_) ?_
      · intro b W hS
        refine (C3.out W (chain2 HB2.out HB2.out.size hS)).mono ?_
        rintro e w' ⟨he, hb⟩
        exact ⟨he, chain2 hS hS.size hb⟩
      simp only [Act.put, List.getElem_toArray, List.getElem_cons_succ, List.getElem_cons_zero, List.setIfInBounds_toArray, List.set_cons_zero, List.set_cons_succ]
      refine wpAnyU_take (i := 10) (v := .agg (rowZ (.slice no n nc) s)) (by decide) rfl (by kernel_rfl) (by kernel_rfl) (by kernel_rfl) (fun _ _ _ h => h) (Steady.plain (by kernel_rfl) ?_) ?_
      · intro b W hS
        exact load_gives (x := .tmp 6) (by kernel_rfl) w.heap.size (by kernel_rfl) (R1.out.below hS) Tryz.underlying32 rfl infoSiteD
      simp only [Act.put, List.getElem_toArray, List.getElem_cons_succ, List.getElem_cons_zero, List.setIfInBounds_toArray, List.set_cons_zero, List.set_cons_succ]
      refine wpAnyU_take (i := 11) (v := ?_) (by decide) rfl (by kernel_rfl) (by kernel_rfl) (by kernel_rfl) (fun _ _ _ h => h) (Steady.plain (by kernel_rfl) ?_) ?_
      rotate_left
      · intro b W hS
        skip
        go_simp
        first | done | with_reducible rfl
      simp only [Act.put, List.getElem_toArray, List.getElem_cons_succ, List.getElem_cons_zero, List.setIfInBounds_toArray, List.set_cons_zero, List.set_cons_succ]
      refine wpAnyU_take (i := 12) (v := ?_) (by decide) rfl (by kernel_rfl) (by kernel_rfl) (by kernel_rfl) (fun _ _ _ h => h) (Steady.plain (by kernel_rfl) ?_) ?_
      rotate_left
      · intro b W hS
        skip
        go_simp
        first | done | with_reducible rfl
      simp only [Act.put, List.getElem_toArray, List.getElem_cons_succ, List.getElem_cons_zero, List.setIfInBounds_toArray, List.set_cons_zero, List.set_cons_succ]
      refine wpAnyU_take (i := 13) (v := .int .i64 LI) (by decide) rfl (by kernel_rfl) (by kernel_rfl) (by kernel_rfl) (fun _ _ _ h => h) (Steady.call (f := 18) (args := #[.agg (rowZ (.slice no n nc) s), cv, .int .i64 y]) (by kernel_rfl) (fun _ => by kernel_rfl) ?_) ?_
      · intro b W hS
        refine (C4.out W (chain2 HB2.out HB2.out.size hS)).mono ?_
        rintro e w' ⟨he, hb⟩
        exact ⟨he, chain2 hS hS.size hb⟩
      simp only [Act.put, List.getElem_toArray, List.getElem_cons_succ, List.getElem_cons_zero, List.setIfInBounds_toArray, List.set_cons_zero, List.set_cons_succ]
      refine wpAnyU_take (i := 14) (v := .bool MY) (by decide) rfl (by kernel_rfl) (by kernel_rfl) (by kernel_rfl) (fun _ _ _ h => h) (Steady.call (f := 46) (args := #[.agg (rowC CQ), .agg (rowC CP), .int .i64 AG, .int .i64 LI]) (by kernel_rfl) (fun _ => by kernel_rfl) ?_) ?_
      · intro b W hS
        refine (C5.out W).mono ?_
        rintro e w' ⟨he, hb⟩
        exact ⟨he, chain2 hS hS.size hb⟩
      simp only [Act.put, List.getElem_toArray, List.getElem_cons_succ, List.getElem_cons_zero, List.setIfInBounds_toArray, List.set_cons_zero, List.set_cons_succ]
      refine wpAnyU_take (i := 15) (v := ?_) (by decide) rfl (by kernel_rfl) (by kernel_rfl) (by kernel_rfl) (fun _ _ _ h => h) (Steady.plain (by kernel_rfl) ?_) ?_
      rotate_left
      · intro b W hS
        skip
        go_simp
        first | done | with_reducible rfl
      simp only [Act.put, List.getElem_toArray, List.getElem_cons_succ, List.getElem_cons_zero, List.setIfInBounds_toArray, List.set_cons_zero, List.set_cons_succ]
      refine wpAnyU_done (b := []) (by kernel_rfl) (by kernel_rfl) ?_ _
      intro w3 hS3
      have y5 : w3.cell? ⟨G, 5, none⟩ = some (.bool CQ.only) := (R2.out.below hS3).cell 5
      have HB3 := hid (chain2 HB2.out HB2.out.size hS3)
      clear hS3
      generalize CQ.only = on at HV y5
      cases MY with
      | true =>
        go_wp2_with fail
        go_ret
        exact ⟨ret_int (by rw [HV.out]; rfl), HB3.out⟩
      | false =>
        cases on with
        | false =>
          go_wp2_with fail
          go_ret
          exact ⟨ret_int (by rw [HV.out]; rfl), HB3.out⟩
        | true =>
          go_wp2_with fail
          go_ret
          exact ⟨ret_int (by rw [HV.out]; rfl), HB3.out⟩
end Go.Proofs.YtejdlplgkmelkaaGreatDoor
/-
  The document's answers of layer 12: Kept.
-/
namespace Go.Proofs.YtejdlplgkmelkaaGreatDoor
open Go.RowKit Go.Pantry

def usU (i : Nat) : Int := [200, 203, 204, 300, 301, 404, 410].getD i 0
theorem usual_no {st : Int} (h : ∀ j, j < 7 → st ≠ usU j) : usualS st = false := by
  unfold usualS
  rw [List.contains_eq_mem]
  refine decide_eq_false fun hm => ?_
  simp only [List.mem_cons, List.not_mem_nil, or_false] at hm
  rcases hm with e | e | e | e | e | e | e
  · exact h 0 (by decide) e
  · exact h 1 (by decide) e
  · exact h 2 (by decide) e
  · exact h 3 (by decide) e
  · exact h 4 (by decide) e
  · exact h 5 (by decide) e
  · exact h 6 (by decide) e
theorem usual_yes {st : Int} {j : Nat} (hj : j < 7) (h : st = usU j) : usualS st = true := by
  subst h
  have : j = 0 ∨ j = 1 ∨ j = 2 ∨ j = 3 ∨ j = 4 ∨ j = 5 ∨ j = 6 := by omega
  rcases this with rfl | rfl | rfl | rfl | rfl | rfl | rfl <;> decide
abbrev usRow : Array Value := #[.int .i64 200, .int .i64 203, .int .i64 204, .int .i64 300, .int .i64 301, .int .i64 404, .int .i64 410]
theorem us_cell (w : World) (i : Nat) (h : i < 7) {t : TypeId} : (w.alloc (.cells usRow t)).cell? ⟨w.heap.size, i, none⟩ = some (.int .i64 (usU i)) := by
  rw [World.cell?_alloc_at _ _ _ _ rfl]
  have : i = 0 ∨ i = 1 ∨ i = 2 ∨ i = 3 ∨ i = 4 ∨ i = 5 ∨ i = 6 := by omega
  rcases this with rfl | rfl | rfl | rfl | rfl | rfl | rfl <;> rfl
set_option maxRecDepth 8000 in
set_option maxHeartbeats 4000000 in
theorem r12Kept_any (no : Option Addr) (n nc : Nat) (s : SiteZ) (m : List UInt8) (av cv : Value) (asked came : List Fld) (st : Int) (w : World) (ha : Reads2 w av asked) (hc : Reads2 w cv came) (hsa : SmallF asked) (hsc : SmallF came) :
    Calls Tryz.prog 14 #[.agg (rowZ (.slice no n nc) s), strV m, av, .int .i64 st, cv] w fun e w' => e = .returned (.bool (keptF s.keep m asked st came)) ∧ Below w.heap.size w w' := by
  obtain ⟨sh, so, lo, hi, sq, keep, heads⟩ := s
  obtain ⟨W, hW⟩ : ∃ W, w.alloc (.cells (rowZ (.slice no n nc) ⟨sh, so, lo, hi, sq, keep, heads⟩) 32) = W := ⟨_, rfl⟩
  have hbW : Below w.heap.size w W := by rw [← hW]; exact below_alloc _ _
  have q1 : rowIs W w.heap.size (rowZ (.slice no n nc) ⟨sh, so, lo, hi, sq, keep, heads⟩) 32 := by rw [← hW]; exact rowIs_new _ _ _
  have HQ := hid (And.intro q1 hbW)
  have c1 := refOfS_any av asked W (ha.below hbW) hsa
  have C2 := hid (fun (W' : World) (h : Below w.heap.size w W') => refOfS_any cv came W' (hc.below h) hsc)
  have C3 := hid (fun (W' : World) (h : Below w.heap.size w W') => refGetS_any av asked nAuth W' (ha.below h) hsa (by decide))
  have C4 := hid (fun (W' : World) (h : Below w.heap.size w W') => refNames_any cv came W' (hc.below h) hsc)
  have C5 := hid (fun (W' : World) (h : Below w.heap.size w W') => refGetS_any cv came nExpires W' (hc.below h) hsc (by decide))
  have hk : keptF keep m asked st came = (keep && ((m == nGet) && (!(ctlF asked).noStore && (!(ctlF came).noStore && (!(ctlF came).priv && (((allF asked nAuth).isEmpty || ((ctlF came).pub || ((ctlF came).must || decide (0 ≤ intO (ctlF came).shared)))) && (!(starE (elementsF came varyN)) && (usualS st || (otherS st && (decide (0 ≤ intO (ctlF came).maxAge) || (decide (0 ≤ intO (ctlF came).shared) || !(allF came nExpires).isEmpty))))))))))) := rfl
  generalize keptF keep m asked st came = K at hk ⊢
  rw [ctlV_row] at c1
  simp only [ctlV_row] at C2
  unfold rowC at c1 C2
  generalize (ctlF asked).noStore = a0 at c1 hk
  generalize (ctlF asked).noCache = a1 at c1
  generalize (ctlF asked).priv = a2 at c1
  generalize (ctlF asked).pub = a3 at c1
  generalize (ctlF asked).must = a4 at c1
  generalize (ctlF asked).only = a5 at c1
  generalize intO (ctlF asked).maxAge = a6 at c1
  generalize intO (ctlF asked).shared = a7 at c1
  generalize intO (ctlF asked).minFresh = a8 at c1
  generalize intO (ctlF asked).maxStale = a9 at c1
  generalize (ctlF came).noStore = p0 at C2 hk
  generalize (ctlF came).noCache = p1 at C2
  generalize (ctlF came).priv = p2 at C2 hk
  generalize (ctlF came).pub = p3 at C2 hk
  generalize (ctlF came).must = p4 at C2 hk
  generalize (ctlF came).only = p5 at C2
  generalize intO (ctlF came).maxAge = p6 at C2 hk
  generalize intO (ctlF came).shared = p7 at C2 hk
  generalize intO (ctlF came).minFresh = p8 at C2
  generalize intO (ctlF came).maxStale = p9 at C2
  have emp : ∀ l : List (List UInt8), l.isEmpty = !decide (0 < l.length) := fun l => by cases l <;> simp
  rw [emp, emp] at hk
  generalize (allF asked nAuth).length = nA at C3 hk
  generalize getF asked nAuth = gA at C3
  generalize (allF came nExpires).length = nE at C5 hk
  generalize getF came nExpires = gE at C5
  generalize varyE (elementsF came varyN) = VV at C4
  generalize starE (elementsF came varyN) = star at C4 hk
  obtain ⟨qA, hqA⟩ : ∃ q, decide (0 < nA) = q := ⟨_, rfl⟩
  obtain ⟨qE, hqE⟩ : ∃ q, decide (0 < nE) = q := ⟨_, rfl⟩
  have hqAI : decide ((0 : Int) < (nA : Int)) = qA := by rw [← hqA]; exact decide_eq_decide.2 (by omega)
  have hqEI : decide ((0 : Int) < (nE : Int)) = qE := by rw [← hqE]; exact decide_eq_decide.2 (by omega)
  rw [hqA, hqE] at hk
  have HK := hid hk
  have C1 := hid c1
  clear hk c1 emp ha hc hsa hsc q1 hbW
  go_enter Tryz.func14, Tryz.ntmps14
  go_wp2_with fail
  clear hW
  refine C1.out.mono ?_
  rintro e w1 ⟨rfl, hb1⟩
  have hb2 := below_alloc w1 (.cells #[.bool a0, .bool a1, .bool a2, .bool a3, .bool a4, .bool a5, .int .i64 a6, .int .i64 a7, .int .i64 a8, .int .i64 a9] 65)
  have HB2 := hid (chain2 HQ.out.2 HQ.out.2.size (chain2 hb1 hb1.size hb2))
  have RS := hid (HQ.out.1.below (chain2 hb1 hb1.size hb2))
  have RQ := hid (rowIs_new w1 #[.bool a0, .bool a1, .bool a2, .bool a3, .bool a4, .bool a5, .int .i64 a6, .int .i64 a7, .int .i64 a8, .int .i64 a9] 65)
  clear hb1 hb2 HQ C1
  go_wp2_with fail
  obtain ⟨G, hG⟩ : ∃ G, w1.heap.size = G := ⟨_, rfl⟩
  rw [hG] at RQ ⊢
  generalize w1.alloc (.cells #[.bool a0, .bool a1, .bool a2, .bool a3, .bool a4, .bool a5, .int .i64 a6, .int .i64 a7, .int .i64 a8, .int .i64 a9] 65) = w2 at RS RQ HB2 ⊢
  clear hG
  refine (C2.out _ HB2.out).mono ?_
  rintro e w3 ⟨rfl, hb3⟩
  have hb4 := below_alloc w3 (.cells #[.bool p0, .bool p1, .bool p2, .bool p3, .bool p4, .bool p5, .int .i64 p6, .int .i64 p7, .int .i64 p8, .int .i64 p9] 65)
  have HB4 := hid (chain2 HB2.out HB2.out.size (chain2 hb3 hb3.size hb4))
  have RS4 := hid (RS.out.below (chain2 hb3 hb3.size hb4))
  have RQ4 := hid (RQ.out.below (chain2 hb3 hb3.size hb4))
  have RP4 := hid (rowIs_new w3 #[.bool p0, .bool p1, .bool p2, .bool p3, .bool p4, .bool p5, .int .i64 p6, .int .i64 p7, .int .i64 p8, .int .i64 p9] 65)
  clear hb3 hb4 RS RQ HB2
  go_upto_region 3 with fail
  change Code.wp _ _ _ _ (w3.alloc (.cells #[.bool p0, .bool p1, .bool p2, .bool p3, .bool p4, .bool p5, .int .i64 p6, .int .i64 p7, .int .i64 p8, .int .i64 p9] 65))
  obtain ⟨G4, hG4⟩ : ∃ G, w3.heap.size = G := ⟨_, rfl⟩
  rw [hG4] at RP4 ⊢
  generalize w3.alloc (.cells #[.bool p0, .bool p1, .bool p2, .bool p3, .bool p4, .bool p5, .int .i64 p6, .int .i64 p7, .int .i64 p8, .int .i64 p9] 65) = w4 at RS4 RQ4 RP4 HB4 ⊢
  clear hG4
  have x5 : w4.cell? ⟨w.heap.size, 5, none⟩ = some (.bool keep) := RS4.out.cell 5
  have x0 : w4.cell? ⟨G, 0, none⟩ = some (.bool a0) := RQ4.out.cell 0
  have y0 : w4.cell? ⟨G4, 0, none⟩ = some (.bool p0) := RP4.out.cell 0
  have y2 : w4.cell? ⟨G4, 2, none⟩ = some (.bool p2) := RP4.out.cell 2
  obtain ⟨bm, hbm⟩ : ∃ b, (m == nGet) = b := ⟨_, rfl⟩
  have hbm2 : (m == [71, 69, 84]) = bm := hbm
  have hbm3 : (!(m == [71, 69, 84])) = !bm := by rw [hbm2]
  have HK2 := HK.out
  rw [hbm] at HK2
  have HK := hid HK2
  clear HK2 hbm
  cases keep with
  | false =>
    go_wp2_with fail
    go_ret
    exact ⟨ret_bool (by rw [HK.out]; rfl), HB4.out⟩
  | true =>
  cases bm with
  | false =>
    go_wp2_with fail
    go_ret
    exact ⟨ret_bool (by rw [HK.out]; rfl), HB4.out⟩
  | true =>
  cases a0 with
  | true =>
    go_wp2_with fail
    go_ret
    exact ⟨ret_bool (by rw [HK.out]; rfl), HB4.out⟩
  | false =>
  cases p0 with
  | true =>
    go_wp2_with fail
    go_ret
    exact ⟨ret_bool (by rw [HK.out]; rfl), HB4.out⟩
  | false =>
  cases p2 with
  | true =>
    go_wp2_with fail
    go_ret
    exact ⟨ret_bool (by rw [HK.out]; rfl), HB4.out⟩
  | false =>
  go_wp2_with fail
  clear x5 x0 y0 y2 hbm2 hbm3
  refine (C3.out _ HB4.out).mono ?_
  rintro e w5 ⟨rfl, hb5⟩
  have HB5 := hid (chain2 HB4.out HB4.out.size hb5)
  have RP5 := hid (RP4.out.below hb5)
  have y3 : w5.cell? ⟨G4, 3, none⟩ = some (.bool p3) := RP5.out.cell 3
  have y4 : w5.cell? ⟨G4, 4, none⟩ = some (.bool p4) := RP5.out.cell 4
  have y7 : w5.cell? ⟨G4, 7, none⟩ = some (.int .i64 p7) := RP5.out.cell 7
  clear hb5 RS4 RQ4 RP4 HB4 C3
  obtain ⟨b7, hb7⟩ : ∃ b, decide (0 ≤ p7) = b := ⟨_, rfl⟩
  have hb7n : decide (p7 < 0) = !b7 := by rw [← hb7]; by_cases h : 0 ≤ p7 <;> simp [h] <;> omega
  have HK2 := HK.out
  rw [hb7] at HK2
  have HK := hid HK2
  clear HK2
  go_upto_region 6 with fail
  obtain ⟨T, hT⟩ : ∃ T, (qA && (!p3 && (!p4 && !b7))) = T := ⟨_, rfl⟩
  have HT := hid hT
  clear hT
  go_cut [65] from 49 to 64 (fun u W' => u = .bool T ∧ W' = w5)
  case first =>
    cases qA with
    | false =>
      go_wp2_with fail
      go_meet
      case rel => exact ⟨congrArg Value.bool HT.out, rfl⟩
    | true =>
      cases p3 with
      | true =>
        go_wp2_with fail
        go_meet
        case rel => exact ⟨congrArg Value.bool HT.out, rfl⟩
      | false =>
        cases p4 with
        | true =>
          go_wp2_with fail
          go_meet
          case rel => exact ⟨congrArg Value.bool HT.out, rfl⟩
        | false =>
          cases b7 with
          | true =>
            go_wp2_with fail
            go_meet
            case rel => exact ⟨congrArg Value.bool HT.out, rfl⟩
          | false =>
            go_wp2_with fail
            go_meet
            case rel => exact ⟨congrArg Value.bool HT.out, rfl⟩
  case rest =>
    obtain ⟨rfl, hwc⟩ := hcut
    rw [hwc]
    clear hwc wc y3 y4 y7 hqAI hb7n
    have hK2 : K = (!T && (!star && (usualS st || (otherS st && (decide (0 ≤ p6) || (b7 || qE)))))) := by
      rw [HK.out, ← HT.out]
      cases qA <;> cases p3 <;> cases p4 <;> cases b7 <;> cases qE <;> simp
    have HK3 := hid hK2
    clear hK2 HK HT
    cases T with
    | true =>
      go_wp2_with fail
      go_ret
      exact ⟨ret_bool (by rw [HK3.out]; rfl), HB5.out⟩
    | false =>
    go_wp2_with fail
    refine (C4.out _ HB5.out).mono ?_
    rintro e w6 ⟨v6, rfl, hr6, hb6⟩
    have HB6 := hid (chain2 HB5.out HB5.out.size hb6)
    have RP6 := hid (RP5.out.below hb6)
    clear hb6 RP5 HB5 C4 hr6
    cases star with
    | true =>
      go_wp2_with fail
      go_ret
      exact ⟨ret_bool (by rw [HK3.out]; rfl), HB6.out⟩
    | false =>
    have hb7 := below_alloc w6 (.cells usRow 70)
    have hus := fun i h => us_cell w6 i h (t := 70)
    have HB7 := hid (chain2 HB6.out HB6.out.size hb7)
    have RP7 := hid (RP6.out.below hb7)
    clear hb7 RP6 HB6
    unfold usRow at hus HB7 RP7
    go_wp2_with fail
    obtain ⟨G6, hG6⟩ : ∃ G, w6.heap.size = G := ⟨_, rfl⟩
    rw [hG6] at hus ⊢
    generalize w6.alloc (.cells #[.int .i64 200, .int .i64 203, .int .i64 204, .int .i64 300, .int .i64 301, .int .i64 404, .int .i64 410] 70) = w7 at hus HB7 RP7 ⊢
    have HUS := hid hus
    clear hus hG6
    go_loop [18] (fun z => ∃ i : Nat, i ≤ 7 ∧ z = .int .i64 (i : Int) ∧ ∀ j, j < i → st ≠ usU j) (fun z => 7 - (intOf z).toNat)
    case atStart => exact ⟨0, Nat.zero_le _, rfl, fun j hj => absurd hj (Nat.not_lt_zero _)⟩
    case round =>
      obtain ⟨i, hi, rfl, hno⟩ := hrel
      have HNO := hid hno
      clear hno
      by_cases hlt : i < 7
      · have hcell := HUS.out i hlt
        have hi0 : (0 : Int) ≤ (i : Int) := by omega
        have hi7 : (i : Int) < 7 := by omega
        have hiw : IntKind.i64.wrap ((i : Int) + 1) = (i : Int) + 1 := IntWalk.i64_in _ (by omega)
        obtain ⟨U, hU⟩ : ∃ U, usU i = U := ⟨_, rfl⟩
        rw [hU] at hcell
        have HU := hid hU
        clear hU
        by_cases he : st = U
        · have ze : (st == U) = true := by simp [he]
          have HR := hid (usual_yes hlt (he.trans HU.out.symm))
          clear he
          go_wp2_with fail
          go_ret
          exact ⟨ret_bool (by rw [HK3.out, HR.out]; rfl), HB7.out⟩
        · have ze : (st == U) = false := by simp [he]
          have HE := hid he
          clear he
          go_wp2_with fail
          go_round
          case rel =>
            refine ⟨i + 1, hlt, by go_num, fun j hj => ?_⟩
            by_cases hji : j = i
            · subst hji; rw [HU.out]; exact HE.out
            · exact HNO.out j (by omega)
          case measure => simp [intOf]; omega
      · have hi7 : i = 7 := by omega
        have hus0 := usual_no (st := st) (by rw [← hi7]; exact HNO.out)
        have hK4 : K = (otherS st && (decide (0 ≤ p6) || (b7 || qE))) := by rw [HK3.out, hus0]; rfl
        have hot : otherS st = (decide (200 ≤ st) && (decide (st ≤ 599) && (!(st == 206) && !(st == 304)))) := rfl
        rw [hot] at hK4
        have HK4 := hid hK4
        clear hK4 hot hus0 HK3 HNO HUS
        by_cases s1 : st < 200
        · have d1 : decide (st < 200) = true := decide_eq_true s1
          have HR := hid (show K = false by rw [HK4.out, decide_eq_false (show ¬ 200 ≤ st by omega)]; rfl)
          go_wp2_with fail
          go_ret
          exact ⟨ret_bool HR.out.symm, HB7.out⟩
        have d1 : decide (st < 200) = false := decide_eq_false s1
        by_cases s2 : 599 < st
        · have d2 : decide (599 < st) = true := decide_eq_true s2
          have HR := hid (show K = false by rw [HK4.out, decide_eq_false (show ¬ st ≤ 599 by omega), Bool.false_and, Bool.and_false]; rfl)
          go_wp2_with fail
          go_ret
          exact ⟨ret_bool HR.out.symm, HB7.out⟩
        have d2 : decide (599 < st) = false := decide_eq_false s2
        by_cases s3 : st = 206
        · have d3 : (st == 206) = true := by simp [s3]
          have HR := hid (show K = false by rw [HK4.out, d3]; simp)
          clear s3
          go_wp2_with fail
          go_ret
          exact ⟨ret_bool HR.out.symm, HB7.out⟩
        have d3 : (st == 206) = false := by simp [s3]
        by_cases s4 : st = 304
        · have d4 : (st == 304) = true := by simp [s4]
          have HR := hid (show K = false by rw [HK4.out, d4]; simp)
          clear s4
          go_wp2_with fail
          go_ret
          exact ⟨ret_bool HR.out.symm, HB7.out⟩
        have d4 : (st == 304) = false := by simp [s4]
        have hK5 : K = (decide (0 ≤ p6) || (b7 || qE)) := by rw [HK4.out, decide_eq_true (show 200 ≤ st by omega), decide_eq_true (show st ≤ 599 by omega), d3, d4]; rfl
        have HK5 := hid hK5
        clear hK5 HK4 s3 s4
        go_wp2_with fail
        refine (C5.out _ HB7.out).mono ?_
        rintro e w8 ⟨rfl, hb8⟩
        have HB8 := hid (chain2 HB7.out HB7.out.size hb8)
        have y6 : w8.cell? ⟨G4, 6, none⟩ = some (.int .i64 p6) := (RP7.out.below hb8).cell 6
        have y7 : w8.cell? ⟨G4, 7, none⟩ = some (.int .i64 p7) := (RP7.out.below hb8).cell 7
        clear hb8 RP7 HB7 C5 d1 d2 d3 d4
        obtain ⟨b6, hb6⟩ : ∃ b, decide (0 ≤ p6) = b := ⟨_, rfl⟩
        have hb7' := hb7
        have HK6 := hid (show K = (b6 || (b7 || qE)) by rw [HK5.out, hb6])
        clear HK5
        cases b6 with
        | true =>
          go_wp2_with fail
          go_ret
          exact ⟨ret_bool (by rw [HK6.out]; rfl), HB8.out⟩
        | false =>
          cases b7 with
          | true =>
            go_wp2_with fail
            go_ret
            exact ⟨ret_bool (by rw [HK6.out]; rfl), HB8.out⟩
          | false =>
            cases qE with
            | true =>
              go_wp2_with fail
              go_ret
              exact ⟨ret_bool (by rw [HK6.out]; rfl), HB8.out⟩
            | false =>
              go_wp2_with fail
              go_ret
              exact ⟨ret_bool (by rw [HK6.out]; rfl), HB8.out⟩
end Go.Proofs.YtejdlplgkmelkaaGreatDoor
/-
  Contracts of package fresh: times, keptStatus, forAll, pastLife.
-/
namespace Go.Pantry
open Go.RowKit
theorem isT_not {t : Int} (h : t < 0 ∨ 253402300799 < t) : isT t = false := by
  unfold isT
  rcases h with h | h
  · rw [decide_eq_false (show ¬ 0 ≤ t by omega)]; rfl
  · rw [decide_eq_false (show ¬ t ≤ 253402300799 by omega), Bool.and_false]
end Go.Pantry
namespace Go.Proofs.YtejdlplgkmelkaaGreatDoor
open Go.RowKit Go.Pantry

theorem fPastLife_any (a l s : Int) (w : World) (h0 : -4611686018427387904 ≤ l) (h1 : l ≤ 4611686018427387904) (h2 : 0 ≤ s) (h3 : s ≤ 2147483648) :
    Calls Tryz.prog 68 #[.int .i64 a, .int .i64 l, .int .i64 s] w fun e w' => e = .returned (.bool (decide (a ≤ l + s))) ∧ w = w' := by
  have k1 : IntKind.i64.wrap (l + s) = l + s := IntWalk.i64_in _ (by omega)
  go_enter Tryz.func68, Tryz.ntmps68
  go_wp2_with fail
  go_ret
  exact ⟨rfl, rfl⟩
set_option maxRecDepth 8000 in
theorem fTimes_any (v : Value) (xs : List Int) (w : World) (hr : Reads w v (xs.map (Value.int .i64))) (hn : xs.length ≤ 3) :
    Calls Tryz.prog 36 #[v] w fun e w' => e = .returned (.bool (xs.all isT)) ∧ w = w' := by
  obtain ⟨ao, cap, rfl, -⟩ := id hr
  have HR := hid hr
  rw [List.length_map] at *
  obtain ⟨n, hnn⟩ : ∃ n, xs.length = n := ⟨_, rfl⟩
  rw [hnn] at hn ⊢
  have HN := hid hnn
  obtain ⟨R, hR⟩ : ∃ R, xs.all isT = R := ⟨_, rfl⟩
  rw [hR]
  have HRR := hid hR
  clear hr hnn hR
  go_enter Tryz.func36, Tryz.ntmps36
  go_wp2_with fail
  go_loop [7] (fun i => ∃ k : Nat, k ≤ n ∧ i = .int .i64 k ∧ (xs.take k).all isT = true) (fun i => n - (intOf i).toNat)
  case atStart => exact ⟨0, Nat.zero_le _, rfl, rfl⟩
  case round =>
    obtain ⟨k, hk, rfl, hak⟩ := hrel
    have HA := hid hak
    clear hak
    by_cases hlt : k < n
    · obtain ⟨x, hx⟩ : ∃ x, xs[k]? = some x := ⟨_, List.getElem?_eq_getElem (by rw [HN.out]; exact hlt)⟩
      obtain ⟨b, off, cap', hv, hcell⟩ := HR.out.at_some (by rw [List.length_map, HN.out]; omega)
      have hc := hcell k (.int .i64 x) (by simp [hx])
      have hv2 : ao = some ⟨b, off, none⟩ := by simp only [Value.slice.injEq] at hv; exact hv.1
      subst hv2
      clear hv
      have HT : Hid (xs.take (k + 1) = xs.take k ++ [x]) := by
        obtain ⟨hk', rfl⟩ := List.getElem?_eq_some_iff.1 hx
        exact List.take_succ_eq_append_getElem hk'
      have HM := hid (List.mem_of_getElem? hx)
      clear hcell hx
      by_cases h0 : x < 0
      · have d0 : decide (x < 0) = true := decide_eq_true h0
        have hno : R = false := by
          rw [← HRR.out]
          exact List.all_eq_false.2 ⟨x, HM.out, by rw [isT_not (.inl h0)]; decide⟩
        subst hno
        go_wp2_with fail
        go_ret
        exact ⟨rfl, rfl⟩
      have d0 : decide (x < 0) = false := decide_eq_false h0
      by_cases h1 : 253402300799 < x
      · have d1 : decide (253402300799 < x) = true := decide_eq_true h1
        have hno : R = false := by
          rw [← HRR.out]
          exact List.all_eq_false.2 ⟨x, HM.out, by rw [isT_not (.inr h1)]; decide⟩
        subst hno
        go_wp2_with fail
        go_ret
        exact ⟨rfl, rfl⟩
      have d1 : decide (253402300799 < x) = false := decide_eq_false h1
      have HX := hid (isT_of (show 0 ≤ x by omega) (by omega))
      go_wp2_with fail
      go_round
      case rel => exact ⟨k + 1, hlt, by go_num, by rw [HT.out, List.all_append, HA.out]; simp [HX.out]⟩
      case measure => simp [intOf]; omega
    · have hyes : R = true := by
        have h := HA.out
        rw [List.take_of_length_le (show xs.length ≤ k by rw [HN.out]; omega)] at h
        rw [← HRR.out, h]
      subst hyes
      go_wp2_with fail
      go_ret
      exact ⟨rfl, rfl⟩
theorem fStatus_any (st : Int) (b : Bool) (w : World) :
    Calls Tryz.prog 31 #[.int .i64 st, .bool b] w fun e w' => e = .returned (.bool (usualS st || (otherS st && b))) ∧ w = w' := by
  by_cases h : usualS st = true
  · have HH := hid (show (usualS st || (otherS st && b)) = true by rw [h]; rfl)
    unfold usualS at h
    rw [List.contains_eq_mem] at h
    have h := of_decide_eq_true h
    simp only [List.mem_cons, List.not_mem_nil, or_false] at h
    rcases h with rfl | rfl | rfl | rfl | rfl | rfl | rfl
    all_goals
      go_enter Tryz.func31, Tryz.ntmps31
      go_wp2_with fail
      go_ret
      exact ⟨ret_bool HH.out.symm, rfl⟩
  · have h' : usualS st = false := by simpa using h
    have hu : ∀ j, j < 7 → st ≠ usU j := fun j hj e => by rw [usual_yes hj e] at h'; cases h'
    have e0 := hu 0 (by decide)
    have e1 := hu 1 (by decide)
    have e2 := hu 2 (by decide)
    have e3 := hu 3 (by decide)
    have e4 := hu 4 (by decide)
    have e5 := hu 5 (by decide)
    have e6 := hu 6 (by decide)
    simp only [usU, List.getD_cons_zero, List.getD_cons_succ] at e0 e1 e2 e3 e4 e5 e6
    have f0 : (st == 200) = false := by simpa using e0
    have f1 : (st == 203) = false := by simpa using e1
    have f2 : (st == 204) = false := by simpa using e2
    have f3 : (st == 300) = false := by simpa using e3
    have f4 : (st == 301) = false := by simpa using e4
    have f5 : (st == 404) = false := by simpa using e5
    have f6 : (st == 410) = false := by simpa using e6
    have hR : (usualS st || (otherS st && b)) = (otherS st && b) := by rw [h']; rfl
    rw [hR]
    have HO := hid (show otherS st = (decide (200 ≤ st) && (decide (st ≤ 599) && (!(st == 206) && !(st == 304)))) from rfl)
    generalize otherS st = O at HO ⊢
    clear hu h h' hR e0 e1 e2 e3 e4 e5 e6
    by_cases g0 : st = 206
    · subst g0
      have hO : O = false := by rw [HO.out]; decide
      subst hO
      go_enter Tryz.func31, Tryz.ntmps31
      go_wp2_with fail
      go_ret
      exact ⟨rfl, rfl⟩
    by_cases g1 : st = 304
    · subst g1
      have hO : O = false := by rw [HO.out]; decide
      subst hO
      go_enter Tryz.func31, Tryz.ntmps31
      go_wp2_with fail
      go_ret
      exact ⟨rfl, rfl⟩
    have g0' : (st == 206) = false := by simpa using g0
    have g1' : (st == 304) = false := by simpa using g1
    have HO2 := HO.out
    rw [g0', g1'] at HO2
    have HP := hid HO2
    clear HO HO2 g0 g1
    obtain ⟨u, hu⟩ : ∃ u, decide (200 ≤ st) = u := ⟨_, rfl⟩
    obtain ⟨v, hv⟩ : ∃ v, decide (st ≤ 599) = v := ⟨_, rfl⟩
    rw [hu, hv] at HP
    cases b <;> cases u <;> cases v
    all_goals
      go_enter Tryz.func31, Tryz.ntmps31
      go_wp2_with fail
      go_ret
      exact ⟨ret_bool (by rw [HP.out]; rfl), rfl⟩
end Go.Proofs.YtejdlplgkmelkaaGreatDoor
/-
  Contracts of package fresh: forAll, usable.
-/
namespace Go.Proofs.YtejdlplgkmelkaaGreatDoor
open Go.RowKit Go.Pantry

theorem infoCtlP : (Tryz.prog.info? 57).map (·.size) = some 10 := by kernel_rfl
theorem fOf_any (v : Value) (l : List Fld) (w : World) (hr : Reads2 w v l) (hs : SmallF l) :
    Calls Tryz.prog 27 #[v] w fun e w' => e = .returned (.agg (rowC (ctlF l))) ∧ Below w.heap.size w w' := ctlOf_any v l w hr hs.okFs
set_option maxRecDepth 8000 in
theorem fForAll_any (c : Ctl) (w : World) :
    Calls Tryz.prog 30 #[.agg (rowC c)] w fun e w' => e = .returned (.bool (c.pub || (c.must || decide (0 ≤ intO c.shared)))) ∧ Below w.heap.size w w' := by
  obtain ⟨a0, a1, a2, a3, a4, a5, o6, o7, o8, o9⟩ := c
  unfold rowC
  simp only
  generalize intO o6 = a6
  generalize intO o7 = a7
  generalize intO o8 = a8
  generalize intO o9 = a9
  have HB := hid (below_alloc w (.cells #[.bool a0, .bool a1, .bool a2, .bool a3, .bool a4, .bool a5, .int .i64 a6, .int .i64 a7, .int .i64 a8, .int .i64 a9] 57))
  cases a3 <;> cases a4
  all_goals
    go_enter Tryz.func30, Tryz.ntmps30
    go_wp2_with (go_at_call 32; refine (fSaid_any _ _).mono ?_; rintro e w' ⟨rfl, rfl⟩)
    go_ret
    exact ⟨rfl, HB.out⟩
set_option maxRecDepth 8000 in
set_option maxHeartbeats 4000000 in
theorem fUsable_any (q p : Ctl) (age life : Int) (w : World) (hq : CtlBd q) (h0 : 0 ≤ age) (h1 : age ≤ 1000000000000) (h2 : -4611686018427387904 ≤ life) (h3 : life ≤ 4611686018427387904) :
    Calls Tryz.prog 45 #[.agg (rowC q), .agg (rowC p), .int .i64 age, .int .i64 life] w fun e w' => e = .returned (.bool (mayF q p age life)) ∧ Below w.heap.size w w' := by
  obtain ⟨hqa, -, hqf, hqt⟩ := hq
  have hm : mayF q p age life = mayI (q.noCache || p.noCache) p.must (intO q.maxAge) (intO q.minFresh) (intO q.maxStale) (intO p.shared) age life := rfl
  rw [hm]
  clear hm
  obtain ⟨a0, a1, a2, a3, a4, a5, o6, o7, o8, o9⟩ := q
  obtain ⟨b0, b1, b2, b3, b4, b5, u6, u7, u8, u9⟩ := p
  simp only at hqa hqf hqt ⊢
  unfold rowC
  simp only
  generalize intO o6 = a6 at hqa ⊢
  generalize intO o7 = a7
  generalize intO o8 = a8 at hqf ⊢
  generalize intO o9 = a9 at hqt ⊢
  generalize intO u6 = b6
  generalize intO u7 = b7
  generalize intO u8 = b8
  generalize intO u9 = b9
  have HB := hid (show Below w.heap.size w ((w.alloc (.cells #[.bool a0, .bool a1, .bool a2, .bool a3, .bool a4, .bool a5, .int .i64 a6, .int .i64 a7, .int .i64 a8, .int .i64 a9] 57)).alloc (.cells #[.bool b0, .bool b1, .bool b2, .bool b3, .bool b4, .bool b5, .int .i64 b6, .int .i64 b7, .int .i64 b8, .int .i64 b9] 57)) from chainK (below_alloc _ _) (below_alloc _ _))
  have hM : mayI (a1 || b1) b4 a6 a8 a9 b7 age life = if (a1 || b1) = true then false else if 0 ≤ a6 ∧ a6 < age then false else if age < life ∧ (a8 < 0 ∨ age + a8 ≤ life) then true else if a9 < 0 ∨ 0 ≤ a8 ∨ b4 = true ∨ 0 ≤ b7 then false else decide (age ≤ life + a9) := rfl
  generalize mayI (a1 || b1) b4 a6 a8 a9 b7 age life = R at hM ⊢
  have k1 : IntKind.i64.wrap (age + a8) = age + a8 := IntWalk.i64_in _ (by omega)
  have CP := hid (fun (W : World) (h : 0 ≤ a9) => fPastLife_any age life a9 W h2 h3 h hqt.2)
  cases a1 with
  | true =>
    have HR := hid (show R = false by rw [hM]; rfl)
    clear hM
    go_enter Tryz.func45, Tryz.ntmps45
    go_wp2_with (go_at_call 32; refine (fSaid_any _ _).mono ?_; rintro e w' ⟨rfl, rfl⟩)
    go_ret
    exact ⟨ret_bool HR.out.symm, HB.out⟩
  | false =>
  cases b1 with
  | true =>
    have HR := hid (show R = false by rw [hM]; rfl)
    clear hM
    go_enter Tryz.func45, Tryz.ntmps45
    go_wp2_with (go_at_call 32; refine (fSaid_any _ _).mono ?_; rintro e w' ⟨rfl, rfl⟩)
    go_ret
    exact ⟨ret_bool HR.out.symm, HB.out⟩
  | false =>
  rw [if_neg (show ¬ ((false || false) = true) by decide)] at hM
  by_cases c6 : 0 ≤ a6 ∧ a6 < age
  · have d6 : decide (0 ≤ a6) = true := decide_eq_true c6.1
    have d6b : decide (a6 < age) = true := decide_eq_true c6.2
    rw [if_pos c6] at hM
    have HR := hid (show R = false by rw [hM]; )
    clear hM
    go_enter Tryz.func45, Tryz.ntmps45
    go_wp2_with (go_at_call 32; refine (fSaid_any _ _).mono ?_; rintro e w' ⟨rfl, rfl⟩)
    go_ret
    exact ⟨ret_bool HR.out.symm, HB.out⟩
  rw [if_neg c6] at hM
  have x6 : (decide (0 ≤ a6) = true ∧ decide (a6 < age) = false) ∨ decide (0 ≤ a6) = false := by
    by_cases h : 0 ≤ a6
    · exact .inl ⟨decide_eq_true h, decide_eq_false (fun g => c6 ⟨h, g⟩)⟩
    · exact .inr (decide_eq_false h)
  have X6 := hid x6
  clear x6 c6 hqa
  by_cases c8 : 0 ≤ a8
  · have d8 : decide (0 ≤ a8) = true := decide_eq_true c8
    have HR : Hid (R = (decide (age < life) && decide (age + a8 ≤ life))) := by
      show R = _
      rw [hM]
      by_cases hf : age < life
      · by_cases hg : age + a8 ≤ life
        · rw [if_pos ⟨hf, .inr hg⟩, decide_eq_true hf, decide_eq_true hg]; rfl
        · rw [if_neg (by omega), if_pos (.inr (.inl c8)), decide_eq_false hg, Bool.and_false]
      · rw [if_neg (by omega), if_pos (.inr (.inl c8)), decide_eq_false hf]; rfl
    clear hM CP
    rw [HR.out]
    obtain ⟨u, hu⟩ : ∃ u, decide (age < life) = u := ⟨_, rfl⟩
    rw [hu]
    clear c8
    rcases X6.out with ⟨y1, y2⟩ | y1
    all_goals
      cases u
      all_goals
        go_enter Tryz.func45, Tryz.ntmps45
        go_wp2_with (go_at_call 32; refine (fSaid_any _ _).mono ?_; rintro e w' ⟨rfl, rfl⟩)
        go_ret
        exact ⟨rfl, HB.out⟩
  have d8 : decide (0 ≤ a8) = false := decide_eq_false c8
  by_cases c5 : age < life
  · have d5 : decide (age < life) = true := decide_eq_true c5
    rw [if_pos ⟨c5, .inl (by omega)⟩] at hM
    have HR := hid hM
    clear hM c5 c8
    rcases X6.out with ⟨y1, y2⟩ | y1
    all_goals
      go_enter Tryz.func45, Tryz.ntmps45
      go_wp2_with (go_at_call 32; refine (fSaid_any _ _).mono ?_; rintro e w' ⟨rfl, rfl⟩)
      go_ret
      exact ⟨ret_bool HR.out.symm, HB.out⟩
  have d5 : decide (age < life) = false := decide_eq_false c5
  rw [if_neg (by omega)] at hM
  have HR : Hid (R = (decide (0 ≤ a9) && (!b4 && (!decide (0 ≤ b7) && decide (age ≤ life + a9))))) := by
    show R = _
    rw [hM]
    by_cases h9 : 0 ≤ a9
    · by_cases h7 : 0 ≤ b7
      · rw [if_pos (by omega), decide_eq_true h7]; simp
      · cases b4
        · rw [if_neg (by simp; omega), decide_eq_true h9, decide_eq_false h7]; rfl
        · rw [if_pos (by simp)]; simp
    · rw [if_pos (by omega), decide_eq_false h9]; rfl
  clear hM c5 c8
  rw [HR.out]
  obtain ⟨v, hv⟩ : ∃ v, decide (0 ≤ b7) = v := ⟨_, rfl⟩
  rw [hv]
  by_cases c9 : 0 ≤ a9
  · have CP9 := hid (fun W => CP.out W c9)
    have d9 : decide (0 ≤ a9) = true := decide_eq_true c9
    rw [d9]
    generalize decide (age ≤ life + a9) = t at CP9 ⊢
    clear c9 CP
    rcases X6.out with ⟨y1, y2⟩ | y1
    all_goals
      cases b4 <;> cases v
      all_goals
        go_enter Tryz.func45, Tryz.ntmps45
        go_wp2_with (first | (go_at_call 32; refine (fSaid_any _ _).mono ?_; rintro e w' ⟨rfl, rfl⟩) | (go_at_call 68; refine (CP9.out _).mono ?_; rintro e w' ⟨rfl, rfl⟩))
        go_ret
        exact ⟨rfl, HB.out⟩
  · have d9 : decide (0 ≤ a9) = false := decide_eq_false c9
    rw [d9]
    clear c9 CP
    rcases X6.out with ⟨y1, y2⟩ | y1
    all_goals
      go_enter Tryz.func45, Tryz.ntmps45
      go_wp2_with (go_at_call 32; refine (fSaid_any _ _).mono ?_; rintro e w' ⟨rfl, rfl⟩)
      go_ret
      exact ⟨rfl, HB.out⟩
end Go.Proofs.YtejdlplgkmelkaaGreatDoor
