/-
  The walk of FreshAges.
-/
import Derived.Test.YtejdlplgkmelkaaGreatDoorF12Law12C
import Derived.Test.YtejdlplgkmelkaaGreatDoorF12MadeSK
import Derived.Test.YtejdlplgkmelkaaGreatDoorF1213
import Derived.Test.YtejdlplgkmelkaaGreatDoorF12RefFieldM
import Derived.Deep.RegionHeld
set_option linter.unusedVariables false
set_option linter.unusedSimpArgs false

namespace Go.Proofs.YtejdlplgkmelkaaGreatDoor
open Go.RowKit Go.Pantry

set_option maxRecDepth 8000 in
set_option maxHeartbeats 4000000 in
theorem freshAges_over {Ok : World → Prop} (K : Freshs Ok) (hv : Value) (s : SiteZ) (cv : Value) (came : List Fld) (x y z : Int) (w : World) (ok : Ok w) (hh : Reads w hv (s.heads.map strV)) (hl : s.heads.length ≤ maxLen) (hcame : Reads2 w cv came ∧ came.length ≤ maxLen) (hx : InI x) (hy : InI y) (hz : InI z) :
    Calls Tryz.prog 4 #[.agg (rowZ hv s), cv, .int .i64 x, .int .i64 y, .int .i64 z] w fun e w' => e = .returned (.bool true) ∧ Below w.heap.size w w' := by
  unfold maxLen at hl
  obtain ⟨no, nc, rfl⟩ := hh.strs
  obtain ⟨n, hn⟩ : ∃ n, s.heads.length = n := ⟨_, rfl⟩
  rw [hn] at hh ⊢
  obtain ⟨W, hW⟩ : ∃ W, w.alloc (.cells (rowZ (.slice no n nc) s) 24) = W := ⟨_, rfl⟩
  have hbW : Below w.heap.size w W := by rw [← hW]; exact below_alloc _ _
  have q1 : rowIs W w.heap.size (rowZ (.slice no n nc) s) 24 := by rw [← hW]; exact rowIs_new _ _ _
  have cA := hid (anchor_any K W (K.keep _ _ ok hbW))
  have cF := hid (fun (w' : World) (h : Below w.heap.size w w') => fitS_any (.slice no n nc) s w' (hh.below h) (by omega))
  have cScame := hid (fun (w' : World) (h : Below w.heap.size w w') => smallK_any cv came w' (hcame.1.below h) (by have := hcame.2; unfold maxLen at this; omega))
  have HRcame := hid hcame.1
  have HQ := hid (And.intro q1 hbW)
  have OK := hid ok
  clear hh hl hn q1 hbW ok hcame
  go_enter Tryz.func4, Tryz.ntmps4
  go_wp2_with fail
  clear hW
  refine cA.out.mono ?_
  rintro e w1 ⟨rfl, hb1⟩
  have r1 := HQ.out.1.below hb1
  have HB1 := hid (chain2 HQ.out.2 HQ.out.2.size hb1)
  have R1 := hid r1
  clear hb1 cA HQ
  go_wp2_with (refine wpList_load_row rfl 24 _ rfl w.heap.size rfl 24 _ (0, 0) _ r1 Tryz.underlying24 rfl infoSiteK ?_)
  refine (cF.out _ HB1.out).mono ?_
  rintro e w2 ⟨f1, rfl, hf1, hb2⟩
  have HB2 := hid (chain2 HB1.out HB1.out.size hb2)
  have R2 := hid (R1.out.below hb2)
  have HF1 := hid hf1
  clear r1 hb2 hf1 R1 HB1
  cases f1 with
  | false =>
    go_wp2_with fail
    go_ret
    exact ⟨rfl, HB2.out⟩
  | true =>
  have FT := hid (HF1.out (by first | rfl | trivial))
  clear HF1
  go_wp2_with fail
  refine (cScame.out _ HB2.out).mono ?_
  rintro e w3 ⟨rfl, hb3⟩
  have HB3 := hid (chain2 HB2.out HB2.out.size hb3)
  have R3 := hid (R2.out.below hb3)
  clear hb3 R2 HB2 cScame
  cases hscame : smallK came with
  | false =>
    go_wp2_with fail
    go_ret
    exact ⟨rfl, HB3.out⟩
  | true =>
  have Scame := hid (smallK_ok hscame)
  clear hscame
  have hlim : LimS s := ⟨⟨FT.out.lo0, FT.out.lo1⟩, ⟨FT.out.hi0, FT.out.hi1⟩⟩
  have CL := hid (fun (W : World) (h : Below w.heap.size w W) => K.life no n nc s cv came y W (K.keep _ _ OK.out h) (HRcame.out.below h) Scame.out hlim hy)
  have CA := hid (fun (W : World) (h : Below w.heap.size w W) => K.age cv came x y z W (K.keep _ _ OK.out h) (HRcame.out.below h) Scame.out hx hy hz)
  have CM := hid (fun (W : World) => madeSiteK_any (.slice no n nc) s W ⟨no, n, nc, rfl⟩)
  have DL := hid (fun (W : World) (v : Value) (h : Reads2 W v came) => r12Life_any no n nc s v came y W h Scame.out)
  have DA := hid (fun (W : World) (v : Value) (h : Reads2 W v came) => r12Age_any v came x y z W h Scame.out)
  have hbd : 0 ≤ y → y ≤ 253402300799 → s.min ≤ s.max → s.min ≤ lifeF s.min s.max came y ∧ lifeF s.min s.max came y ≤ s.max := fun h0 h1 h2 => lifeF_bd came h2 (isT_of h0 h1)
  have HBD := hid hbd
  generalize lifeF s.min s.max came y = LI at CL DL HBD
  generalize ageF came x y z = AG at CA DA
  have z1 : (LI == LI) = true := by simp
  have z2 : (AG == AG) = true := by simp
  have RK := R3
  have HBK := HB3
  clear hbd hlim R3 HB3
  go_wp2_with fail
  refine (Fields_any cv came _ (HRcame.out.below HBK.out) (by have := Scame.out.len; omega)).mono ?_
  rintro e v1 ⟨u1, rfl, ho1, hb1⟩
  have HU1 := hid ho1.reads2.2
  have HV1 := hid (chain2 HBK.out HBK.out.size hb1)
  have r1 := RK.out.below hb1
  have RV1 := hid r1
  clear ho1 hb1 RK HBK
  go_wp2_with (refine wpList_load_row rfl 24 _ rfl w.heap.size rfl 24 _ (0, 0) _ r1 Tryz.underlying24 rfl infoSiteK ?_)
  refine (CL.out _ HV1.out).mono ?_
  rintro e v2 ⟨rfl, hb2⟩
  have HV2 := hid (chain2 HV1.out HV1.out.size hb2)
  have r2 := RV1.out.below hb2
  have RV2 := hid r2
  have HU2 := hid (HU1.out.below hb2)
  clear r1 hb2 RV1 HV1 HU1
  go_wp2_with (refine wpList_load_row rfl 24 _ rfl w.heap.size rfl 24 _ (0, 0) _ r2 Tryz.underlying24 rfl infoSiteK ?_)
  refine (CM.out _).mono ?_
  rintro e v3 ⟨rfl, hb3⟩
  have HV3 := hid (chain2 HV2.out HV2.out.size hb3)
  have RV3 := hid (RV2.out.below hb3)
  have HU3 := hid (HU2.out.below hb3)
  clear r2 hb3 RV2 HV2 HU2
  go_wp2_with fail
  refine (DL.out _ _ HU3.out).mono ?_
  rintro e v4 ⟨rfl, hb4⟩
  have HV4 := hid (chain2 HV3.out HV3.out.size hb4)
  have RV4 := hid (RV3.out.below hb4)
  have HU4 := hid (HU3.out.below hb4)
  clear hb4 RV3 HV3 HU3
  go_wp2_with fail
  refine (CA.out _ HV4.out).mono ?_
  rintro e v5 ⟨rfl, hb5⟩
  have HV5 := hid (chain2 HV4.out HV4.out.size hb5)
  have RV5 := hid (RV4.out.below hb5)
  have HU5 := hid (HU4.out.below hb5)
  clear hb5 RV4 HV4 HU4
  go_wp2_with fail
  refine (DA.out _ _ HU5.out).mono ?_
  rintro e v6 ⟨rfl, hb6⟩
  have HV6 := hid (chain2 HV5.out HV5.out.size hb6)
  have y2 : v6.cell? ⟨w.heap.size, 2, none⟩ = some (.int .i64 s.min) := (RV5.out.below hb6).cell 2
  have y3 : v6.cell? ⟨w.heap.size, 3, none⟩ = some (.int .i64 s.max) := (RV5.out.below hb6).cell 3
  clear hb6 RV5 HV5 HU5
  generalize s.min = lo at y2 HBD
  generalize s.max = hi at y3 HBD
  by_cases t0 : y < 0
  · have d0 : decide (y < 0) = true := decide_eq_true t0
    go_wp2_with fail
    go_ret
    exact ⟨rfl, HV6.out⟩
  have d0 : decide (y < 0) = false := decide_eq_false t0
  by_cases t1 : 253402300799 < y
  · have d1 : decide (253402300799 < y) = true := decide_eq_true t1
    go_wp2_with fail
    go_ret
    exact ⟨rfl, HV6.out⟩
  have d1 : decide (253402300799 < y) = false := decide_eq_false t1
  by_cases t2 : hi < lo
  · have d2 : decide (hi < lo) = true := decide_eq_true t2
    go_wp2_with fail
    go_ret
    exact ⟨rfl, HV6.out⟩
  have d2 : decide (hi < lo) = false := decide_eq_false t2
  have hq := HBD.out (by omega) (by omega) (by omega)
  have d3 : decide (lo ≤ LI) = true := decide_eq_true hq.1
  have d4 : decide (LI ≤ hi) = true := decide_eq_true hq.2
  clear hq
  go_wp2_with fail
  go_ret
  exact ⟨rfl, HV6.out⟩
end Go.Proofs.YtejdlplgkmelkaaGreatDoor
