/-
  The walk of FreshOlder.
-/
import Derived.Test.YtejdlplgkmelkaaGreatDoorF12Law12C
import Derived.Deep.RegionHeld
set_option linter.unusedVariables false
set_option linter.unusedSimpArgs false

namespace Go.Proofs.YtejdlplgkmelkaaGreatDoor
open Go.RowKit Go.Pantry

set_option maxRecDepth 8000 in
set_option maxHeartbeats 4000000 in
theorem freshOlder_over {Ok : World → Prop} (K : Freshs Ok) (hv : Value) (s : SiteZ) (rv : Value) (req : List Fld) (cv : Value) (came : List Fld) (x y z u : Int) (w : World) (ok : Ok w) (hh : Reads w hv (s.heads.map strV)) (hl : s.heads.length ≤ maxLen) (hreq : Reads2 w rv req ∧ req.length ≤ maxLen) (hcame : Reads2 w cv came ∧ came.length ≤ maxLen) :
    Calls Tryz.prog 6 #[.agg (rowZ hv s), rv, cv, .int .i64 x, .int .i64 y, .int .i64 z, .int .i64 u] w fun e w' => e = .returned (.bool true) ∧ Below w.heap.size w w' := by
  unfold maxLen at hl
  obtain ⟨no, nc, rfl⟩ := hh.strs
  obtain ⟨n, hn⟩ : ∃ n, s.heads.length = n := ⟨_, rfl⟩
  rw [hn] at hh ⊢
  obtain ⟨W, hW⟩ : ∃ W, w.alloc (.cells (rowZ (.slice no n nc) s) 24) = W := ⟨_, rfl⟩
  have hbW : Below w.heap.size w W := by rw [← hW]; exact below_alloc _ _
  have q1 : rowIs W w.heap.size (rowZ (.slice no n nc) s) 24 := by rw [← hW]; exact rowIs_new _ _ _
  have cA := hid (anchor_any K W (K.keep _ _ ok hbW))
  have cF := hid (fun (w' : World) (h : Below w.heap.size w w') => fitS_any (.slice no n nc) s w' (hh.below h) (by omega))
  have cScame := hid (fun (w' : World) (h : Below w.heap.size w w') => smallK_any cv came w' (hcame.1.below h) (by have := hcame.2; unfold maxLen at this; omega))
  have HRcame := hid hcame.1
  have cSreq := hid (fun (w' : World) (h : Below w.heap.size w w') => smallK_any rv req w' (hreq.1.below h) (by have := hreq.2; unfold maxLen at this; omega))
  have HRreq := hid hreq.1
  have HQ := hid (And.intro q1 hbW)
  have OK := hid ok
  clear hh hl hn q1 hbW ok hcame hreq
  go_enter Tryz.func6, Tryz.ntmps6
  go_wp2_with fail
  clear hW
  refine cA.out.mono ?_
  rintro e w1 ⟨rfl, hb1⟩
  have r1 := HQ.out.1.below hb1
  have HB1 := hid (chain2 HQ.out.2 HQ.out.2.size hb1)
  have R1 := hid r1
  clear hb1 cA HQ
  go_wp2_with (refine wpList_load_row rfl 24 _ rfl w.heap.size rfl 24 _ (0, 0) _ r1 Tryz.underlying24 rfl infoSiteK ?_)
  refine (cF.out _ HB1.out).mono ?_
  rintro e w2 ⟨f1, rfl, hf1, hb2⟩
  have HB2 := hid (chain2 HB1.out HB1.out.size hb2)
  have R2 := hid (R1.out.below hb2)
  have HF1 := hid hf1
  clear r1 hb2 hf1 R1 HB1
  cases f1 with
  | false =>
    go_wp2_with fail
    go_ret
    exact ⟨rfl, HB2.out⟩
  | true =>
  have FT := hid (HF1.out (by first | rfl | trivial))
  clear HF1
  go_wp2_with fail
  refine (cScame.out _ HB2.out).mono ?_
  rintro e w3 ⟨rfl, hb3⟩
  have HB3 := hid (chain2 HB2.out HB2.out.size hb3)
  have R3 := hid (R2.out.below hb3)
  clear hb3 R2 HB2 cScame
  cases hscame : smallK came with
  | false =>
    go_wp2_with fail
    go_ret
    exact ⟨rfl, HB3.out⟩
  | true =>
  have Scame := hid (smallK_ok hscame)
  clear hscame
  go_wp2_with fail
  refine (cSreq.out _ HB3.out).mono ?_
  rintro e w4 ⟨rfl, hb4⟩
  have HB4 := hid (chain2 HB3.out HB3.out.size hb4)
  have R4 := hid (R3.out.below hb4)
  clear hb4 R3 HB3 cSreq
  cases hsreq : smallK req with
  | false =>
    go_wp2_with fail
    go_ret
    exact ⟨rfl, HB4.out⟩
  | true =>
  have Sreq := hid (smallK_ok hsreq)
  clear hsreq
  by_cases t0 : x < 0
  · have d0 : decide (x < 0) = true := decide_eq_true t0
    go_wp2_with fail
    go_ret
    exact ⟨rfl, HB4.out⟩
  have d0 : decide (x < 0) = false := decide_eq_false t0
  by_cases t1 : 68719476736 < x
  · have d1 : decide (68719476736 < x) = true := decide_eq_true t1
    go_wp2_with fail
    go_ret
    exact ⟨rfl, HB4.out⟩
  have d1 : decide (68719476736 < x) = false := decide_eq_false t1
  by_cases t2 : y < x
  · have d2 : decide (y < x) = true := decide_eq_true t2
    go_wp2_with fail
    go_ret
    exact ⟨rfl, HB4.out⟩
  have d2 : decide (y < x) = false := decide_eq_false t2
  by_cases t3 : 68719476736 < y
  · have d3 : decide (68719476736 < y) = true := decide_eq_true t3
    go_wp2_with fail
    go_ret
    exact ⟨rfl, HB4.out⟩
  have d3 : decide (68719476736 < y) = false := decide_eq_false t3
  by_cases t4 : z < y
  · have d4 : decide (z < y) = true := decide_eq_true t4
    go_wp2_with fail
    go_ret
    exact ⟨rfl, HB4.out⟩
  have d4 : decide (z < y) = false := decide_eq_false t4
  by_cases t5 : 68719476736 < z
  · have d5 : decide (68719476736 < z) = true := decide_eq_true t5
    go_wp2_with fail
    go_ret
    exact ⟨rfl, HB4.out⟩
  have d5 : decide (68719476736 < z) = false := decide_eq_false t5
  by_cases t6 : u < 0
  · have d6 : decide (u < 0) = true := decide_eq_true t6
    go_wp2_with fail
    go_ret
    exact ⟨rfl, HB4.out⟩
  have d6 : decide (u < 0) = false := decide_eq_false t6
  by_cases t7 : 68719476736 < u
  · have d7 : decide (68719476736 < u) = true := decide_eq_true t7
    go_wp2_with fail
    go_ret
    exact ⟨rfl, HB4.out⟩
  have d7 : decide (68719476736 < u) = false := decide_eq_false t7
  have ea := ageF_more came (asked := x) (at_ := y) (now := z) (more := u) (by omega) (by omega) (by omega) (by omega) (by omega) (by omega) (by omega) (by omega)
  have en := ageF_nonneg came x y z
  have eu := useF_older s.min s.max req came (asked := x) (at_ := y) (now := z) (more := u) (by omega) (by omega) (by omega) (by omega) (by omega) (by omega) (by omega) (by omega)
  have hlim : LimS s := ⟨⟨FT.out.lo0, FT.out.lo1⟩, ⟨FT.out.hi0, FT.out.hi1⟩⟩
  have CA1 := hid (fun (W : World) (h : Below w.heap.size w W) => K.age cv came x y z W (K.keep _ _ OK.out h) (HRcame.out.below h) Scame.out ⟨by omega, by omega⟩ ⟨by omega, by omega⟩ ⟨by omega, by omega⟩)
  have CA2 := hid (fun (W : World) (h : Below w.heap.size w W) => K.age cv came x y (z + u) W (K.keep _ _ OK.out h) (HRcame.out.below h) Scame.out ⟨by omega, by omega⟩ ⟨by omega, by omega⟩ ⟨by omega, by omega⟩)
  have CU1 := hid (fun (W : World) (h : Below w.heap.size w W) => K.use no n nc s rv cv req came x y z W (K.keep _ _ OK.out h) (HRreq.out.below h) (HRcame.out.below h) Sreq.out Scame.out hlim ⟨by omega, by omega⟩ ⟨by omega, by omega⟩ ⟨by omega, by omega⟩)
  have CU2 := hid (fun (W : World) (h : Below w.heap.size w W) => K.use no n nc s rv cv req came x y (z + u) W (K.keep _ _ OK.out h) (HRreq.out.below h) (HRcame.out.below h) Sreq.out Scame.out hlim ⟨by omega, by omega⟩ ⟨by omega, by omega⟩ ⟨by omega, by omega⟩)
  have hab1 := ageF_le came x y z
  have hab2 := ageF_le came x y (z + u)
  have kw : IntKind.i64.wrap (z + u) = z + u := IntWalk.i64_in _ (by omega)
  generalize ageF came x y z = A1 at ea en CA1 hab1
  generalize ageF came x y (z + u) = A2 at ea CA2 hab2
  generalize useF s.min s.max req came x y z = U1 at eu CU1
  generalize useF s.min s.max req came x y (z + u) = U2 at eu CU2
  have kd : IntKind.i64.wrap (A2 - A1) = A2 - A1 := IntWalk.i64_in _ (by omega)
  have q1 : (A2 - A1 == u) = true := by simp [ea]
  have q2 : decide (0 ≤ A1) = true := decide_eq_true en
  have EU := hid eu
  have RK := R4
  have HBK := HB4
  clear ea en hab1 hab2 hlim t0 t1 t2 t3 t4 t5 t6 t7 eu R4 HB4
  go_wp2_with fail
  refine (CA1.out _ HBK.out).mono ?_
  rintro e v1 ⟨rfl, hb1⟩
  have HV1 := hid (chain2 HBK.out HBK.out.size hb1)
  have RV1 := hid (RK.out.below hb1)
  clear hb1 RK HBK
  go_wp2_with fail
  refine (CA2.out _ HV1.out).mono ?_
  rintro e v2 ⟨rfl, hb2⟩
  have HV2 := hid (chain2 HV1.out HV1.out.size hb2)
  have r2 := RV1.out.below hb2
  have RV2 := hid r2
  clear hb2 RV1 HV1
  go_wp2_with (refine wpList_unguard rfl ?_; refine wpList_load_row rfl 24 _ rfl w.heap.size rfl 24 _ (0, 0) _ r2 Tryz.underlying24 rfl infoSiteK ?_)
  refine (CU1.out _ HV2.out).mono ?_
  rintro e v3 ⟨rfl, hb3⟩
  have HV3 := hid (chain2 HV2.out HV2.out.size hb3)
  have r3 := RV2.out.below hb3
  clear r2 hb3 RV2 HV2
  by_cases g : U1 = 0
  · have q3 : (U1 == 0) = true := by simp [g]
    clear g
    go_wp2_with fail
    go_ret
    exact ⟨rfl, HV3.out⟩
  · have q3 : (U1 == 0) = false := by simp [g]
    have q4 : (U2 == 0) = false := by
      have h := EU.out
      rw [q3] at h
      simpa using h
    have q5 : (!(U2 == 0)) = true := by rw [q4]; rfl
    have q6 : (U2 != 0) = true := by rw [bne, q4]; rfl
    clear g
    go_wp2_with (refine wpList_unguard rfl ?_; refine wpList_load_row rfl 24 _ rfl w.heap.size rfl 24 _ (0, 0) _ r3 Tryz.underlying24 rfl infoSiteK ?_)
    refine (CU2.out _ HV3.out).mono ?_
    rintro e v4 ⟨rfl, hb4⟩
    have HV4 := hid (chain2 HV3.out HV3.out.size hb4)
    clear r3 hb4
    go_wp2_with fail
    go_ret
    exact ⟨rfl, HV4.out⟩
end Go.Proofs.YtejdlplgkmelkaaGreatDoor
