/-
  Several texts in one: Ref5A, ResA.
-/
import Derived.Test.YtongceljdgmbdaaGreatDoorW7f03
import Derived.Test.YtongceljdgmbdaaGreatDoorW7f04
import Derived.Test.YtongceljdgmbdaaGreatDoorW7f12
import Derived.Test.YtongceljdgmbdaaGreatDoorW7f07
import Derived.Test.YtongceljdgmbdaaGreatDoorW7fRefFieldB
import Derived.Test.YtongceljdgmbdaaGreatDoorW7f02
import Derived.Test.YtongceljdgmbdaaGreatDoorPureAll2
/-
  The document's answers of layer 5: seen, version, Right of a request.
-/
namespace Go.Proofs.YtongceljdgmbdaaGreatDoor
open Go.RowKit Go.Pantry

theorem refVersion_any (z : Int) (w : World) (hz : 0 ≤ z) :
    Calls Tryz.prog 81 #[.int .i64 z] w fun e w' => e = .returned (strV (verL z.toNat)) ∧ w = w' := by
  by_cases h0 : z = 0
  · subst h0
    go_enter Tryz.func81, Tryz.ntmps81
    go_wp2
    go_ret
    exact ⟨rfl, rfl⟩
  · have e0 : (z == 0) = false := by simpa using h0
    have hv : verL z.toNat = v11 := by unfold verL; rw [if_neg (by omega)]
    rw [hv]
    clear h0 hv hz
    go_enter Tryz.func81, Tryz.ntmps81
    go_wp2
    go_ret
    exact ⟨rfl, rfl⟩
set_option maxHeartbeats 4000000 in
theorem refRightReq_any (m t : List UInt8) (st z : Int) (v : Value) (L : List Fld) (w : World) (hm : m.length ≤ 100000) (ht : t.length ≤ 100000) (hr : Reads2 w v L) (hk : okFs L) :
    Calls Tryz.prog 48 #[hdV m t st z v, .bool true] w fun e w' => e = .returned (.bool (rightQ m t z L)) ∧ Below w.heap.size w w' := by
  obtain ⟨ao, cap, rfl⟩ := hr.form
  have hq := rightQ_eq m t z L
  generalize rightQ m t z L = R at hq ⊢
  have cf := fun W h => refRights_any (.slice ao L.length cap) L W h (fun f hf => by have := (hk.2 f hf).1; omega) (fun f hf => by have := (hk.2 f hf).2; omega) (by have := hk.1; omega)
  have ct := fun W => refToken_any ⟨m.toArray⟩ W (by rw [szL]; unfold maxLen; omega)
  have cs := fun W => refSeen_any ⟨t.toArray⟩ W (by rw [szL]; unfold maxLen; omega)
  rw [dtL] at ct cs
  generalize rightFs L = q1 at cf hq
  generalize tokenL m = q2 at ct hq
  generalize seenL t = q3 at cs hq
  have CF := hid cf
  have CT := hid ct
  have CS := hid cs
  have HQ := hid hq
  have HR := hid hr
  clear cf ct cs hq hr hk
  obtain ⟨W, hW⟩ : ∃ W, W = w.alloc (.cells #[strV m, strV t, .int .i64 st, .int .i64 z, .slice ao L.length cap] 47) := ⟨_, rfl⟩
  have hbW : Below w.heap.size w W := by rw [hW]; exact below_alloc _ _
  have hg : rowIs W w.heap.size #[strV m, strV t, .int .i64 st, .int .i64 z, .slice ao L.length cap] 47 := by rw [hW]; exact rowIs_new _ _ _
  by_cases z0 : z < 0
  · obtain rfl : R = false := by rw [HQ.out, decide_eq_true z0]; simp
    go_enter Tryz.func48, Tryz.ntmps48
    go_wp2_with fail
    go_ret
    exact ⟨rfl, below_alloc _ _⟩
  have d0 : decide (z < 0) = false := decide_eq_false z0
  by_cases z1 : 1 < z
  · obtain rfl : R = false := by rw [HQ.out, decide_eq_true z1]; simp
    go_enter Tryz.func48, Tryz.ntmps48
    go_wp2_with fail
    go_ret
    exact ⟨rfl, below_alloc _ _⟩
  have d1 : decide (1 < z) = false := decide_eq_false z1
  have HQ2 : Hid (R = (q1 && q2 && decide (m.length ≤ 16) && q3 && decide (t.length ≤ 1024))) := by
    have h := HQ.out
    rw [d0, d1] at h
    exact hid (by simpa using h)
  clear HQ z0 z1
  cases q1
  · obtain rfl : R = false := by rw [HQ2.out]; rfl
    go_enter Tryz.func48, Tryz.ntmps48
    go_wp2_with fail
    rw [← hW]
    clear hW
    refine (CF.out _ (HR.out.below hbW)).mono ?_
    rintro e w1 ⟨rfl, hb1⟩
    go_wp2_with fail
    go_ret
    exact ⟨rfl, chain2 hbW hbW.size hb1⟩
  have HQ3 : Hid (R = (q2 && decide (m.length ≤ 16) && q3 && decide (t.length ≤ 1024))) := by
    have h := HQ2.out
    exact hid (by simpa using h)
  clear HQ2
  cases q2
  · obtain rfl : R = false := by rw [HQ3.out]; rfl
    go_enter Tryz.func48, Tryz.ntmps48
    go_wp2_with fail
    rw [← hW]
    clear hW
    refine (CF.out _ (HR.out.below hbW)).mono ?_
    rintro e w1 ⟨rfl, hb1⟩
    have g0 := (hg.below hb1).cell 0
    go_wp2_with fail
    refine (CT.out _).mono ?_
    rintro e w2 ⟨rfl, rfl⟩
    go_wp2_with fail
    go_ret
    exact ⟨rfl, chain2 hbW hbW.size hb1⟩
  by_cases m16 : (16 : Int) < (m.length : Int)
  · obtain rfl : R = false := by rw [HQ3.out, decide_eq_false (by omega)]; rfl
    have e16 : decide ((m.length : Int) ≤ 16) = false := decide_eq_false (by omega)
    go_enter Tryz.func48, Tryz.ntmps48
    go_wp2_with fail
    rw [← hW]
    clear hW
    refine (CF.out _ (HR.out.below hbW)).mono ?_
    rintro e w1 ⟨rfl, hb1⟩
    have g0 := (hg.below hb1).cell 0
    go_wp2_with fail
    refine (CT.out _).mono ?_
    rintro e w2 ⟨rfl, rfl⟩
    go_wp2_with fail
    go_ret
    exact ⟨rfl, chain2 hbW hbW.size hb1⟩
  have e16 : decide ((m.length : Int) ≤ 16) = true := decide_eq_true (by omega)
  have HQ4 : Hid (R = (q3 && decide (t.length ≤ 1024))) := by
    have h := HQ3.out
    rw [decide_eq_true (show m.length ≤ 16 by omega)] at h
    exact hid (by simpa using h)
  clear HQ3 m16
  cases q3
  · obtain rfl : R = false := by rw [HQ4.out]; rfl
    go_enter Tryz.func48, Tryz.ntmps48
    go_wp2_with fail
    rw [← hW]
    clear hW
    refine (CF.out _ (HR.out.below hbW)).mono ?_
    rintro e w1 ⟨rfl, hb1⟩
    have g0 := (hg.below hb1).cell 0
    have g1 := (hg.below hb1).cell 1
    go_wp2_with fail
    refine (CT.out _).mono ?_
    rintro e w2 ⟨rfl, rfl⟩
    go_wp2_with fail
    refine (CS.out _).mono ?_
    rintro e w2 ⟨rfl, rfl⟩
    go_wp2_with fail
    go_ret
    exact ⟨rfl, chain2 hbW hbW.size hb1⟩
  · have HQ5 : Hid (R = decide ((t.length : Int) ≤ 1024)) := by
      have h := HQ4.out
      refine hid ?_
      rw [h, Bool.eq_iff_iff]
      simp
      omega
    obtain ⟨q, hq⟩ : ∃ q, decide ((t.length : Int) ≤ 1024) = q := ⟨_, rfl⟩
    obtain rfl : R = q := by rw [HQ5.out, hq]
    clear HQ4 HQ5
    go_enter Tryz.func48, Tryz.ntmps48
    go_wp2_with fail
    rw [← hW]
    clear hW
    refine (CF.out _ (HR.out.below hbW)).mono ?_
    rintro e w1 ⟨rfl, hb1⟩
    have g0 := (hg.below hb1).cell 0
    have g1 := (hg.below hb1).cell 1
    go_wp2_with fail
    refine (CT.out _).mono ?_
    rintro e w2 ⟨rfl, rfl⟩
    go_wp2_with fail
    refine (CS.out _).mono ?_
    rintro e w2 ⟨rfl, rfl⟩
    go_wp2_with fail
    go_ret
    exact ⟨rfl, chain2 hbW hbW.size hb1⟩
end Go.Proofs.YtongceljdgmbdaaGreatDoor
/-
  Contracts of package head: of a response: Right; the document's clean and Right of a response.
-/
namespace Go.Proofs.YtongceljdgmbdaaGreatDoor
open Go.RowKit Go.Pantry

set_option maxRecDepth 100000 in
set_option maxHeartbeats 4000000 in
theorem refRightRes_any (m t : List UInt8) (st z : Int) (v : Value) (L : List Fld) (w : World) (hm : m.length ≤ 100000) (hr : Reads2 w v L) (hk : okFs L) :
    Calls Tryz.prog 48 #[hdV m t st z v, .bool false] w fun e w' => e = .returned (.bool (rightS st m z L)) ∧ Below w.heap.size w w' := by
  obtain ⟨ao, cap, rfl⟩ := hr.form
  have hq := rightS_eq st m z L
  generalize rightS st m z L = R at hq ⊢
  have cf := fun W h => refRights_any (.slice ao L.length cap) L W h (fun f hf => by have := (hk.2 f hf).1; omega) (fun f hf => by have := (hk.2 f hf).2; omega) (by have := hk.1; omega)
  have ct := fun W => refTrim_any ⟨m.toArray⟩ W (by rw [szL]; unfold maxLen; omega)
  have cc := fun W => refClean_any ⟨m.toArray⟩ W (by rw [szL]; unfold maxLen; omega)
  rw [dtL] at ct cc
  generalize rightFs L = q1 at cf hq
  generalize m.all okV = q2 at cc hq
  generalize trimL m = T at ct hq
  have CF := hid cf
  have CT := hid ct
  have CC := hid cc
  have HQ := hid hq
  have HR := hid hr
  clear cf ct cc hq hr hk
  obtain ⟨W, hW⟩ : ∃ W, W = w.alloc (.cells #[strV m, strV t, .int .i64 st, .int .i64 z, .slice ao L.length cap] 47) := ⟨_, rfl⟩
  have hbW : Below w.heap.size w W := by rw [hW]; exact below_alloc _ _
  have hg : rowIs W w.heap.size #[strV m, strV t, .int .i64 st, .int .i64 z, .slice ao L.length cap] 47 := by rw [hW]; exact rowIs_new _ _ _
  by_cases z0 : z < 0
  · obtain rfl : R = false := by rw [HQ.out, decide_eq_true z0]; simp
    go_enter Tryz.func48, Tryz.ntmps48
    go_wp2_with fail
    go_ret
    exact ⟨rfl, below_alloc _ _⟩
  have d0 : decide (z < 0) = false := decide_eq_false z0
  by_cases z1 : 1 < z
  · obtain rfl : R = false := by rw [HQ.out, decide_eq_true z1]; simp
    go_enter Tryz.func48, Tryz.ntmps48
    go_wp2_with fail
    go_ret
    exact ⟨rfl, below_alloc _ _⟩
  have d1 : decide (1 < z) = false := decide_eq_false z1
  have HQ2 : Hid (R = (q1 && decide (100 ≤ st) && decide (st ≤ 599) && decide (m.length ≤ 64) && q2 && T == m)) := by
    have h := HQ.out
    rw [d0, d1] at h
    exact hid (by simpa using h)
  clear HQ z0 z1
  cases q1
  · obtain rfl : R = false := by rw [HQ2.out]; rfl
    go_enter Tryz.func48, Tryz.ntmps48
    go_wp2_with fail
    rw [← hW]
    clear hW
    refine (CF.out _ (HR.out.below hbW)).mono ?_
    rintro e w1 ⟨rfl, hb1⟩
    go_wp2_with fail
    go_ret
    exact ⟨rfl, chain2 hbW hbW.size hb1⟩
  by_cases s1 : 100 ≤ st
  · have d2 : decide (100 ≤ st) = true := decide_eq_true s1
    by_cases s2 : st ≤ 599
    · have d3 : decide (st ≤ 599) = true := decide_eq_true s2
      by_cases s3 : (m.length : Int) ≤ 64
      · have d4 : decide ((m.length : Int) ≤ 64) = true := decide_eq_true s3
        have d5 : decide (m.length ≤ 64) = true := decide_eq_true (by omega)
        cases q2
        · obtain rfl : R = false := by rw [HQ2.out]; simp
          clear HQ2 s1 s2 s3 d5
          go_enter Tryz.func48, Tryz.ntmps48
          go_wp2_with fail
          rw [← hW]
          clear hW
          refine (CF.out _ (HR.out.below hbW)).mono ?_
          rintro e w1 ⟨rfl, hb1⟩
          have hg1 := hg.below hb1
          have hbb := chain2 hbW hbW.size hb1
          clear hg hbW hb1
          go_wp2_with fail
          refine wp_region_U [] (by kernel_rfl) (BoxS w w.heap.size w.heap.size #[strV m, strV t, .int .i64 st, .int .i64 z, .slice ao L.length cap] 47) (b := []) (by kernel_rfl) (BoxS.drew (W := w1) ⟨hbb, hbb.size, hg1⟩) ?_
          refine wpAnyU_take (i := 0) (v := ?_) (by decide) rfl (by kernel_rfl) (by kernel_rfl) (by kernel_rfl) (fun _ _ _ h => h) (Steady.plain (by kernel_rfl) ?_) ?_
          rotate_left
          · intro b W hS
            have h0 := hS.2.2.cell 0
            have h1 := hS.2.2.cell 1
            have h2 := hS.2.2.cell 2
            have h3 := hS.2.2.cell 3
            have h4 := hS.2.2.cell 4
            go_simp
            first | done | with_reducible rfl
          simp only [Act.put, List.getElem_toArray, List.getElem_cons_zero, List.setIfInBounds_toArray, List.set_cons_zero, List.set_cons_succ]
          refine wpAnyU_take (i := 1) (v := ?_) (by decide) rfl (by kernel_rfl) (by kernel_rfl) (by kernel_rfl) (fun _ _ _ h => h) (Steady.plain (by kernel_rfl) ?_) ?_
          rotate_left
          · intro b W hS
            have h0 := hS.2.2.cell 0
            have h1 := hS.2.2.cell 1
            have h2 := hS.2.2.cell 2
            have h3 := hS.2.2.cell 3
            have h4 := hS.2.2.cell 4
            go_simp
            first | done | with_reducible rfl
          simp only [Act.put, List.getElem_toArray, List.getElem_cons_succ, List.getElem_cons_zero, List.setIfInBounds_toArray, List.set_cons_zero, List.set_cons_succ]
          refine wpAnyU_take (i := 2) (v := ?_) (by decide) rfl (by kernel_rfl) (by kernel_rfl) (by kernel_rfl) (fun _ _ _ h => h) (Steady.plain (by kernel_rfl) ?_) ?_
          rotate_left
          · intro b W hS
            have h0 := hS.2.2.cell 0
            have h1 := hS.2.2.cell 1
            have h2 := hS.2.2.cell 2
            have h3 := hS.2.2.cell 3
            have h4 := hS.2.2.cell 4
            go_simp
            first | done | with_reducible rfl
          simp only [Act.put, List.getElem_toArray, List.getElem_cons_succ, List.getElem_cons_zero, List.setIfInBounds_toArray, List.set_cons_zero, List.set_cons_succ]
          refine wpAnyU_take (i := 3) (v := ?_) (by decide) rfl (by kernel_rfl) (by kernel_rfl) (by kernel_rfl) (fun _ _ _ h => h) (Steady.plain (by kernel_rfl) ?_) ?_
          rotate_left
          · intro b W hS
            have h0 := hS.2.2.cell 0
            have h1 := hS.2.2.cell 1
            have h2 := hS.2.2.cell 2
            have h3 := hS.2.2.cell 3
            have h4 := hS.2.2.cell 4
            go_simp
            first | done | with_reducible rfl
          simp only [Act.put, List.getElem_toArray, List.getElem_cons_succ, List.getElem_cons_zero, List.setIfInBounds_toArray, List.set_cons_zero, List.set_cons_succ]
          refine wpAnyU_take (i := 4) (v := ?_) (by decide) rfl (by kernel_rfl) (by kernel_rfl) (by kernel_rfl) (fun _ _ _ h => h) (Steady.plain (by kernel_rfl) ?_) ?_
          rotate_left
          · intro b W hS
            have h0 := hS.2.2.cell 0
            have h1 := hS.2.2.cell 1
            have h2 := hS.2.2.cell 2
            have h3 := hS.2.2.cell 3
            have h4 := hS.2.2.cell 4
            go_simp
            first | done | with_reducible rfl
          simp only [Act.put, List.getElem_toArray, List.getElem_cons_succ, List.getElem_cons_zero, List.setIfInBounds_toArray, List.set_cons_zero, List.set_cons_succ]
          refine wpAnyU_take (i := 5) (v := ?_) (by decide) rfl (by kernel_rfl) (by kernel_rfl) (by kernel_rfl) (fun _ _ _ h => h) (Steady.plain (by kernel_rfl) ?_) ?_
          rotate_left
          · intro b W hS
            have h0 := hS.2.2.cell 0
            have h1 := hS.2.2.cell 1
            have h2 := hS.2.2.cell 2
            have h3 := hS.2.2.cell 3
            have h4 := hS.2.2.cell 4
            go_simp
            first | done | with_reducible rfl
          simp only [Act.put, List.getElem_toArray, List.getElem_cons_succ, List.getElem_cons_zero, List.setIfInBounds_toArray, List.set_cons_zero, List.set_cons_succ]
          refine wpAnyU_take (i := 6) (v := ?_) (by decide) rfl (by kernel_rfl) (by kernel_rfl) (by kernel_rfl) (fun _ _ _ h => h) (Steady.plain (by kernel_rfl) ?_) ?_
          rotate_left
          · intro b W hS
            have h0 := hS.2.2.cell 0
            have h1 := hS.2.2.cell 1
            have h2 := hS.2.2.cell 2
            have h3 := hS.2.2.cell 3
            have h4 := hS.2.2.cell 4
            go_simp
            first | done | with_reducible rfl
          simp only [Act.put, List.getElem_toArray, List.getElem_cons_succ, List.getElem_cons_zero, List.setIfInBounds_toArray, List.set_cons_zero, List.set_cons_succ]
          refine wpAnyU_take (i := 7) (v := ?_) (by decide) rfl (by kernel_rfl) (by kernel_rfl) (by kernel_rfl) (fun _ _ _ h => h) (Steady.plain (by kernel_rfl) ?_) ?_
          rotate_left
          · intro b W hS
            have h0 := hS.2.2.cell 0
            have h1 := hS.2.2.cell 1
            have h2 := hS.2.2.cell 2
            have h3 := hS.2.2.cell 3
            have h4 := hS.2.2.cell 4
            go_simp
            first | done | with_reducible rfl
          simp only [Act.put, List.getElem_toArray, List.getElem_cons_succ, List.getElem_cons_zero, List.setIfInBounds_toArray, List.set_cons_zero, List.set_cons_succ]
          refine wpAnyU_take (i := 8) (v := ?_) (by decide) rfl (by kernel_rfl) (by kernel_rfl) (by kernel_rfl) (fun _ _ _ h => h) (Steady.plain (by kernel_rfl) ?_) ?_
          rotate_left
          · intro b W hS
            have h0 := hS.2.2.cell 0
            have h1 := hS.2.2.cell 1
            have h2 := hS.2.2.cell 2
            have h3 := hS.2.2.cell 3
            have h4 := hS.2.2.cell 4
            go_simp
            first | done | with_reducible rfl
          simp only [Act.put, List.getElem_toArray, List.getElem_cons_succ, List.getElem_cons_zero, List.setIfInBounds_toArray, List.set_cons_zero, List.set_cons_succ]
          refine wpAnyU_take (i := 9) (v := ?_) (by decide) rfl (by kernel_rfl) (by kernel_rfl) (by kernel_rfl) (fun _ _ _ h => h) (Steady.plain (by kernel_rfl) ?_) ?_
          rotate_left
          · intro b W hS
            have h0 := hS.2.2.cell 0
            have h1 := hS.2.2.cell 1
            have h2 := hS.2.2.cell 2
            have h3 := hS.2.2.cell 3
            have h4 := hS.2.2.cell 4
            go_simp
            first | done | with_reducible rfl
          simp only [Act.put, List.getElem_toArray, List.getElem_cons_succ, List.getElem_cons_zero, List.setIfInBounds_toArray, List.set_cons_zero, List.set_cons_succ]
          refine wpAnyU_take (i := 10) (v := ?_) (by decide) rfl (by kernel_rfl) (by kernel_rfl) (by kernel_rfl) (fun _ _ _ h => h) (Steady.plain (by kernel_rfl) ?_) ?_
          rotate_left
          · intro b W hS
            have h0 := hS.2.2.cell 0
            have h1 := hS.2.2.cell 1
            have h2 := hS.2.2.cell 2
            have h3 := hS.2.2.cell 3
            have h4 := hS.2.2.cell 4
            go_simp
            first | done | with_reducible rfl
          simp only [Act.put, List.getElem_toArray, List.getElem_cons_succ, List.getElem_cons_zero, List.setIfInBounds_toArray, List.set_cons_zero, List.set_cons_succ]
          refine wpAnyU_take (i := 11) (v := ?_) (by decide) rfl (by kernel_rfl) (by kernel_rfl) (by kernel_rfl) (fun _ _ _ h => h) (Steady.plain (by kernel_rfl) ?_) ?_
          rotate_left
          · intro b W hS
            have h0 := hS.2.2.cell 0
            have h1 := hS.2.2.cell 1
            have h2 := hS.2.2.cell 2
            have h3 := hS.2.2.cell 3
            have h4 := hS.2.2.cell 4
            go_simp
            first | done | with_reducible rfl
          simp only [Act.put, List.getElem_toArray, List.getElem_cons_succ, List.getElem_cons_zero, List.setIfInBounds_toArray, List.set_cons_zero, List.set_cons_succ]
          refine wpAnyU_take (i := 12) (v := ?_) (by decide) rfl (by kernel_rfl) (by kernel_rfl) (by kernel_rfl) (fun _ _ _ h => h) (Steady.plain (by kernel_rfl) ?_) ?_
          rotate_left
          · intro b W hS
            have h0 := hS.2.2.cell 0
            have h1 := hS.2.2.cell 1
            have h2 := hS.2.2.cell 2
            have h3 := hS.2.2.cell 3
            have h4 := hS.2.2.cell 4
            go_simp
            first | done | with_reducible rfl
          simp only [Act.put, List.getElem_toArray, List.getElem_cons_succ, List.getElem_cons_zero, List.setIfInBounds_toArray, List.set_cons_zero, List.set_cons_succ]
          refine wpAnyU_take (i := 13) (v := ?_) (by decide) rfl (by kernel_rfl) (by kernel_rfl) (by kernel_rfl) (fun _ _ _ h => h) (Steady.plain (by kernel_rfl) ?_) ?_
          rotate_left
          · intro b W hS
            have h0 := hS.2.2.cell 0
            have h1 := hS.2.2.cell 1
            have h2 := hS.2.2.cell 2
            have h3 := hS.2.2.cell 3
            have h4 := hS.2.2.cell 4
            go_simp
            first | done | with_reducible rfl
          simp only [Act.put, List.getElem_toArray, List.getElem_cons_succ, List.getElem_cons_zero, List.setIfInBounds_toArray, List.set_cons_zero, List.set_cons_succ]
          refine wpAnyU_take (i := 14) (v := ?_) (by decide) rfl (by kernel_rfl) (by kernel_rfl) (by kernel_rfl) (fun _ _ _ h => h) (Steady.plain (by kernel_rfl) ?_) ?_
          rotate_left
          · intro b W hS
            have h0 := hS.2.2.cell 0
            have h1 := hS.2.2.cell 1
            have h2 := hS.2.2.cell 2
            have h3 := hS.2.2.cell 3
            have h4 := hS.2.2.cell 4
            go_simp
            first | done | with_reducible rfl
          simp only [Act.put, List.getElem_toArray, List.getElem_cons_succ, List.getElem_cons_zero, List.setIfInBounds_toArray, List.set_cons_zero, List.set_cons_succ]
          refine wpAnyU_take (i := 15) (v := ?_) (by decide) rfl (by kernel_rfl) (by kernel_rfl) (by kernel_rfl) (fun _ _ _ h => h) (Steady.plain (by kernel_rfl) ?_) ?_
          rotate_left
          · intro b W hS
            have h0 := hS.2.2.cell 0
            have h1 := hS.2.2.cell 1
            have h2 := hS.2.2.cell 2
            have h3 := hS.2.2.cell 3
            have h4 := hS.2.2.cell 4
            go_simp
            first | done | with_reducible rfl
          simp only [Act.put, List.getElem_toArray, List.getElem_cons_succ, List.getElem_cons_zero, List.setIfInBounds_toArray, List.set_cons_zero, List.set_cons_succ]
          refine wpAnyU_take (i := 16) (v := ?_) (by decide) rfl (by kernel_rfl) (by kernel_rfl) (by kernel_rfl) (fun _ _ _ h => h) (Steady.plain (by kernel_rfl) ?_) ?_
          rotate_left
          · intro b W hS
            have h0 := hS.2.2.cell 0
            have h1 := hS.2.2.cell 1
            have h2 := hS.2.2.cell 2
            have h3 := hS.2.2.cell 3
            have h4 := hS.2.2.cell 4
            go_simp
            first | done | with_reducible rfl
          simp only [Act.put, List.getElem_toArray, List.getElem_cons_succ, List.getElem_cons_zero, List.setIfInBounds_toArray, List.set_cons_zero, List.set_cons_succ]
          refine wpAnyU_take (i := 17) (v := .bool false) (by decide) rfl (by kernel_rfl) (by kernel_rfl) (by kernel_rfl) (fun _ _ _ h => h) (Steady.call (f := 79) (args := #[strV m]) (by kernel_rfl) (fun _ => by kernel_rfl) ?_) ?_
          · intro b W hS
            refine (CC.out W).mono ?_
            rintro e w' ⟨he, rfl⟩
            exact ⟨he, hS⟩
          simp only [Act.put, List.getElem_toArray, List.getElem_cons_succ, List.getElem_cons_zero, List.setIfInBounds_toArray, List.set_cons_zero, List.set_cons_succ]
          refine wpAnyU_take (i := 18) (v := ?_) (by decide) rfl (by kernel_rfl) (by kernel_rfl) (by kernel_rfl) (fun _ _ _ h => h) (Steady.plain (by kernel_rfl) ?_) ?_
          rotate_left
          · intro b W hS
            have h0 := hS.2.2.cell 0
            have h1 := hS.2.2.cell 1
            have h2 := hS.2.2.cell 2
            have h3 := hS.2.2.cell 3
            have h4 := hS.2.2.cell 4
            go_simp
            first | done | with_reducible rfl
          simp only [Act.put, List.getElem_toArray, List.getElem_cons_succ, List.getElem_cons_zero, List.setIfInBounds_toArray, List.set_cons_zero, List.set_cons_succ]
          refine wpAnyU_take (i := 19) (v := ?_) (by decide) rfl (by kernel_rfl) (by kernel_rfl) (by kernel_rfl) (fun _ _ _ h => h) (Steady.plain (by kernel_rfl) ?_) ?_
          rotate_left
          · intro b W hS
            have h0 := hS.2.2.cell 0
            have h1 := hS.2.2.cell 1
            have h2 := hS.2.2.cell 2
            have h3 := hS.2.2.cell 3
            have h4 := hS.2.2.cell 4
            go_simp
            first | done | with_reducible rfl
          simp only [Act.put, List.getElem_toArray, List.getElem_cons_succ, List.getElem_cons_zero, List.setIfInBounds_toArray, List.set_cons_zero, List.set_cons_succ]
          refine wpAnyU_take (i := 20) (by decide) rfl (by kernel_rfl) (by kernel_rfl) (by kernel_rfl) (fun _ _ _ h => h) (Steady.off (by kernel_rfl)) ?_
          simp only [Act.put, List.getElem_toArray, List.getElem_cons_succ, List.getElem_cons_zero, List.setIfInBounds_toArray, List.set_cons_zero, List.set_cons_succ]
          refine wpAnyU_take (i := 21) (by decide) rfl (by kernel_rfl) (by kernel_rfl) (by kernel_rfl) (fun _ _ _ h => h) (Steady.off (by kernel_rfl)) ?_
          simp only [Act.put, List.getElem_toArray, List.getElem_cons_succ, List.getElem_cons_zero, List.setIfInBounds_toArray, List.set_cons_zero, List.set_cons_succ]
          refine wpAnyU_take (i := 22) (by decide) rfl (by kernel_rfl) (by kernel_rfl) (by kernel_rfl) (fun _ _ _ h => h) (Steady.off (by kernel_rfl)) ?_
          simp only [Act.put, List.getElem_toArray, List.getElem_cons_succ, List.getElem_cons_zero, List.setIfInBounds_toArray, List.set_cons_zero, List.set_cons_succ]
          refine wpAnyU_take (i := 23) (by decide) rfl (by kernel_rfl) (by kernel_rfl) (by kernel_rfl) (fun _ _ _ h => h) (Steady.off (by kernel_rfl)) ?_
          simp only [Act.put, List.getElem_toArray, List.getElem_cons_succ, List.getElem_cons_zero, List.setIfInBounds_toArray, List.set_cons_zero, List.set_cons_succ]
          refine wpAnyU_take (i := 24) (by decide) rfl (by kernel_rfl) (by kernel_rfl) (by kernel_rfl) (fun _ _ _ h => h) (Steady.off (by kernel_rfl)) ?_
          simp only [Act.put, List.getElem_toArray, List.getElem_cons_succ, List.getElem_cons_zero, List.setIfInBounds_toArray, List.set_cons_zero, List.set_cons_succ]
          refine wpAnyU_take (i := 25) (by decide) rfl (by kernel_rfl) (by kernel_rfl) (by kernel_rfl) (fun _ _ _ h => h) (Steady.off (by kernel_rfl)) ?_
          simp only [Act.put, List.getElem_toArray, List.getElem_cons_succ, List.getElem_cons_zero, List.setIfInBounds_toArray, List.set_cons_zero, List.set_cons_succ]
          refine wpAnyU_take (i := 26) (v := ?_) (by decide) rfl (by kernel_rfl) (by kernel_rfl) (by kernel_rfl) (fun _ _ _ h => h) (Steady.plain (by kernel_rfl) ?_) ?_
          rotate_left
          · intro b W hS
            have h0 := hS.2.2.cell 0
            have h1 := hS.2.2.cell 1
            have h2 := hS.2.2.cell 2
            have h3 := hS.2.2.cell 3
            have h4 := hS.2.2.cell 4
            go_simp
            first | done | with_reducible rfl
          simp only [Act.put, List.getElem_toArray, List.getElem_cons_succ, List.getElem_cons_zero, List.setIfInBounds_toArray, List.set_cons_zero, List.set_cons_succ]
          refine wpAnyU_take (i := 27) (v := ?_) (by decide) rfl (by kernel_rfl) (by kernel_rfl) (by kernel_rfl) (fun _ _ _ h => h) (Steady.plain (by kernel_rfl) ?_) ?_
          rotate_left
          · intro b W hS
            have h0 := hS.2.2.cell 0
            have h1 := hS.2.2.cell 1
            have h2 := hS.2.2.cell 2
            have h3 := hS.2.2.cell 3
            have h4 := hS.2.2.cell 4
            go_simp
            first | done | with_reducible rfl
          simp only [Act.put, List.getElem_toArray, List.getElem_cons_succ, List.getElem_cons_zero, List.setIfInBounds_toArray, List.set_cons_zero, List.set_cons_succ]
          refine wpAnyU_done (b := []) (by kernel_rfl) (by kernel_rfl) ?_ _
          intro w2 hS
          go_wp2_with fail
          go_ret
          exact ⟨rfl, hS.1⟩
        · obtain ⟨q, hq⟩ : ∃ q, (T == m) = q := ⟨_, rfl⟩
          obtain rfl : R = q := by rw [HQ2.out, d2, d3, d5, hq]; rfl
          clear HQ2 s1 s2 s3 d5
          go_enter Tryz.func48, Tryz.ntmps48
          go_wp2_with fail
          rw [← hW]
          clear hW
          refine (CF.out _ (HR.out.below hbW)).mono ?_
          rintro e w1 ⟨rfl, hb1⟩
          have hg1 := hg.below hb1
          have hbb := chain2 hbW hbW.size hb1
          clear hg hbW hb1
          go_wp2_with fail
          refine wp_region_U [] (by kernel_rfl) (BoxS w w.heap.size w.heap.size #[strV m, strV t, .int .i64 st, .int .i64 z, .slice ao L.length cap] 47) (b := []) (by kernel_rfl) (BoxS.drew (W := w1) ⟨hbb, hbb.size, hg1⟩) ?_
          refine wpAnyU_take (i := 0) (v := ?_) (by decide) rfl (by kernel_rfl) (by kernel_rfl) (by kernel_rfl) (fun _ _ _ h => h) (Steady.plain (by kernel_rfl) ?_) ?_
          rotate_left
          · intro b W hS
            have h0 := hS.2.2.cell 0
            have h1 := hS.2.2.cell 1
            have h2 := hS.2.2.cell 2
            have h3 := hS.2.2.cell 3
            have h4 := hS.2.2.cell 4
            go_simp
            first | done | with_reducible rfl
          simp only [Act.put, List.getElem_toArray, List.getElem_cons_zero, List.setIfInBounds_toArray, List.set_cons_zero, List.set_cons_succ]
          refine wpAnyU_take (i := 1) (v := ?_) (by decide) rfl (by kernel_rfl) (by kernel_rfl) (by kernel_rfl) (fun _ _ _ h => h) (Steady.plain (by kernel_rfl) ?_) ?_
          rotate_left
          · intro b W hS
            have h0 := hS.2.2.cell 0
            have h1 := hS.2.2.cell 1
            have h2 := hS.2.2.cell 2
            have h3 := hS.2.2.cell 3
            have h4 := hS.2.2.cell 4
            go_simp
            first | done | with_reducible rfl
          simp only [Act.put, List.getElem_toArray, List.getElem_cons_succ, List.getElem_cons_zero, List.setIfInBounds_toArray, List.set_cons_zero, List.set_cons_succ]
          refine wpAnyU_take (i := 2) (v := ?_) (by decide) rfl (by kernel_rfl) (by kernel_rfl) (by kernel_rfl) (fun _ _ _ h => h) (Steady.plain (by kernel_rfl) ?_) ?_
          rotate_left
          · intro b W hS
            have h0 := hS.2.2.cell 0
            have h1 := hS.2.2.cell 1
            have h2 := hS.2.2.cell 2
            have h3 := hS.2.2.cell 3
            have h4 := hS.2.2.cell 4
            go_simp
            first | done | with_reducible rfl
          simp only [Act.put, List.getElem_toArray, List.getElem_cons_succ, List.getElem_cons_zero, List.setIfInBounds_toArray, List.set_cons_zero, List.set_cons_succ]
          refine wpAnyU_take (i := 3) (v := ?_) (by decide) rfl (by kernel_rfl) (by kernel_rfl) (by kernel_rfl) (fun _ _ _ h => h) (Steady.plain (by kernel_rfl) ?_) ?_
          rotate_left
          · intro b W hS
            have h0 := hS.2.2.cell 0
            have h1 := hS.2.2.cell 1
            have h2 := hS.2.2.cell 2
            have h3 := hS.2.2.cell 3
            have h4 := hS.2.2.cell 4
            go_simp
            first | done | with_reducible rfl
          simp only [Act.put, List.getElem_toArray, List.getElem_cons_succ, List.getElem_cons_zero, List.setIfInBounds_toArray, List.set_cons_zero, List.set_cons_succ]
          refine wpAnyU_take (i := 4) (v := ?_) (by decide) rfl (by kernel_rfl) (by kernel_rfl) (by kernel_rfl) (fun _ _ _ h => h) (Steady.plain (by kernel_rfl) ?_) ?_
          rotate_left
          · intro b W hS
            have h0 := hS.2.2.cell 0
            have h1 := hS.2.2.cell 1
            have h2 := hS.2.2.cell 2
            have h3 := hS.2.2.cell 3
            have h4 := hS.2.2.cell 4
            go_simp
            first | done | with_reducible rfl
          simp only [Act.put, List.getElem_toArray, List.getElem_cons_succ, List.getElem_cons_zero, List.setIfInBounds_toArray, List.set_cons_zero, List.set_cons_succ]
          refine wpAnyU_take (i := 5) (v := ?_) (by decide) rfl (by kernel_rfl) (by kernel_rfl) (by kernel_rfl) (fun _ _ _ h => h) (Steady.plain (by kernel_rfl) ?_) ?_
          rotate_left
          · intro b W hS
            have h0 := hS.2.2.cell 0
            have h1 := hS.2.2.cell 1
            have h2 := hS.2.2.cell 2
            have h3 := hS.2.2.cell 3
            have h4 := hS.2.2.cell 4
            go_simp
            first | done | with_reducible rfl
          simp only [Act.put, List.getElem_toArray, List.getElem_cons_succ, List.getElem_cons_zero, List.setIfInBounds_toArray, List.set_cons_zero, List.set_cons_succ]
          refine wpAnyU_take (i := 6) (v := ?_) (by decide) rfl (by kernel_rfl) (by kernel_rfl) (by kernel_rfl) (fun _ _ _ h => h) (Steady.plain (by kernel_rfl) ?_) ?_
          rotate_left
          · intro b W hS
            have h0 := hS.2.2.cell 0
            have h1 := hS.2.2.cell 1
            have h2 := hS.2.2.cell 2
            have h3 := hS.2.2.cell 3
            have h4 := hS.2.2.cell 4
            go_simp
            first | done | with_reducible rfl
          simp only [Act.put, List.getElem_toArray, List.getElem_cons_succ, List.getElem_cons_zero, List.setIfInBounds_toArray, List.set_cons_zero, List.set_cons_succ]
          refine wpAnyU_take (i := 7) (v := ?_) (by decide) rfl (by kernel_rfl) (by kernel_rfl) (by kernel_rfl) (fun _ _ _ h => h) (Steady.plain (by kernel_rfl) ?_) ?_
          rotate_left
          · intro b W hS
            have h0 := hS.2.2.cell 0
            have h1 := hS.2.2.cell 1
            have h2 := hS.2.2.cell 2
            have h3 := hS.2.2.cell 3
            have h4 := hS.2.2.cell 4
            go_simp
            first | done | with_reducible rfl
          simp only [Act.put, List.getElem_toArray, List.getElem_cons_succ, List.getElem_cons_zero, List.setIfInBounds_toArray, List.set_cons_zero, List.set_cons_succ]
          refine wpAnyU_take (i := 8) (v := ?_) (by decide) rfl (by kernel_rfl) (by kernel_rfl) (by kernel_rfl) (fun _ _ _ h => h) (Steady.plain (by kernel_rfl) ?_) ?_
          rotate_left
          · intro b W hS
            have h0 := hS.2.2.cell 0
            have h1 := hS.2.2.cell 1
            have h2 := hS.2.2.cell 2
            have h3 := hS.2.2.cell 3
            have h4 := hS.2.2.cell 4
            go_simp
            first | done | with_reducible rfl
          simp only [Act.put, List.getElem_toArray, List.getElem_cons_succ, List.getElem_cons_zero, List.setIfInBounds_toArray, List.set_cons_zero, List.set_cons_succ]
          refine wpAnyU_take (i := 9) (v := ?_) (by decide) rfl (by kernel_rfl) (by kernel_rfl) (by kernel_rfl) (fun _ _ _ h => h) (Steady.plain (by kernel_rfl) ?_) ?_
          rotate_left
          · intro b W hS
            have h0 := hS.2.2.cell 0
            have h1 := hS.2.2.cell 1
            have h2 := hS.2.2.cell 2
            have h3 := hS.2.2.cell 3
            have h4 := hS.2.2.cell 4
            go_simp
            first | done | with_reducible rfl
          simp only [Act.put, List.getElem_toArray, List.getElem_cons_succ, List.getElem_cons_zero, List.setIfInBounds_toArray, List.set_cons_zero, List.set_cons_succ]
          refine wpAnyU_take (i := 10) (v := ?_) (by decide) rfl (by kernel_rfl) (by kernel_rfl) (by kernel_rfl) (fun _ _ _ h => h) (Steady.plain (by kernel_rfl) ?_) ?_
          rotate_left
          · intro b W hS
            have h0 := hS.2.2.cell 0
            have h1 := hS.2.2.cell 1
            have h2 := hS.2.2.cell 2
            have h3 := hS.2.2.cell 3
            have h4 := hS.2.2.cell 4
            go_simp
            first | done | with_reducible rfl
          simp only [Act.put, List.getElem_toArray, List.getElem_cons_succ, List.getElem_cons_zero, List.setIfInBounds_toArray, List.set_cons_zero, List.set_cons_succ]
          refine wpAnyU_take (i := 11) (v := ?_) (by decide) rfl (by kernel_rfl) (by kernel_rfl) (by kernel_rfl) (fun _ _ _ h => h) (Steady.plain (by kernel_rfl) ?_) ?_
          rotate_left
          · intro b W hS
            have h0 := hS.2.2.cell 0
            have h1 := hS.2.2.cell 1
            have h2 := hS.2.2.cell 2
            have h3 := hS.2.2.cell 3
            have h4 := hS.2.2.cell 4
            go_simp
            first | done | with_reducible rfl
          simp only [Act.put, List.getElem_toArray, List.getElem_cons_succ, List.getElem_cons_zero, List.setIfInBounds_toArray, List.set_cons_zero, List.set_cons_succ]
          refine wpAnyU_take (i := 12) (v := ?_) (by decide) rfl (by kernel_rfl) (by kernel_rfl) (by kernel_rfl) (fun _ _ _ h => h) (Steady.plain (by kernel_rfl) ?_) ?_
          rotate_left
          · intro b W hS
            have h0 := hS.2.2.cell 0
            have h1 := hS.2.2.cell 1
            have h2 := hS.2.2.cell 2
            have h3 := hS.2.2.cell 3
            have h4 := hS.2.2.cell 4
            go_simp
            first | done | with_reducible rfl
          simp only [Act.put, List.getElem_toArray, List.getElem_cons_succ, List.getElem_cons_zero, List.setIfInBounds_toArray, List.set_cons_zero, List.set_cons_succ]
          refine wpAnyU_take (i := 13) (v := ?_) (by decide) rfl (by kernel_rfl) (by kernel_rfl) (by kernel_rfl) (fun _ _ _ h => h) (Steady.plain (by kernel_rfl) ?_) ?_
          rotate_left
          · intro b W hS
            have h0 := hS.2.2.cell 0
            have h1 := hS.2.2.cell 1
            have h2 := hS.2.2.cell 2
            have h3 := hS.2.2.cell 3
            have h4 := hS.2.2.cell 4
            go_simp
            first | done | with_reducible rfl
          simp only [Act.put, List.getElem_toArray, List.getElem_cons_succ, List.getElem_cons_zero, List.setIfInBounds_toArray, List.set_cons_zero, List.set_cons_succ]
          refine wpAnyU_take (i := 14) (v := ?_) (by decide) rfl (by kernel_rfl) (by kernel_rfl) (by kernel_rfl) (fun _ _ _ h => h) (Steady.plain (by kernel_rfl) ?_) ?_
          rotate_left
          · intro b W hS
            have h0 := hS.2.2.cell 0
            have h1 := hS.2.2.cell 1
            have h2 := hS.2.2.cell 2
            have h3 := hS.2.2.cell 3
            have h4 := hS.2.2.cell 4
            go_simp
            first | done | with_reducible rfl
          simp only [Act.put, List.getElem_toArray, List.getElem_cons_succ, List.getElem_cons_zero, List.setIfInBounds_toArray, List.set_cons_zero, List.set_cons_succ]
          refine wpAnyU_take (i := 15) (v := ?_) (by decide) rfl (by kernel_rfl) (by kernel_rfl) (by kernel_rfl) (fun _ _ _ h => h) (Steady.plain (by kernel_rfl) ?_) ?_
          rotate_left
          · intro b W hS
            have h0 := hS.2.2.cell 0
            have h1 := hS.2.2.cell 1
            have h2 := hS.2.2.cell 2
            have h3 := hS.2.2.cell 3
            have h4 := hS.2.2.cell 4
            go_simp
            first | done | with_reducible rfl
          simp only [Act.put, List.getElem_toArray, List.getElem_cons_succ, List.getElem_cons_zero, List.setIfInBounds_toArray, List.set_cons_zero, List.set_cons_succ]
          refine wpAnyU_take (i := 16) (v := ?_) (by decide) rfl (by kernel_rfl) (by kernel_rfl) (by kernel_rfl) (fun _ _ _ h => h) (Steady.plain (by kernel_rfl) ?_) ?_
          rotate_left
          · intro b W hS
            have h0 := hS.2.2.cell 0
            have h1 := hS.2.2.cell 1
            have h2 := hS.2.2.cell 2
            have h3 := hS.2.2.cell 3
            have h4 := hS.2.2.cell 4
            go_simp
            first | done | with_reducible rfl
          simp only [Act.put, List.getElem_toArray, List.getElem_cons_succ, List.getElem_cons_zero, List.setIfInBounds_toArray, List.set_cons_zero, List.set_cons_succ]
          refine wpAnyU_take (i := 17) (v := .bool true) (by decide) rfl (by kernel_rfl) (by kernel_rfl) (by kernel_rfl) (fun _ _ _ h => h) (Steady.call (f := 79) (args := #[strV m]) (by kernel_rfl) (fun _ => by kernel_rfl) ?_) ?_
          · intro b W hS
            refine (CC.out W).mono ?_
            rintro e w' ⟨he, rfl⟩
            exact ⟨he, hS⟩
          simp only [Act.put, List.getElem_toArray, List.getElem_cons_succ, List.getElem_cons_zero, List.setIfInBounds_toArray, List.set_cons_zero, List.set_cons_succ]
          refine wpAnyU_take (i := 18) (v := ?_) (by decide) rfl (by kernel_rfl) (by kernel_rfl) (by kernel_rfl) (fun _ _ _ h => h) (Steady.plain (by kernel_rfl) ?_) ?_
          rotate_left
          · intro b W hS
            have h0 := hS.2.2.cell 0
            have h1 := hS.2.2.cell 1
            have h2 := hS.2.2.cell 2
            have h3 := hS.2.2.cell 3
            have h4 := hS.2.2.cell 4
            go_simp
            first | done | with_reducible rfl
          simp only [Act.put, List.getElem_toArray, List.getElem_cons_succ, List.getElem_cons_zero, List.setIfInBounds_toArray, List.set_cons_zero, List.set_cons_succ]
          refine wpAnyU_take (i := 19) (v := ?_) (by decide) rfl (by kernel_rfl) (by kernel_rfl) (by kernel_rfl) (fun _ _ _ h => h) (Steady.plain (by kernel_rfl) ?_) ?_
          rotate_left
          · intro b W hS
            have h0 := hS.2.2.cell 0
            have h1 := hS.2.2.cell 1
            have h2 := hS.2.2.cell 2
            have h3 := hS.2.2.cell 3
            have h4 := hS.2.2.cell 4
            go_simp
            first | done | with_reducible rfl
          simp only [Act.put, List.getElem_toArray, List.getElem_cons_succ, List.getElem_cons_zero, List.setIfInBounds_toArray, List.set_cons_zero, List.set_cons_succ]
          refine wpAnyU_take (i := 20) (v := ?_) (by decide) rfl (by kernel_rfl) (by kernel_rfl) (by kernel_rfl) (fun _ _ _ h => h) (Steady.plain (by kernel_rfl) ?_) ?_
          rotate_left
          · intro b W hS
            have h0 := hS.2.2.cell 0
            have h1 := hS.2.2.cell 1
            have h2 := hS.2.2.cell 2
            have h3 := hS.2.2.cell 3
            have h4 := hS.2.2.cell 4
            go_simp
            first | done | with_reducible rfl
          simp only [Act.put, List.getElem_toArray, List.getElem_cons_succ, List.getElem_cons_zero, List.setIfInBounds_toArray, List.set_cons_zero, List.set_cons_succ]
          refine wpAnyU_take (i := 21) (v := ?_) (by decide) rfl (by kernel_rfl) (by kernel_rfl) (by kernel_rfl) (fun _ _ _ h => h) (Steady.plain (by kernel_rfl) ?_) ?_
          rotate_left
          · intro b W hS
            have h0 := hS.2.2.cell 0
            have h1 := hS.2.2.cell 1
            have h2 := hS.2.2.cell 2
            have h3 := hS.2.2.cell 3
            have h4 := hS.2.2.cell 4
            go_simp
            first | done | with_reducible rfl
          simp only [Act.put, List.getElem_toArray, List.getElem_cons_succ, List.getElem_cons_zero, List.setIfInBounds_toArray, List.set_cons_zero, List.set_cons_succ]
          refine wpAnyU_take (i := 22) (v := strV T) (by decide) rfl (by kernel_rfl) (by kernel_rfl) (by kernel_rfl) (fun _ _ _ h => h) (Steady.call (f := 80) (args := #[strV m]) (by kernel_rfl) (fun _ => by kernel_rfl) ?_) ?_
          · intro b W hS
            refine (CT.out W).mono ?_
            rintro e w' ⟨he, rfl⟩
            exact ⟨he, hS⟩
          simp only [Act.put, List.getElem_toArray, List.getElem_cons_succ, List.getElem_cons_zero, List.setIfInBounds_toArray, List.set_cons_zero, List.set_cons_succ]
          refine wpAnyU_take (i := 23) (v := ?_) (by decide) rfl (by kernel_rfl) (by kernel_rfl) (by kernel_rfl) (fun _ _ _ h => h) (Steady.plain (by kernel_rfl) ?_) ?_
          rotate_left
          · intro b W hS
            have h0 := hS.2.2.cell 0
            have h1 := hS.2.2.cell 1
            have h2 := hS.2.2.cell 2
            have h3 := hS.2.2.cell 3
            have h4 := hS.2.2.cell 4
            go_simp
            first | done | with_reducible rfl
          simp only [Act.put, List.getElem_toArray, List.getElem_cons_succ, List.getElem_cons_zero, List.setIfInBounds_toArray, List.set_cons_zero, List.set_cons_succ]
          refine wpAnyU_take (i := 24) (v := ?_) (by decide) rfl (by kernel_rfl) (by kernel_rfl) (by kernel_rfl) (fun _ _ _ h => h) (Steady.plain (by kernel_rfl) ?_) ?_
          rotate_left
          · intro b W hS
            have h0 := hS.2.2.cell 0
            have h1 := hS.2.2.cell 1
            have h2 := hS.2.2.cell 2
            have h3 := hS.2.2.cell 3
            have h4 := hS.2.2.cell 4
            go_simp
            first | done | with_reducible rfl
          simp only [Act.put, List.getElem_toArray, List.getElem_cons_succ, List.getElem_cons_zero, List.setIfInBounds_toArray, List.set_cons_zero, List.set_cons_succ]
          refine wpAnyU_take (i := 25) (v := ?_) (by decide) rfl (by kernel_rfl) (by kernel_rfl) (by kernel_rfl) (fun _ _ _ h => h) (Steady.plain (by kernel_rfl) ?_) ?_
          rotate_left
          · intro b W hS
            have h0 := hS.2.2.cell 0
            have h1 := hS.2.2.cell 1
            have h2 := hS.2.2.cell 2
            have h3 := hS.2.2.cell 3
            have h4 := hS.2.2.cell 4
            go_simp
            first | done | with_reducible rfl
          simp only [Act.put, List.getElem_toArray, List.getElem_cons_succ, List.getElem_cons_zero, List.setIfInBounds_toArray, List.set_cons_zero, List.set_cons_succ]
          refine wpAnyU_take (i := 26) (v := ?_) (by decide) rfl (by kernel_rfl) (by kernel_rfl) (by kernel_rfl) (fun _ _ _ h => h) (Steady.plain (by kernel_rfl) ?_) ?_
          rotate_left
          · intro b W hS
            have h0 := hS.2.2.cell 0
            have h1 := hS.2.2.cell 1
            have h2 := hS.2.2.cell 2
            have h3 := hS.2.2.cell 3
            have h4 := hS.2.2.cell 4
            go_simp
            first | done | with_reducible rfl
          simp only [Act.put, List.getElem_toArray, List.getElem_cons_succ, List.getElem_cons_zero, List.setIfInBounds_toArray, List.set_cons_zero, List.set_cons_succ]
          refine wpAnyU_take (i := 27) (v := ?_) (by decide) rfl (by kernel_rfl) (by kernel_rfl) (by kernel_rfl) (fun _ _ _ h => h) (Steady.plain (by kernel_rfl) ?_) ?_
          rotate_left
          · intro b W hS
            have h0 := hS.2.2.cell 0
            have h1 := hS.2.2.cell 1
            have h2 := hS.2.2.cell 2
            have h3 := hS.2.2.cell 3
            have h4 := hS.2.2.cell 4
            go_simp
            first | done | with_reducible rfl
          simp only [Act.put, List.getElem_toArray, List.getElem_cons_succ, List.getElem_cons_zero, List.setIfInBounds_toArray, List.set_cons_zero, List.set_cons_succ]
          refine wpAnyU_done (b := []) (by kernel_rfl) (by kernel_rfl) ?_ _
          intro w2 hS
          go_wp2_with fail
          go_ret
          exact ⟨rfl, hS.1⟩
      · obtain rfl : R = false := by rw [HQ2.out, decide_eq_false (show ¬ m.length ≤ 64 by omega)]; simp
        have d4 : decide ((m.length : Int) ≤ 64) = false := decide_eq_false s3
        clear HQ2 s1 s2 s3
        go_enter Tryz.func48, Tryz.ntmps48
        go_wp2_with fail
        rw [← hW]
        clear hW
        refine (CF.out _ (HR.out.below hbW)).mono ?_
        rintro e w1 ⟨rfl, hb1⟩
        have hg1 := hg.below hb1
        have hbb := chain2 hbW hbW.size hb1
        clear hg hbW hb1
        go_wp2_with fail
        refine wp_region_U [] (by kernel_rfl) (BoxS w w.heap.size w.heap.size #[strV m, strV t, .int .i64 st, .int .i64 z, .slice ao L.length cap] 47) (b := []) (by kernel_rfl) (BoxS.drew (W := w1) ⟨hbb, hbb.size, hg1⟩) ?_
        refine wpAnyU_take (i := 0) (v := ?_) (by decide) rfl (by kernel_rfl) (by kernel_rfl) (by kernel_rfl) (fun _ _ _ h => h) (Steady.plain (by kernel_rfl) ?_) ?_
        rotate_left
        · intro b W hS
          have h0 := hS.2.2.cell 0
          have h1 := hS.2.2.cell 1
          have h2 := hS.2.2.cell 2
          have h3 := hS.2.2.cell 3
          have h4 := hS.2.2.cell 4
          go_simp
          first | done | with_reducible rfl
        simp only [Act.put, List.getElem_toArray, List.getElem_cons_zero, List.setIfInBounds_toArray, List.set_cons_zero, List.set_cons_succ]
        refine wpAnyU_take (i := 1) (v := ?_) (by decide) rfl (by kernel_rfl) (by kernel_rfl) (by kernel_rfl) (fun _ _ _ h => h) (Steady.plain (by kernel_rfl) ?_) ?_
        rotate_left
        · intro b W hS
          have h0 := hS.2.2.cell 0
          have h1 := hS.2.2.cell 1
          have h2 := hS.2.2.cell 2
          have h3 := hS.2.2.cell 3
          have h4 := hS.2.2.cell 4
          go_simp
          first | done | with_reducible rfl
        simp only [Act.put, List.getElem_toArray, List.getElem_cons_succ, List.getElem_cons_zero, List.setIfInBounds_toArray, List.set_cons_zero, List.set_cons_succ]
        refine wpAnyU_take (i := 2) (v := ?_) (by decide) rfl (by kernel_rfl) (by kernel_rfl) (by kernel_rfl) (fun _ _ _ h => h) (Steady.plain (by kernel_rfl) ?_) ?_
        rotate_left
        · intro b W hS
          have h0 := hS.2.2.cell 0
          have h1 := hS.2.2.cell 1
          have h2 := hS.2.2.cell 2
          have h3 := hS.2.2.cell 3
          have h4 := hS.2.2.cell 4
          go_simp
          first | done | with_reducible rfl
        simp only [Act.put, List.getElem_toArray, List.getElem_cons_succ, List.getElem_cons_zero, List.setIfInBounds_toArray, List.set_cons_zero, List.set_cons_succ]
        refine wpAnyU_take (i := 3) (v := ?_) (by decide) rfl (by kernel_rfl) (by kernel_rfl) (by kernel_rfl) (fun _ _ _ h => h) (Steady.plain (by kernel_rfl) ?_) ?_
        rotate_left
        · intro b W hS
          have h0 := hS.2.2.cell 0
          have h1 := hS.2.2.cell 1
          have h2 := hS.2.2.cell 2
          have h3 := hS.2.2.cell 3
          have h4 := hS.2.2.cell 4
          go_simp
          first | done | with_reducible rfl
        simp only [Act.put, List.getElem_toArray, List.getElem_cons_succ, List.getElem_cons_zero, List.setIfInBounds_toArray, List.set_cons_zero, List.set_cons_succ]
        refine wpAnyU_take (i := 4) (v := ?_) (by decide) rfl (by kernel_rfl) (by kernel_rfl) (by kernel_rfl) (fun _ _ _ h => h) (Steady.plain (by kernel_rfl) ?_) ?_
        rotate_left
        · intro b W hS
          have h0 := hS.2.2.cell 0
          have h1 := hS.2.2.cell 1
          have h2 := hS.2.2.cell 2
          have h3 := hS.2.2.cell 3
          have h4 := hS.2.2.cell 4
          go_simp
          first | done | with_reducible rfl
        simp only [Act.put, List.getElem_toArray, List.getElem_cons_succ, List.getElem_cons_zero, List.setIfInBounds_toArray, List.set_cons_zero, List.set_cons_succ]
        refine wpAnyU_take (i := 5) (v := ?_) (by decide) rfl (by kernel_rfl) (by kernel_rfl) (by kernel_rfl) (fun _ _ _ h => h) (Steady.plain (by kernel_rfl) ?_) ?_
        rotate_left
        · intro b W hS
          have h0 := hS.2.2.cell 0
          have h1 := hS.2.2.cell 1
          have h2 := hS.2.2.cell 2
          have h3 := hS.2.2.cell 3
          have h4 := hS.2.2.cell 4
          go_simp
          first | done | with_reducible rfl
        simp only [Act.put, List.getElem_toArray, List.getElem_cons_succ, List.getElem_cons_zero, List.setIfInBounds_toArray, List.set_cons_zero, List.set_cons_succ]
        refine wpAnyU_take (i := 6) (v := ?_) (by decide) rfl (by kernel_rfl) (by kernel_rfl) (by kernel_rfl) (fun _ _ _ h => h) (Steady.plain (by kernel_rfl) ?_) ?_
        rotate_left
        · intro b W hS
          have h0 := hS.2.2.cell 0
          have h1 := hS.2.2.cell 1
          have h2 := hS.2.2.cell 2
          have h3 := hS.2.2.cell 3
          have h4 := hS.2.2.cell 4
          go_simp
          first | done | with_reducible rfl
        simp only [Act.put, List.getElem_toArray, List.getElem_cons_succ, List.getElem_cons_zero, List.setIfInBounds_toArray, List.set_cons_zero, List.set_cons_succ]
        refine wpAnyU_take (i := 7) (v := ?_) (by decide) rfl (by kernel_rfl) (by kernel_rfl) (by kernel_rfl) (fun _ _ _ h => h) (Steady.plain (by kernel_rfl) ?_) ?_
        rotate_left
        · intro b W hS
          have h0 := hS.2.2.cell 0
          have h1 := hS.2.2.cell 1
          have h2 := hS.2.2.cell 2
          have h3 := hS.2.2.cell 3
          have h4 := hS.2.2.cell 4
          go_simp
          first | done | with_reducible rfl
        simp only [Act.put, List.getElem_toArray, List.getElem_cons_succ, List.getElem_cons_zero, List.setIfInBounds_toArray, List.set_cons_zero, List.set_cons_succ]
        refine wpAnyU_take (i := 8) (v := ?_) (by decide) rfl (by kernel_rfl) (by kernel_rfl) (by kernel_rfl) (fun _ _ _ h => h) (Steady.plain (by kernel_rfl) ?_) ?_
        rotate_left
        · intro b W hS
          have h0 := hS.2.2.cell 0
          have h1 := hS.2.2.cell 1
          have h2 := hS.2.2.cell 2
          have h3 := hS.2.2.cell 3
          have h4 := hS.2.2.cell 4
          go_simp
          first | done | with_reducible rfl
        simp only [Act.put, List.getElem_toArray, List.getElem_cons_succ, List.getElem_cons_zero, List.setIfInBounds_toArray, List.set_cons_zero, List.set_cons_succ]
        refine wpAnyU_take (i := 9) (v := ?_) (by decide) rfl (by kernel_rfl) (by kernel_rfl) (by kernel_rfl) (fun _ _ _ h => h) (Steady.plain (by kernel_rfl) ?_) ?_
        rotate_left
        · intro b W hS
          have h0 := hS.2.2.cell 0
          have h1 := hS.2.2.cell 1
          have h2 := hS.2.2.cell 2
          have h3 := hS.2.2.cell 3
          have h4 := hS.2.2.cell 4
          go_simp
          first | done | with_reducible rfl
        simp only [Act.put, List.getElem_toArray, List.getElem_cons_succ, List.getElem_cons_zero, List.setIfInBounds_toArray, List.set_cons_zero, List.set_cons_succ]
        refine wpAnyU_take (i := 10) (v := ?_) (by decide) rfl (by kernel_rfl) (by kernel_rfl) (by kernel_rfl) (fun _ _ _ h => h) (Steady.plain (by kernel_rfl) ?_) ?_
        rotate_left
        · intro b W hS
          have h0 := hS.2.2.cell 0
          have h1 := hS.2.2.cell 1
          have h2 := hS.2.2.cell 2
          have h3 := hS.2.2.cell 3
          have h4 := hS.2.2.cell 4
          go_simp
          first | done | with_reducible rfl
        simp only [Act.put, List.getElem_toArray, List.getElem_cons_succ, List.getElem_cons_zero, List.setIfInBounds_toArray, List.set_cons_zero, List.set_cons_succ]
        refine wpAnyU_take (i := 11) (v := ?_) (by decide) rfl (by kernel_rfl) (by kernel_rfl) (by kernel_rfl) (fun _ _ _ h => h) (Steady.plain (by kernel_rfl) ?_) ?_
        rotate_left
        · intro b W hS
          have h0 := hS.2.2.cell 0
          have h1 := hS.2.2.cell 1
          have h2 := hS.2.2.cell 2
          have h3 := hS.2.2.cell 3
          have h4 := hS.2.2.cell 4
          go_simp
          first | done | with_reducible rfl
        simp only [Act.put, List.getElem_toArray, List.getElem_cons_succ, List.getElem_cons_zero, List.setIfInBounds_toArray, List.set_cons_zero, List.set_cons_succ]
        refine wpAnyU_take (i := 12) (v := ?_) (by decide) rfl (by kernel_rfl) (by kernel_rfl) (by kernel_rfl) (fun _ _ _ h => h) (Steady.plain (by kernel_rfl) ?_) ?_
        rotate_left
        · intro b W hS
          have h0 := hS.2.2.cell 0
          have h1 := hS.2.2.cell 1
          have h2 := hS.2.2.cell 2
          have h3 := hS.2.2.cell 3
          have h4 := hS.2.2.cell 4
          go_simp
          first | done | with_reducible rfl
        simp only [Act.put, List.getElem_toArray, List.getElem_cons_succ, List.getElem_cons_zero, List.setIfInBounds_toArray, List.set_cons_zero, List.set_cons_succ]
        refine wpAnyU_take (i := 13) (v := ?_) (by decide) rfl (by kernel_rfl) (by kernel_rfl) (by kernel_rfl) (fun _ _ _ h => h) (Steady.plain (by kernel_rfl) ?_) ?_
        rotate_left
        · intro b W hS
          have h0 := hS.2.2.cell 0
          have h1 := hS.2.2.cell 1
          have h2 := hS.2.2.cell 2
          have h3 := hS.2.2.cell 3
          have h4 := hS.2.2.cell 4
          go_simp
          first | done | with_reducible rfl
        simp only [Act.put, List.getElem_toArray, List.getElem_cons_succ, List.getElem_cons_zero, List.setIfInBounds_toArray, List.set_cons_zero, List.set_cons_succ]
        refine wpAnyU_take (i := 14) (v := ?_) (by decide) rfl (by kernel_rfl) (by kernel_rfl) (by kernel_rfl) (fun _ _ _ h => h) (Steady.plain (by kernel_rfl) ?_) ?_
        rotate_left
        · intro b W hS
          have h0 := hS.2.2.cell 0
          have h1 := hS.2.2.cell 1
          have h2 := hS.2.2.cell 2
          have h3 := hS.2.2.cell 3
          have h4 := hS.2.2.cell 4
          go_simp
          first | done | with_reducible rfl
        simp only [Act.put, List.getElem_toArray, List.getElem_cons_succ, List.getElem_cons_zero, List.setIfInBounds_toArray, List.set_cons_zero, List.set_cons_succ]
        refine wpAnyU_take (i := 15) (by decide) rfl (by kernel_rfl) (by kernel_rfl) (by kernel_rfl) (fun _ _ _ h => h) (Steady.off (by kernel_rfl)) ?_
        simp only [Act.put, List.getElem_toArray, List.getElem_cons_succ, List.getElem_cons_zero, List.setIfInBounds_toArray, List.set_cons_zero, List.set_cons_succ]
        refine wpAnyU_take (i := 16) (by decide) rfl (by kernel_rfl) (by kernel_rfl) (by kernel_rfl) (fun _ _ _ h => h) (Steady.off (by kernel_rfl)) ?_
        simp only [Act.put, List.getElem_toArray, List.getElem_cons_succ, List.getElem_cons_zero, List.setIfInBounds_toArray, List.set_cons_zero, List.set_cons_succ]
        refine wpAnyU_take (i := 17) (by decide) rfl (by kernel_rfl) (by kernel_rfl) (by kernel_rfl) (fun _ _ _ h => h) (Steady.off (by kernel_rfl)) ?_
        simp only [Act.put, List.getElem_toArray, List.getElem_cons_succ, List.getElem_cons_zero, List.setIfInBounds_toArray, List.set_cons_zero, List.set_cons_succ]
        refine wpAnyU_take (i := 18) (v := ?_) (by decide) rfl (by kernel_rfl) (by kernel_rfl) (by kernel_rfl) (fun _ _ _ h => h) (Steady.plain (by kernel_rfl) ?_) ?_
        rotate_left
        · intro b W hS
          have h0 := hS.2.2.cell 0
          have h1 := hS.2.2.cell 1
          have h2 := hS.2.2.cell 2
          have h3 := hS.2.2.cell 3
          have h4 := hS.2.2.cell 4
          go_simp
          first | done | with_reducible rfl
        simp only [Act.put, List.getElem_toArray, List.getElem_cons_succ, List.getElem_cons_zero, List.setIfInBounds_toArray, List.set_cons_zero, List.set_cons_succ]
        refine wpAnyU_take (i := 19) (v := ?_) (by decide) rfl (by kernel_rfl) (by kernel_rfl) (by kernel_rfl) (fun _ _ _ h => h) (Steady.plain (by kernel_rfl) ?_) ?_
        rotate_left
        · intro b W hS
          have h0 := hS.2.2.cell 0
          have h1 := hS.2.2.cell 1
          have h2 := hS.2.2.cell 2
          have h3 := hS.2.2.cell 3
          have h4 := hS.2.2.cell 4
          go_simp
          first | done | with_reducible rfl
        simp only [Act.put, List.getElem_toArray, List.getElem_cons_succ, List.getElem_cons_zero, List.setIfInBounds_toArray, List.set_cons_zero, List.set_cons_succ]
        refine wpAnyU_take (i := 20) (by decide) rfl (by kernel_rfl) (by kernel_rfl) (by kernel_rfl) (fun _ _ _ h => h) (Steady.off (by kernel_rfl)) ?_
        simp only [Act.put, List.getElem_toArray, List.getElem_cons_succ, List.getElem_cons_zero, List.setIfInBounds_toArray, List.set_cons_zero, List.set_cons_succ]
        refine wpAnyU_take (i := 21) (by decide) rfl (by kernel_rfl) (by kernel_rfl) (by kernel_rfl) (fun _ _ _ h => h) (Steady.off (by kernel_rfl)) ?_
        simp only [Act.put, List.getElem_toArray, List.getElem_cons_succ, List.getElem_cons_zero, List.setIfInBounds_toArray, List.set_cons_zero, List.set_cons_succ]
        refine wpAnyU_take (i := 22) (by decide) rfl (by kernel_rfl) (by kernel_rfl) (by kernel_rfl) (fun _ _ _ h => h) (Steady.off (by kernel_rfl)) ?_
        simp only [Act.put, List.getElem_toArray, List.getElem_cons_succ, List.getElem_cons_zero, List.setIfInBounds_toArray, List.set_cons_zero, List.set_cons_succ]
        refine wpAnyU_take (i := 23) (by decide) rfl (by kernel_rfl) (by kernel_rfl) (by kernel_rfl) (fun _ _ _ h => h) (Steady.off (by kernel_rfl)) ?_
        simp only [Act.put, List.getElem_toArray, List.getElem_cons_succ, List.getElem_cons_zero, List.setIfInBounds_toArray, List.set_cons_zero, List.set_cons_succ]
        refine wpAnyU_take (i := 24) (by decide) rfl (by kernel_rfl) (by kernel_rfl) (by kernel_rfl) (fun _ _ _ h => h) (Steady.off (by kernel_rfl)) ?_
        simp only [Act.put, List.getElem_toArray, List.getElem_cons_succ, List.getElem_cons_zero, List.setIfInBounds_toArray, List.set_cons_zero, List.set_cons_succ]
        refine wpAnyU_take (i := 25) (by decide) rfl (by kernel_rfl) (by kernel_rfl) (by kernel_rfl) (fun _ _ _ h => h) (Steady.off (by kernel_rfl)) ?_
        simp only [Act.put, List.getElem_toArray, List.getElem_cons_succ, List.getElem_cons_zero, List.setIfInBounds_toArray, List.set_cons_zero, List.set_cons_succ]
        refine wpAnyU_take (i := 26) (v := ?_) (by decide) rfl (by kernel_rfl) (by kernel_rfl) (by kernel_rfl) (fun _ _ _ h => h) (Steady.plain (by kernel_rfl) ?_) ?_
        rotate_left
        · intro b W hS
          have h0 := hS.2.2.cell 0
          have h1 := hS.2.2.cell 1
          have h2 := hS.2.2.cell 2
          have h3 := hS.2.2.cell 3
          have h4 := hS.2.2.cell 4
          go_simp
          first | done | with_reducible rfl
        simp only [Act.put, List.getElem_toArray, List.getElem_cons_succ, List.getElem_cons_zero, List.setIfInBounds_toArray, List.set_cons_zero, List.set_cons_succ]
        refine wpAnyU_take (i := 27) (v := ?_) (by decide) rfl (by kernel_rfl) (by kernel_rfl) (by kernel_rfl) (fun _ _ _ h => h) (Steady.plain (by kernel_rfl) ?_) ?_
        rotate_left
        · intro b W hS
          have h0 := hS.2.2.cell 0
          have h1 := hS.2.2.cell 1
          have h2 := hS.2.2.cell 2
          have h3 := hS.2.2.cell 3
          have h4 := hS.2.2.cell 4
          go_simp
          first | done | with_reducible rfl
        simp only [Act.put, List.getElem_toArray, List.getElem_cons_succ, List.getElem_cons_zero, List.setIfInBounds_toArray, List.set_cons_zero, List.set_cons_succ]
        refine wpAnyU_done (b := []) (by kernel_rfl) (by kernel_rfl) ?_ _
        intro w2 hS
        go_wp2_with fail
        go_ret
        exact ⟨rfl, hS.1⟩
    · obtain rfl : R = false := by rw [HQ2.out, decide_eq_false s2]; simp
      have d3 : decide (st ≤ 599) = false := decide_eq_false s2
      clear HQ2 s1 s2
      go_enter Tryz.func48, Tryz.ntmps48
      go_wp2_with fail
      rw [← hW]
      clear hW
      refine (CF.out _ (HR.out.below hbW)).mono ?_
      rintro e w1 ⟨rfl, hb1⟩
      have hg1 := hg.below hb1
      have hbb := chain2 hbW hbW.size hb1
      clear hg hbW hb1
      go_wp2_with fail
      refine wp_region_U [] (by kernel_rfl) (BoxS w w.heap.size w.heap.size #[strV m, strV t, .int .i64 st, .int .i64 z, .slice ao L.length cap] 47) (b := []) (by kernel_rfl) (BoxS.drew (W := w1) ⟨hbb, hbb.size, hg1⟩) ?_
      refine wpAnyU_take (i := 0) (v := ?_) (by decide) rfl (by kernel_rfl) (by kernel_rfl) (by kernel_rfl) (fun _ _ _ h => h) (Steady.plain (by kernel_rfl) ?_) ?_
      rotate_left
      · intro b W hS
        have h0 := hS.2.2.cell 0
        have h1 := hS.2.2.cell 1
        have h2 := hS.2.2.cell 2
        have h3 := hS.2.2.cell 3
        have h4 := hS.2.2.cell 4
        go_simp
        first | done | with_reducible rfl
      simp only [Act.put, List.getElem_toArray, List.getElem_cons_zero, List.setIfInBounds_toArray, List.set_cons_zero, List.set_cons_succ]
      refine wpAnyU_take (i := 1) (v := ?_) (by decide) rfl (by kernel_rfl) (by kernel_rfl) (by kernel_rfl) (fun _ _ _ h => h) (Steady.plain (by kernel_rfl) ?_) ?_
      rotate_left
      · intro b W hS
        have h0 := hS.2.2.cell 0
        have h1 := hS.2.2.cell 1
        have h2 := hS.2.2.cell 2
        have h3 := hS.2.2.cell 3
        have h4 := hS.2.2.cell 4
        go_simp
        first | done | with_reducible rfl
      simp only [Act.put, List.getElem_toArray, List.getElem_cons_succ, List.getElem_cons_zero, List.setIfInBounds_toArray, List.set_cons_zero, List.set_cons_succ]
      refine wpAnyU_take (i := 2) (v := ?_) (by decide) rfl (by kernel_rfl) (by kernel_rfl) (by kernel_rfl) (fun _ _ _ h => h) (Steady.plain (by kernel_rfl) ?_) ?_
      rotate_left
      · intro b W hS
        have h0 := hS.2.2.cell 0
        have h1 := hS.2.2.cell 1
        have h2 := hS.2.2.cell 2
        have h3 := hS.2.2.cell 3
        have h4 := hS.2.2.cell 4
        go_simp
        first | done | with_reducible rfl
      simp only [Act.put, List.getElem_toArray, List.getElem_cons_succ, List.getElem_cons_zero, List.setIfInBounds_toArray, List.set_cons_zero, List.set_cons_succ]
      refine wpAnyU_take (i := 3) (v := ?_) (by decide) rfl (by kernel_rfl) (by kernel_rfl) (by kernel_rfl) (fun _ _ _ h => h) (Steady.plain (by kernel_rfl) ?_) ?_
      rotate_left
      · intro b W hS
        have h0 := hS.2.2.cell 0
        have h1 := hS.2.2.cell 1
        have h2 := hS.2.2.cell 2
        have h3 := hS.2.2.cell 3
        have h4 := hS.2.2.cell 4
        go_simp
        first | done | with_reducible rfl
      simp only [Act.put, List.getElem_toArray, List.getElem_cons_succ, List.getElem_cons_zero, List.setIfInBounds_toArray, List.set_cons_zero, List.set_cons_succ]
      refine wpAnyU_take (i := 4) (v := ?_) (by decide) rfl (by kernel_rfl) (by kernel_rfl) (by kernel_rfl) (fun _ _ _ h => h) (Steady.plain (by kernel_rfl) ?_) ?_
      rotate_left
      · intro b W hS
        have h0 := hS.2.2.cell 0
        have h1 := hS.2.2.cell 1
        have h2 := hS.2.2.cell 2
        have h3 := hS.2.2.cell 3
        have h4 := hS.2.2.cell 4
        go_simp
        first | done | with_reducible rfl
      simp only [Act.put, List.getElem_toArray, List.getElem_cons_succ, List.getElem_cons_zero, List.setIfInBounds_toArray, List.set_cons_zero, List.set_cons_succ]
      refine wpAnyU_take (i := 5) (v := ?_) (by decide) rfl (by kernel_rfl) (by kernel_rfl) (by kernel_rfl) (fun _ _ _ h => h) (Steady.plain (by kernel_rfl) ?_) ?_
      rotate_left
      · intro b W hS
        have h0 := hS.2.2.cell 0
        have h1 := hS.2.2.cell 1
        have h2 := hS.2.2.cell 2
        have h3 := hS.2.2.cell 3
        have h4 := hS.2.2.cell 4
        go_simp
        first | done | with_reducible rfl
      simp only [Act.put, List.getElem_toArray, List.getElem_cons_succ, List.getElem_cons_zero, List.setIfInBounds_toArray, List.set_cons_zero, List.set_cons_succ]
      refine wpAnyU_take (i := 6) (v := ?_) (by decide) rfl (by kernel_rfl) (by kernel_rfl) (by kernel_rfl) (fun _ _ _ h => h) (Steady.plain (by kernel_rfl) ?_) ?_
      rotate_left
      · intro b W hS
        have h0 := hS.2.2.cell 0
        have h1 := hS.2.2.cell 1
        have h2 := hS.2.2.cell 2
        have h3 := hS.2.2.cell 3
        have h4 := hS.2.2.cell 4
        go_simp
        first | done | with_reducible rfl
      simp only [Act.put, List.getElem_toArray, List.getElem_cons_succ, List.getElem_cons_zero, List.setIfInBounds_toArray, List.set_cons_zero, List.set_cons_succ]
      refine wpAnyU_take (i := 7) (v := ?_) (by decide) rfl (by kernel_rfl) (by kernel_rfl) (by kernel_rfl) (fun _ _ _ h => h) (Steady.plain (by kernel_rfl) ?_) ?_
      rotate_left
      · intro b W hS
        have h0 := hS.2.2.cell 0
        have h1 := hS.2.2.cell 1
        have h2 := hS.2.2.cell 2
        have h3 := hS.2.2.cell 3
        have h4 := hS.2.2.cell 4
        go_simp
        first | done | with_reducible rfl
      simp only [Act.put, List.getElem_toArray, List.getElem_cons_succ, List.getElem_cons_zero, List.setIfInBounds_toArray, List.set_cons_zero, List.set_cons_succ]
      refine wpAnyU_take (i := 8) (v := ?_) (by decide) rfl (by kernel_rfl) (by kernel_rfl) (by kernel_rfl) (fun _ _ _ h => h) (Steady.plain (by kernel_rfl) ?_) ?_
      rotate_left
      · intro b W hS
        have h0 := hS.2.2.cell 0
        have h1 := hS.2.2.cell 1
        have h2 := hS.2.2.cell 2
        have h3 := hS.2.2.cell 3
        have h4 := hS.2.2.cell 4
        go_simp
        first | done | with_reducible rfl
      simp only [Act.put, List.getElem_toArray, List.getElem_cons_succ, List.getElem_cons_zero, List.setIfInBounds_toArray, List.set_cons_zero, List.set_cons_succ]
      refine wpAnyU_take (i := 9) (by decide) rfl (by kernel_rfl) (by kernel_rfl) (by kernel_rfl) (fun _ _ _ h => h) (Steady.off (by kernel_rfl)) ?_
      simp only [Act.put, List.getElem_toArray, List.getElem_cons_succ, List.getElem_cons_zero, List.setIfInBounds_toArray, List.set_cons_zero, List.set_cons_succ]
      refine wpAnyU_take (i := 10) (by decide) rfl (by kernel_rfl) (by kernel_rfl) (by kernel_rfl) (fun _ _ _ h => h) (Steady.off (by kernel_rfl)) ?_
      simp only [Act.put, List.getElem_toArray, List.getElem_cons_succ, List.getElem_cons_zero, List.setIfInBounds_toArray, List.set_cons_zero, List.set_cons_succ]
      refine wpAnyU_take (i := 11) (by decide) rfl (by kernel_rfl) (by kernel_rfl) (by kernel_rfl) (fun _ _ _ h => h) (Steady.off (by kernel_rfl)) ?_
      simp only [Act.put, List.getElem_toArray, List.getElem_cons_succ, List.getElem_cons_zero, List.setIfInBounds_toArray, List.set_cons_zero, List.set_cons_succ]
      refine wpAnyU_take (i := 12) (by decide) rfl (by kernel_rfl) (by kernel_rfl) (by kernel_rfl) (fun _ _ _ h => h) (Steady.off (by kernel_rfl)) ?_
      simp only [Act.put, List.getElem_toArray, List.getElem_cons_succ, List.getElem_cons_zero, List.setIfInBounds_toArray, List.set_cons_zero, List.set_cons_succ]
      refine wpAnyU_take (i := 13) (v := ?_) (by decide) rfl (by kernel_rfl) (by kernel_rfl) (by kernel_rfl) (fun _ _ _ h => h) (Steady.plain (by kernel_rfl) ?_) ?_
      rotate_left
      · intro b W hS
        have h0 := hS.2.2.cell 0
        have h1 := hS.2.2.cell 1
        have h2 := hS.2.2.cell 2
        have h3 := hS.2.2.cell 3
        have h4 := hS.2.2.cell 4
        go_simp
        first | done | with_reducible rfl
      simp only [Act.put, List.getElem_toArray, List.getElem_cons_succ, List.getElem_cons_zero, List.setIfInBounds_toArray, List.set_cons_zero, List.set_cons_succ]
      refine wpAnyU_take (i := 14) (v := ?_) (by decide) rfl (by kernel_rfl) (by kernel_rfl) (by kernel_rfl) (fun _ _ _ h => h) (Steady.plain (by kernel_rfl) ?_) ?_
      rotate_left
      · intro b W hS
        have h0 := hS.2.2.cell 0
        have h1 := hS.2.2.cell 1
        have h2 := hS.2.2.cell 2
        have h3 := hS.2.2.cell 3
        have h4 := hS.2.2.cell 4
        go_simp
        first | done | with_reducible rfl
      simp only [Act.put, List.getElem_toArray, List.getElem_cons_succ, List.getElem_cons_zero, List.setIfInBounds_toArray, List.set_cons_zero, List.set_cons_succ]
      refine wpAnyU_take (i := 15) (by decide) rfl (by kernel_rfl) (by kernel_rfl) (by kernel_rfl) (fun _ _ _ h => h) (Steady.off (by kernel_rfl)) ?_
      simp only [Act.put, List.getElem_toArray, List.getElem_cons_succ, List.getElem_cons_zero, List.setIfInBounds_toArray, List.set_cons_zero, List.set_cons_succ]
      refine wpAnyU_take (i := 16) (by decide) rfl (by kernel_rfl) (by kernel_rfl) (by kernel_rfl) (fun _ _ _ h => h) (Steady.off (by kernel_rfl)) ?_
      simp only [Act.put, List.getElem_toArray, List.getElem_cons_succ, List.getElem_cons_zero, List.setIfInBounds_toArray, List.set_cons_zero, List.set_cons_succ]
      refine wpAnyU_take (i := 17) (by decide) rfl (by kernel_rfl) (by kernel_rfl) (by kernel_rfl) (fun _ _ _ h => h) (Steady.off (by kernel_rfl)) ?_
      simp only [Act.put, List.getElem_toArray, List.getElem_cons_succ, List.getElem_cons_zero, List.setIfInBounds_toArray, List.set_cons_zero, List.set_cons_succ]
      refine wpAnyU_take (i := 18) (v := ?_) (by decide) rfl (by kernel_rfl) (by kernel_rfl) (by kernel_rfl) (fun _ _ _ h => h) (Steady.plain (by kernel_rfl) ?_) ?_
      rotate_left
      · intro b W hS
        have h0 := hS.2.2.cell 0
        have h1 := hS.2.2.cell 1
        have h2 := hS.2.2.cell 2
        have h3 := hS.2.2.cell 3
        have h4 := hS.2.2.cell 4
        go_simp
        first | done | with_reducible rfl
      simp only [Act.put, List.getElem_toArray, List.getElem_cons_succ, List.getElem_cons_zero, List.setIfInBounds_toArray, List.set_cons_zero, List.set_cons_succ]
      refine wpAnyU_take (i := 19) (v := ?_) (by decide) rfl (by kernel_rfl) (by kernel_rfl) (by kernel_rfl) (fun _ _ _ h => h) (Steady.plain (by kernel_rfl) ?_) ?_
      rotate_left
      · intro b W hS
        have h0 := hS.2.2.cell 0
        have h1 := hS.2.2.cell 1
        have h2 := hS.2.2.cell 2
        have h3 := hS.2.2.cell 3
        have h4 := hS.2.2.cell 4
        go_simp
        first | done | with_reducible rfl
      simp only [Act.put, List.getElem_toArray, List.getElem_cons_succ, List.getElem_cons_zero, List.setIfInBounds_toArray, List.set_cons_zero, List.set_cons_succ]
      refine wpAnyU_take (i := 20) (by decide) rfl (by kernel_rfl) (by kernel_rfl) (by kernel_rfl) (fun _ _ _ h => h) (Steady.off (by kernel_rfl)) ?_
      simp only [Act.put, List.getElem_toArray, List.getElem_cons_succ, List.getElem_cons_zero, List.setIfInBounds_toArray, List.set_cons_zero, List.set_cons_succ]
      refine wpAnyU_take (i := 21) (by decide) rfl (by kernel_rfl) (by kernel_rfl) (by kernel_rfl) (fun _ _ _ h => h) (Steady.off (by kernel_rfl)) ?_
      simp only [Act.put, List.getElem_toArray, List.getElem_cons_succ, List.getElem_cons_zero, List.setIfInBounds_toArray, List.set_cons_zero, List.set_cons_succ]
      refine wpAnyU_take (i := 22) (by decide) rfl (by kernel_rfl) (by kernel_rfl) (by kernel_rfl) (fun _ _ _ h => h) (Steady.off (by kernel_rfl)) ?_
      simp only [Act.put, List.getElem_toArray, List.getElem_cons_succ, List.getElem_cons_zero, List.setIfInBounds_toArray, List.set_cons_zero, List.set_cons_succ]
      refine wpAnyU_take (i := 23) (by decide) rfl (by kernel_rfl) (by kernel_rfl) (by kernel_rfl) (fun _ _ _ h => h) (Steady.off (by kernel_rfl)) ?_
      simp only [Act.put, List.getElem_toArray, List.getElem_cons_succ, List.getElem_cons_zero, List.setIfInBounds_toArray, List.set_cons_zero, List.set_cons_succ]
      refine wpAnyU_take (i := 24) (by decide) rfl (by kernel_rfl) (by kernel_rfl) (by kernel_rfl) (fun _ _ _ h => h) (Steady.off (by kernel_rfl)) ?_
      simp only [Act.put, List.getElem_toArray, List.getElem_cons_succ, List.getElem_cons_zero, List.setIfInBounds_toArray, List.set_cons_zero, List.set_cons_succ]
      refine wpAnyU_take (i := 25) (by decide) rfl (by kernel_rfl) (by kernel_rfl) (by kernel_rfl) (fun _ _ _ h => h) (Steady.off (by kernel_rfl)) ?_
      simp only [Act.put, List.getElem_toArray, List.getElem_cons_succ, List.getElem_cons_zero, List.setIfInBounds_toArray, List.set_cons_zero, List.set_cons_succ]
      refine wpAnyU_take (i := 26) (v := ?_) (by decide) rfl (by kernel_rfl) (by kernel_rfl) (by kernel_rfl) (fun _ _ _ h => h) (Steady.plain (by kernel_rfl) ?_) ?_
      rotate_left
      · intro b W hS
        have h0 := hS.2.2.cell 0
        have h1 := hS.2.2.cell 1
        have h2 := hS.2.2.cell 2
        have h3 := hS.2.2.cell 3
        have h4 := hS.2.2.cell 4
        go_simp
        first | done | with_reducible rfl
      simp only [Act.put, List.getElem_toArray, List.getElem_cons_succ, List.getElem_cons_zero, List.setIfInBounds_toArray, List.set_cons_zero, List.set_cons_succ]
      refine wpAnyU_take (i := 27) (v := ?_) (by decide) rfl (by kernel_rfl) (by kernel_rfl) (by kernel_rfl) (fun _ _ _ h => h) (Steady.plain (by kernel_rfl) ?_) ?_
      rotate_left
      · intro b W hS
        have h0 := hS.2.2.cell 0
        have h1 := hS.2.2.cell 1
        have h2 := hS.2.2.cell 2
        have h3 := hS.2.2.cell 3
        have h4 := hS.2.2.cell 4
        go_simp
        first | done | with_reducible rfl
      simp only [Act.put, List.getElem_toArray, List.getElem_cons_succ, List.getElem_cons_zero, List.setIfInBounds_toArray, List.set_cons_zero, List.set_cons_succ]
      refine wpAnyU_done (b := []) (by kernel_rfl) (by kernel_rfl) ?_ _
      intro w2 hS
      go_wp2_with fail
      go_ret
      exact ⟨rfl, hS.1⟩
  · obtain rfl : R = false := by rw [HQ2.out, decide_eq_false s1]; simp
    have d2 : decide (100 ≤ st) = false := decide_eq_false s1
    clear HQ2 s1
    go_enter Tryz.func48, Tryz.ntmps48
    go_wp2_with fail
    rw [← hW]
    clear hW
    refine (CF.out _ (HR.out.below hbW)).mono ?_
    rintro e w1 ⟨rfl, hb1⟩
    have hg1 := hg.below hb1
    have hbb := chain2 hbW hbW.size hb1
    clear hg hbW hb1
    go_wp2_with fail
    refine wp_region_U [] (by kernel_rfl) (BoxS w w.heap.size w.heap.size #[strV m, strV t, .int .i64 st, .int .i64 z, .slice ao L.length cap] 47) (b := []) (by kernel_rfl) (BoxS.drew (W := w1) ⟨hbb, hbb.size, hg1⟩) ?_
    refine wpAnyU_take (i := 0) (v := ?_) (by decide) rfl (by kernel_rfl) (by kernel_rfl) (by kernel_rfl) (fun _ _ _ h => h) (Steady.plain (by kernel_rfl) ?_) ?_
    rotate_left
    · intro b W hS
      have h0 := hS.2.2.cell 0
      have h1 := hS.2.2.cell 1
      have h2 := hS.2.2.cell 2
      have h3 := hS.2.2.cell 3
      have h4 := hS.2.2.cell 4
      go_simp
      first | done | with_reducible rfl
    simp only [Act.put, List.getElem_toArray, List.getElem_cons_zero, List.setIfInBounds_toArray, List.set_cons_zero, List.set_cons_succ]
    refine wpAnyU_take (i := 1) (v := ?_) (by decide) rfl (by kernel_rfl) (by kernel_rfl) (by kernel_rfl) (fun _ _ _ h => h) (Steady.plain (by kernel_rfl) ?_) ?_
    rotate_left
    · intro b W hS
      have h0 := hS.2.2.cell 0
      have h1 := hS.2.2.cell 1
      have h2 := hS.2.2.cell 2
      have h3 := hS.2.2.cell 3
      have h4 := hS.2.2.cell 4
      go_simp
      first | done | with_reducible rfl
    simp only [Act.put, List.getElem_toArray, List.getElem_cons_succ, List.getElem_cons_zero, List.setIfInBounds_toArray, List.set_cons_zero, List.set_cons_succ]
    refine wpAnyU_take (i := 2) (v := ?_) (by decide) rfl (by kernel_rfl) (by kernel_rfl) (by kernel_rfl) (fun _ _ _ h => h) (Steady.plain (by kernel_rfl) ?_) ?_
    rotate_left
    · intro b W hS
      have h0 := hS.2.2.cell 0
      have h1 := hS.2.2.cell 1
      have h2 := hS.2.2.cell 2
      have h3 := hS.2.2.cell 3
      have h4 := hS.2.2.cell 4
      go_simp
      first | done | with_reducible rfl
    simp only [Act.put, List.getElem_toArray, List.getElem_cons_succ, List.getElem_cons_zero, List.setIfInBounds_toArray, List.set_cons_zero, List.set_cons_succ]
    refine wpAnyU_take (i := 3) (v := ?_) (by decide) rfl (by kernel_rfl) (by kernel_rfl) (by kernel_rfl) (fun _ _ _ h => h) (Steady.plain (by kernel_rfl) ?_) ?_
    rotate_left
    · intro b W hS
      have h0 := hS.2.2.cell 0
      have h1 := hS.2.2.cell 1
      have h2 := hS.2.2.cell 2
      have h3 := hS.2.2.cell 3
      have h4 := hS.2.2.cell 4
      go_simp
      first | done | with_reducible rfl
    simp only [Act.put, List.getElem_toArray, List.getElem_cons_succ, List.getElem_cons_zero, List.setIfInBounds_toArray, List.set_cons_zero, List.set_cons_succ]
    refine wpAnyU_take (i := 4) (by decide) rfl (by kernel_rfl) (by kernel_rfl) (by kernel_rfl) (fun _ _ _ h => h) (Steady.off (by kernel_rfl)) ?_
    simp only [Act.put, List.getElem_toArray, List.getElem_cons_succ, List.getElem_cons_zero, List.setIfInBounds_toArray, List.set_cons_zero, List.set_cons_succ]
    refine wpAnyU_take (i := 5) (by decide) rfl (by kernel_rfl) (by kernel_rfl) (by kernel_rfl) (fun _ _ _ h => h) (Steady.off (by kernel_rfl)) ?_
    simp only [Act.put, List.getElem_toArray, List.getElem_cons_succ, List.getElem_cons_zero, List.setIfInBounds_toArray, List.set_cons_zero, List.set_cons_succ]
    refine wpAnyU_take (i := 6) (by decide) rfl (by kernel_rfl) (by kernel_rfl) (by kernel_rfl) (fun _ _ _ h => h) (Steady.off (by kernel_rfl)) ?_
    simp only [Act.put, List.getElem_toArray, List.getElem_cons_succ, List.getElem_cons_zero, List.setIfInBounds_toArray, List.set_cons_zero, List.set_cons_succ]
    refine wpAnyU_take (i := 7) (v := ?_) (by decide) rfl (by kernel_rfl) (by kernel_rfl) (by kernel_rfl) (fun _ _ _ h => h) (Steady.plain (by kernel_rfl) ?_) ?_
    rotate_left
    · intro b W hS
      have h0 := hS.2.2.cell 0
      have h1 := hS.2.2.cell 1
      have h2 := hS.2.2.cell 2
      have h3 := hS.2.2.cell 3
      have h4 := hS.2.2.cell 4
      go_simp
      first | done | with_reducible rfl
    simp only [Act.put, List.getElem_toArray, List.getElem_cons_succ, List.getElem_cons_zero, List.setIfInBounds_toArray, List.set_cons_zero, List.set_cons_succ]
    refine wpAnyU_take (i := 8) (v := ?_) (by decide) rfl (by kernel_rfl) (by kernel_rfl) (by kernel_rfl) (fun _ _ _ h => h) (Steady.plain (by kernel_rfl) ?_) ?_
    rotate_left
    · intro b W hS
      have h0 := hS.2.2.cell 0
      have h1 := hS.2.2.cell 1
      have h2 := hS.2.2.cell 2
      have h3 := hS.2.2.cell 3
      have h4 := hS.2.2.cell 4
      go_simp
      first | done | with_reducible rfl
    simp only [Act.put, List.getElem_toArray, List.getElem_cons_succ, List.getElem_cons_zero, List.setIfInBounds_toArray, List.set_cons_zero, List.set_cons_succ]
    refine wpAnyU_take (i := 9) (by decide) rfl (by kernel_rfl) (by kernel_rfl) (by kernel_rfl) (fun _ _ _ h => h) (Steady.off (by kernel_rfl)) ?_
    simp only [Act.put, List.getElem_toArray, List.getElem_cons_succ, List.getElem_cons_zero, List.setIfInBounds_toArray, List.set_cons_zero, List.set_cons_succ]
    refine wpAnyU_take (i := 10) (by decide) rfl (by kernel_rfl) (by kernel_rfl) (by kernel_rfl) (fun _ _ _ h => h) (Steady.off (by kernel_rfl)) ?_
    simp only [Act.put, List.getElem_toArray, List.getElem_cons_succ, List.getElem_cons_zero, List.setIfInBounds_toArray, List.set_cons_zero, List.set_cons_succ]
    refine wpAnyU_take (i := 11) (by decide) rfl (by kernel_rfl) (by kernel_rfl) (by kernel_rfl) (fun _ _ _ h => h) (Steady.off (by kernel_rfl)) ?_
    simp only [Act.put, List.getElem_toArray, List.getElem_cons_succ, List.getElem_cons_zero, List.setIfInBounds_toArray, List.set_cons_zero, List.set_cons_succ]
    refine wpAnyU_take (i := 12) (by decide) rfl (by kernel_rfl) (by kernel_rfl) (by kernel_rfl) (fun _ _ _ h => h) (Steady.off (by kernel_rfl)) ?_
    simp only [Act.put, List.getElem_toArray, List.getElem_cons_succ, List.getElem_cons_zero, List.setIfInBounds_toArray, List.set_cons_zero, List.set_cons_succ]
    refine wpAnyU_take (i := 13) (v := ?_) (by decide) rfl (by kernel_rfl) (by kernel_rfl) (by kernel_rfl) (fun _ _ _ h => h) (Steady.plain (by kernel_rfl) ?_) ?_
    rotate_left
    · intro b W hS
      have h0 := hS.2.2.cell 0
      have h1 := hS.2.2.cell 1
      have h2 := hS.2.2.cell 2
      have h3 := hS.2.2.cell 3
      have h4 := hS.2.2.cell 4
      go_simp
      first | done | with_reducible rfl
    simp only [Act.put, List.getElem_toArray, List.getElem_cons_succ, List.getElem_cons_zero, List.setIfInBounds_toArray, List.set_cons_zero, List.set_cons_succ]
    refine wpAnyU_take (i := 14) (v := ?_) (by decide) rfl (by kernel_rfl) (by kernel_rfl) (by kernel_rfl) (fun _ _ _ h => h) (Steady.plain (by kernel_rfl) ?_) ?_
    rotate_left
    · intro b W hS
      have h0 := hS.2.2.cell 0
      have h1 := hS.2.2.cell 1
      have h2 := hS.2.2.cell 2
      have h3 := hS.2.2.cell 3
      have h4 := hS.2.2.cell 4
      go_simp
      first | done | with_reducible rfl
    simp only [Act.put, List.getElem_toArray, List.getElem_cons_succ, List.getElem_cons_zero, List.setIfInBounds_toArray, List.set_cons_zero, List.set_cons_succ]
    refine wpAnyU_take (i := 15) (by decide) rfl (by kernel_rfl) (by kernel_rfl) (by kernel_rfl) (fun _ _ _ h => h) (Steady.off (by kernel_rfl)) ?_
    simp only [Act.put, List.getElem_toArray, List.getElem_cons_succ, List.getElem_cons_zero, List.setIfInBounds_toArray, List.set_cons_zero, List.set_cons_succ]
    refine wpAnyU_take (i := 16) (by decide) rfl (by kernel_rfl) (by kernel_rfl) (by kernel_rfl) (fun _ _ _ h => h) (Steady.off (by kernel_rfl)) ?_
    simp only [Act.put, List.getElem_toArray, List.getElem_cons_succ, List.getElem_cons_zero, List.setIfInBounds_toArray, List.set_cons_zero, List.set_cons_succ]
    refine wpAnyU_take (i := 17) (by decide) rfl (by kernel_rfl) (by kernel_rfl) (by kernel_rfl) (fun _ _ _ h => h) (Steady.off (by kernel_rfl)) ?_
    simp only [Act.put, List.getElem_toArray, List.getElem_cons_succ, List.getElem_cons_zero, List.setIfInBounds_toArray, List.set_cons_zero, List.set_cons_succ]
    refine wpAnyU_take (i := 18) (v := ?_) (by decide) rfl (by kernel_rfl) (by kernel_rfl) (by kernel_rfl) (fun _ _ _ h => h) (Steady.plain (by kernel_rfl) ?_) ?_
    rotate_left
    · intro b W hS
      have h0 := hS.2.2.cell 0
      have h1 := hS.2.2.cell 1
      have h2 := hS.2.2.cell 2
      have h3 := hS.2.2.cell 3
      have h4 := hS.2.2.cell 4
      go_simp
      first | done | with_reducible rfl
    simp only [Act.put, List.getElem_toArray, List.getElem_cons_succ, List.getElem_cons_zero, List.setIfInBounds_toArray, List.set_cons_zero, List.set_cons_succ]
    refine wpAnyU_take (i := 19) (v := ?_) (by decide) rfl (by kernel_rfl) (by kernel_rfl) (by kernel_rfl) (fun _ _ _ h => h) (Steady.plain (by kernel_rfl) ?_) ?_
    rotate_left
    · intro b W hS
      have h0 := hS.2.2.cell 0
      have h1 := hS.2.2.cell 1
      have h2 := hS.2.2.cell 2
      have h3 := hS.2.2.cell 3
      have h4 := hS.2.2.cell 4
      go_simp
      first | done | with_reducible rfl
    simp only [Act.put, List.getElem_toArray, List.getElem_cons_succ, List.getElem_cons_zero, List.setIfInBounds_toArray, List.set_cons_zero, List.set_cons_succ]
    refine wpAnyU_take (i := 20) (by decide) rfl (by kernel_rfl) (by kernel_rfl) (by kernel_rfl) (fun _ _ _ h => h) (Steady.off (by kernel_rfl)) ?_
    simp only [Act.put, List.getElem_toArray, List.getElem_cons_succ, List.getElem_cons_zero, List.setIfInBounds_toArray, List.set_cons_zero, List.set_cons_succ]
    refine wpAnyU_take (i := 21) (by decide) rfl (by kernel_rfl) (by kernel_rfl) (by kernel_rfl) (fun _ _ _ h => h) (Steady.off (by kernel_rfl)) ?_
    simp only [Act.put, List.getElem_toArray, List.getElem_cons_succ, List.getElem_cons_zero, List.setIfInBounds_toArray, List.set_cons_zero, List.set_cons_succ]
    refine wpAnyU_take (i := 22) (by decide) rfl (by kernel_rfl) (by kernel_rfl) (by kernel_rfl) (fun _ _ _ h => h) (Steady.off (by kernel_rfl)) ?_
    simp only [Act.put, List.getElem_toArray, List.getElem_cons_succ, List.getElem_cons_zero, List.setIfInBounds_toArray, List.set_cons_zero, List.set_cons_succ]
    refine wpAnyU_take (i := 23) (by decide) rfl (by kernel_rfl) (by kernel_rfl) (by kernel_rfl) (fun _ _ _ h => h) (Steady.off (by kernel_rfl)) ?_
    simp only [Act.put, List.getElem_toArray, List.getElem_cons_succ, List.getElem_cons_zero, List.setIfInBounds_toArray, List.set_cons_zero, List.set_cons_succ]
    refine wpAnyU_take (i := 24) (by decide) rfl (by kernel_rfl) (by kernel_rfl) (by kernel_rfl) (fun _ _ _ h => h) (Steady.off (by kernel_rfl)) ?_
    simp only [Act.put, List.getElem_toArray, List.getElem_cons_succ, List.getElem_cons_zero, List.setIfInBounds_toArray, List.set_cons_zero, List.set_cons_succ]
    refine wpAnyU_take (i := 25) (by decide) rfl (by kernel_rfl) (by kernel_rfl) (by kernel_rfl) (fun _ _ _ h => h) (Steady.off (by kernel_rfl)) ?_
    simp only [Act.put, List.getElem_toArray, List.getElem_cons_succ, List.getElem_cons_zero, List.setIfInBounds_toArray, List.set_cons_zero, List.set_cons_succ]
    refine wpAnyU_take (i := 26) (v := ?_) (by decide) rfl (by kernel_rfl) (by kernel_rfl) (by kernel_rfl) (fun _ _ _ h => h) (Steady.plain (by kernel_rfl) ?_) ?_
    rotate_left
    · intro b W hS
      have h0 := hS.2.2.cell 0
      have h1 := hS.2.2.cell 1
      have h2 := hS.2.2.cell 2
      have h3 := hS.2.2.cell 3
      have h4 := hS.2.2.cell 4
      go_simp
      first | done | with_reducible rfl
    simp only [Act.put, List.getElem_toArray, List.getElem_cons_succ, List.getElem_cons_zero, List.setIfInBounds_toArray, List.set_cons_zero, List.set_cons_succ]
    refine wpAnyU_take (i := 27) (v := ?_) (by decide) rfl (by kernel_rfl) (by kernel_rfl) (by kernel_rfl) (fun _ _ _ h => h) (Steady.plain (by kernel_rfl) ?_) ?_
    rotate_left
    · intro b W hS
      have h0 := hS.2.2.cell 0
      have h1 := hS.2.2.cell 1
      have h2 := hS.2.2.cell 2
      have h3 := hS.2.2.cell 3
      have h4 := hS.2.2.cell 4
      go_simp
      first | done | with_reducible rfl
    simp only [Act.put, List.getElem_toArray, List.getElem_cons_succ, List.getElem_cons_zero, List.setIfInBounds_toArray, List.set_cons_zero, List.set_cons_succ]
    refine wpAnyU_done (b := []) (by kernel_rfl) (by kernel_rfl) ?_ _
    intro w2 hS
    go_wp2_with fail
    go_ret
    exact ⟨rfl, hS.1⟩
end Go.Proofs.YtongceljdgmbdaaGreatDoor
