/-
  Contracts of package head: ShowResponse.
-/
import Derived.Test.YtongceljdgmbdaaGreatDoorW7f04
import Derived.Test.YtongceljdgmbdaaGreatDoorW7f13
import Derived.Test.YtongceljdgmbdaaGreatDoorW7fResI

namespace Go.Proofs.YtongceljdgmbdaaGreatDoor
open Go.RowKit Go.Pantry

set_option maxRecDepth 100000 in
set_option maxHeartbeats 4000000 in
theorem ShowResponse_no (st : Int) (m : List UInt8) (z : Int) (v : Value) (L : List Fld) (w : World) (hm : m.length ≤ 100) (hr : Reads2 w v L) (hk : okFs L) (hq : rightS st m z L = false) :
    Calls Tryz.prog 52 #[.agg #[.int .i64 st, strV m, .int .i64 z, v]] w fun e w' => e = .returned (.tuple #[strV [], .int .i64 10]) ∧ Below w.heap.size w w' := by
  obtain ⟨ao, cap, rfl⟩ := hr.form
  have cr := fun W h => sRight_any st m z (.slice ao L.length cap) L W (by omega) h hk
  rw [hq] at cr
  have CR := hid cr
  have HR := hid hr
  clear cr hr hq
  go_enter Tryz.func52, Tryz.ntmps52
  go_wp2_with fail
  refine (CR.out _ (HR.out.below (below_alloc _ _))).mono ?_
  rintro e w1 ⟨rfl, hb1⟩
  go_wp2_with fail
  go_ret2
  exact ⟨rfl, (below_alloc _ _).trans (hb1.mono (by simp))⟩
set_option maxRecDepth 100000 in
set_option maxHeartbeats 4000000 in
theorem ShowResponse_yes (st : Nat) (m : List UInt8) (z : Int) (v : Value) (L : List Fld) (w : World) (hm : m.length ≤ 100) (hr : Reads2 w v L) (hk : okFs L) (hz : 0 ≤ z) (hs1 : 100 ≤ st) (hs2 : st ≤ 599) (ht : Tab10 w) (hq : rightS (st : Int) m z L = true) :
    Calls Tryz.prog 52 #[.agg #[.int .i64 (st : Int), strV m, .int .i64 z, v]] w fun e w' => e = .returned (.tuple #[strV (if 4096 < (textH (resLine ⟨m, [], st, z.toNat, []⟩) L).length then [] else textH (resLine ⟨m, [], st, z.toNat, []⟩) L), .int .i64 (if 4096 < (textH (resLine ⟨m, [], st, z.toNat, []⟩) L).length then 22 else 0)]) ∧ Below w.heap.size w w' := by
  obtain ⟨ao, cap, rfl⟩ := hr.form
  have cr := fun W h => sRight_any (st : Int) m z (.slice ao L.length cap) L W (by omega) h hk
  rw [hq] at cr
  have hvl : (verL z.toNat).length = 8 := by unfold verL; split <;> rfl
  have hdl : (dig3 st).length = 3 := rfl
  obtain ⟨X1, e1, l1, s1⟩ := sum_lists (P := Tryz.prog) (verL z.toNat) [32] (by omega) (by decide)
  obtain ⟨X2, e2, l2, s2⟩ := sum_lists (P := Tryz.prog) X1 (dig3 st) (by rw [l1]; simp; omega) (by omega)
  obtain ⟨X3, e3, l3, s3⟩ := sum_lists (P := Tryz.prog) X2 [32] (by rw [l2, l1]; simp; omega) (by decide)
  obtain ⟨X4, e4, l4, s4⟩ := sum_lists (P := Tryz.prog) X3 m (by rw [l3, l2, l1]; simp; omega) (by omega)
  have hX : X4 = (resLine ⟨m, [], st, z.toNat, []⟩) := by rw [e4, e3, e2, e1]; simp [resLine]
  have hXl : X4.length ≤ 100000 := by rw [l4, l3, l2, l1, hvl, hdl]; simp; omega
  rw [← hX]
  have cs := fun W h => show_any z (.slice ao L.length cap) L X4 W h hk hXl
  have cv := fun W => version_any z ao L.length cap W hz
  have ci := fun W h => Itoa_any st hs1 hs2 W h
  obtain ⟨R1, hR1⟩ : ∃ x, (if 4096 < (textH X4 L).length then ([] : List UInt8) else textH X4 L) = x := ⟨_, rfl⟩
  obtain ⟨R2, hR2⟩ : ∃ x, (if 4096 < (textH X4 L).length then (22 : Int) else 0) = x := ⟨_, rfl⟩
  rw [hR1, hR2] at cs ⊢
  have CR := hid cr
  have CS := hid cs
  have CV := hid cv
  have CI := hid ci
  have HR := hid hr
  obtain ⟨W, hW⟩ : ∃ W, W = w.alloc (.cells #[.int .i64 (st : Int), strV m, .int .i64 z, .slice ao L.length cap] 53) := ⟨_, rfl⟩
  have hbW : Below w.heap.size w W := by rw [hW]; exact below_alloc _ _
  have hg : rowIs W w.heap.size #[.int .i64 (st : Int), strV m, .int .i64 z, .slice ao L.length cap] 53 := by rw [hW]; exact rowIs_new _ _ _
  have HT := hid ht
  clear cr cs cv ci hr hq hR1 hR2 hX hXl e1 e2 e3 e4 l1 l2 l3 l4 hvl hdl hz ht hs1 hs2
  generalize dig3 st = D at s2 CI
  go_enter Tryz.func52, Tryz.ntmps52
  go_wp2_with fail
  rw [← hW]
  clear hW
  refine (CR.out _ (HR.out.below hbW)).mono ?_
  rintro e w1 ⟨rfl, hb1⟩
  have hg1 := hg.below hb1
  have hbb := chain2 hbW hbW.size hb1
  clear hg hbW hb1 CR
  go_wp2_with fail
  refine wp_region_U [] (by kernel_rfl) (BoxS w w.heap.size w.heap.size #[.int .i64 (st : Int), strV m, .int .i64 z, .slice ao L.length cap] 53) (b := []) (by kernel_rfl) (BoxS.drew (W := w1) ⟨hbb, hbb.size, hg1⟩) ?_
  refine wpAnyU_take (i := 0) (v := ?_) (by decide) rfl (by kernel_rfl) (by kernel_rfl) (by kernel_rfl) (fun _ _ _ h => h) (Steady.plain (by kernel_rfl) ?_) ?_
  rotate_left
  · intro b W hS
    have h0 := hS.2.2.cell 0
    have h1 := hS.2.2.cell 1
    have h2 := hS.2.2.cell 2
    have h3 := hS.2.2.cell 3
    go_simp
    first | done | with_reducible rfl
  simp only [Act.put, List.getElem_toArray, List.getElem_cons_zero, List.setIfInBounds_toArray, List.set_cons_zero, List.set_cons_succ]
  refine wpAnyU_take (i := 1) (v := ?_) (by decide) rfl (by kernel_rfl) (by kernel_rfl) (by kernel_rfl) (fun _ _ _ h => h) (Steady.plain (by kernel_rfl) ?_) ?_
  rotate_left
  · intro b W hS
    have h0 := hS.2.2.cell 0
    have h1 := hS.2.2.cell 1
    have h2 := hS.2.2.cell 2
    have h3 := hS.2.2.cell 3
    go_simp
    first | done | with_reducible rfl
  simp only [Act.put, List.getElem_toArray, List.getElem_cons_succ, List.getElem_cons_zero, List.setIfInBounds_toArray, List.set_cons_zero, List.set_cons_succ]
  refine wpAnyU_take (i := 2) (v := ?_) (by decide) rfl (by kernel_rfl) (by kernel_rfl) (by kernel_rfl) (fun _ _ _ h => h) (Steady.plain (by kernel_rfl) ?_) ?_
  rotate_left
  · intro b W hS
    have h0 := hS.2.2.cell 0
    have h1 := hS.2.2.cell 1
    have h2 := hS.2.2.cell 2
    have h3 := hS.2.2.cell 3
    go_simp
    first | done | with_reducible rfl
  simp only [Act.put, List.getElem_toArray, List.getElem_cons_succ, List.getElem_cons_zero, List.setIfInBounds_toArray, List.set_cons_zero, List.set_cons_succ]
  refine wpAnyU_take (i := 3) (v := ?_) (by decide) rfl (by kernel_rfl) (by kernel_rfl) (by kernel_rfl) (fun _ _ _ h => h) (Steady.plain (by kernel_rfl) ?_) ?_
  rotate_left
  · intro b W hS
    have h0 := hS.2.2.cell 0
    have h1 := hS.2.2.cell 1
    have h2 := hS.2.2.cell 2
    have h3 := hS.2.2.cell 3
    go_simp
    first | done | with_reducible rfl
  simp only [Act.put, List.getElem_toArray, List.getElem_cons_succ, List.getElem_cons_zero, List.setIfInBounds_toArray, List.set_cons_zero, List.set_cons_succ]
  refine wpAnyU_take (i := 4) (v := strV (verL z.toNat)) (by decide) rfl (by kernel_rfl) (by kernel_rfl) (by kernel_rfl) (fun _ _ _ h => h) (Steady.call (f := 74) (args := #[.agg #[.int .i64 z, .slice ao L.length cap]]) (by kernel_rfl) (fun _ => by kernel_rfl) ?_) ?_
  · intro b W hS
    refine (CV.out W).mono ?_
    rintro e w' ⟨he, hb⟩
    exact ⟨he, hS.below hb⟩
  simp only [Act.put, List.getElem_toArray, List.getElem_cons_succ, List.getElem_cons_zero, List.setIfInBounds_toArray, List.set_cons_zero, List.set_cons_succ]
  refine wpAnyU_take (i := 5) (v := ?_) (by decide) rfl (by kernel_rfl) (by kernel_rfl) (by kernel_rfl) (fun _ _ _ h => h) (Steady.plain (by kernel_rfl) ?_) ?_
  rotate_left
  · intro b W hS
    have h0 := hS.2.2.cell 0
    have h1 := hS.2.2.cell 1
    have h2 := hS.2.2.cell 2
    have h3 := hS.2.2.cell 3
    go_simp
    first | done | with_reducible rfl
  simp only [Act.put, List.getElem_toArray, List.getElem_cons_succ, List.getElem_cons_zero, List.setIfInBounds_toArray, List.set_cons_zero, List.set_cons_succ]
  refine wpAnyU_take (i := 6) (v := ?_) (by decide) rfl (by kernel_rfl) (by kernel_rfl) (by kernel_rfl) (fun _ _ _ h => h) (Steady.plain (by kernel_rfl) ?_) ?_
  rotate_left
  · intro b W hS
    have h0 := hS.2.2.cell 0
    have h1 := hS.2.2.cell 1
    have h2 := hS.2.2.cell 2
    have h3 := hS.2.2.cell 3
    go_simp
    first | done | with_reducible rfl
  simp only [Act.put, List.getElem_toArray, List.getElem_cons_succ, List.getElem_cons_zero, List.setIfInBounds_toArray, List.set_cons_zero, List.set_cons_succ]
  refine wpAnyU_take (i := 7) (v := ?_) (by decide) rfl (by kernel_rfl) (by kernel_rfl) (by kernel_rfl) (fun _ _ _ h => h) (Steady.plain (by kernel_rfl) ?_) ?_
  rotate_left
  · intro b W hS
    have h0 := hS.2.2.cell 0
    have h1 := hS.2.2.cell 1
    have h2 := hS.2.2.cell 2
    have h3 := hS.2.2.cell 3
    go_simp
    first | done | with_reducible rfl
  simp only [Act.put, List.getElem_toArray, List.getElem_cons_succ, List.getElem_cons_zero, List.setIfInBounds_toArray, List.set_cons_zero, List.set_cons_succ]
  refine wpAnyU_take (i := 8) (v := strV D) (by decide) rfl (by kernel_rfl) (by kernel_rfl) (by kernel_rfl) (fun _ _ _ h => h) (Steady.call (f := 71) (args := #[.int .i64 (st : Int)]) (by kernel_rfl) (fun _ => by kernel_rfl) ?_) ?_
  · intro b W hS
    refine (CI.out W (HT.out.below hS.1)).mono ?_
    rintro e w' ⟨he, hb⟩
    exact ⟨he, hS.below hb⟩
  simp only [Act.put, List.getElem_toArray, List.getElem_cons_succ, List.getElem_cons_zero, List.setIfInBounds_toArray, List.set_cons_zero, List.set_cons_succ]
  refine wpAnyU_take (i := 9) (v := ?_) (by decide) rfl (by kernel_rfl) (by kernel_rfl) (by kernel_rfl) (fun _ _ _ h => h) (Steady.plain (by kernel_rfl) ?_) ?_
  rotate_left
  · intro b W hS
    have h0 := hS.2.2.cell 0
    have h1 := hS.2.2.cell 1
    have h2 := hS.2.2.cell 2
    have h3 := hS.2.2.cell 3
    go_simp
    first | done | with_reducible rfl
  simp only [Act.put, List.getElem_toArray, List.getElem_cons_succ, List.getElem_cons_zero, List.setIfInBounds_toArray, List.set_cons_zero, List.set_cons_succ]
  refine wpAnyU_take (i := 10) (v := ?_) (by decide) rfl (by kernel_rfl) (by kernel_rfl) (by kernel_rfl) (fun _ _ _ h => h) (Steady.plain (by kernel_rfl) ?_) ?_
  rotate_left
  · intro b W hS
    have h0 := hS.2.2.cell 0
    have h1 := hS.2.2.cell 1
    have h2 := hS.2.2.cell 2
    have h3 := hS.2.2.cell 3
    go_simp
    first | done | with_reducible rfl
  simp only [Act.put, List.getElem_toArray, List.getElem_cons_succ, List.getElem_cons_zero, List.setIfInBounds_toArray, List.set_cons_zero, List.set_cons_succ]
  refine wpAnyU_take (i := 11) (v := ?_) (by decide) rfl (by kernel_rfl) (by kernel_rfl) (by kernel_rfl) (fun _ _ _ h => h) (Steady.plain (by kernel_rfl) ?_) ?_
  rotate_left
  · intro b W hS
    have h0 := hS.2.2.cell 0
    have h1 := hS.2.2.cell 1
    have h2 := hS.2.2.cell 2
    have h3 := hS.2.2.cell 3
    go_simp
    first | done | with_reducible rfl
  simp only [Act.put, List.getElem_toArray, List.getElem_cons_succ, List.getElem_cons_zero, List.setIfInBounds_toArray, List.set_cons_zero, List.set_cons_succ]
  refine wpAnyU_take (i := 12) (v := ?_) (by decide) rfl (by kernel_rfl) (by kernel_rfl) (by kernel_rfl) (fun _ _ _ h => h) (Steady.plain (by kernel_rfl) ?_) ?_
  rotate_left
  · intro b W hS
    have h0 := hS.2.2.cell 0
    have h1 := hS.2.2.cell 1
    have h2 := hS.2.2.cell 2
    have h3 := hS.2.2.cell 3
    go_simp
    first | done | with_reducible rfl
  simp only [Act.put, List.getElem_toArray, List.getElem_cons_succ, List.getElem_cons_zero, List.setIfInBounds_toArray, List.set_cons_zero, List.set_cons_succ]
  refine wpAnyU_take (i := 13) (v := ?_) (by decide) rfl (by kernel_rfl) (by kernel_rfl) (by kernel_rfl) (fun _ _ _ h => h) (Steady.plain (by kernel_rfl) ?_) ?_
  rotate_left
  · intro b W hS
    have h0 := hS.2.2.cell 0
    have h1 := hS.2.2.cell 1
    have h2 := hS.2.2.cell 2
    have h3 := hS.2.2.cell 3
    go_simp
    first | done | with_reducible rfl
  simp only [Act.put, List.getElem_toArray, List.getElem_cons_succ, List.getElem_cons_zero, List.setIfInBounds_toArray, List.set_cons_zero, List.set_cons_succ]
  refine wpAnyU_take (i := 14) (v := .tuple #[strV R1, .int .i64 R2]) (by decide) rfl (by kernel_rfl) (by kernel_rfl) (by kernel_rfl) (fun _ _ _ h => h) (Steady.call (f := 73) (args := #[.agg #[.int .i64 z, .slice ao L.length cap], strV X4]) (by kernel_rfl) (fun _ => by kernel_rfl) ?_) ?_
  · intro b W hS
    refine (CS.out W (HR.out.below hS.1)).mono ?_
    rintro e w' ⟨he, hb⟩
    exact ⟨he, hS.below hb⟩
  simp only [Act.put, List.getElem_toArray, List.getElem_cons_succ, List.getElem_cons_zero, List.setIfInBounds_toArray, List.set_cons_zero, List.set_cons_succ]
  refine wpAnyU_take (i := 15) (v := ?_) (by decide) rfl (by kernel_rfl) (by kernel_rfl) (by kernel_rfl) (fun _ _ _ h => h) (Steady.plain (by kernel_rfl) ?_) ?_
  rotate_left
  · intro b W hS
    have h0 := hS.2.2.cell 0
    have h1 := hS.2.2.cell 1
    have h2 := hS.2.2.cell 2
    have h3 := hS.2.2.cell 3
    go_simp
    first | done | with_reducible rfl
  simp only [Act.put, List.getElem_toArray, List.getElem_cons_succ, List.getElem_cons_zero, List.setIfInBounds_toArray, List.set_cons_zero, List.set_cons_succ]
  refine wpAnyU_take (i := 16) (v := ?_) (by decide) rfl (by kernel_rfl) (by kernel_rfl) (by kernel_rfl) (fun _ _ _ h => h) (Steady.plain (by kernel_rfl) ?_) ?_
  rotate_left
  · intro b W hS
    have h0 := hS.2.2.cell 0
    have h1 := hS.2.2.cell 1
    have h2 := hS.2.2.cell 2
    have h3 := hS.2.2.cell 3
    go_simp
    first | done | with_reducible rfl
  simp only [Act.put, List.getElem_toArray, List.getElem_cons_succ, List.getElem_cons_zero, List.setIfInBounds_toArray, List.set_cons_zero, List.set_cons_succ]
  refine wpAnyU_take (i := 17) (v := ?_) (by decide) rfl (by kernel_rfl) (by kernel_rfl) (by kernel_rfl) (fun _ _ _ h => h) (Steady.plain (by kernel_rfl) ?_) ?_
  rotate_left
  · intro b W hS
    have h0 := hS.2.2.cell 0
    have h1 := hS.2.2.cell 1
    have h2 := hS.2.2.cell 2
    have h3 := hS.2.2.cell 3
    go_simp
    first | done | with_reducible rfl
  simp only [Act.put, List.getElem_toArray, List.getElem_cons_succ, List.getElem_cons_zero, List.setIfInBounds_toArray, List.set_cons_zero, List.set_cons_succ]
  refine wpAnyU_take (i := 18) (v := ?_) (by decide) rfl (by kernel_rfl) (by kernel_rfl) (by kernel_rfl) (fun _ _ _ h => h) (Steady.plain (by kernel_rfl) ?_) ?_
  rotate_left
  · intro b W hS
    have h0 := hS.2.2.cell 0
    have h1 := hS.2.2.cell 1
    have h2 := hS.2.2.cell 2
    have h3 := hS.2.2.cell 3
    go_simp
    first | done | with_reducible rfl
  simp only [Act.put, List.getElem_toArray, List.getElem_cons_succ, List.getElem_cons_zero, List.setIfInBounds_toArray, List.set_cons_zero, List.set_cons_succ]
  refine wpAnyU_done (b := []) (by kernel_rfl) (by kernel_rfl) ?_ _
  intro w' hS
  go_wp2_with fail
  go_ret2
  exact ⟨rfl, hS.1⟩
end Go.Proofs.YtongceljdgmbdaaGreatDoor
