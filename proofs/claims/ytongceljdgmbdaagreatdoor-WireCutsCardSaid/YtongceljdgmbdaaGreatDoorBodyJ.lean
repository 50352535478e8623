/-
  Contracts of package body: OfRequest, OfResponse.
-/
import Derived.Test.YtongceljdgmbdaaGreatDoorBodyI
namespace Go.Proofs.YtongceljdgmbdaaGreatDoor
open Go.RowKit Go.Pantry

set_option maxRecDepth 100000 in
set_option maxHeartbeats 8000000 in
theorem OfRequest_any (m t : List UInt8) (z : Int) (v : Value) (L : List Fld) (w : World) (hr : Reads2 w v L) (hk : okFs L) :
    Calls Tryz.prog 30 #[.agg #[strV m, strV t, .int .i64 z, v]] w fun e w' => FrameIs (frameX z 0 L) e ∧ Below w.heap.size w w' := by
  obtain ⟨ao, cap, rfl⟩ := hr.form
  obtain ⟨W, hW⟩ : ∃ W, W = (w.alloc (.cells #[strV m, strV t, .int .i64 z, .slice ao L.length cap] 40)).alloc (.cells #[.int .i64 0, .int .i64 0] 96) := ⟨_, rfl⟩
  have hb0 : Below w.heap.size w W := by rw [hW]; exact (below_alloc _ _).alloc (by simp) _
  have hg0 : rowIs W w.heap.size #[strV m, strV t, .int .i64 z, .slice ao L.length cap] 40 := by rw [hW]; exact (rowIs_new _ _ _).below (below_alloc _ _)
  have hr0 : rowIs W (w.heap.size + 1) #[.int .i64 0, .int .i64 0] 96 := by rw [hW]; exact rowIs_new_at _ _ _ _ (by simp)
  have e0 := hg0.cell 0
  have e1 := hg0.cell 1
  have e2 := hg0.cell 2
  have e3 := hg0.cell 3
  rw [hW] at e0 e1 e2 e3
  have C1 := hid (fun W h => frameOf_any z 0 (.slice ao L.length cap) L W h hk)
  have HR := hid hr
  clear hr hk
  go_enter Tryz.func30, Tryz.ntmps30
  go_wp2_with fail
  rw [← hW]
  clear hW e0 e1 e2 e3
  refine (C1.out _ (HR.out.below hb0)).mono ?_
  rintro e w1 ⟨hf, hb1⟩
  obtain ⟨t1, t2, t3, ht, rfl⟩ := hf.form
  have hr1 := hr0.below hb1
  have hbA := chain2 hb0 hb0.size hb1
  clear hg0 hr0 hb0 hb1 C1 hf
  go_wp2_with (refine wpList_store_row rfl 96 _ _ rfl (w.heap.size + 1) _ rfl rfl 96 #[.int .i64 0, .int .i64 0] hr1 infoFrS rfl (oneF t1 t2) ?_)
  refine bodyPost_ret (results_row2 Tryz.results30 _ _ (w.heap.size + 1) _ rfl (hr1.setRow _) Tryz.underlying96 rfl infoFrS) rfl ?_
  exact ⟨by unfold FrameIs; rw [ht]; rfl, below_setRow hbA (Nat.le_succ _) _⟩
set_option maxRecDepth 100000 in
set_option maxHeartbeats 8000000 in
theorem OfResponse_any (mt m : List UInt8) (st z : Int) (v : Value) (L : List Fld) (w : World) (hr : Reads2 w v L) (hk : okFs L) :
    Calls Tryz.prog 39 #[strV mt, .agg #[.int .i64 st, strV m, .int .i64 z, v]] w fun e w' => FrameIs (if bareX (mt == [72, 69, 65, 68]) st then .ok (0, 0) else frameX z 3 L) e ∧ Below w.heap.size w w' := by
  obtain ⟨ao, cap, rfl⟩ := hr.form
  obtain ⟨W, hW⟩ : ∃ W, W = (w.alloc (.cells #[.int .i64 st, strV m, .int .i64 z, .slice ao L.length cap] 53)).alloc (.cells #[.int .i64 0, .int .i64 0] 96) := ⟨_, rfl⟩
  have hb0 : Below w.heap.size w W := by rw [hW]; exact (below_alloc _ _).alloc (by simp) _
  have hg0 : rowIs W w.heap.size #[.int .i64 st, strV m, .int .i64 z, .slice ao L.length cap] 53 := by rw [hW]; exact (rowIs_new _ _ _).below (below_alloc _ _)
  have hr0 : rowIs W (w.heap.size + 1) #[.int .i64 0, .int .i64 0] 96 := by rw [hW]; exact rowIs_new_at _ _ _ _ (by simp)
  have e0 := hg0.cell 0
  have e1 := hg0.cell 1
  have e2 := hg0.cell 2
  have e3 := hg0.cell 3
  have C1 := hid (fun W h => frameOf_any z 3 (.slice ao L.length cap) L W h hk)
  have c0 := fun W => bare_any st W
  have hbx : bareX (mt == [72, 69, 65, 68]) st = ((mt == [72, 69, 65, 68]) || (decide (st < 200) || st == 204 || st == 304)) := rfl
  obtain ⟨q2, hq2⟩ : ∃ q, (decide (st < 200) || st == 204 || st == 304) = q := ⟨_, rfl⟩
  rw [hq2] at hbx c0
  have HR := hid hr
  have C0 := hid c0
  clear hr hk c0 hq2
  cases hq1 : (mt == [72, 69, 65, 68]) with
  | true =>
    rw [hq1, Bool.true_or] at hbx
    rw [hbx, if_pos rfl]
    rw [hW] at e0 e1 e2 e3
    go_enter Tryz.func39, Tryz.ntmps39
    go_wp2_with fail
    rw [← hW]
    refine bodyPost_ret (results_row2 Tryz.results39 _ _ (w.heap.size + 1) _ rfl hr0 Tryz.underlying96 rfl infoFrS) rfl ?_
    exact ⟨rfl, hb0⟩
  | false =>
    rw [hq1, Bool.false_or] at hbx
    rw [hbx]
    have h0 : W.cell? ⟨w.heap.size, 0, none⟩ = some (.int .i64 st) := e0
    rw [hW] at e0 e1 e2 e3
    cases q2 with
    | true =>
      go_enter Tryz.func39, Tryz.ntmps39
      go_wp2_with fail
      rw [← hW]
      clear hW e0 e1 e2 e3
      refine (C0.out _).mono ?_
      rintro e w1 ⟨rfl, rfl⟩
      go_wp2_with (refine wpList_store_row rfl 96 _ _ rfl (w.heap.size + 1) _ rfl rfl 96 #[.int .i64 0, .int .i64 0] hr0 infoFrS rfl (oneF 0 0) ?_)
      refine bodyPost_ret (results_row2 Tryz.results39 _ _ (w.heap.size + 1) _ rfl (hr0.setRow _) Tryz.underlying96 rfl infoFrS) rfl ?_
      exact ⟨rfl, below_setRow hb0 (Nat.le_succ _) _⟩
    | false =>
      have k0 := hg0.cell 0
      have k1 := hg0.cell 1
      have k2 := hg0.cell 2
      have k3 := hg0.cell 3
      go_enter Tryz.func39, Tryz.ntmps39
      go_wp2_with fail
      rw [← hW]
      clear hW e0 e1 e2 e3
      refine (C0.out _).mono ?_
      rintro e w1 ⟨rfl, rfl⟩
      go_wp2_with fail
      refine (C1.out _ (HR.out.below hb0)).mono ?_
      rintro e w1 ⟨hf, hb1⟩
      obtain ⟨t1, t2, t3, ht, rfl⟩ := hf.form
      have hr1 := hr0.below hb1
      have hbA := chain2 hb0 hb0.size hb1
      clear hg0 hr0 hb0 hb1 C1 hf k0 k1 k2 k3
      go_wp2_with (refine wpList_store_row rfl 96 _ _ rfl (w.heap.size + 1) _ rfl rfl 96 #[.int .i64 0, .int .i64 0] hr1 infoFrS rfl (oneF t1 t2) ?_)
      refine bodyPost_ret (results_row2 Tryz.results39 _ _ (w.heap.size + 1) _ rfl (hr1.setRow _) Tryz.underlying96 rfl infoFrS) rfl ?_
      exact ⟨by unfold FrameIs; simp only; rw [ht]; rfl, below_setRow hbA (Nat.le_succ _) _⟩
end Go.Proofs.YtongceljdgmbdaaGreatDoor
