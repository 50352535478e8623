/-
  Contracts of package body: OfRequest.
-/
import Derived.Test.YtefplhkjcclppaaDoorBodyI
namespace Go.Proofs.YtefplhkjcclppaaDoor
open Go.RowKit Go.Pantry

set_option maxRecDepth 100000 in
set_option maxHeartbeats 8000000 in
theorem OfRequest_any (m t : List UInt8) (z : Int) (v : Value) (L : List Fld) (w : World) (hr : Reads2 w v L) (hk : okFs L) :
    Calls Tryd.prog 9 #[.agg #[strV m, strV t, .int .i64 z, v]] w fun e w' => FrameIs (frameX z 0 L) e ∧ Below w.heap.size w w' := by
  obtain ⟨ao, cap, rfl⟩ := hr.form
  obtain ⟨W, hW⟩ : ∃ W, W = (w.alloc (.cells #[strV m, strV t, .int .i64 z, .slice ao L.length cap] 34)).alloc (.cells #[.int .i64 0, .int .i64 0] 36) := ⟨_, rfl⟩
  have hb0 : Below w.heap.size w W := by rw [hW]; exact (below_alloc _ _).alloc (by simp) _
  have hg0 : rowIs W w.heap.size #[strV m, strV t, .int .i64 z, .slice ao L.length cap] 34 := by rw [hW]; exact (rowIs_new _ _ _).below (below_alloc _ _)
  have hr0 : rowIs W (w.heap.size + 1) #[.int .i64 0, .int .i64 0] 36 := by rw [hW]; exact rowIs_new_at _ _ _ _ (by simp)
  have e0 := hg0.cell 0
  have e1 := hg0.cell 1
  have e2 := hg0.cell 2
  have e3 := hg0.cell 3
  rw [hW] at e0 e1 e2 e3
  have C1 := hid (fun W h => frameOf_any z 0 (.slice ao L.length cap) L W h hk)
  have HR := hid hr
  clear hr hk
  go_enter Tryd.func9, Tryd.ntmps9
  go_wp2_with fail
  rw [← hW]
  clear hW e0 e1 e2 e3
  refine (C1.out _ (HR.out.below hb0)).mono ?_
  rintro e w1 ⟨hf, hb1⟩
  obtain ⟨t1, t2, t3, ht, rfl⟩ := hf.form
  have hr1 := hr0.below hb1
  have hbA := chain2 hb0 hb0.size hb1
  clear hg0 hr0 hb0 hb1 C1 hf
  go_wp2_with (refine wpList_store_row rfl 36 _ _ rfl (w.heap.size + 1) _ rfl rfl 36 #[.int .i64 0, .int .i64 0] hr1 infoFrS rfl (oneF t1 t2) ?_)
  refine bodyPost_ret (results_row2 Tryd.results9 _ _ (w.heap.size + 1) _ rfl (hr1.setRow _) Tryd.underlying36 rfl infoFrS) rfl ?_
  exact ⟨by unfold FrameIs; rw [ht]; rfl, below_setRow hbA (Nat.le_succ _) _⟩
end Go.Proofs.YtefplhkjcclppaaDoor
