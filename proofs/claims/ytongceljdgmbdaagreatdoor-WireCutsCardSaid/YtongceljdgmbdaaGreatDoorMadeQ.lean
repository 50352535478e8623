/-
  Contract of pantrymade.Request.
-/
import Derived.Test.YtongceljdgmbdaaGreatDoorRefFieldM
import Derived.Test.YtongceljdgmbdaaGreatDoorPureAll2
namespace Go.Proofs.YtongceljdgmbdaaGreatDoor
open Go.RowKit Go.Pantry

theorem infoHdS : (Tryz.prog.info? 47).map (·.size) = some 5 := by kernel_rfl
theorem one5 (a b : List UInt8) (x y : Int) (ao : Option Addr) (n c : Nat) : (#[strV a, strV b, .int .i64 x, .int .i64 y, .slice ao n c] : Array Value).all (·.oneCell') = true := by simp [Value.oneCell']
/-- a head as the document has it, made -/
def MadeHd (m t : List UInt8) (st z : Int) (L : List Fld) (e : Ending) (w' : World) : Prop := ∃ ao c, e = .returned (.agg #[strV m, strV t, .int .i64 st, .int .i64 z, .slice ao L.length c]) ∧ Reads2 w' (.slice ao L.length c) L
def MadeS (w0 : World) (g : Nat) (cs : Array Value) (t : TypeId) (r : Nat) (u : TypeId) : World → Prop := fun W => Below w0.heap.size w0 W ∧ w0.heap.size ≤ W.heap.size ∧ rowIs W g cs t ∧ ∃ ds, rowIs W r ds u ∧ ds.size = 5
theorem MadeS.below {w0 : World} {g : Nat} {cs : Array Value} {t : TypeId} {r : Nat} {u : TypeId} {W W' : World} (h : MadeS w0 g cs t r u W) (hb : Below W.heap.size W W') : MadeS w0 g cs t r u W' := by
  obtain ⟨h1, h2, h3, ds, h4, h5⟩ := h
  exact ⟨h1.trans (hb.mono h2), Nat.le_trans h2 hb.size, h3.below hb, ds, h4.below hb, h5⟩
theorem MadeS.stored {w0 : World} {g : Nat} {cs : Array Value} {t : TypeId} {r : Nat} {u : TypeId} {W : World} (h : MadeS w0 g cs t r u W) {ds : Array Value} (hd : ds.size = 5) (hr : w0.heap.size ≤ r) (hne : g ≠ r) : MadeS w0 g cs t r u (W.setRow r ds) := by
  obtain ⟨h1, h2, h3, es, h4, h5⟩ := h
  exact ⟨below_setRow h1 hr _, Nat.le_trans h2 (by simp [World.setRow]), h3.setRow_other ds hne, ds, h4.setRow ds, hd⟩
set_option maxRecDepth 100000 in
set_option maxHeartbeats 4000000 in
theorem madeReq_any (m t : List UInt8) (z : Int) (v : Value) (L : List Fld) (w : World) (hr : Reads2 w v L) (hn : L.length < 1000000) :
    Calls Tryz.prog 17 #[.agg #[strV m, strV t, .int .i64 z, v]] w fun e w' => MadeHd m t 0 z L e w' ∧ Below w.heap.size w w' := by
  obtain ⟨ao, cap, rfl⟩ := hr.form
  have cf := fun W h => Fields_any (.slice ao L.length cap) L W h hn
  have CF := hid cf
  have HR := hid hr
  clear cf hr
  obtain ⟨W, hW⟩ : ∃ W, W = (w.alloc (.cells #[strV m, strV t, .int .i64 z, .slice ao L.length cap] 40)).alloc (.cells #[.string ⟨#[]⟩, .string ⟨#[]⟩, .int .i64 0, .int .i64 0, .slice none 0 0] 47) := ⟨_, rfl⟩
  have hbW : Below w.heap.size w W := by rw [hW]; exact (below_alloc _ _).alloc (by simp) _
  have hg : rowIs W w.heap.size #[strV m, strV t, .int .i64 z, .slice ao L.length cap] 40 := by rw [hW]; exact (rowIs_new _ _ _).below (below_alloc _ _)
  have hg2 : rowIs W (w.heap.size + 1) #[.string ⟨#[]⟩, .string ⟨#[]⟩, .int .i64 0, .int .i64 0, .slice none 0 0] 47 := by rw [hW]; exact rowIs_new_at _ _ _ _ (by simp)
  have HS : MadeS w w.heap.size #[strV m, strV t, .int .i64 z, .slice ao L.length cap] 40 (w.heap.size + 1) 47 W.drew := ⟨hbW.drew, hbW.size, hg, ⟨_, hg2, rfl⟩⟩
  have hne : w.heap.size ≠ w.heap.size + 1 := by omega
  have hrl : w.heap.size + 1 < W.drew.heap.size := hg2.lt
  clear hbW hg hg2
  go_enter Tryz.func17, Tryz.ntmps17
  go_wp2_with fail
  rw [← hW]
  clear hW
  refine wp_region_held_drew (S := MadeS w w.heap.size #[strV m, strV t, .int .i64 z, .slice ao L.length cap] 40 (w.heap.size + 1) 47) (by kernel_rfl) HS (fun hH => ?_)
  refine wpAnyH_take (i := 0) (v := ?_) rfl (by kernel_rfl) (by kernel_rfl) (by kernel_rfl) (fun _ _ _ h => h) (Or.inl ⟨by kernel_rfl, ?_⟩) hH ?_
  rotate_left
  · intro W hS
    have h0 := hS.2.2.1.cell 0
    have h1 := hS.2.2.1.cell 1
    have h2 := hS.2.2.1.cell 2
    have h3 := hS.2.2.1.cell 3
    go_simp
    first | done | with_reducible rfl
  simp only [Act.put, List.getElem_toArray, List.getElem_cons_zero, List.setIfInBounds_toArray, List.set_cons_zero, List.set_cons_succ]
  refine wpAnyH_take (i := 1) (v := ?_) rfl (by kernel_rfl) (by kernel_rfl) (by kernel_rfl) (fun _ _ _ h => h) (Or.inl ⟨by kernel_rfl, ?_⟩) hH ?_
  rotate_left
  · intro W hS
    have h0 := hS.2.2.1.cell 0
    have h1 := hS.2.2.1.cell 1
    have h2 := hS.2.2.1.cell 2
    have h3 := hS.2.2.1.cell 3
    go_simp
    first | done | with_reducible rfl
  simp only [Act.put, List.getElem_toArray, List.getElem_cons_succ, List.getElem_cons_zero, List.setIfInBounds_toArray, List.set_cons_zero, List.set_cons_succ]
  refine wpAnyH_take (i := 2) (v := ?_) rfl (by kernel_rfl) (by kernel_rfl) (by kernel_rfl) (fun _ _ _ h => h) (Or.inl ⟨by kernel_rfl, ?_⟩) hH ?_
  rotate_left
  · intro W hS
    have h0 := hS.2.2.1.cell 0
    have h1 := hS.2.2.1.cell 1
    have h2 := hS.2.2.1.cell 2
    have h3 := hS.2.2.1.cell 3
    go_simp
    first | done | with_reducible rfl
  simp only [Act.put, List.getElem_toArray, List.getElem_cons_succ, List.getElem_cons_zero, List.setIfInBounds_toArray, List.set_cons_zero, List.set_cons_succ]
  refine wpAnyH_take (i := 3) (v := ?_) rfl (by kernel_rfl) (by kernel_rfl) (by kernel_rfl) (fun _ _ _ h => h) (Or.inl ⟨by kernel_rfl, ?_⟩) hH ?_
  rotate_left
  · intro W hS
    have h0 := hS.2.2.1.cell 0
    have h1 := hS.2.2.1.cell 1
    have h2 := hS.2.2.1.cell 2
    have h3 := hS.2.2.1.cell 3
    go_simp
    first | done | with_reducible rfl
  simp only [Act.put, List.getElem_toArray, List.getElem_cons_succ, List.getElem_cons_zero, List.setIfInBounds_toArray, List.set_cons_zero, List.set_cons_succ]
  refine wpAnyH_take (i := 4) (v := ?_) rfl (by kernel_rfl) (by kernel_rfl) (by kernel_rfl) (fun _ _ _ h => h) (Or.inl ⟨by kernel_rfl, ?_⟩) hH ?_
  rotate_left
  · intro W hS
    have h0 := hS.2.2.1.cell 0
    have h1 := hS.2.2.1.cell 1
    have h2 := hS.2.2.1.cell 2
    have h3 := hS.2.2.1.cell 3
    go_simp
    first | done | with_reducible rfl
  simp only [Act.put, List.getElem_toArray, List.getElem_cons_succ, List.getElem_cons_zero, List.setIfInBounds_toArray, List.set_cons_zero, List.set_cons_succ]
  refine wpAnyH_take (i := 5) (v := ?_) rfl (by kernel_rfl) (by kernel_rfl) (by kernel_rfl) (fun _ _ _ h => h) (Or.inl ⟨by kernel_rfl, ?_⟩) hH ?_
  rotate_left
  · intro W hS
    have h0 := hS.2.2.1.cell 0
    have h1 := hS.2.2.1.cell 1
    have h2 := hS.2.2.1.cell 2
    have h3 := hS.2.2.1.cell 3
    go_simp
    first | done | with_reducible rfl
  simp only [Act.put, List.getElem_toArray, List.getElem_cons_succ, List.getElem_cons_zero, List.setIfInBounds_toArray, List.set_cons_zero, List.set_cons_succ]
  refine wpAnyH_take (i := 6) (v := ?_) rfl (by kernel_rfl) (by kernel_rfl) (by kernel_rfl) (fun _ _ _ h => h) (Or.inl ⟨by kernel_rfl, ?_⟩) hH ?_
  rotate_left
  · intro W hS
    have h0 := hS.2.2.1.cell 0
    have h1 := hS.2.2.1.cell 1
    have h2 := hS.2.2.1.cell 2
    have h3 := hS.2.2.1.cell 3
    go_simp
    first | done | with_reducible rfl
  simp only [Act.put, List.getElem_toArray, List.getElem_cons_succ, List.getElem_cons_zero, List.setIfInBounds_toArray, List.set_cons_zero, List.set_cons_succ]
  refine wpAnyH_take (i := 7) (v := ?_) rfl (by kernel_rfl) (by kernel_rfl) (by kernel_rfl) (fun _ _ _ h => h) (Or.inl ⟨by kernel_rfl, ?_⟩) hH ?_
  rotate_left
  · intro W hS
    have h0 := hS.2.2.1.cell 0
    have h1 := hS.2.2.1.cell 1
    have h2 := hS.2.2.1.cell 2
    have h3 := hS.2.2.1.cell 3
    go_simp
    first | done | with_reducible rfl
  simp only [Act.put, List.getElem_toArray, List.getElem_cons_succ, List.getElem_cons_zero, List.setIfInBounds_toArray, List.set_cons_zero, List.set_cons_succ]
  refine wpAnyH_take (i := 8) (v := ?_) rfl (by kernel_rfl) (by kernel_rfl) (by kernel_rfl) (fun _ _ _ h => h) (Or.inl ⟨by kernel_rfl, ?_⟩) hH ?_
  rotate_left
  · intro W hS
    have h0 := hS.2.2.1.cell 0
    have h1 := hS.2.2.1.cell 1
    have h2 := hS.2.2.1.cell 2
    have h3 := hS.2.2.1.cell 3
    go_simp
    first | done | with_reducible rfl
  simp only [Act.put, List.getElem_toArray, List.getElem_cons_succ, List.getElem_cons_zero, List.setIfInBounds_toArray, List.set_cons_zero, List.set_cons_succ]
  refine wpAnyH_take (i := 9) (v := ?_) rfl (by kernel_rfl) (by kernel_rfl) (by kernel_rfl) (fun _ _ _ h => h) (Or.inl ⟨by kernel_rfl, ?_⟩) hH ?_
  rotate_left
  · intro W hS
    have h0 := hS.2.2.1.cell 0
    have h1 := hS.2.2.1.cell 1
    have h2 := hS.2.2.1.cell 2
    have h3 := hS.2.2.1.cell 3
    go_simp
    first | done | with_reducible rfl
  simp only [Act.put, List.getElem_toArray, List.getElem_cons_succ, List.getElem_cons_zero, List.setIfInBounds_toArray, List.set_cons_zero, List.set_cons_succ]
  refine wpAnyH_ready (rs := [10]) (by kernel_rfl) (by simp) ?_
  refine AllReadyH.cons rfl (fun K hK => ?_) AllReadyH.nil
  go_simp
  refine (CF.out _ (HR.out.below (hH.1))).mono ?_
  rintro e w9 ⟨v2, rfl, ho2, hb9⟩
  obtain ⟨ao2, c2, rfl⟩ := ownsRow_form2 ho2
  have hS1 := MadeS.below hH hb9
  have hrd := (ho2.reads2).2
  refine hK.out _ _ hS1 (fun hH => ?_)
  clear hK K
  try simp only [Act.put, List.getElem_toArray, List.getElem_cons_succ, List.getElem_cons_zero, List.setIfInBounds_toArray, List.set_cons_zero, List.set_cons_succ]
  refine wpAnyH_take (i := 11) (v := ?_) rfl (by kernel_rfl) (by kernel_rfl) (by kernel_rfl) (fun _ _ _ h => h) (Or.inl ⟨by kernel_rfl, ?_⟩) hH ?_
  rotate_left
  · intro W hS
    have h0 := hS.2.2.1.cell 0
    have h1 := hS.2.2.1.cell 1
    have h2 := hS.2.2.1.cell 2
    have h3 := hS.2.2.1.cell 3
    go_simp
    first | done | with_reducible rfl
  simp only [Act.put, List.getElem_toArray, List.getElem_cons_succ, List.getElem_cons_zero, List.setIfInBounds_toArray, List.set_cons_zero, List.set_cons_succ]
  refine wpAnyH_ready (rs := [12]) (by kernel_rfl) (by simp) ?_
  refine AllReadyH.cons rfl (fun K hK => ?_) AllReadyH.nil
  obtain ⟨ds, hds, hdz⟩ := hH.2.2.2
  refine wp_store_row 47 _ _ rfl (w.heap.size + 1) #[strV m, strV t, .int .i64 0, .int .i64 z, .slice ao2 L.length c2] rfl rfl 47 ds hds infoHdS hdz (one5 m t 0 z ao2 L.length c2) ?_
  have hS1 := MadeS.stored hH (ds := #[strV m, strV t, .int .i64 0, .int .i64 z, .slice ao2 L.length c2]) rfl (by omega) hne
  refine hK.out _ _ hS1 (fun hH => ?_)
  clear hK K
  try simp only [Act.put, List.getElem_toArray, List.getElem_cons_succ, List.getElem_cons_zero]
  refine wpAnyH_done (by kernel_rfl) ?_ _
  go_wp2_with fail
  refine bodyPost_ret (results_row Tryz.results17 _ _ (w.heap.size + 1) _ rfl (hds.setRow #[strV m, strV t, .int .i64 0, .int .i64 z, .slice ao2 L.length c2]) Tryz.underlying47 rfl infoHdS) rfl ?_
  exact ⟨⟨ao2, c2, rfl, ((ownsRow_far2 ho2 fun k hk => _root_.Go.setRow_other _ _ _ _ (by omega)).reads2).2⟩, hH.1⟩
end Go.Proofs.YtongceljdgmbdaaGreatDoor
