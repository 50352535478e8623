/-
  The document's answers of layer 10: two tables that are the same.
-/
import Derived.Test.YtenijpcjemdhfaaGreatDoorP10dRef10C
import Derived.Test.YtenijpcjemdhfaaGreatDoorP10d04
namespace Go.Proofs.YtenijpcjemdhfaaGreatDoor
open Go.RowKit Go.Pantry

set_option maxRecDepth 8000 in
set_option maxHeartbeats 4000000 in
theorem refSameT_eq (g : Int) (vA vB : Value) (LA LB : List RuleZ) (w : World) (hA : ReadsR w vA LA) (hB : ReadsR w vB LB) (he : tT LA = tT LB) (hf : FewR LA) :
    Calls Tryz.prog 32 #[.agg #[.int .i64 g, vA], .agg #[.int .i64 g, vB]] w fun e w' => e = .returned (.bool true) ∧ Below w.heap.size w w' := by
  have hlen : LA.length = LB.length := by have := congrArg List.length he; rwa [tT_len, tT_len] at this
  obtain ⟨n, hn⟩ : ∃ n, LA.length = n := ⟨_, rfl⟩
  obtain ⟨ao1, c1, e1, f1⟩ := hA.form
  obtain ⟨ao2, c2, e2, f2⟩ := hB.form
  rw [hn] at e1
  rw [← hlen, hn] at e2
  subst e1 e2
  have hze : (zT LA).map (·.1) = (zT LB).map (·.1) := by
    rw [zT_map, zT_map, ← tT_map, ← tT_map, he]
  have HA := hid hA
  have HB := hid hB
  have HE := hid he
  have HZE := hid hze
  have HF := hid (And.intro hf trivial)
  have HL := hid (And.intro hn hlen)
  have hnl : n ≤ 1000000 := by rw [← hn]; exact hf.len
  obtain ⟨W, hW⟩ : ∃ W, (w.alloc (.cells #[.int .i64 g, .slice ao1 n c1] 56)).alloc (.cells #[.int .i64 g, .slice ao2 n c2] 56) = W := ⟨_, rfl⟩
  have hb : Below w.heap.size w W := by rw [← hW]; exact chainP (below_alloc _ _) (below_alloc _ _)
  have q1 : rowIs W w.heap.size #[.int .i64 g, .slice ao1 n c1] 56 := by rw [← hW]; exact (rowIs_new _ _ _).below (below_alloc _ _)
  have q2 : rowIs W (w.heap.size + 1) #[.int .i64 g, .slice ao2 n c2] 56 := by rw [← hW]; exact rowIs_new_at _ _ _ _ (by simp)
  have QA : Hid (∀ W', Below W.heap.size W W' → rowIs W' w.heap.size #[.int .i64 g, .slice ao1 n c1] 56) := fun W' hS => q1.below hS
  have QB : Hid (∀ W', Below W.heap.size W W' → rowIs W' (w.heap.size + 1) #[.int .i64 g, .slice ao2 n c2] 56) := fun W' hS => q2.below hS
  have HBW := hid hb
  have CA : Hid (∀ W', Below W.heap.size W W' → Calls Tryz.prog 27 #[.agg #[.int .i64 g, .slice ao1 n c1]] W' fun e w' => ∃ v', e = .returned (.agg #[v']) ∧ ReadsP w' v' (zT LA) ∧ Below W'.heap.size W' w') := fun W' hS =>
    refTConfig_any g (.slice ao1 n c1) LA W' (HA.out.below (chainP HBW.out hS)) HF.out.1.len
  have CB : Hid (∀ W', Below W.heap.size W W' → Calls Tryz.prog 27 #[.agg #[.int .i64 g, .slice ao2 n c2]] W' fun e w' => ∃ v', e = .returned (.agg #[v']) ∧ ReadsP w' v' (zT LB) ∧ Below W'.heap.size W' w') := fun W' hS =>
    refTConfig_any g (.slice ao2 n c2) LB W' (HB.out.below (chainP HBW.out hS)) (by rw [← HL.out.2]; exact HF.out.1.len)
  clear hA hB he hze hf hn hlen f1 f2 hb q1 q2
  go_enter Tryz.func32, Tryz.ntmps32
  go_wp2_with fail
  clear hW
  refine wp_region_held_drew (S := fun w' => Below W.heap.size W w') (by kernel_rfl) ((Below.refl _ _).drew) (fun hH => ?_)
  refine wpAnyH_take (i := 0) (v := ?_) rfl (by kernel_rfl) (by kernel_rfl) (by kernel_rfl) (fun _ _ _ h => h) (Or.inl ⟨by kernel_rfl, ?_⟩) hH ?_
  rotate_left
  · intro W hS
    have a0 := (QA.out W hS).cell 0
    have b0 := (QB.out W hS).cell 0
    go_simp
    first | done | with_reducible rfl
  simp only [Act.put, List.getElem_toArray, List.getElem_cons_succ, List.getElem_cons_zero, List.setIfInBounds_toArray, List.set_cons_zero, List.set_cons_succ]
  refine wpAnyH_take (i := 1) (v := ?_) rfl (by kernel_rfl) (by kernel_rfl) (by kernel_rfl) (fun _ _ _ h => h) (Or.inl ⟨by kernel_rfl, ?_⟩) hH ?_
  rotate_left
  · intro W hS
    have a0 := (QA.out W hS).cell 0
    have b0 := (QB.out W hS).cell 0
    go_simp
    first | done | with_reducible rfl
  simp only [Act.put, List.getElem_toArray, List.getElem_cons_succ, List.getElem_cons_zero, List.setIfInBounds_toArray, List.set_cons_zero, List.set_cons_succ]
  refine wpAnyH_take (i := 2) (v := ?_) rfl (by kernel_rfl) (by kernel_rfl) (by kernel_rfl) (fun _ _ _ h => h) (Or.inl ⟨by kernel_rfl, ?_⟩) hH ?_
  rotate_left
  · intro W hS
    have a0 := (QA.out W hS).cell 0
    have b0 := (QB.out W hS).cell 0
    go_simp
    first | done | with_reducible rfl
  simp only [Act.put, List.getElem_toArray, List.getElem_cons_succ, List.getElem_cons_zero, List.setIfInBounds_toArray, List.set_cons_zero, List.set_cons_succ]
  refine wpAnyH_take (i := 3) (v := ?_) rfl (by kernel_rfl) (by kernel_rfl) (by kernel_rfl) (fun _ _ _ h => h) (Or.inl ⟨by kernel_rfl, ?_⟩) hH ?_
  rotate_left
  · intro W hS
    have a0 := (QA.out W hS).cell 0
    have b0 := (QB.out W hS).cell 0
    go_simp
    first | done | with_reducible rfl
  simp only [Act.put, List.getElem_toArray, List.getElem_cons_succ, List.getElem_cons_zero, List.setIfInBounds_toArray, List.set_cons_zero, List.set_cons_succ]
  refine wpAnyH_take (i := 4) (v := ?_) rfl (by kernel_rfl) (by kernel_rfl) (by kernel_rfl) (fun _ _ _ h => h) (Or.inl ⟨by kernel_rfl, ?_⟩) hH ?_
  rotate_left
  · intro W hS
    have a0 := (QA.out W hS).cell 0
    have b0 := (QB.out W hS).cell 0
    go_simp
    first | done | with_reducible rfl
  simp only [Act.put, List.getElem_toArray, List.getElem_cons_succ, List.getElem_cons_zero, List.setIfInBounds_toArray, List.set_cons_zero, List.set_cons_succ]
  refine wpAnyH_take (i := 5) (v := ?_) rfl (by kernel_rfl) (by kernel_rfl) (by kernel_rfl) (fun _ _ _ h => h) (Or.inl ⟨by kernel_rfl, ?_⟩) hH ?_
  rotate_left
  · intro W hS
    have a0 := (QA.out W hS).cell 0
    have b0 := (QB.out W hS).cell 0
    go_simp
    first | done | with_reducible rfl
  simp only [Act.put, List.getElem_toArray, List.getElem_cons_succ, List.getElem_cons_zero, List.setIfInBounds_toArray, List.set_cons_zero, List.set_cons_succ]
  refine wpAnyH_take (i := 6) (v := .agg #[.int .i64 g, .slice ao1 n c1]) rfl (by kernel_rfl) (by kernel_rfl) (by kernel_rfl) (fun _ _ _ h => h) (Or.inl ⟨by kernel_rfl, ?_⟩) hH ?_
  · intro W hS
    exact load_gives rfl _ rfl (QA.out W hS) Tryz.underlying56 rfl infoRefTable
  simp only [Act.put, List.getElem_toArray, List.getElem_cons_succ, List.getElem_cons_zero, List.setIfInBounds_toArray, List.set_cons_zero, List.set_cons_succ]
  refine wpAnyH_take (i := 8) (v := .agg #[.int .i64 g, .slice ao2 n c2]) rfl (by kernel_rfl) (by kernel_rfl) (by kernel_rfl) (fun _ _ _ h => h) (Or.inl ⟨by kernel_rfl, ?_⟩) hH ?_
  · intro W hS
    exact load_gives rfl _ rfl (QB.out W hS) Tryz.underlying56 rfl infoRefTable
  simp only [Act.put, List.getElem_toArray, List.getElem_cons_succ, List.getElem_cons_zero, List.setIfInBounds_toArray, List.set_cons_zero, List.set_cons_succ]
  refine wpAnyH_ready (rs := [7]) (by kernel_rfl) (by simp) ?_
  refine AllReadyH.cons rfl (fun K hK => ?_) AllReadyH.nil
  go_simp
  refine (CA.out _ hH).mono ?_
  rintro e w1 ⟨v1, rfl, hr1, hb1⟩
  have HR1 := hid hr1
  obtain ⟨x1, y1, hf1, -⟩ := hr1.form
  obtain ⟨n1, hn1⟩ : ∃ n, (zT LA).length = n := ⟨_, rfl⟩
  rw [hn1] at hf1
  subst hf1
  clear hr1 hn1
  refine hK.out _ _ (chainP hH hb1) (fun hH => ?_)
  have HB1 := hid (And.intro hb1 hH)
  clear hb1
  clear hK K
  try simp only [Act.put, List.getElem_toArray, List.getElem_cons_succ, List.getElem_cons_zero, List.setIfInBounds_toArray, List.set_cons_zero, List.set_cons_succ]
  refine wpAnyH_ready (rs := [9]) (by kernel_rfl) (by simp) ?_
  refine AllReadyH.cons rfl (fun K hK => ?_) AllReadyH.nil
  go_simp
  refine (CB.out _ hH).mono ?_
  rintro e w2 ⟨v2, rfl, hr2, hb2⟩
  have HR2 := hid hr2
  obtain ⟨x2, y2, hf2, -⟩ := hr2.form
  obtain ⟨n2, hn2⟩ : ∃ n, (zT LB).length = n := ⟨_, rfl⟩
  rw [hn2] at hf2
  subst hf2
  clear hr2 hn2
  have HB2 := hid hb2
  refine hK.out _ _ (chainP hH hb2) (fun hH => ?_)
  clear hb2
  clear hK K
  try simp only [Act.put, List.getElem_toArray, List.getElem_cons_succ, List.getElem_cons_zero, List.setIfInBounds_toArray, List.set_cons_zero, List.set_cons_succ]
  refine wpAnyH_ready (rs := [10]) (by kernel_rfl) (by simp) ?_
  refine AllReadyH.cons rfl (fun K hK => ?_) AllReadyH.nil
  go_simp
  refine (same_eq _ _ (zT LA) (zT LB) w2 (HR1.out.below HB2.out) HR2.out HZE.out (by rw [zT_len]; exact HF.out.1.len) (few_zT HF.out.1).heads).mono ?_
  rintro e w3 ⟨rfl, hb3⟩
  refine hK.out _ _ (chainP hH hb3) (fun hH => ?_)
  clear hb3
  clear hK K
  try simp only [Act.put, List.getElem_toArray, List.getElem_cons_succ, List.getElem_cons_zero, List.setIfInBounds_toArray, List.set_cons_zero, List.set_cons_succ]
  refine wpAnyH_take (i := 11) (v := ?_) rfl (by kernel_rfl) (by kernel_rfl) (by kernel_rfl) (fun _ _ _ h => h) (Or.inl ⟨by kernel_rfl, ?_⟩) hH ?_
  rotate_left
  · intro W hS
    have a0 := (QA.out W hS).cell 0
    have b0 := (QB.out W hS).cell 0
    go_simp
    first | done | with_reducible rfl
  simp only [Act.put, List.getElem_toArray, List.getElem_cons_succ, List.getElem_cons_zero, List.setIfInBounds_toArray, List.set_cons_zero, List.set_cons_succ]
  refine wpAnyH_take (i := 12) (v := ?_) rfl (by kernel_rfl) (by kernel_rfl) (by kernel_rfl) (fun _ _ _ h => h) (Or.inl ⟨by kernel_rfl, ?_⟩) hH ?_
  rotate_left
  · intro W hS
    have a0 := (QA.out W hS).cell 0
    have b0 := (QB.out W hS).cell 0
    go_simp
    first | done | with_reducible rfl
  simp only [Act.put, List.getElem_toArray, List.getElem_cons_succ, List.getElem_cons_zero, List.setIfInBounds_toArray, List.set_cons_zero, List.set_cons_succ]
  refine wpAnyH_done (by kernel_rfl) ?_ _
  have H1 := hid hH
  clear hH
  go_wp2_with fail
  go_loopw [5] (fun z wr => ∃ (k : Nat), z = .int .i64 (k : Int) ∧ k ≤ n ∧ Below W.heap.size W wr) (fun z _ => n - (intOf z).toNat)
  case atStart => exact ⟨0, rfl, Nat.zero_le _, H1.out⟩
  case round =>
    obtain ⟨k, rfl, hk, hb⟩ := hrel
    have HBR := hid (And.intro hb (chainP HBW.out hb))
    have a1 := (QA.out _ hb).cell 1
    have b1 := (QB.out _ hb).cell 1
    by_cases hlt : k < n
    · obtain ⟨⟨s, hv, z⟩, hx⟩ : ∃ x, LA[k]? = some x := by
        have := HL.out
        exact ⟨LA[k]'(by omega), List.getElem?_eq_getElem (by omega)⟩
      obtain ⟨⟨s2, hv2, z2⟩, hx2⟩ : ∃ x, LB[k]? = some x := by
        have := HL.out
        exact ⟨LB[k]'(by omega), List.getElem?_eq_getElem (by omega)⟩
      have hzz : z = z2 := by
        have h1 : (tT LA)[k]? = some (s, z) := by unfold tT; rw [List.getElem?_map, hx]; rfl
        have h2 : (tT LB)[k]? = some (s2, z2) := by unfold tT; rw [List.getElem?_map, hx2]; rfl
        rw [HE.out, h2] at h1
        cases h1; rfl
      subst hzz
      obtain ⟨b3, o3, g3, i3⟩ := (HA.out.below HBR.out.2).at_ hx
      obtain ⟨b4, o4, g4, i4⟩ := (HB.out.below HBR.out.2).at_ hx2
      subst g3 g4
      obtain ⟨p3, hp3⟩ : ∃ p, o3 + k * 8 = p := ⟨_, rfl⟩
      obtain ⟨p4, hp4⟩ : ∃ p, o4 + k * 8 = p := ⟨_, rfl⟩
      rw [hp3] at i3
      rw [hp4] at i4
      have x7 : wr.cell? ⟨b3, p3 + 7, none⟩ = some (.int .i64 z) := i3 7 _ rfl
      have y7 : wr.cell? ⟨b4, p4 + 7, none⟩ = some (.int .i64 z) := i4 7 _ rfl
      have zx : (z == z) = true := by simp
      have hkI : (k : Int) < (n : Int) := by omega
      have hk0 : (0 : Int) ≤ (k : Int) := by omega
      have hkw : IntKind.i64.wrap ((k : Int) + 1) = (k : Int) + 1 := IntWalk.i64_in _ (by omega)
      clear hb hx hx2 i3 i4
      go_wp2_with fail
      go_quiet (fail)
      go_wp2_with fail
      go_roundw
      case rel => exact ⟨k + 1, by go_num, hlt, below_drewN HBR.out.1 _⟩
      case measure => simp [intOf]; omega
    · have hkI : ¬ (k : Int) < (n : Int) := by omega
      clear hb
      go_wp2_with fail
      go_ret
      exact ⟨rfl, HBR.out.2⟩
end Go.Proofs.YtenijpcjemdhfaaGreatDoor
