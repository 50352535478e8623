/-
  The document's Alike and Same, where both are the same.
-/
import Derived.Test.YtffenndchmcncaaGreatDoorConfM
import Derived.Deep.QuietTactic
import Derived.BigQuiet
namespace Go.Proofs.YtffenndchmcncaaGreatDoor
open Go.RowKit Go.Pantry

set_option maxRecDepth 8000 in
theorem alike_eq (h1 h2 : Value) (s : SiteZ) (w : World) (r1 : Reads w h1 (s.heads.map strV)) (r2 : Reads w h2 (s.heads.map strV)) (hl : s.heads.length ≤ 1000000) :
    Calls Tryz.prog 25 #[.agg (rowZ h1 s), .agg (rowZ h2 s)] w fun e w' => e = .returned (.bool true) ∧ Below w.heap.size w w' := by
  obtain ⟨n, hn⟩ : ∃ n, s.heads.length = n := ⟨_, rfl⟩
  obtain ⟨ao1, c1, e1⟩ := r1.form
  obtain ⟨ao2, c2, e2⟩ := r2.form
  rw [List.length_map, hn] at e1 e2
  subst e1 e2
  have R1 := hid r1
  have R2 := hid r2
  have HN := hid hn
  rw [hn] at hl
  have z1 : (s.host == s.host) = true := by simp
  have J0 : Hid ((((w.alloc (.cells (rowZ (.slice ao1 n c1) s) 43)).alloc (.cells (rowZ (.slice ao2 n c2) s) 43))).cell? ⟨w.heap.size, 6, none⟩ = some (.slice ao1 n c1) ∧ (((w.alloc (.cells (rowZ (.slice ao1 n c1) s) 43)).alloc (.cells (rowZ (.slice ao2 n c2) s) 43))).cell? ⟨w.heap.size + 1, 6, none⟩ = some (.slice ao2 n c2) ∧ Below w.heap.size w (((w.alloc (.cells (rowZ (.slice ao1 n c1) s) 43)).alloc (.cells (rowZ (.slice ao2 n c2) s) 43)))) :=
    ⟨((rowIs_new w (rowZ (.slice ao1 n c1) s) 43).below (below_alloc _ _)).cell 6, (rowIs_new_at _ (rowZ (.slice ao2 n c2) s) 43 (w.heap.size + 1) (by simp)).cell 6, chainP (below_alloc _ _) (below_alloc _ _)⟩
  clear r1 r2 hn
  go_enter Tryz.func25, Tryz.ntmps25
  go_wp2_with fail
  clear z1
  go_loopw [5] (fun z wr => ∃ (k : Nat), z = .int .i64 (k : Int) ∧ k ≤ n ∧ wr.cell? ⟨w.heap.size, 6, none⟩ = some (.slice ao1 n c1) ∧ wr.cell? ⟨w.heap.size + 1, 6, none⟩ = some (.slice ao2 n c2) ∧ Below w.heap.size w wr) (fun z _ => n - (intOf z).toNat)
  case atStart => exact ⟨0, rfl, Nat.zero_le _, J0.out.1, J0.out.2.1, J0.out.2.2⟩
  case round =>
    clear J0
    obtain ⟨k, rfl, hk, hc1, hc2, hb⟩ := hrel
    have HB := hid hb
    by_cases hlt : k < n
    · obtain ⟨x, hx⟩ : ∃ x, s.heads[k]? = some x := by
        have := HN.out
        exact ⟨s.heads[k]'(by omega), List.getElem?_eq_getElem (by omega)⟩
      have hxm : (s.heads.map strV)[k]? = some (strV x) := by rw [List.getElem?_map, hx]; rfl
      have q1 := R1.out.below hb
      have q2 := R2.out.below hb
      obtain ⟨a1, c1', e1, f1, -⟩ := q1
      obtain ⟨a2, c2', e2, f2, -⟩ := q2
      injection e1 with e1 k1 k2
      injection e2 with e2 k3 k4
      clear k1 k2 k3 k4
      subst e1 e2
      obtain ⟨b1, o1, g1, i1⟩ := f1 k _ hxm
      obtain ⟨b2, o2, g2, i2⟩ := f2 k _ hxm
      subst g1 g2
      have d1 : wr.cell? ⟨b1, o1 + k, none⟩ = some (strV x) := i1
      have d2 : wr.cell? ⟨b2, o2 + k, none⟩ = some (strV x) := i2
      have d3 : wr.cell? ⟨w.heap.size, 6, none⟩ = some (.slice (some ⟨b1, o1, none⟩) n c1) := hc1
      have d4 : wr.cell? ⟨w.heap.size + 1, 6, none⟩ = some (.slice (some ⟨b2, o2, none⟩) n c2) := hc2
      have zx : (x == x) = true := by simp
      have hkI : (k : Int) < (n : Int) := by omega
      have hk0 : (0 : Int) ≤ (k : Int) := by omega
      have hkw : IntKind.i64.wrap ((k : Int) + 1) = (k : Int) + 1 := IntWalk.i64_in _ (by omega)
      clear hb f1 f2 hx hxm i1 i2 hc1 hc2
      go_wp2_with fail
      go_quiet (fail)
      go_wp2_with fail
      go_roundw
      case rel => exact ⟨k + 1, by go_num, hlt, d3, d4, below_drewN HB.out _⟩
      case measure => simp [intOf]; omega
    · go_wp2_with fail
      go_ret
      exact ⟨rfl, HB.out⟩

set_option maxRecDepth 8000 in
theorem same_eq (v1 v2 : Value) (L1 L2 : List (SiteZ × Value)) (w : World) (r1 : ReadsP w v1 L1) (r2 : ReadsP w v2 L2) (he : L1.map (·.1) = L2.map (·.1)) (hl : L1.length ≤ 1000000) (hh : ∀ x ∈ L1, x.1.heads.length ≤ 1000000) :
    Calls Tryz.prog 14 #[.agg #[v1], .agg #[v2]] w fun e w' => e = .returned (.bool true) ∧ Below w.heap.size w w' := by
  have hlen : L1.length = L2.length := by have := congrArg List.length he; simpa using this
  obtain ⟨n, hn⟩ : ∃ n, L1.length = n := ⟨_, rfl⟩
  obtain ⟨ao1, c1, e1, f1⟩ := r1.form
  obtain ⟨ao2, c2, e2, f2⟩ := r2.form
  rw [hn] at e1
  rw [← hlen, hn] at e2
  subst e1 e2
  have R1 := hid r1
  have R2 := hid r2
  have HE := hid he
  have HH := hid hh
  have HL := hid (And.intro hn (And.intro hlen hl))
  have hnl : n ≤ 1000000 := by omega
  have J0 : Hid (((w.alloc (.cells #[.slice ao1 n c1] 33)).alloc (.cells #[.slice ao2 n c2] 33)).cell? ⟨w.heap.size, 0, none⟩ = some (.slice ao1 n c1) ∧ ((w.alloc (.cells #[.slice ao1 n c1] 33)).alloc (.cells #[.slice ao2 n c2] 33)).cell? ⟨w.heap.size + 1, 0, none⟩ = some (.slice ao2 n c2) ∧ Below w.heap.size w ((w.alloc (.cells #[.slice ao1 n c1] 33)).alloc (.cells #[.slice ao2 n c2] 33))) :=
    ⟨((rowIs_new w #[.slice ao1 n c1] 33).below (below_alloc _ _)).cell 0, (rowIs_new_at _ #[.slice ao2 n c2] 33 (w.heap.size + 1) (by simp)).cell 0, chainP (below_alloc _ _) (below_alloc _ _)⟩
  clear r1 r2 hn he hh hlen hl f1 f2
  have j1 := J0.out.1
  have j2 := J0.out.2.1
  go_enter Tryz.func14, Tryz.ntmps14
  go_wp2_with fail
  clear j1 j2
  go_loopw [5] (fun z wr => ∃ (k : Nat), z = .int .i64 (k : Int) ∧ k ≤ n ∧ wr.cell? ⟨w.heap.size, 0, none⟩ = some (.slice ao1 n c1) ∧ wr.cell? ⟨w.heap.size + 1, 0, none⟩ = some (.slice ao2 n c2) ∧ Below w.heap.size w wr) (fun z _ => n - (intOf z).toNat)
  case atStart => exact ⟨0, rfl, Nat.zero_le _, J0.out.1, J0.out.2.1, J0.out.2.2⟩
  case round =>
    clear J0
    obtain ⟨k, rfl, hk, hc1, hc2, hb⟩ := hrel
    have HB := hid hb
    by_cases hlt : k < n
    · obtain ⟨⟨s, hv1⟩, hx⟩ : ∃ x, L1[k]? = some x := by
        have := HL.out
        exact ⟨L1[k]'(by omega), List.getElem?_eq_getElem (by omega)⟩
      obtain ⟨⟨s2, hv2⟩, hx2⟩ : ∃ x, L2[k]? = some x := by
        have := HL.out
        exact ⟨L2[k]'(by omega), List.getElem?_eq_getElem (by omega)⟩
      have hss : s = s2 := by
        have h1 : (L1.map (·.1))[k]? = some s := by rw [List.getElem?_map, hx]; rfl
        have h2 : (L2.map (·.1))[k]? = some s2 := by rw [List.getElem?_map, hx2]; rfl
        rw [HE.out, h2] at h1
        cases h1; rfl
      subst hss
      have ca := fun W (hW : Below wr.heap.size wr W) => alike_eq hv1 hv2 s W (((R1.out.heads _ (List.mem_of_getElem? hx)).below hb).below hW) (((R2.out.heads _ (List.mem_of_getElem? hx2)).below hb).below hW) (HH.out _ (List.mem_of_getElem? hx))
      obtain ⟨b1, o1, g1, i1⟩ := (R1.out.below hb).at_ hx
      obtain ⟨b2, o2, g2, i2⟩ := (R2.out.below hb).at_ hx2
      subst g1 g2
      have hkI : (k : Int) < (n : Int) := by omega
      have hk0 : (0 : Int) ≤ (k : Int) := by omega
      have hkw : IntKind.i64.wrap ((k : Int) + 1) = (k : Int) + 1 := IntWalk.i64_in _ (by omega)
      obtain ⟨p1, hp1⟩ : ∃ p, o1 + k * 7 = p := ⟨_, rfl⟩
      obtain ⟨p2, hp2⟩ : ∃ p, o2 + k * 7 = p := ⟨_, rfl⟩
      rw [hp1] at i1
      rw [hp2] at i2
      have y0 := i1 0 _ rfl
      have y1 := i1 1 _ rfl
      have y2 := i1 2 _ rfl
      have y3 := i1 3 _ rfl
      have y4 := i1 4 _ rfl
      have y5 := i1 5 _ rfl
      have y6 := i1 6 _ rfl
      have z0 := i2 0 _ rfl
      have z1 := i2 1 _ rfl
      have z2 := i2 2 _ rfl
      have z3 := i2 3 _ rfl
      have z4 := i2 4 _ rfl
      have z5 := i2 5 _ rfl
      have z6 := i2 6 _ rfl
      rw [Nat.add_zero] at y0 z0
      have CA := hid ca
      clear hb hx hx2 ca i1 i2
      go_wp2_with fail
      refine wp_region_held_drew (S := fun w' => Below wr.heap.size wr w') (by kernel_rfl) ((Below.refl _ _).drew) (fun hH => ?_)
      refine wpAnyH_take (i := 0) (v := ?_) rfl (by kernel_rfl) (by kernel_rfl) (by kernel_rfl) (fun _ _ _ h => h) (Or.inl ⟨by kernel_rfl, ?_⟩) hH ?_
      rotate_left
      · intro W hS
        have d1 := kept hc1 hS
        have d2 := kept hc2 hS
        have my0 := kept y0 hS
        have my1 := kept y1 hS
        have my2 := kept y2 hS
        have my3 := kept y3 hS
        have my4 := kept y4 hS
        have my5 := kept y5 hS
        have my6 := kept y6 hS
        have mz0 := kept z0 hS
        have mz1 := kept z1 hS
        have mz2 := kept z2 hS
        have mz3 := kept z3 hS
        have mz4 := kept z4 hS
        have mz5 := kept z5 hS
        have mz6 := kept z6 hS
        go_simp
        first | done | with_reducible rfl
      simp only [Act.put, List.getElem_toArray, List.getElem_cons_succ, List.getElem_cons_zero, List.setIfInBounds_toArray, List.set_cons_zero, List.set_cons_succ]
      refine wpAnyH_take (i := 1) (v := ?_) rfl (by kernel_rfl) (by kernel_rfl) (by kernel_rfl) (fun _ _ _ h => h) (Or.inl ⟨by kernel_rfl, ?_⟩) hH ?_
      rotate_left
      · intro W hS
        have d1 := kept hc1 hS
        have d2 := kept hc2 hS
        have my0 := kept y0 hS
        have my1 := kept y1 hS
        have my2 := kept y2 hS
        have my3 := kept y3 hS
        have my4 := kept y4 hS
        have my5 := kept y5 hS
        have my6 := kept y6 hS
        have mz0 := kept z0 hS
        have mz1 := kept z1 hS
        have mz2 := kept z2 hS
        have mz3 := kept z3 hS
        have mz4 := kept z4 hS
        have mz5 := kept z5 hS
        have mz6 := kept z6 hS
        go_simp
        first | done | with_reducible rfl
      simp only [Act.put, List.getElem_toArray, List.getElem_cons_succ, List.getElem_cons_zero, List.setIfInBounds_toArray, List.set_cons_zero, List.set_cons_succ]
      refine wpAnyH_take (i := 2) (v := ?_) rfl (by kernel_rfl) (by kernel_rfl) (by kernel_rfl) (fun _ _ _ h => h) (Or.inl ⟨by kernel_rfl, ?_⟩) hH ?_
      rotate_left
      · intro W hS
        have d1 := kept hc1 hS
        have d2 := kept hc2 hS
        have my0 := kept y0 hS
        have my1 := kept y1 hS
        have my2 := kept y2 hS
        have my3 := kept y3 hS
        have my4 := kept y4 hS
        have my5 := kept y5 hS
        have my6 := kept y6 hS
        have mz0 := kept z0 hS
        have mz1 := kept z1 hS
        have mz2 := kept z2 hS
        have mz3 := kept z3 hS
        have mz4 := kept z4 hS
        have mz5 := kept z5 hS
        have mz6 := kept z6 hS
        go_simp
        first | done | with_reducible rfl
      simp only [Act.put, List.getElem_toArray, List.getElem_cons_succ, List.getElem_cons_zero, List.setIfInBounds_toArray, List.set_cons_zero, List.set_cons_succ]
      refine wpAnyH_take (i := 3) (v := ?_) rfl (by kernel_rfl) (by kernel_rfl) (by kernel_rfl) (fun _ _ _ h => h) (Or.inl ⟨by kernel_rfl, ?_⟩) hH ?_
      rotate_left
      · intro W hS
        have d1 := kept hc1 hS
        have d2 := kept hc2 hS
        have my0 := kept y0 hS
        have my1 := kept y1 hS
        have my2 := kept y2 hS
        have my3 := kept y3 hS
        have my4 := kept y4 hS
        have my5 := kept y5 hS
        have my6 := kept y6 hS
        have mz0 := kept z0 hS
        have mz1 := kept z1 hS
        have mz2 := kept z2 hS
        have mz3 := kept z3 hS
        have mz4 := kept z4 hS
        have mz5 := kept z5 hS
        have mz6 := kept z6 hS
        go_simp
        first | done | with_reducible rfl
      simp only [Act.put, List.getElem_toArray, List.getElem_cons_succ, List.getElem_cons_zero, List.setIfInBounds_toArray, List.set_cons_zero, List.set_cons_succ]
      refine wpAnyH_take (i := 4) (v := ?_) rfl (by kernel_rfl) (by kernel_rfl) (by kernel_rfl) (fun _ _ _ h => h) (Or.inl ⟨by kernel_rfl, ?_⟩) hH ?_
      rotate_left
      · intro W hS
        have d1 := kept hc1 hS
        have d2 := kept hc2 hS
        have my0 := kept y0 hS
        have my1 := kept y1 hS
        have my2 := kept y2 hS
        have my3 := kept y3 hS
        have my4 := kept y4 hS
        have my5 := kept y5 hS
        have my6 := kept y6 hS
        have mz0 := kept z0 hS
        have mz1 := kept z1 hS
        have mz2 := kept z2 hS
        have mz3 := kept z3 hS
        have mz4 := kept z4 hS
        have mz5 := kept z5 hS
        have mz6 := kept z6 hS
        go_simp
        first | done | with_reducible rfl
      simp only [Act.put, List.getElem_toArray, List.getElem_cons_succ, List.getElem_cons_zero, List.setIfInBounds_toArray, List.set_cons_zero, List.set_cons_succ]
      refine wpAnyH_take (i := 5) (v := ?_) rfl (by kernel_rfl) (by kernel_rfl) (by kernel_rfl) (fun _ _ _ h => h) (Or.inl ⟨by kernel_rfl, ?_⟩) hH ?_
      rotate_left
      · intro W hS
        have d1 := kept hc1 hS
        have d2 := kept hc2 hS
        have my0 := kept y0 hS
        have my1 := kept y1 hS
        have my2 := kept y2 hS
        have my3 := kept y3 hS
        have my4 := kept y4 hS
        have my5 := kept y5 hS
        have my6 := kept y6 hS
        have mz0 := kept z0 hS
        have mz1 := kept z1 hS
        have mz2 := kept z2 hS
        have mz3 := kept z3 hS
        have mz4 := kept z4 hS
        have mz5 := kept z5 hS
        have mz6 := kept z6 hS
        go_simp
        first | done | with_reducible rfl
      simp only [Act.put, List.getElem_toArray, List.getElem_cons_succ, List.getElem_cons_zero, List.setIfInBounds_toArray, List.set_cons_zero, List.set_cons_succ]
      refine wpAnyH_take (i := 6) (v := ?_) rfl (by kernel_rfl) (by kernel_rfl) (by kernel_rfl) (fun _ _ _ h => h) (Or.inl ⟨by kernel_rfl, ?_⟩) hH ?_
      rotate_left
      · intro W hS
        have d1 := kept hc1 hS
        have d2 := kept hc2 hS
        have my0 := kept y0 hS
        have my1 := kept y1 hS
        have my2 := kept y2 hS
        have my3 := kept y3 hS
        have my4 := kept y4 hS
        have my5 := kept y5 hS
        have my6 := kept y6 hS
        have mz0 := kept z0 hS
        have mz1 := kept z1 hS
        have mz2 := kept z2 hS
        have mz3 := kept z3 hS
        have mz4 := kept z4 hS
        have mz5 := kept z5 hS
        have mz6 := kept z6 hS
        go_simp
        first | done | with_reducible rfl
      simp only [Act.put, List.getElem_toArray, List.getElem_cons_succ, List.getElem_cons_zero, List.setIfInBounds_toArray, List.set_cons_zero, List.set_cons_succ]
      refine wpAnyH_take (i := 7) (v := ?_) rfl (by kernel_rfl) (by kernel_rfl) (by kernel_rfl) (fun _ _ _ h => h) (Or.inl ⟨by kernel_rfl, ?_⟩) hH ?_
      rotate_left
      · intro W hS
        have d1 := kept hc1 hS
        have d2 := kept hc2 hS
        have my0 := kept y0 hS
        have my1 := kept y1 hS
        have my2 := kept y2 hS
        have my3 := kept y3 hS
        have my4 := kept y4 hS
        have my5 := kept y5 hS
        have my6 := kept y6 hS
        have mz0 := kept z0 hS
        have mz1 := kept z1 hS
        have mz2 := kept z2 hS
        have mz3 := kept z3 hS
        have mz4 := kept z4 hS
        have mz5 := kept z5 hS
        have mz6 := kept z6 hS
        go_simp
        first | done | with_reducible rfl
      simp only [Act.put, List.getElem_toArray, List.getElem_cons_succ, List.getElem_cons_zero, List.setIfInBounds_toArray, List.set_cons_zero, List.set_cons_succ]
      refine wpAnyH_take (i := 8) (v := ?_) rfl (by kernel_rfl) (by kernel_rfl) (by kernel_rfl) (fun _ _ _ h => h) (Or.inl ⟨by kernel_rfl, ?_⟩) hH ?_
      rotate_left
      · intro W hS
        have d1 := kept hc1 hS
        have d2 := kept hc2 hS
        have my0 := kept y0 hS
        have my1 := kept y1 hS
        have my2 := kept y2 hS
        have my3 := kept y3 hS
        have my4 := kept y4 hS
        have my5 := kept y5 hS
        have my6 := kept y6 hS
        have mz0 := kept z0 hS
        have mz1 := kept z1 hS
        have mz2 := kept z2 hS
        have mz3 := kept z3 hS
        have mz4 := kept z4 hS
        have mz5 := kept z5 hS
        have mz6 := kept z6 hS
        go_simp
        first | done | with_reducible rfl
      simp only [Act.put, List.getElem_toArray, List.getElem_cons_succ, List.getElem_cons_zero, List.setIfInBounds_toArray, List.set_cons_zero, List.set_cons_succ]
      refine wpAnyH_take (i := 9) (v := ?_) rfl (by kernel_rfl) (by kernel_rfl) (by kernel_rfl) (fun _ _ _ h => h) (Or.inl ⟨by kernel_rfl, ?_⟩) hH ?_
      rotate_left
      · intro W hS
        have d1 := kept hc1 hS
        have d2 := kept hc2 hS
        have my0 := kept y0 hS
        have my1 := kept y1 hS
        have my2 := kept y2 hS
        have my3 := kept y3 hS
        have my4 := kept y4 hS
        have my5 := kept y5 hS
        have my6 := kept y6 hS
        have mz0 := kept z0 hS
        have mz1 := kept z1 hS
        have mz2 := kept z2 hS
        have mz3 := kept z3 hS
        have mz4 := kept z4 hS
        have mz5 := kept z5 hS
        have mz6 := kept z6 hS
        go_simp
        first | done | with_reducible rfl
      simp only [Act.put, List.getElem_toArray, List.getElem_cons_succ, List.getElem_cons_zero, List.setIfInBounds_toArray, List.set_cons_zero, List.set_cons_succ]
      refine wpAnyH_ready (rs := [10]) (by kernel_rfl) (by simp) ?_
      refine AllReadyH.cons rfl (fun K hK => ?_) AllReadyH.nil
      go_simp
      refine (CA.out _ hH).mono ?_
      rintro e w' ⟨rfl, hS1⟩
      refine hK.out _ _ (chainP hH hS1) (fun hH => ?_)
      clear hK K
      try simp only [Act.put, List.getElem_toArray, List.getElem_cons_succ, List.getElem_cons_zero, List.setIfInBounds_toArray, List.set_cons_zero, List.set_cons_succ]
      refine wpAnyH_take (i := 11) (v := ?_) rfl (by kernel_rfl) (by kernel_rfl) (by kernel_rfl) (fun _ _ _ h => h) (Or.inl ⟨by kernel_rfl, ?_⟩) hH ?_
      rotate_left
      · intro W hS
        have d1 := kept hc1 hS
        have d2 := kept hc2 hS
        have my0 := kept y0 hS
        have my1 := kept y1 hS
        have my2 := kept y2 hS
        have my3 := kept y3 hS
        have my4 := kept y4 hS
        have my5 := kept y5 hS
        have my6 := kept y6 hS
        have mz0 := kept z0 hS
        have mz1 := kept z1 hS
        have mz2 := kept z2 hS
        have mz3 := kept z3 hS
        have mz4 := kept z4 hS
        have mz5 := kept z5 hS
        have mz6 := kept z6 hS
        go_simp
        first | done | with_reducible rfl
      simp only [Act.put, List.getElem_toArray, List.getElem_cons_succ, List.getElem_cons_zero, List.setIfInBounds_toArray, List.set_cons_zero, List.set_cons_succ]
      refine wpAnyH_done (by kernel_rfl) ?_ _
      have d3 := kept hc1 hH
      have d4 := kept hc2 hH
      have HB2 := hid (chainP HB.out hH)
      clear hc1 hc2 y0 y1 y2 y3 y4 y5 y6 z0 z1 z2 z3 z4 z5 z6 hH CA
      go_wp2_with fail
      go_roundw
      case rel => exact ⟨k + 1, by go_num, hlt, d3, d4, HB2.out⟩
      case measure => simp [intOf]; omega
    · go_wp2_with fail
      go_ret
      exact ⟨rfl, HB.out⟩
end Go.Proofs.YtffenndchmcncaaGreatDoor
