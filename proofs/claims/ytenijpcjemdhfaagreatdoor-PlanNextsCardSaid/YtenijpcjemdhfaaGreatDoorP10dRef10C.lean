/-
  The document's answers of layer 10: a table's Config, Right.
-/
import Derived.Test.YtenijpcjemdhfaaGreatDoorP10dMadeT
import Derived.Test.YtenijpcjemdhfaaGreatDoorP10dRef9C
namespace Go.Proofs.YtenijpcjemdhfaaGreatDoor
open Go.RowKit Go.Pantry

theorem zT_readsP {w : World} {B : Nat} {e : TypeId} {v : Value} {n : Nat} {L : List RuleZ} (h : w.ownsRow B e 7 v n (rowsZ (zT L))) (hh : ∀ x ∈ L, Reads w x.2.1 (x.1.heads.map strV)) : ReadsP w v (zT L) :=
  readsP_own h (fun x hx => by obtain ⟨y, hy, rfl⟩ := List.mem_map.1 hx; exact hh y hy)
theorem few_zT {L : List RuleZ} (h : FewR L) : Few (zT L) := few_same h (zT_map L) (fun x hx => by obtain ⟨y, hy, rfl⟩ := List.mem_map.1 hx; exact h.room y hy)
set_option maxRecDepth 8000 in
set_option maxHeartbeats 4000000 in
theorem refTConfig_own (g : Int) (v : Value) (L : List RuleZ) (w : World) (h : ReadsR w v L) (hl : L.length ≤ 1000000) :
    Calls Tryz.prog 27 #[.agg #[.int .i64 g, v]] w fun e w' => ∃ v', e = .returned (.agg #[v']) ∧ w'.ownsRow w.heap.size 70 7 v' L.length (rowsZ (zT L)) ∧ Below w.heap.size w w' := by
  obtain ⟨ao, cap, hv, hcells⟩ := h.form
  subst hv
  obtain ⟨A, hA⟩ : ∃ A, w.heap.size + 1 = A := ⟨_, rfl⟩
  obtain ⟨C, hC⟩ : ∃ C, A + 1 = C := ⟨_, rfl⟩
  have HP := hid h
  obtain ⟨n, hn⟩ : ∃ n, L.length = n := ⟨_, rfl⟩
  rw [hn] at HP hl ⊢
  obtain ⟨W, hW⟩ : ∃ W, ((w.alloc (.cells #[.int .i64 g, .slice ao n cap] 56)).alloc (.cells #[.slice none 0 0] 33)).alloc (.cells #[.slice none 0 0] 33) = W := ⟨_, rfl⟩
  have hbb : Below w.heap.size w W := by rw [← hW]; exact chainP (chainP (below_alloc _ _) (below_alloc _ _)) (below_alloc _ _)
  have J0 : Hid (rowIs W A #[.slice none 0 0] 33 ∧ rowIs W C #[.slice none 0 0] 33 ∧ rowIs W w.heap.size #[.int .i64 g, .slice ao n cap] 56 ∧ Below w.heap.size w W) :=
    ⟨by rw [← hW]; exact (rowIs_new_at _ _ _ _ (by simp; omega)).below (below_alloc _ _), by rw [← hW]; exact rowIs_new_at _ _ _ _ (by simp; omega), by rw [← hW]; exact ((rowIs_new _ _ _).below (below_alloc _ _)).below (below_alloc _ _), hbb⟩
  have HN := hid (show w.heap.size < A ∧ A < C ∧ n ≤ 1000000 ∧ L.length = n from by omega)
  clear hbb h hcells hn
  go_enter Tryz.func27, Tryz.ntmps27
  go_wp2_with fail
  clear hA hC hW
  go_loopw [4] (fun z wr => ∃ (k : Nat) (sv : Value), z = .int .i64 (k : Int) ∧ k ≤ n ∧ rowIs wr A #[.slice none 0 0] 33 ∧ rowIs wr C #[sv] 33 ∧ wr.ownsRow 0 70 7 sv ((zT L).take k).length (rowsZ ((zT L).take k)) ∧ In (fun k => C < k) sv ∧ rowIs wr w.heap.size #[.int .i64 g, .slice ao n cap] 56 ∧ Below w.heap.size w wr) (fun z _ => n - (intOf z).toNat)
  case atStart => exact ⟨0, _, rfl, Nat.zero_le _, J0.out.1, J0.out.2.1, World.ownsRow_nil _ _ _ _, In.nil _ _, J0.out.2.2.1, J0.out.2.2.2⟩
  case round =>
    clear J0
    obtain ⟨k, sv, rfl, hk, hra, hrc, hz, hi, hrb, hb⟩ := hrel
    obtain ⟨aos, cs, hf⟩ := ownsRow_formN hz
    obtain ⟨ns, hns⟩ : ∃ ns, ((zT L).take k).length = ns := ⟨_, rfl⟩
    rw [hns] at hf
    subst hf
    have HB := hid (And.intro hra (And.intro hrc (And.intro hz (And.intro hi (And.intro hrb hb)))))
    have c1 := hrb.cell 1
    by_cases hlt : k < n
    · obtain ⟨⟨s, hv, z⟩, hx⟩ : ∃ x, L[k]? = some x := by
        have := HN.out
        exact ⟨L[k]'(by omega), List.getElem?_eq_getElem (by omega)⟩
      have hrd := HP.out.heads _ (List.mem_of_getElem? hx)
      simp only at hrd
      obtain ⟨aox, cx, hfx⟩ := hrd.form
      obtain ⟨nx, hnx⟩ : ∃ n, (s.heads.map strV).length = n := ⟨_, rfl⟩
      rw [hnx] at hfx
      subst hfx
      obtain ⟨b, off, hao, hc⟩ := HP.out.at_ hx
      subst hao
      obtain ⟨o, ho⟩ : ∃ o, off + k * 8 = o := ⟨_, rfl⟩
      rw [ho] at hc
      have x0 := hc 0 _ rfl
      have x1 := hc 1 _ rfl
      have x2 := hc 2 _ rfl
      have x3 := hc 3 _ rfl
      have x4 := hc 4 _ rfl
      have x5 := hc 5 _ rfl
      have x6 := hc 6 _ rfl
      rw [Nat.add_zero] at x0
      have Y0 := hid x0
      have Y1 := hid x1
      have Y2 := hid x2
      have Y3 := hid x3
      have Y4 := hid x4
      have Y5 := hid x5
      have Y6 := hid x6
      have hx2 : (zT L)[k]? = some (s, .slice aox nx cx) := by unfold zT; rw [List.getElem?_map, hx]; rfl
      have HX := hid hx2
      have hkI : (k : Int) < (n : Int) := by omega
      have hk0 : (0 : Int) ≤ (k : Int) := by omega
      have hkw : IntKind.i64.wrap ((k : Int) + 1) = (k : Int) + 1 := IntWalk.i64_in _ (by omega)
      clear x0 x1 x2 x3 x4 x5 x6 hra hrc hz hb hrb hc hx hx2 hnx hrd hi hns
      go_wp2_with fail
      clear c1
      obtain ⟨w0, hw0⟩ : ∃ W, wr.drew = W := ⟨_, rfl⟩
      have hb0 : Below wr.heap.size wr w0 := by rw [← hw0]; exact (Below.refl _ _).drew
      have HB0 := hid (And.intro (HB.out.1.below hb0) (And.intro (HB.out.2.1.below hb0) (And.intro (HB.out.2.2.1.below hb0) (And.intro HB.out.2.2.2.1 (And.intro (HB.out.2.2.2.2.1.below hb0) (chainP HB.out.2.2.2.2.2 hb0))))))
      clear hb0
      refine wp_region_K 11 (by kernel_rfl) (fun w' => w'.cell? ⟨C, 0, none⟩ = some (.slice aos ns cs) ∧ w'.cell? ⟨w.heap.size, 1, none⟩ = some (.slice (some ⟨b, off, none⟩) n cap) ∧ Below w.heap.size w w') (by rw [hw0]; exact ⟨HB0.out.2.1.cell 0, HB0.out.2.2.2.2.1.cell 1, HB0.out.2.2.2.2.2⟩) (fun hH => ?_)
      rw [hw0] at hH ⊢
      clear hw0
      refine wpAnyK_take (i := 0) (v := ?_) rfl (by kernel_rfl) (by kernel_rfl) (by kernel_rfl) (by decide) (by kernel_rfl) (fun _ _ _ h => h) (Or.inl ⟨by kernel_rfl, ?_⟩) hH ?_
      rotate_left
      · intro W hS
        obtain ⟨q1, q2, q3⟩ := hS
        have y0 := kept Y0.out q3
        have y1 := kept Y1.out q3
        have y2 := kept Y2.out q3
        have y3 := kept Y3.out q3
        have y4 := kept Y4.out q3
        have y5 := kept Y5.out q3
        have y6 := kept Y6.out q3
        go_simp
        first | done | with_reducible rfl
      simp only [Act.put, List.getElem_toArray, List.getElem_cons_succ, List.getElem_cons_zero, List.setIfInBounds_toArray, List.set_cons_zero, List.set_cons_succ]
      refine wpAnyK_take (i := 1) (v := ?_) rfl (by kernel_rfl) (by kernel_rfl) (by kernel_rfl) (by decide) (by kernel_rfl) (fun _ _ _ h => h) (Or.inl ⟨by kernel_rfl, ?_⟩) hH ?_
      rotate_left
      · intro W hS
        obtain ⟨q1, q2, q3⟩ := hS
        have y0 := kept Y0.out q3
        have y1 := kept Y1.out q3
        have y2 := kept Y2.out q3
        have y3 := kept Y3.out q3
        have y4 := kept Y4.out q3
        have y5 := kept Y5.out q3
        have y6 := kept Y6.out q3
        go_simp
        first | done | with_reducible rfl
      simp only [Act.put, List.getElem_toArray, List.getElem_cons_succ, List.getElem_cons_zero, List.setIfInBounds_toArray, List.set_cons_zero, List.set_cons_succ]
      refine wpAnyK_take (i := 2) (v := ?_) rfl (by kernel_rfl) (by kernel_rfl) (by kernel_rfl) (by decide) (by kernel_rfl) (fun _ _ _ h => h) (Or.inl ⟨by kernel_rfl, ?_⟩) hH ?_
      rotate_left
      · intro W hS
        obtain ⟨q1, q2, q3⟩ := hS
        have y0 := kept Y0.out q3
        have y1 := kept Y1.out q3
        have y2 := kept Y2.out q3
        have y3 := kept Y3.out q3
        have y4 := kept Y4.out q3
        have y5 := kept Y5.out q3
        have y6 := kept Y6.out q3
        go_simp
        first | done | with_reducible rfl
      simp only [Act.put, List.getElem_toArray, List.getElem_cons_succ, List.getElem_cons_zero, List.setIfInBounds_toArray, List.set_cons_zero, List.set_cons_succ]
      refine wpAnyK_take (i := 3) (v := ?_) rfl (by kernel_rfl) (by kernel_rfl) (by kernel_rfl) (by decide) (by kernel_rfl) (fun _ _ _ h => h) (Or.inl ⟨by kernel_rfl, ?_⟩) hH ?_
      rotate_left
      · intro W hS
        obtain ⟨q1, q2, q3⟩ := hS
        have y0 := kept Y0.out q3
        have y1 := kept Y1.out q3
        have y2 := kept Y2.out q3
        have y3 := kept Y3.out q3
        have y4 := kept Y4.out q3
        have y5 := kept Y5.out q3
        have y6 := kept Y6.out q3
        go_simp
        first | done | with_reducible rfl
      simp only [Act.put, List.getElem_toArray, List.getElem_cons_succ, List.getElem_cons_zero, List.setIfInBounds_toArray, List.set_cons_zero, List.set_cons_succ]
      refine wpAnyK_take (i := 4) (v := ?_) rfl (by kernel_rfl) (by kernel_rfl) (by kernel_rfl) (by decide) (by kernel_rfl) (fun _ _ _ h => h) (Or.inl ⟨by kernel_rfl, ?_⟩) hH ?_
      rotate_left
      · intro W hS
        obtain ⟨q1, q2, q3⟩ := hS
        have y0 := kept Y0.out q3
        have y1 := kept Y1.out q3
        have y2 := kept Y2.out q3
        have y3 := kept Y3.out q3
        have y4 := kept Y4.out q3
        have y5 := kept Y5.out q3
        have y6 := kept Y6.out q3
        go_simp
        first | done | with_reducible rfl
      simp only [Act.put, List.getElem_toArray, List.getElem_cons_succ, List.getElem_cons_zero, List.setIfInBounds_toArray, List.set_cons_zero, List.set_cons_succ]
      refine wpAnyK_take (i := 5) (v := ?_) rfl (by kernel_rfl) (by kernel_rfl) (by kernel_rfl) (by decide) (by kernel_rfl) (fun _ _ _ h => h) (Or.inl ⟨by kernel_rfl, ?_⟩) hH ?_
      rotate_left
      · intro W hS
        obtain ⟨q1, q2, q3⟩ := hS
        have y0 := kept Y0.out q3
        have y1 := kept Y1.out q3
        have y2 := kept Y2.out q3
        have y3 := kept Y3.out q3
        have y4 := kept Y4.out q3
        have y5 := kept Y5.out q3
        have y6 := kept Y6.out q3
        go_simp
        first | done | with_reducible rfl
      simp only [Act.put, List.getElem_toArray, List.getElem_cons_succ, List.getElem_cons_zero, List.setIfInBounds_toArray, List.set_cons_zero, List.set_cons_succ]
      refine wpAnyK_take (i := 6) (v := ?_) rfl (by kernel_rfl) (by kernel_rfl) (by kernel_rfl) (by decide) (by kernel_rfl) (fun _ _ _ h => h) (Or.inl ⟨by kernel_rfl, ?_⟩) hH ?_
      rotate_left
      · intro W hS
        obtain ⟨q1, q2, q3⟩ := hS
        have y0 := kept Y0.out q3
        have y1 := kept Y1.out q3
        have y2 := kept Y2.out q3
        have y3 := kept Y3.out q3
        have y4 := kept Y4.out q3
        have y5 := kept Y5.out q3
        have y6 := kept Y6.out q3
        go_simp
        first | done | with_reducible rfl
      simp only [Act.put, List.getElem_toArray, List.getElem_cons_succ, List.getElem_cons_zero, List.setIfInBounds_toArray, List.set_cons_zero, List.set_cons_succ]
      refine wpAnyK_take (i := 7) (v := ?_) rfl (by kernel_rfl) (by kernel_rfl) (by kernel_rfl) (by decide) (by kernel_rfl) (fun _ _ _ h => h) (Or.inl ⟨by kernel_rfl, ?_⟩) hH ?_
      rotate_left
      · intro W hS
        obtain ⟨q1, q2, q3⟩ := hS
        have y0 := kept Y0.out q3
        have y1 := kept Y1.out q3
        have y2 := kept Y2.out q3
        have y3 := kept Y3.out q3
        have y4 := kept Y4.out q3
        have y5 := kept Y5.out q3
        have y6 := kept Y6.out q3
        go_simp
        first | done | with_reducible rfl
      simp only [Act.put, List.getElem_toArray, List.getElem_cons_succ, List.getElem_cons_zero, List.setIfInBounds_toArray, List.set_cons_zero, List.set_cons_succ]
      refine wpAnyK_next (i := 8) (by kernel_rfl) rfl (by decide) (fun K hK => ?_)
      obtain ⟨w4, hW4⟩ : ∃ W, W = w0.alloc (.cells (rowZ (.slice aox nx cx) s) 70) := ⟨_, rfl⟩
      have hb4 : Below w0.heap.size w0 w4 := by rw [hW4]; exact below_alloc _ _
      have hS4 := hid (And.intro (HB0.out.1.below hb4) (And.intro (HB0.out.2.1.below hb4) (And.intro (HB0.out.2.2.1.below hb4) (And.intro (chainP HB0.out.2.2.2.2.2 hb4) (HB0.out.2.2.2.2.1.below hb4)))))
      have HC4 : Hid (rowIs w4 w0.heap.size (rowZ (.slice aox nx cx) s) 70) := by rw [hW4]; exact rowIs_new _ _ _
      go_simp
      rw [← hW4]
      clear hW4 hb4
      refine hK.out _ _ ⟨hS4.out.2.1.cell 0, hS4.out.2.2.2.2.cell 1, hS4.out.2.2.2.1⟩ (fun hH => ?_)
      clear hK K
      try simp only [Act.put, List.getElem_toArray, List.getElem_cons_succ, List.getElem_cons_zero, List.setIfInBounds_toArray, List.set_cons_zero, List.set_cons_succ]
      refine wpAnyK_next (i := 9) (by kernel_rfl) rfl (by decide) (fun K hK => ?_)
      rw [if_pos (by kernel_rfl)]
      refine wp_append_gen w4 (.tmp 13) (.tmp 20) 31 rfl 0 70 Tryz.underlying31 infoRefSiteA rfl (by decide) (by decide) (v := .slice aos ns cs) rfl hS4.out.2.2.1 ⟨w0.heap.size, 0, none⟩ 1 1 (rowZ (.slice aox nx cx) s).toList rfl (fun j u hj => ?_) (rowZ_one) rfl (by have h1 := HN.out; have h2 := (List.take_sublist k (zT L)).length_le; rw [zT_len] at h2; omega) (Nat.zero_le _) (fun v6 w6 ho6 hg6 hi6 => ?_)
      · rw [addAt2, Nat.zero_add, HC4.out.cell j]; simpa using hj
      obtain ⟨ao6, n6, c6, rfl⟩ : ∃ ao n c, v6 = .slice ao n c := by obtain ⟨ao, c, e⟩ := ownsRow_formN ho6; exact ⟨ao, _, c, e⟩
      have kk6 : Kept (fun k => (Value.slice aos ns cs).ownBlock = some k) w4 w6 := (Kept.refl (fun k => (Value.slice aos ns cs).ownBlock = some k) w4).grown hg6 (fun k hk _ => hk)
      have hC4 := hS4.out.2.1.lt
      have i6 : In (fun k => C < k) (.slice ao6 n6 c6) := fun k hk => by
        rcases hi6 k hk with e | e
        · exact HB0.out.2.2.2.1 k e
        · omega
      have O6 := hS4.out.1.kept kk6 (fun e => by have := HB0.out.2.2.2.1 _ e; have := HN.out; omega)
      have C6 := hS4.out.2.1.kept kk6 (fun e => by have := HB0.out.2.2.2.1 _ e; omega)
      have B6 := hS4.out.2.2.2.2.kept kk6 (fun e => by have := HB0.out.2.2.2.1 _ e; have := HN.out; omega)
      have L6 := (((Kept.of_below (X := fun k => w.heap.size ≤ k) hS4.out.2.2.2.1).trans kk6 (fun k h hk => by have := HB0.out.2.2.2.1 k h; have := HN.out; omega)).below (fun k h _ => h) (Nat.le_refl _))
      have kC := (Kept.refl (fun k => k = C) w6).setCell (i := 0) (.inl rfl) (.slice ao6 n6 c6)
      have H6 := hid (And.intro (O6.kept kC (by have := HN.out; omega)) (And.intro (C6.setCell 0 (.slice ao6 n6 c6)) (And.intro (ownsRow_kept ho6 kC (fun k hk e => by have := i6 k hk; omega)) (And.intro i6 (And.intro (B6.kept kC (by have := HN.out; omega)) (((Kept.of_below (X := fun k => w.heap.size ≤ k) L6).trans kC (fun k h hk => by have := HN.out; omega)).below (fun k h _ => h) (Nat.le_refl _)))))))
      have cc6 := C6.cell 0
      have ff6 := C6.free 0
      have bb6 := B6.cell 1
      clear kk6 hC4 i6 O6 C6 B6 kC ho6 hg6 hi6
      refine hK.out _ _ ⟨cc6, bb6, L6⟩ (fun hH => ?_)
      clear hK K
      try simp only [Act.put, List.getElem_toArray, List.getElem_cons_succ, List.getElem_cons_zero, List.setIfInBounds_toArray, List.set_cons_zero, List.set_cons_succ]
      refine wpAnyK_take (i := 10) (v := ?_) rfl (by kernel_rfl) (by kernel_rfl) (by kernel_rfl) (by decide) (by kernel_rfl) (fun _ _ _ h => h) (Or.inl ⟨by kernel_rfl, ?_⟩) hH ?_
      rotate_left
      · intro W hS
        obtain ⟨q1, q2, q3⟩ := hS
        have y0 := kept Y0.out q3
        have y1 := kept Y1.out q3
        have y2 := kept Y2.out q3
        have y3 := kept Y3.out q3
        have y4 := kept Y4.out q3
        have y5 := kept Y5.out q3
        have y6 := kept Y6.out q3
        go_simp
        first | done | with_reducible rfl
      simp only [Act.put, List.getElem_toArray, List.getElem_cons_succ, List.getElem_cons_zero, List.setIfInBounds_toArray, List.set_cons_zero, List.set_cons_succ]
      refine wpAnyK_last (by kernel_rfl) rfl (fun K hK => ?_)
      go_simp
      refine hK.out _ _ ?_
      clear hK K
      try simp only [Act.put, List.getElem_toArray, List.getElem_cons_succ, List.getElem_cons_zero, List.setIfInBounds_toArray, List.set_cons_zero, List.set_cons_succ]
      refine wpAnyK_done (by kernel_rfl) ?_ _
      clear hH
      go_wp2_with fail
      go_roundw
      case rel =>
        refine ⟨k + 1, _, by go_num, hlt, H6.out.1, H6.out.2.1, ?_, H6.out.2.2.2.1, H6.out.2.2.2.2⟩
        rw [List.take_add_one, HX.out, List.length_append]
        show World.ownsRow _ 0 _ 7 _ _ (rowsZ ((zT L).take k ++ [(s, .slice aox nx cx)]))
        rw [rowsZ_snoc]
        exact H6.out.2.2.1
      case measure => simp [intOf]; omega
    · have hca := hrc.cell 0
      have hkn : k = n := by omega
      have HK := hid hkn
      have haf := hra.cell 0
      have hff := hra.free 0
      have hkI : ¬ (k : Int) < (n : Int) := by omega
      clear hra hz hb hns hkn hi hrb hrc
      go_wp2_with fail
      refine bodyPost_ret (results_row Tryz.results27 _ _ A _ rfl (HB.out.1.setCell 0 (.slice aos ns cs)) Tryz.underlying33 rfl infoRefCfg) rfl ?_
      have kA := (Kept.refl (fun k => k = A) wr).setCell (i := 0) (.inl rfl) (.slice aos ns cs)
      have hLk : (zT L).take k = zT L := List.take_of_length_le (by rw [zT_len]; have := HN.out; have := HK.out; omega)
      have hz := own_raise (ownsRow_kept HB.out.2.2.1 kA (fun k hk e => by have := HB.out.2.2.2.1 k hk; have := HN.out; omega)) (B' := w.heap.size) (fun k hk => by have := HB.out.2.2.2.1 k hk; have := HN.out; omega)
      rw [hLk, zT_len, HN.out.2.2.2] at hz
      have hbe : Below w.heap.size w (wr.setCell ⟨A, 0, none⟩ (.slice aos ns cs)) := ((Kept.of_below (X := fun k => w.heap.size ≤ k) HB.out.2.2.2.2.2).trans kA (fun k h hk => by have := HN.out; omega)).below (fun k h _ => h) (Nat.le_refl _)
      exact ⟨.slice aos ns cs, rfl, hz, hbe⟩
theorem refTConfig_any (g : Int) (v : Value) (L : List RuleZ) (w : World) (h : ReadsR w v L) (hl : L.length ≤ 1000000) :
    Calls Tryz.prog 27 #[.agg #[.int .i64 g, v]] w fun e w' => ∃ v', e = .returned (.agg #[v']) ∧ ReadsP w' v' (zT L) ∧ Below w.heap.size w w' := by
  refine (refTConfig_own g v L w h hl).mono ?_
  rintro e w1 ⟨v', rfl, ho, hb⟩
  exact ⟨v', rfl, zT_readsP ho (fun x hx => (h.heads x hx).below hb), hb⟩
set_option maxRecDepth 8000 in
set_option maxHeartbeats 4000000 in
theorem refTRight_any (g : Int) (v : Value) (L : List RuleZ) (w : World) (h : ReadsR w v L) (hf : FewR L) :
    Calls Tryz.prog 25 #[.agg #[.int .i64 g, v]] w fun e w' => e = .returned (.bool (rightT g (tT L))) ∧ Below w.heap.size w w' := by
  obtain ⟨ao, cap, hv, hcells⟩ := h.form
  subst hv
  have HP := hid h
  obtain ⟨n, hn⟩ : ∃ n, L.length = n := ⟨_, rfl⟩
  have hl : n ≤ 1000000 := by rw [← hn]; exact hf.len
  rw [hn] at HP ⊢
  obtain ⟨W, hW⟩ : ∃ W, w.alloc (.cells #[.int .i64 g, .slice ao n cap] 56) = W := ⟨_, rfl⟩
  have hb : Below w.heap.size w W := by rw [← hW]; exact below_alloc _ _
  have q1 : rowIs W w.heap.size #[.int .i64 g, .slice ao n cap] 56 := by rw [← hW]; exact rowIs_new _ _ _
  have HQ := hid (And.intro q1 hb)
  have HN := hid (And.intro hl hn)
  have HF := hid hf
  have y0 := q1.cell 0
  clear h hcells hn q1 hb hf
  go_enter Tryz.func25, Tryz.ntmps25
  by_cases c1 : g < 0
  · go_wp2_with fail
    go_ret
    exact ⟨by rw [rightT_lo (by omega)]; rfl, HQ.out.2⟩
  by_cases c2 : 253402300799 < g
  · go_wp2_with fail
    go_ret
    exact ⟨by rw [rightT_lo (by omega)]; rfl, HQ.out.2⟩
  have HG := hid (show 0 ≤ g ∧ g ≤ 253402300799 by omega)
  go_wp2_with fail
  clear y0 c1 c2 hW
  go_loopw [3] (fun z wr => ∃ (k : Nat), z = .int .i64 (k : Int) ∧ k ≤ n ∧ (∀ r ∈ (tT L).take k, 1 ≤ r.2 ∧ r.2 ≤ g) ∧ Below W.heap.size W wr) (fun z _ => n - (intOf z).toNat)
  case atStart => exact ⟨0, rfl, Nat.zero_le _, fun r hr => absurd hr (by simp), Below.refl _ _⟩
  case round =>
    obtain ⟨k, rfl, hk, hall, hb⟩ := hrel
    have HB := hid (And.intro hall (And.intro hb (chainP HQ.out.2 hb)))
    have y0 := (HQ.out.1.below hb).cell 0
    have y1 := (HQ.out.1.below hb).cell 1
    by_cases hlt : k < n
    · obtain ⟨⟨s, hvx, z⟩, hx⟩ : ∃ x, L[k]? = some x := by
        have := HN.out
        exact ⟨L[k]'(by omega), List.getElem?_eq_getElem (by omega)⟩
      obtain ⟨b, off, hao, hc⟩ := (HP.out.below HB.out.2.2).at_ hx
      subst hao
      obtain ⟨o, ho⟩ : ∃ o, off + k * 8 = o := ⟨_, rfl⟩
      rw [ho] at hc
      have x7 : wr.cell? ⟨b, o + 7, none⟩ = some (.int .i64 z) := hc 7 _ rfl
      have hx2 : (tT L)[k]? = some (s, z) := by unfold tT; rw [List.getElem?_map, hx]; rfl
      have HX := hid hx2
      have hkI : (k : Int) < (n : Int) := by omega
      have hk0 : (0 : Int) ≤ (k : Int) := by omega
      have hkw : IntKind.i64.wrap ((k : Int) + 1) = (k : Int) + 1 := IntWalk.i64_in _ (by omega)
      clear hb hall hc hx hx2
      have wb := fun n => below_drewN HB.out.2.2 n
      have wb2 := fun n => below_drewN HB.out.2.1 n
      have HWB := hid (And.intro wb wb2)
      clear wb wb2
      by_cases c1 : z < 1
      · have d1 : decide (z < 1) = true := decide_eq_true c1
        go_wp2_with fail
        go_quiet (fail)
        go_wp2_with fail
        go_ret
        exact ⟨by rw [rightT_at HX.out (by simp only; omega)]; rfl, HWB.out.1 _⟩
      have d1 : decide (z < 1) = false := decide_eq_false c1
      by_cases c2 : g < z
      · have d2 : decide (g < z) = true := decide_eq_true c2
        go_wp2_with fail
        go_quiet (fail)
        go_wp2_with fail
        go_ret
        exact ⟨by rw [rightT_at HX.out (by simp only; omega)]; rfl, HWB.out.1 _⟩
      have d2 : decide (g < z) = false := decide_eq_false c2
      have HZ := hid (show 1 ≤ z ∧ z ≤ g by omega)
      go_wp2_with fail
      go_quiet (fail)
      go_wp2_with fail
      clear x7 y0 y1
      go_roundw
      case rel =>
        refine ⟨k + 1, by go_num, hlt, fun r hr => ?_, HWB.out.2 _⟩
        rw [List.take_add_one, HX.out] at hr
        rcases List.mem_append.1 hr with e | e
        · exact HB.out.1 r e
        · obtain rfl : r = (s, z) := by simpa using e
          exact HZ.out
      case measure => simp [intOf]; omega
    · have hkn : k = n := by omega
      have e0 : (tT L).take k = tT L := List.take_of_length_le (by rw [tT_len]; have := HN.out; omega)
      rw [e0] at hall
      have HR := hid (rightT_rest HG.out hall)
      have hkI : ¬ (k : Int) < (n : Int) := by omega
      have cc := refTConfig_any g (.slice ao n cap) L wr (HP.out.below HB.out.2.2) HF.out.len
      have CC := hid cc
      clear hall hb hkn e0 cc
      go_wp2_with fail
      refine CC.out.mono ?_
      rintro e w2 ⟨v2, rfl, hr2, hb2⟩
      have hb2' := chainP HB.out.2.2 hb2
      have HB2 := hid hb2'
      obtain ⟨a2, c2, hf2, -⟩ := hr2.form
      obtain ⟨n2, hn2⟩ : ∃ n, (zT L).length = n := ⟨_, rfl⟩
      have cr := refConfigRight_any v2 (zT L) w2 hr2 (few_zT HF.out)
      have e3 : rightC ((zT L).map (·.1)) = rightT g (tT L) := by rw [HR.out, zT_map, tT_map]
      rw [e3] at cr
      rw [hn2] at hf2
      subst hf2
      have CR := hid cr
      clear y0 y1 hb2 hb2' hr2 cr e3 hn2
      go_wp2_with fail
      refine CR.out.mono ?_
      rintro e w3 ⟨rfl, hb3⟩
      go_wp2_with fail
      go_ret
      exact ⟨rfl, chainP HB2.out hb3⟩
end Go.Proofs.YtenijpcjemdhfaaGreatDoor
