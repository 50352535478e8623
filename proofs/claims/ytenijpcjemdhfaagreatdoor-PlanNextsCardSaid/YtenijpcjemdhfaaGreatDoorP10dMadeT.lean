/-
  Contracts of package pantrymade: Table.
-/
import Derived.Test.YtenijpcjemdhfaaGreatDoorP10dPlanJ
import Derived.Test.YtenijpcjemdhfaaGreatDoorP10d04
namespace Go.Proofs.YtenijpcjemdhfaaGreatDoor
open Go.RowKit Go.Pantry

theorem ownBelow {w w' : World} {B : Nat} {e : TypeId} {size : Nat} {v : Value} {n : Nat} {xs : List Value} (h : w.ownsRow B e size v n xs) (hb : Below w.heap.size w w') : w'.ownsRow B e size v n xs := h.below hb
theorem infoRefRuleA : (Tryz.prog.info? 72).map (fun i => (i.zero, i.size, i.bytes)) = some (some (.agg zeroRule), 8, 80) := by kernel_rfl
theorem infoRefTable : (Tryz.prog.info? 56).map (·.size) = some 2 := by kernel_rfl
set_option maxRecDepth 8000 in
set_option maxHeartbeats 4000000 in
theorem madeTable_own (g : Int) (v : Value) (L : List RuleZ) (w : World) (h : ReadsR w v L) (hl : L.length ≤ 1000000) :
    Calls Tryz.prog 22 #[.agg #[.int .i64 g, v]] w fun e w' => ∃ v', e = .returned (.agg #[.int .i64 g, v']) ∧ w'.ownsRow w.heap.size 72 8 v' L.length (rowsR L) ∧ Below w.heap.size w w' := by
  obtain ⟨ao, cap, hv, hcells⟩ := h.form
  subst hv
  obtain ⟨A, hA⟩ : ∃ A, w.heap.size + 1 = A := ⟨_, rfl⟩
  obtain ⟨C, hC⟩ : ∃ C, A + 1 = C := ⟨_, rfl⟩
  have HP := hid h
  obtain ⟨n, hn⟩ : ∃ n, L.length = n := ⟨_, rfl⟩
  rw [hn] at HP hl ⊢
  obtain ⟨W0, hW0⟩ : ∃ W, (w.alloc (.cells #[.int .i64 g, .slice ao n cap] 52)).alloc (.cells zeroTab 56) = W := ⟨_, rfl⟩
  obtain ⟨W, hW⟩ : ∃ W, W0.alloc (.cells #[.int .i64 g, .slice none 0 0] 56) = W := ⟨_, rfl⟩
  have hs0 : W0.heap.size = C := by rw [← hW0]; simp; omega
  have hb0 : Below w.heap.size w W0 := by rw [← hW0]; exact chainP (below_alloc _ _) (below_alloc _ _)
  have hb1 : Below W0.heap.size W0 W := by rw [← hW]; exact below_alloc _ _
  have hbb : Below w.heap.size w W := chainP hb0 hb1
  have ra : rowIs W0 A zeroTab 56 := by rw [← hW0]; exact rowIs_new_at _ _ _ _ (by simp; omega)
  have J0 : Hid (rowIs W A zeroTab 56 ∧ rowIs W C #[.int .i64 g, .slice none 0 0] 56 ∧ Below w.heap.size w W) :=
    ⟨ra.below hb1, by rw [← hW, ← hs0]; exact rowIs_new _ _ _, hbb⟩
  have HN := hid (show w.heap.size < A ∧ A < C ∧ n ≤ 1000000 ∧ L.length = n from by omega)
  have j0 : rowIs W0 w.heap.size #[.int .i64 g, .slice ao n cap] 52 := by rw [← hW0]; exact (rowIs_new _ _ _).below (below_alloc _ _)
  have hg0 : W0.cell? ⟨w.heap.size, 0, none⟩ = some (.int .i64 g) := j0.cell 0
  have hcb : W.cell? ⟨w.heap.size, 1, none⟩ = some (.slice ao n cap) := (j0.below hb1).cell 1
  clear hbb h hcells hn hb0 hb1 ra j0
  subst hW
  go_enter Tryz.func22, Tryz.ntmps22
  go_wp2_with fail
  clear hcb hA hC hW0 hg0 hs0
  go_loopw [12] (fun z wr => ∃ (k : Nat) (sv : Value), z = .int .i64 (k : Int) ∧ k ≤ n ∧ rowIs wr A zeroTab 56 ∧ rowIs wr C #[.int .i64 g, sv] 56 ∧ wr.ownsRow 0 72 8 sv (L.take k).length (rowsR (L.take k)) ∧ In (fun k => C < k) sv ∧ Below w.heap.size w wr) (fun z _ => n - (intOf z).toNat)
  case atStart => exact ⟨0, _, rfl, Nat.zero_le _, J0.out.1, J0.out.2.1, World.ownsRow_nil _ _ _ _, In.nil _ _, J0.out.2.2⟩
  case round =>
    clear J0
    obtain ⟨k, sv, rfl, hk, hra, hrc, hz, hi, hb⟩ := hrel
    obtain ⟨aos, cs, hf⟩ := ownsRow_formN hz
    obtain ⟨ns, hns⟩ : ∃ ns, (L.take k).length = ns := ⟨_, rfl⟩
    rw [hns] at hf
    subst hf
    have HB := hid (And.intro hra (And.intro hrc (And.intro hz (And.intro hi hb))))
    have hcc := hrc.cell 1
    by_cases hlt : k < n
    · obtain ⟨⟨s, hvx, z⟩, hx⟩ : ∃ x, L[k]? = some x := by
        have := HN.out
        exact ⟨L[k]'(by omega), List.getElem?_eq_getElem (by omega)⟩
      have hrd := HP.out.heads _ (List.mem_of_getElem? hx)
      simp only at hrd
      obtain ⟨aox, cx, hfx⟩ := hrd.form
      obtain ⟨nx, hnx⟩ : ∃ n, (s.heads.map strV).length = n := ⟨_, rfl⟩
      rw [hnx] at hfx
      subst hfx
      obtain ⟨b, off, hao, hc⟩ := (HP.out.below hb).at_ hx
      subst hao
      obtain ⟨o, ho⟩ : ∃ o, off + k * 8 = o := ⟨_, rfl⟩
      rw [ho] at hc
      have x0 := hc 0 _ rfl
      have x1 := hc 1 _ rfl
      have x2 := hc 2 _ rfl
      have x3 := hc 3 _ rfl
      have x4 := hc 4 _ rfl
      have x5 := hc 5 _ rfl
      have x6 := hc 6 _ rfl
      have x7 := hc 7 _ rfl
      rw [Nat.add_zero] at x0
      have HX := hid hx
      have hkI : (k : Int) < (n : Int) := by omega
      have hk0 : (0 : Int) ≤ (k : Int) := by omega
      have hkw : IntKind.i64.wrap ((k : Int) + 1) = (k : Int) + 1 := IntWalk.i64_in _ (by omega)
      clear hra hz hb hc hx hnx hrd hi hns
      go_wp2_with fail
      obtain ⟨wx, hWX⟩ : ∃ W, wr.alloc (.cells (rowRz (s, .slice aox nx cx, z)) 66) = W := ⟨_, rfl⟩
      have hbx : Below wr.heap.size wr wx := by rw [← hWX]; exact below_alloc _ _
      have hrx : rowIs wx wr.heap.size (rowRz (s, .slice aox nx cx, z)) 66 := by rw [← hWX]; exact rowIs_new _ _ _
      have hccx : wx.cell? ⟨C, 1, none⟩ = some (.slice aos ns cs) := kept hcc hbx
      have HSV := hid (show ¬ (Value.slice aos ns cs).ownBlock = some wr.heap.size from fun e => by have := (HB.out.2.2.1.lt _ e).2; omega)
      clear x0 x1 x2 x3 x4 x5 x6 x7 hcc
      change Code.wp _ _ _ _ (wr.alloc (.cells (rowRz (s, .slice aox nx cx, z)) 66))
      rw [hWX]
      refine wp_region_K 11 (by kernel_rfl) (fun w' => w'.cell? ⟨C, 1, none⟩ = some (.slice aos ns cs) ∧ rowIs w' wr.heap.size (rowRz (s, .slice aox nx cx, z)) 66) ⟨hccx, hrx⟩ (fun hH => ?_)
      refine wpAnyK_take (i := 0) (v := ?_) rfl (by kernel_rfl) (by kernel_rfl) (by kernel_rfl) (by decide) (by kernel_rfl) (fun _ _ _ h => h) (Or.inl ⟨by kernel_rfl, ?_⟩) hH ?_
      rotate_left
      · intro W hS
        obtain ⟨q1, q2⟩ := hS
        have y0 := q2.cell 0
        have y1 := q2.cell 1
        have y2 := q2.cell 2
        have y3 := q2.cell 3
        have y4 := q2.cell 4
        have y5 := q2.cell 5
        have y6 := q2.cell 6
        have y7 := q2.cell 7
        go_simp
        first | done | with_reducible rfl
      simp only [Act.put, List.getElem_toArray, List.getElem_cons_succ, List.getElem_cons_zero, List.setIfInBounds_toArray, List.set_cons_zero, List.set_cons_succ]
      refine wpAnyK_take (i := 1) (v := ?_) rfl (by kernel_rfl) (by kernel_rfl) (by kernel_rfl) (by decide) (by kernel_rfl) (fun _ _ _ h => h) (Or.inl ⟨by kernel_rfl, ?_⟩) hH ?_
      rotate_left
      · intro W hS
        obtain ⟨q1, q2⟩ := hS
        have y0 := q2.cell 0
        have y1 := q2.cell 1
        have y2 := q2.cell 2
        have y3 := q2.cell 3
        have y4 := q2.cell 4
        have y5 := q2.cell 5
        have y6 := q2.cell 6
        have y7 := q2.cell 7
        go_simp
        first | done | with_reducible rfl
      simp only [Act.put, List.getElem_toArray, List.getElem_cons_succ, List.getElem_cons_zero, List.setIfInBounds_toArray, List.set_cons_zero, List.set_cons_succ]
      refine wpAnyK_take (i := 2) (v := ?_) rfl (by kernel_rfl) (by kernel_rfl) (by kernel_rfl) (by decide) (by kernel_rfl) (fun _ _ _ h => h) (Or.inl ⟨by kernel_rfl, ?_⟩) hH ?_
      rotate_left
      · intro W hS
        obtain ⟨q1, q2⟩ := hS
        have y0 := q2.cell 0
        have y1 := q2.cell 1
        have y2 := q2.cell 2
        have y3 := q2.cell 3
        have y4 := q2.cell 4
        have y5 := q2.cell 5
        have y6 := q2.cell 6
        have y7 := q2.cell 7
        go_simp
        first | done | with_reducible rfl
      simp only [Act.put, List.getElem_toArray, List.getElem_cons_succ, List.getElem_cons_zero, List.setIfInBounds_toArray, List.set_cons_zero, List.set_cons_succ]
      refine wpAnyK_take (i := 3) (v := ?_) rfl (by kernel_rfl) (by kernel_rfl) (by kernel_rfl) (by decide) (by kernel_rfl) (fun _ _ _ h => h) (Or.inl ⟨by kernel_rfl, ?_⟩) hH ?_
      rotate_left
      · intro W hS
        obtain ⟨q1, q2⟩ := hS
        have y0 := q2.cell 0
        have y1 := q2.cell 1
        have y2 := q2.cell 2
        have y3 := q2.cell 3
        have y4 := q2.cell 4
        have y5 := q2.cell 5
        have y6 := q2.cell 6
        have y7 := q2.cell 7
        go_simp
        first | done | with_reducible rfl
      simp only [Act.put, List.getElem_toArray, List.getElem_cons_succ, List.getElem_cons_zero, List.setIfInBounds_toArray, List.set_cons_zero, List.set_cons_succ]
      refine wpAnyK_take (i := 5) (v := ?_) rfl (by kernel_rfl) (by kernel_rfl) (by kernel_rfl) (by decide) (by kernel_rfl) (fun _ _ _ h => h) (Or.inl ⟨by kernel_rfl, ?_⟩) hH ?_
      rotate_left
      · intro W hS
        obtain ⟨q1, q2⟩ := hS
        have y0 := q2.cell 0
        have y1 := q2.cell 1
        have y2 := q2.cell 2
        have y3 := q2.cell 3
        have y4 := q2.cell 4
        have y5 := q2.cell 5
        have y6 := q2.cell 6
        have y7 := q2.cell 7
        go_simp
        first | done | with_reducible rfl
      simp only [Act.put, List.getElem_toArray, List.getElem_cons_succ, List.getElem_cons_zero, List.setIfInBounds_toArray, List.set_cons_zero, List.set_cons_succ]
      refine wpAnyK_take (i := 6) (v := ?_) rfl (by kernel_rfl) (by kernel_rfl) (by kernel_rfl) (by decide) (by kernel_rfl) (fun _ _ _ h => h) (Or.inl ⟨by kernel_rfl, ?_⟩) hH ?_
      rotate_left
      · intro W hS
        obtain ⟨q1, q2⟩ := hS
        have y0 := q2.cell 0
        have y1 := q2.cell 1
        have y2 := q2.cell 2
        have y3 := q2.cell 3
        have y4 := q2.cell 4
        have y5 := q2.cell 5
        have y6 := q2.cell 6
        have y7 := q2.cell 7
        go_simp
        first | done | with_reducible rfl
      simp only [Act.put, List.getElem_toArray, List.getElem_cons_succ, List.getElem_cons_zero, List.setIfInBounds_toArray, List.set_cons_zero, List.set_cons_succ]
      refine wpAnyK_next (i := 4) (by kernel_rfl) rfl (by decide) (fun K hK => ?_)
      go_simp
      refine (madeSite_any (.slice aox nx cx) s _ ⟨_, _, _, rfl⟩).mono ?_
      rintro e w3 ⟨rfl, hb3⟩
      replace hb3 := below_of_drew hb3
      have hS3 := hid (And.intro (HB.out.1.below (chainP hbx hb3)) (And.intro (HB.out.2.1.below (chainP hbx hb3)) (And.intro (ownBelow HB.out.2.2.1 (chainP hbx hb3)) (chainP HB.out.2.2.2.2 (chainP hbx hb3)))))
      have hq3 := hrx.below hb3
      have c3 := hS3.out.2.1.cell 1
      clear hb3
      refine hK.out _ _ ⟨c3, hq3⟩ (fun hH => ?_)
      clear hK K
      try simp only [Act.put, List.getElem_toArray, List.getElem_cons_succ, List.getElem_cons_zero, List.setIfInBounds_toArray, List.set_cons_zero, List.set_cons_succ]
      refine wpAnyK_take (i := 7) (v := ?_) rfl (by kernel_rfl) (by kernel_rfl) (by kernel_rfl) (by decide) (by kernel_rfl) (fun _ _ _ h => h) (Or.inl ⟨by kernel_rfl, ?_⟩) hH ?_
      rotate_left
      · intro W hS
        obtain ⟨q1, q2⟩ := hS
        have y0 := q2.cell 0
        have y1 := q2.cell 1
        have y2 := q2.cell 2
        have y3 := q2.cell 3
        have y4 := q2.cell 4
        have y5 := q2.cell 5
        have y6 := q2.cell 6
        have y7 := q2.cell 7
        go_simp
        first | done | with_reducible rfl
      simp only [Act.put, List.getElem_toArray, List.getElem_cons_succ, List.getElem_cons_zero, List.setIfInBounds_toArray, List.set_cons_zero, List.set_cons_succ]
      refine wpAnyK_next (i := 8) (by kernel_rfl) rfl (by decide) (fun K hK => ?_)
      obtain ⟨w4, hW4⟩ : ∃ W, W = w3.alloc (.cells (rowRz (s, .slice aox nx cx, z)) 72) := ⟨_, rfl⟩
      have hb4 : Below w3.heap.size w3 w4 := by rw [hW4]; exact below_alloc _ _
      have hS4 := hid (And.intro (hS3.out.1.below hb4) (And.intro (hS3.out.2.1.below hb4) (And.intro (ownBelow hS3.out.2.2.1 hb4) (chainP hS3.out.2.2.2 hb4))))
      have hq4 := hq3.below hb4
      have HC4 : Hid (rowIs w4 w3.heap.size (rowRz (s, .slice aox nx cx, z)) 72) := by rw [hW4]; exact rowIs_new _ _ _
      have c4x := hS4.out.2.1.cell 1
      go_simp
      rw [← hW4]
      clear hW4 hb4
      refine hK.out _ _ ⟨c4x, hq4⟩ (fun hH => ?_)
      clear hK K
      try simp only [Act.put, List.getElem_toArray, List.getElem_cons_succ, List.getElem_cons_zero, List.setIfInBounds_toArray, List.set_cons_zero, List.set_cons_succ]
      refine wpAnyK_next (i := 9) (by kernel_rfl) rfl (by decide) (fun K hK => ?_)
      rw [if_pos (by kernel_rfl)]
      refine wp_append_gen w4 (.tmp 17) (.tmp 24) 54 rfl 0 72 Tryz.underlying54 infoRefRuleA rfl (by decide) (by decide) (v := .slice aos ns cs) rfl hS4.out.2.2.1 ⟨w3.heap.size, 0, none⟩ 1 1 (rowRz (s, .slice aox nx cx, z)).toList rfl (fun j u hj => ?_) (rowRz_one) rfl (by have h1 := HN.out; have h2 := (List.take_sublist k L).length_le; omega) (Nat.zero_le _) (fun v6 w6 ho6 hg6 hi6 => ?_)
      · rw [addAt2, Nat.zero_add, HC4.out.cell j]; simpa using hj
      obtain ⟨ao6, n6, c6, rfl⟩ : ∃ ao n c, v6 = .slice ao n c := by obtain ⟨ao, c, e⟩ := ownsRow_formN ho6; exact ⟨ao, _, c, e⟩
      have kk6 : Kept (fun k => (Value.slice aos ns cs).ownBlock = some k) w4 w6 := (Kept.refl (fun k => (Value.slice aos ns cs).ownBlock = some k) w4).grown hg6 (fun k hk _ => hk)
      have hC4 := hS4.out.2.1.lt
      have i6 : In (fun k => C < k) (.slice ao6 n6 c6) := fun k hk => by
        rcases hi6 k hk with e | e
        · exact HB.out.2.2.2.1 k e
        · omega
      have O6 := hS4.out.1.kept kk6 (fun e => by have := HB.out.2.2.2.1 _ e; have := HN.out; omega)
      have C6 := hS4.out.2.1.kept kk6 (fun e => by have := HB.out.2.2.2.1 _ e; omega)
      have kC := (Kept.refl (fun k => k = C) w6).setCell (i := 1) (.inl rfl) (.slice ao6 n6 c6)
      have H6 := hid (And.intro (O6.kept kC (by have := HN.out; omega)) (And.intro (C6.setCell 1 (.slice ao6 n6 c6)) (And.intro (ownsRow_kept ho6 kC (fun k hk e => by have := i6 k hk; omega)) (And.intro i6 ((((Kept.of_below (X := fun k => w.heap.size ≤ k) hS4.out.2.2.2).trans kk6 (fun k h hk => by have := HB.out.2.2.2.1 k h; have := HN.out; omega)).trans kC (fun k h hk => by have := HN.out; omega)).below (fun k h _ => h) (Nat.le_refl _))))))
      have cc6 := C6.cell 1
      have ff6 := C6.free 1
      have hq6 := hq4.kept kk6 (fun e => HSV.out e)
      clear kk6 hC4 i6 O6 C6 kC ho6 hg6 hi6
      refine hK.out _ _ ⟨cc6, hq6⟩ (fun hH => ?_)
      clear hK K
      try simp only [Act.put, List.getElem_toArray, List.getElem_cons_succ, List.getElem_cons_zero, List.setIfInBounds_toArray, List.set_cons_zero, List.set_cons_succ]
      refine wpAnyK_take (i := 10) (v := ?_) rfl (by kernel_rfl) (by kernel_rfl) (by kernel_rfl) (by decide) (by kernel_rfl) (fun _ _ _ h => h) (Or.inl ⟨by kernel_rfl, ?_⟩) hH ?_
      rotate_left
      · intro W hS
        obtain ⟨q1, q2⟩ := hS
        have y0 := q2.cell 0
        have y1 := q2.cell 1
        have y2 := q2.cell 2
        have y3 := q2.cell 3
        have y4 := q2.cell 4
        have y5 := q2.cell 5
        have y6 := q2.cell 6
        have y7 := q2.cell 7
        go_simp
        first | done | with_reducible rfl
      simp only [Act.put, List.getElem_toArray, List.getElem_cons_succ, List.getElem_cons_zero, List.setIfInBounds_toArray, List.set_cons_zero, List.set_cons_succ]
      refine wpAnyK_last (by kernel_rfl) rfl (fun K hK => ?_)
      go_simp
      refine hK.out _ _ ?_
      clear hK K
      try simp only [Act.put, List.getElem_toArray, List.getElem_cons_succ, List.getElem_cons_zero, List.setIfInBounds_toArray, List.set_cons_zero, List.set_cons_succ]
      refine wpAnyK_done (by kernel_rfl) ?_ _
      clear hH hrx hccx
      go_wp2_with fail
      go_roundw
      case rel =>
        refine ⟨k + 1, _, by go_num, hlt, H6.out.1, H6.out.2.1, ?_, H6.out.2.2.2⟩
        rw [List.take_add_one, HX.out, List.length_append]
        show World.ownsRow _ 0 _ 8 _ _ (rowsR (L.take k ++ [(s, .slice aox nx cx, z)]))
        rw [rowsR_snoc]
        exact H6.out.2.2.1
      case measure => simp [intOf]; omega
    · have hca0 := hrc.cell 0
      have hkn : k = n := by omega
      have HK := hid hkn
      clear hra hz hb hns hkn hi
      go_wp2_with (first
        | (refine wpList_load_row rfl 56 _ rfl C rfl 56 _ (0, 0) _ hrc Tryz.underlying56 rfl infoRefTable ?_)
        | (refine wpList_store_row rfl 56 _ _ rfl A _ rfl rfl 56 _ HB.out.1 infoRefTable rfl (oneTab _ _ _ _) ?_))
      refine bodyPost_ret (results_row Tryz.results22 _ _ A _ rfl (HB.out.1.setRow #[.int .i64 g, .slice aos ns cs]) Tryz.underlying56 rfl infoRefTable) rfl ?_
      have kA := (Kept.refl (fun k => k = A) wr).setRow (g := A) (.inl rfl) #[.int .i64 g, .slice aos ns cs]
      have hLk : L.take k = L := List.take_of_length_le (by have := HN.out; have := HK.out; omega)
      have hz := own_raise (ownsRow_kept HB.out.2.2.1 kA (fun k hk e => by have := HB.out.2.2.2.1 k hk; have := HN.out; omega)) (B' := w.heap.size) (fun k hk => by have := HB.out.2.2.2.1 k hk; have := HN.out; omega)
      rw [hLk, HN.out.2.2.2] at hz
      have hbe : Below w.heap.size w (wr.setRow A #[.int .i64 g, .slice aos ns cs]) := ((Kept.of_below (X := fun k => w.heap.size ≤ k) HB.out.2.2.2.2).trans kA (fun k h hk => by have := HN.out; omega)).below (fun k h _ => h) (Nat.le_refl _)
      exact ⟨.slice aos ns cs, rfl, hz, hbe⟩
theorem madeTable_any (g : Int) (v : Value) (L : List RuleZ) (w : World) (h : ReadsR w v L) (hl : L.length ≤ 1000000) :
    Calls Tryz.prog 22 #[.agg #[.int .i64 g, v]] w fun e w' => ∃ v', e = .returned (.agg #[.int .i64 g, v']) ∧ ReadsR w' v' L ∧ Below w.heap.size w w' := by
  refine (madeTable_own g v L w h hl).mono ?_
  rintro e w1 ⟨v', rfl, ho, hb⟩
  exact ⟨v', rfl, readsR_own ho (fun x hx => (h.heads x hx).below hb), hb⟩
end Go.Proofs.YtenijpcjemdhfaaGreatDoor
