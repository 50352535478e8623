/-
  Contracts of package pantrymade: Site, Config.
-/
import Derived.Test.YtffenndchmcncaaGreatDoorConfZ
namespace Go.Proofs.YtffenndchmcncaaGreatDoor
open Go.RowKit Go.Pantry

theorem infoRefSite : (Tryz.prog.info? 43).map (·.size) = some 7 := by kernel_rfl
theorem infoRefSiteA : (Tryz.prog.info? 43).map (fun i => (i.zero, i.size, i.bytes)) = some (some (.agg zeroSite), 7, 72) := by kernel_rfl
theorem infoRefCfg : (Tryz.prog.info? 33).map (·.size) = some 1 := by kernel_rfl
theorem madeSite_any (hv : Value) (s : SiteZ) (w : World) (hf : ∃ ao n c, hv = .slice ao n c) :
    Calls Tryz.prog 26 #[.agg (rowZ hv s)] w fun e w' => e = .returned (.agg (rowZ hv s)) ∧ Below w.heap.size w w' := by
  obtain ⟨ao, n, c, rfl⟩ := hf
  obtain ⟨A, hA⟩ : ∃ A, w.heap.size = A := ⟨_, rfl⟩
  obtain ⟨B, hB⟩ : ∃ B, A + 1 = B := ⟨_, rfl⟩
  have r1 : rowIs ((w.alloc (.cells (rowZ (.slice ao n c) s) 42)).alloc (.cells #[.string ⟨#[]⟩, .int .i64 0, .int .i64 0, .int .i64 0, .bool false, .bool false, .slice none 0 0] 43)) A (rowZ (.slice ao n c) s) 42 := by rw [← hA]; exact (rowIs_new _ _ _).below (below_alloc _ _)
  have r2 : rowIs ((w.alloc (.cells (rowZ (.slice ao n c) s) 42)).alloc (.cells #[.string ⟨#[]⟩, .int .i64 0, .int .i64 0, .int .i64 0, .bool false, .bool false, .slice none 0 0] 43)) B #[.string ⟨#[]⟩, .int .i64 0, .int .i64 0, .int .i64 0, .bool false, .bool false, .slice none 0 0] 43 := rowIs_new_at _ _ _ _ (by simp; omega)
  have hbb := chainP (below_alloc w (.cells (rowZ (.slice ao n c) s) 42)) (below_alloc _ (.cells #[.string ⟨#[]⟩, .int .i64 0, .int .i64 0, .int .i64 0, .bool false, .bool false, .slice none 0 0] 43))
  have HB := hid (And.intro hbb (And.intro hA hB))
  have R2 := hid r2
  clear hbb
  go_enter Tryz.func26, Tryz.ntmps26
  go_wp2_with (first
    | (refine wpList_load_row rfl 42 _ rfl A rfl 42 _ (0, 0) _ r1 Tryz.underlying42 rfl infoSite ?_)
    | (refine wpList_store_row rfl 43 _ _ rfl B _ rfl rfl 43 _ r2 infoRefSite rfl (oneSite _ _ _ _ _ _ _ _ _) ?_))
  refine bodyPost_ret (results_row Tryz.results26 _ _ B _ rfl (R2.out.setRow _) Tryz.underlying43 rfl infoRefSite) rfl ?_
  refine ⟨rfl, ?_⟩
  exact ((Kept.of_below (X := fun k => k = B) HB.out.1).setRow (g := B) (.inl rfl) _).below (fun k h _ => by have := HB.out.2; omega) (Nat.le_refl _)
/-- sites of the document's, as they grow -/
structure ZAt (w : World) (C : Nat) (sv : Value) (L : List (SiteZ × Value)) : Prop where
  own : w.ownsRow 0 43 7 sv L.length (rowsZ L)
  inn : In (fun k => C < k) sv
theorem ZAt.kept {X : Nat → Prop} {w w' : World} {C : Nat} {sv : Value} {L : List (SiteZ × Value)} (h : ZAt w C sv L) (hk : Kept X w w') (hx : ∀ k, C < k → ¬ X k) : ZAt w' C sv L :=
  ⟨ownsRow_kept h.own hk (fun k hk => hx k (h.inn k hk)), h.inn⟩
set_option maxRecDepth 8000 in
theorem madeConfig_any (v : Value) (L : List (SiteZ × Value)) (w : World) (h : ReadsP w v L) (hl : L.length ≤ 1000000) :
    Calls Tryz.prog 15 #[.agg #[v]] w fun e w' => ∃ v', e = .returned (.agg #[v']) ∧ ReadsP w' v' L ∧ Below w.heap.size w w' := by
  obtain ⟨ao, cap, hv, hcells⟩ := h.form
  subst hv
  obtain ⟨A, hA⟩ : ∃ A, w.heap.size + 1 = A := ⟨_, rfl⟩
  obtain ⟨C, hC⟩ : ∃ C, A + 1 = C := ⟨_, rfl⟩
  have HP := hid h
  have hbb : Below w.heap.size w (((w.alloc (.cells #[.slice ao L.length cap] 25)).alloc (.cells #[.slice none 0 0] 33)).alloc (.cells #[.slice none 0 0] 33)) := chainP (chainP (below_alloc _ _) (below_alloc _ _)) (below_alloc _ _)
  have J0 : Hid (rowIs (((w.alloc (.cells #[.slice ao L.length cap] 25)).alloc (.cells #[.slice none 0 0] 33)).alloc (.cells #[.slice none 0 0] 33)) A #[.slice none 0 0] 33 ∧ rowIs (((w.alloc (.cells #[.slice ao L.length cap] 25)).alloc (.cells #[.slice none 0 0] 33)).alloc (.cells #[.slice none 0 0] 33)) C #[.slice none 0 0] 33 ∧ ZAt (((w.alloc (.cells #[.slice ao L.length cap] 25)).alloc (.cells #[.slice none 0 0] 33)).alloc (.cells #[.slice none 0 0] 33)) C (.slice none 0 0) (L.take 0) ∧ Below w.heap.size w (((w.alloc (.cells #[.slice ao L.length cap] 25)).alloc (.cells #[.slice none 0 0] 33)).alloc (.cells #[.slice none 0 0] 33))) :=
    ⟨(rowIs_new_at _ _ _ _ (by simp; omega)).below (below_alloc _ _), rowIs_new_at _ _ _ _ (by simp; omega), ⟨World.ownsRow_nil _ _ _ _, In.nil _ _⟩, hbb⟩
  obtain ⟨n, hn⟩ : ∃ n, L.length = n := ⟨_, rfl⟩
  rw [hn] at J0 HP hl ⊢
  have HN := hid (show w.heap.size < A ∧ A < C ∧ L.length ≤ 1000000 ∧ L.length = n from by omega)
  clear hbb h hcells
  have HLN := hid hn
  have HL2 := hid hl
  clear hn hl
  go_enter Tryz.func15, Tryz.ntmps15
  have hcb : (((w.alloc (.cells #[.slice ao n cap] 25)).alloc (.cells #[.slice none 0 0] 33)).alloc (.cells #[.slice none 0 0] 33)).cell? ⟨w.heap.size, 0, none⟩ = some (.slice ao n cap) := (((rowIs_new w #[.slice ao n cap] 25).below (below_alloc _ _)).below (below_alloc _ _)).cell 0
  go_wp2
  clear hcb hA hC
  go_loopw [9] (fun z wr => ∃ (k : Nat) (sv : Value), z = .int .i64 (k : Int) ∧ k ≤ n ∧ rowIs wr A #[.slice none 0 0] 33 ∧ rowIs wr C #[sv] 33 ∧ ZAt wr C sv (L.take k) ∧ Below w.heap.size w wr) (fun z _ => n - (intOf z).toNat)
  case atStart => exact ⟨0, _, rfl, Nat.zero_le _, J0.out.1, J0.out.2.1, J0.out.2.2.1, J0.out.2.2.2⟩
  case round =>
    clear J0
    obtain ⟨k, sv, rfl, hk, hra, hrc, hz, hb⟩ := hrel
    obtain ⟨aos, cs, hf⟩ := ownsRow_formN hz.own
    obtain ⟨ns, hns⟩ : ∃ ns, (L.take k).length = ns := ⟨_, rfl⟩
    rw [hns] at hf
    subst hf
    have HB := hid (And.intro hra (And.intro hrc (And.intro hz hb)))
    have hcc := hrc.cell 0
    by_cases hlt : k < n
    · obtain ⟨⟨s, hvx⟩, hx⟩ : ∃ x, L[k]? = some x := by
        have := HLN.out
        exact ⟨L[k]'(by omega), List.getElem?_eq_getElem (by omega)⟩
      have hfx : ∃ ao n c, hvx = .slice ao n c := by
        obtain ⟨ao', c', e⟩ := (HP.out.heads _ (List.mem_of_getElem? hx)).form
        exact ⟨ao', _, c', e⟩
      obtain ⟨aox, nx, cx, rfl⟩ := hfx
      obtain ⟨b, off, hao, hc⟩ := (HP.out.below hb).at_ hx
      subst hao
      have x0 := hc 0 _ rfl
      have x1 := hc 1 _ rfl
      have x2 := hc 2 _ rfl
      have x3 := hc 3 _ rfl
      have x4 := hc 4 _ rfl
      have x5 := hc 5 _ rfl
      have x6 := hc 6 _ rfl
      rw [Nat.add_zero] at x0
      obtain ⟨o, ho⟩ : ∃ o, off + k * 7 = o := ⟨_, rfl⟩
      rw [ho] at x0 x1 x2 x3 x4 x5 x6
      have HX := hid hx
      have hkI : (k : Int) < (n : Int) := by omega
      have hk0 : (0 : Int) ≤ (k : Int) := by omega
      have hkw : IntKind.i64.wrap ((k : Int) + 1) = (k : Int) + 1 := IntWalk.i64_in _ (by have := HL2.out; omega)
      clear hra hz hb hc hx hns
      go_wp2_with fail
      obtain ⟨wx, hWX⟩ : ∃ W, wr.alloc (.cells (rowZ (.slice aox nx cx) s) 42) = W := ⟨_, rfl⟩
      have hbx : Below wr.heap.size wr wx := by rw [← hWX]; exact below_alloc _ _
      have hrx : rowIs wx wr.heap.size (rowZ (.slice aox nx cx) s) 42 := by rw [← hWX]; exact rowIs_new _ _ _
      have hccx : wx.cell? ⟨C, 0, none⟩ = some (.slice aos ns cs) := kept hcc hbx
      have HSV := hid (show ¬ (Value.slice aos ns cs).ownBlock = some wr.heap.size from fun e => by have := (HB.out.2.2.1.own.lt _ e).2; omega)
      clear x0 x1 x2 x3 x4 x5 x6 hcc
      change Code.wp _ _ _ _ (wr.alloc (.cells (rowZ (.slice aox nx cx) s) 42))
      rw [hWX]
      refine wp_region_K 7 (by kernel_rfl) (fun w' => w'.cell? ⟨C, 0, none⟩ = some (.slice aos ns cs) ∧ rowIs w' wr.heap.size (rowZ (.slice aox nx cx) s) 42) ⟨hccx, hrx⟩ (fun hH => ?_)
      refine wpAnyK_take (i := 0) (v := ?_) rfl (by kernel_rfl) (by kernel_rfl) (by kernel_rfl) (by decide) (by kernel_rfl) (fun _ _ _ h => h) (Or.inl ⟨by kernel_rfl, ?_⟩) hH ?_
      rotate_left
      · intro W hS
        obtain ⟨q1, q2⟩ := hS
        go_simp
        first | done | with_reducible rfl
      simp only [Act.put, List.getElem_toArray, List.getElem_cons_succ, List.getElem_cons_zero, List.setIfInBounds_toArray, List.set_cons_zero, List.set_cons_succ]
      refine wpAnyK_take (i := 1) (v := ?_) rfl (by kernel_rfl) (by kernel_rfl) (by kernel_rfl) (by decide) (by kernel_rfl) (fun _ _ _ h => h) (Or.inl ⟨by kernel_rfl, ?_⟩) hH ?_
      rotate_left
      · intro W hS
        obtain ⟨q1, q2⟩ := hS
        go_simp
        first | done | with_reducible rfl
      simp only [Act.put, List.getElem_toArray, List.getElem_cons_succ, List.getElem_cons_zero, List.setIfInBounds_toArray, List.set_cons_zero, List.set_cons_succ]
      refine wpAnyK_take (i := 2) (v := .agg (rowZ (.slice aox nx cx) s)) rfl (by kernel_rfl) (by kernel_rfl) (by kernel_rfl) (by decide) (by kernel_rfl) (fun _ _ _ h => h) (Or.inl ⟨by kernel_rfl, ?_⟩) hH ?_
      · intro W hS
        exact load_gives rfl wr.heap.size rfl hS.2 Tryz.underlying42 rfl infoSite
      simp only [Act.put, List.getElem_toArray, List.getElem_cons_succ, List.getElem_cons_zero, List.setIfInBounds_toArray, List.set_cons_zero, List.set_cons_succ]
      refine wpAnyK_next (i := 3) (by kernel_rfl) rfl (by decide) (fun K hK => ?_)
      go_simp
      refine (madeSite_any (.slice aox nx cx) s _ ⟨_, _, _, rfl⟩).mono ?_
      rintro e w3 ⟨rfl, hb3⟩
      replace hb3 := below_of_drew hb3
      have hS3 := hid (And.intro (HB.out.1.below (chainP hbx hb3)) (And.intro (HB.out.2.1.below (chainP hbx hb3)) (And.intro (HB.out.2.2.1.kept (Kept.of_below (X := fun _ => False) (chainP hbx hb3)) (fun _ _ h => h)) (chainP HB.out.2.2.2 (chainP hbx hb3)))))
      have hq3 := hrx.below hb3
      have c3 := hS3.out.2.1.cell 0
      clear hb3
      refine hK.out _ _ ⟨c3, hq3⟩ (fun hH => ?_)
      clear hK K
      try simp only [Act.put, List.getElem_toArray, List.getElem_cons_succ, List.getElem_cons_zero, List.setIfInBounds_toArray, List.set_cons_zero, List.set_cons_succ]
      refine wpAnyK_next (i := 4) (by kernel_rfl) rfl (by decide) (fun K hK => ?_)
      obtain ⟨w4, hW4⟩ : ∃ W, W = w3.alloc (.cells (rowZ (.slice aox nx cx) s) 43) := ⟨_, rfl⟩
      have hb4 : Below w3.heap.size w3 w4 := by rw [hW4]; exact below_alloc _ _
      have hS4 := hid (And.intro (hS3.out.1.below hb4) (And.intro (hS3.out.2.1.below hb4) (And.intro (hS3.out.2.2.1.kept (Kept.of_below (X := fun _ => False) hb4) (fun _ _ h => h)) (chainP hS3.out.2.2.2 hb4))))
      have hq4 := hq3.below hb4
      have HC4 : Hid (rowIs w4 w3.heap.size (rowZ (.slice aox nx cx) s) 43) := by rw [hW4]; exact rowIs_new _ _ _
      have c4 := hS4.out.2.1.cell 0
      go_simp
      rw [← hW4]
      clear hW4 hb4
      refine hK.out _ _ ⟨c4, hq4⟩ (fun hH => ?_)
      clear hK K
      try simp only [Act.put, List.getElem_toArray, List.getElem_cons_succ, List.getElem_cons_zero, List.setIfInBounds_toArray, List.set_cons_zero, List.set_cons_succ]
      refine wpAnyK_next (i := 5) (by kernel_rfl) rfl (by decide) (fun K hK => ?_)
      rw [if_pos (by kernel_rfl)]
      refine wp_append_gen w4 (.tmp 14) (.tmp 17) 31 rfl 0 43 Tryz.underlying31 infoRefSiteA rfl (by decide) (by decide) (v := .slice aos ns cs) rfl hS4.out.2.2.1.own ⟨w3.heap.size, 0, none⟩ 1 1 (rowZ (.slice aox nx cx) s).toList rfl (fun j u hj => ?_) (rowZ_one) rfl (by have h1 := HN.out; have h2 := (List.take_sublist k L).length_le; omega) (Nat.zero_le _) (fun v6 w6 ho6 hg6 hi6 => ?_)
      · rw [addAt2, Nat.zero_add, HC4.out.cell j]; simpa using hj
      obtain ⟨ao6, n6, c6, rfl⟩ : ∃ ao n c, v6 = .slice ao n c := by obtain ⟨ao, c, e⟩ := ownsRow_formN ho6; exact ⟨ao, _, c, e⟩
      have kk6 : Kept (fun k => (Value.slice aos ns cs).ownBlock = some k) w4 w6 := (Kept.refl (fun k => (Value.slice aos ns cs).ownBlock = some k) w4).grown hg6 (fun k hk _ => hk)
      have hC4 := hS4.out.2.1.lt
      have i6 : In (fun k => C < k) (.slice ao6 n6 c6) := fun k hk => by
        rcases hi6 k hk with e | e
        · exact hS4.out.2.2.1.inn k e
        · omega
      have O6 := hS4.out.1.kept kk6 (fun e => by have := hS4.out.2.2.1.inn _ e; have := HN.out; omega)
      have C6 := hS4.out.2.1.kept kk6 (fun e => by have := hS4.out.2.2.1.inn _ e; omega)
      have kC := (Kept.refl (fun k => k = C) w6).setCell (i := 0) (.inl rfl) (.slice ao6 n6 c6)
      have H6 : Hid (rowIs (w6.setCell ⟨C, 0, none⟩ (.slice ao6 n6 c6)) A #[.slice none 0 0] 33 ∧ rowIs (w6.setCell ⟨C, 0, none⟩ (.slice ao6 n6 c6)) C #[.slice ao6 n6 c6] 33 ∧ ZAt (w6.setCell ⟨C, 0, none⟩ (.slice ao6 n6 c6)) C (.slice ao6 n6 c6) (L.take k ++ [(s, .slice aox nx cx)]) ∧ Below w.heap.size w (w6.setCell ⟨C, 0, none⟩ (.slice ao6 n6 c6))) := ⟨O6.kept kC (by have := HN.out; omega), C6.setCell 0 _, ⟨by rw [rowsZ_snoc, List.length_append]; exact ownsRow_kept ho6 kC (fun k hk e => by have := i6 k hk; omega), i6⟩, (((Kept.of_below (X := fun k => w.heap.size ≤ k) hS4.out.2.2.2).trans kk6 (fun k h hk => by have := hS4.out.2.2.1.inn k h; have := HN.out; omega)).trans kC (fun k h hk => by have := HN.out; omega)).below (fun k h _ => h) (Nat.le_refl _)⟩
      have cc6 := C6.cell 0
      have ff6 := C6.free 0
      have hq6 := hq4.kept kk6 (fun e => by have := (hS4.out.2.2.1.own.lt _ e).2; have := hS4.out.2.2.1.inn _ e; exact HSV.out e)
      clear kk6 hC4 i6 O6 C6 kC ho6 hg6 hi6
      refine hK.out _ _ ⟨cc6, hq6⟩ (fun hH => ?_)
      clear hK K
      try simp only [Act.put, List.getElem_toArray, List.getElem_cons_succ, List.getElem_cons_zero, List.setIfInBounds_toArray, List.set_cons_zero, List.set_cons_succ]
      refine wpAnyK_take (i := 6) (v := ?_) rfl (by kernel_rfl) (by kernel_rfl) (by kernel_rfl) (by decide) (by kernel_rfl) (fun _ _ _ h => h) (Or.inl ⟨by kernel_rfl, ?_⟩) hH ?_
      rotate_left
      · intro W hS
        obtain ⟨q1, q2⟩ := hS
        go_simp
        first | done | with_reducible rfl
      simp only [Act.put, List.getElem_toArray, List.getElem_cons_succ, List.getElem_cons_zero, List.setIfInBounds_toArray, List.set_cons_zero, List.set_cons_succ]
      refine wpAnyK_last (by kernel_rfl) rfl (fun K hK => ?_)
      go_simp
      refine hK.out _ _ ?_
      clear hK K
      try simp only [Act.put, List.getElem_toArray, List.getElem_cons_succ, List.getElem_cons_zero, List.setIfInBounds_toArray, List.set_cons_zero, List.set_cons_succ]
      refine wpAnyK_done (by kernel_rfl) ?_ _
      clear c3 c4 cc6 ff6 hq3 hq4 hq6 hH hrx hccx
      go_wp2_with fail
      go_roundw
      case rel =>
        refine ⟨k + 1, _, by go_num, hlt, H6.out.1, H6.out.2.1, ?_, H6.out.2.2.2⟩
        rw [List.take_add_one, HX.out]
        exact H6.out.2.2.1
      case measure => simp [intOf]; omega
    · have hca := hra.cell 0
      have hfa := hra.free 0
      have hkn : k = n := by omega
      have HK := hid hkn
      clear hra hz hb hns hkn
      go_wp2_with fail
      refine bodyPost_ret (results_row Tryz.results15 _ _ A _ rfl (HB.out.1.setCell 0 _) Tryz.underlying33 rfl infoRefCfg) rfl ?_
      have kA := (Kept.refl (fun k => k = A) wr).setCell (i := 0) (.inl rfl) (.slice aos ns cs)
      have hz := HB.out.2.2.1.kept kA (fun k hk e => by have := HN.out; omega)
      have hLk : L.take k = L := List.take_of_length_le (by have := HN.out; have := HK.out; omega)
      rw [hLk] at hz
      have hbe : Below w.heap.size w (wr.setCell ⟨A, 0, none⟩ (.slice aos ns cs)) := ((Kept.of_below (X := fun k => w.heap.size ≤ k) HB.out.2.2.2).trans kA (fun k h hk => by have := HN.out; omega)).below (fun k h _ => h) (Nat.le_refl _)
      exact ⟨.slice aos ns cs, rfl, readsP_own hz.own (fun x hx => (HP.out.heads x hx).below hbe), hbe⟩
end Go.Proofs.YtffenndchmcncaaGreatDoor
