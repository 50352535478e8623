/-
  Several texts in one: Ref13F, PassM.
-/
import Derived.Test.YtoolboafbkikjaaDoorF13Ref13C
import Derived.Test.YtoolboafbkikjaaDoorF13RefFieldC
import Derived.Deep.RegionHeld
import Derived.Test.YtoolboafbkikjaaDoorF13PassC
set_option linter.unusedVariables false
set_option linter.unusedSimpArgs false
/-
  The document's answers of layer 13: Merge.
-/
namespace Go.Proofs.YtoolboafbkikjaaDoor
open Go.RowKit Go.Pantry

theorem onceF_len (l : List Fld) : ∀ k, (onceF l k).length ≤ k
  | 0 => by simp [onceF]
  | k + 1 => by
    have ih := onceF_len l k
    rw [onceF]
    split
    · omega
    · split
      · omega
      · rw [List.length_append]; simp; omega
theorem withsF_bd (c : List Fld) : ∀ M : List Fld, (withsF c M).length ≤ c.length + M.length ∧ ∀ g ∈ withsF c M, g ∈ c ∨ g ∈ M := by
  refine snoc_ind (by simp [withsF]) (fun M f ih => ?_)
  rw [withsF_snoc]
  refine ⟨by have := withF_len (withsF c M) f; rw [List.length_append]; simp; omega, fun g hg => ?_⟩
  rcases withF_of _ _ g hg with h | rfl
  · rcases ih.2 g h with h1 | h1
    · exact Or.inl h1
    · exact Or.inr (by simp [h1])
  · exact Or.inr (by simp)
theorem onceF_succ {l : List Fld} {k : Nat} {f : Fld} (h : l[k]? = some f) : onceF l (k + 1) = if (l.take k).any (isF f.1) then onceF l k else onceF l k ++ [(f.1, getF l f.1)] := by
  rw [onceF, h]
theorem answer_small {said : List Fld} (h : SmallF said) : SmallF (answerF said) := by
  have hm : ∀ f ∈ answerF said, f ∈ said := fun f hf => strip_sub said f (outsF_sub f hf)
  exact ⟨Nat.le_trans (Nat.le_trans (outsF_len _ _) (strip_len said)) h.len, fun f hf => h.name f (hm f hf), fun f hf => h.val f (hm f hf)⟩
theorem merge_bd {came l : List Fld} (hc : SmallF came) (hl : SmallF l) {k : Nat} (hk : k ≤ 60) : (withsF came (onceF l k)).length < 1000000 ∧ ∀ f ∈ withsF came (onceF l k), f.1.length < 4294967296 := by
  obtain ⟨h1, h2⟩ := withsF_bd came (onceF l k)
  have h3 := onceF_len l k
  have h4 := hc.len
  refine ⟨by omega, fun f hf => ?_⟩
  rcases h2 f hf with h | h
  · exact Nat.lt_of_le_of_lt (hc.name f h) (by decide)
  · obtain ⟨g, g1, g2⟩ := onceF_name l k f h
    rw [← g2]
    exact Nat.lt_of_le_of_lt (hl.name g (List.mem_of_mem_take g1)) (by decide)
set_option maxRecDepth 8000 in
set_option maxHeartbeats 4000000 in
theorem r13Merge_any (cv v : Value) (came said : List Fld) (w : World) (hc : Reads2 w cv came) (hr : Reads2 w v said) (hk : SmallF came) (hs : SmallF said) :
    Calls Tryd.prog 23 #[cv, v] w (MadeP w (mergeF came said)) := by
  have c1 := r13Strip_any v said w hr hs.wide
  have c2 := fun (W : World) (x vn : Value) (h : Reads2 W x (stripF said)) (hn : Reads W vn (contN.map strV)) => r13Without_any x vn (stripF said) contN W h hs.wide.strip hn (by decide) (by decide)
  have hL := answer_small hs
  have hm : mergeF came said = withsF came (onceF (answerF said) (answerF said).length) := rfl
  rw [hm]
  have c2' := fun (W : World) (x vn : Value) (h : Reads2 W x (stripF said)) (hn : Reads W vn (contN.map strV)) => (show Calls Tryd.prog 39 #[x, vn] W (MadeP W (answerF said)) from c2 W x vn h hn)
  clear c2 hm
  generalize answerF said = L at c2' hL ⊢
  have hkl := hk.len
  have HC := hid hc
  have C1 := hid c1
  have C2 := hid c2'
  have HL := hid hL
  have HK := hid hk
  have hll := hL.len
  clear hr hc c1 c2' hL hk hs
  go_enter Tryd.func23, Tryd.ntmps23
  go_wp2_with fail
  refine C1.out.mono ?_
  rintro e w1 ⟨⟨v1, rfl, hr1⟩, hb1⟩
  have hb2 := below_alloc w1 (.cells (contN.map strV).toArray 9)
  have hf2 := lit_reads w1 contN 9 4 w1.heap.size rfl rfl (contN.map strV).toArray rfl
  have HB2 := hid (chain2 hb1 hb1.size hb2)
  have HC2 := hid (HC.out.below HB2.out)
  have D2 := hid (C2.out _ _ _ (hr1.below hb2) hf2)
  clear hf2 hr1 C2 C1 HC hb1 hb2
  go_wp2_with fail
  refine D2.out.mono ?_
  rintro e w3 ⟨⟨v3, rfl, hr3⟩, hb3⟩
  have HB3 := hid (chain2 HB2.out HB2.out.size hb3)
  have HC3 := hid (HC2.out.below hb3)
  obtain ⟨lo, lc, rfl⟩ := hr3.form
  have HR3 := hid hr3
  clear hb3 D2 HB2 HC2 hr3
  have hbE := below_alloc w3 (.cells #[] 54)
  have hoE : (w3.alloc (.cells #[] 54)).ownsRow w3.heap.size 54 2 (.slice (some ⟨w3.heap.size, 0, none⟩) 0 0) 0 (fldCells []) := World.ownsRow_made w3 #[] 0 (Nat.le_refl _) (by decide) rfl
  have hrc := HC3.out.below hbE
  go_wp2_with (at_builtin; (refine wpList_append_flds _ rfl _ _ 31 rfl w3.heap.size 54 Tryd.underlying31 infoFld3 rfl (by decide) rfl hoE hrc rfl (by omega) hbE.size ?_); intro v4 w4 ho4 hb4)
  have hb34 := hbE.trans hb4
  have HB4 := hid (chain2 HB3.out HB3.out.size hb34)
  have HR4 := hid (HR3.out.below hb34)
  have hr4 := ho4.reads2.2
  rw [List.nil_append] at hr4
  have HO4 := hid hr4
  clear hbE hoE hrc hb4 ho4 hb34 hr4 HC3 HB3 HR3
  obtain ⟨n, hn⟩ : ∃ n, L.length = n := ⟨_, rfl⟩
  have HN := hid hn
  rw [hn] at hll HR4 ⊢
  clear hn
  go_wp2_with fail
  go_loopw [6, 7] (fun out i wr => ∃ k : Nat, i = .int .i64 (k : Int) ∧ k ≤ n ∧ Reads2 wr out (withsF came (onceF L k)) ∧ Below w4.heap.size w4 wr) (fun _ i _ => n - (intOf i).toNat)
  case atStart => exact ⟨0, rfl, Nat.zero_le _, HO4.out, Below.refl _ _⟩
  case round =>
    obtain ⟨k, rfl, hk, hro, hb⟩ := hrel
    rename World => w5
    have HB := hid hb
    have HO := hid hro
    by_cases hlt : k < n
    · obtain ⟨f, hf⟩ : ∃ f, L[k]? = some f := ⟨_, List.getElem?_eq_getElem (by rw [HN.out]; exact hlt)⟩
      have HF := hid hf
      have HR := hid (HR4.out.below hb)
      obtain ⟨b, off, hbo, -, -⟩ := HR.out.fld hf
      subst hbo
      have hkI : (k : Int) < (n : Int) := by omega
      have hk0 : (0 : Int) ≤ (k : Int) := by omega
      have hkw : IntKind.i64.wrap ((k : Int) + 1) = (k : Int) + 1 := IntWalk.i64_in _ (by omega)
      clear hb hro
      go_wp2_with fail
      go_loopw [8, 9] (fun q i wi => ∃ j : Nat, i = .int .i64 (j : Int) ∧ j ≤ k ∧ q = .bool (!((L.take j).any (isF f.1))) ∧ Below w5.heap.size w5 wi) (fun _ i _ => k - (intOf i).toNat)
      case atStart => exact ⟨0, rfl, Nat.zero_le _, rfl, Below.refl _ _⟩
      case round =>
        obtain ⟨j, rfl, hj, rfl, hbi⟩ := hrel
        have HBI := hid hbi
        clear hbi
        by_cases hjk : j < k
        · obtain ⟨g, hg⟩ : ∃ g, L[j]? = some g := ⟨_, List.getElem?_eq_getElem (by rw [HN.out]; omega)⟩
          have HT := hid (take_fld hg)
          have HGB := hid (HL.out.name g (List.mem_of_getElem? hg))
          have HFB := hid (HL.out.name f (List.mem_of_getElem? HF.out))
          obtain ⟨b', off', hbo', hc1, hc2⟩ := (HR.out.below HBI.out).fld hg
          obtain ⟨b2, off2, hbo2, hc3, hc4⟩ := (HR.out.below HBI.out).fld HF.out
          cases hbo'
          cases hbo2
          have hjI : (j : Int) < (k : Int) := by omega
          have hjn : (j : Int) < (n : Int) := by omega
          have hj0 : (0 : Int) ≤ (j : Int) := by omega
          have hjw : IntKind.i64.wrap ((j : Int) + 1) = (j : Int) + 1 := IntWalk.i64_in _ (by omega)
          have hst : (L.take (j + 1)).any (isF f.1) = ((L.take j).any (isF f.1) || isF f.1 g) := by rw [HT.out, List.any_append]; simp
          have HST := hid hst
          clear hst hg
          obtain ⟨q, hq⟩ : ∃ q, (L.take j).any (isF f.1) = q := ⟨_, rfl⟩
          rw [hq] at HST ⊢
          clear hq
          cases q
          · have cI := hid (fun W => refIs_any g ⟨f.1.toArray⟩ W (Nat.lt_of_le_of_lt HGB.out (by decide)) (by rw [szL]; exact Nat.lt_of_le_of_lt HFB.out (by decide)))
            rw [dtL] at cI
            obtain ⟨r, hrr⟩ : ∃ r, isF f.1 g = r := ⟨_, rfl⟩
            rw [hrr] at cI HST
            clear hrr
            go_wp2_with fail
            refine wp_region_held_drew (S := fun W' => Below wr.heap.size wr W') (by kernel_rfl) (Below.refl wr.heap.size wr).drew (fun hH => ?_)
            refine wpAnyH_take (i := 0) (v := ?_) rfl (by kernel_rfl) (by kernel_rfl) (by kernel_rfl) (fun _ _ _ h => h) (Or.inl ⟨by kernel_rfl, ?_⟩) hH ?_
            rotate_left
            · intro W hS
              have d1 := kept hc1 hS
              have d2 := kept hc2 hS
              have d3 := kept hc3 hS
              have d4 := kept hc4 hS
              go_simp
              first | done | with_reducible rfl
            simp only [Act.put, List.getElem_toArray, List.getElem_cons_succ, List.getElem_cons_zero, List.setIfInBounds_toArray, List.set_cons_zero, List.set_cons_succ]
            refine wpAnyH_take (i := 1) (v := ?_) rfl (by kernel_rfl) (by kernel_rfl) (by kernel_rfl) (fun _ _ _ h => h) (Or.inl ⟨by kernel_rfl, ?_⟩) hH ?_
            rotate_left
            · intro W hS
              have d1 := kept hc1 hS
              have d2 := kept hc2 hS
              have d3 := kept hc3 hS
              have d4 := kept hc4 hS
              go_simp
              first | done | with_reducible rfl
            simp only [Act.put, List.getElem_toArray, List.getElem_cons_succ, List.getElem_cons_zero, List.setIfInBounds_toArray, List.set_cons_zero, List.set_cons_succ]
            refine wpAnyH_take (i := 2) (v := ?_) rfl (by kernel_rfl) (by kernel_rfl) (by kernel_rfl) (fun _ _ _ h => h) (Or.inl ⟨by kernel_rfl, ?_⟩) hH ?_
            rotate_left
            · intro W hS
              have d1 := kept hc1 hS
              have d2 := kept hc2 hS
              have d3 := kept hc3 hS
              have d4 := kept hc4 hS
              go_simp
              first | done | with_reducible rfl
            simp only [Act.put, List.getElem_toArray, List.getElem_cons_succ, List.getElem_cons_zero, List.setIfInBounds_toArray, List.set_cons_zero, List.set_cons_succ]
            refine wpAnyH_take (i := 3) (v := ?_) rfl (by kernel_rfl) (by kernel_rfl) (by kernel_rfl) (fun _ _ _ h => h) (Or.inl ⟨by kernel_rfl, ?_⟩) hH ?_
            rotate_left
            · intro W hS
              have d1 := kept hc1 hS
              have d2 := kept hc2 hS
              have d3 := kept hc3 hS
              have d4 := kept hc4 hS
              go_simp
              first | done | with_reducible rfl
            simp only [Act.put, List.getElem_toArray, List.getElem_cons_succ, List.getElem_cons_zero, List.setIfInBounds_toArray, List.set_cons_zero, List.set_cons_succ]
            refine wpAnyH_take (i := 4) (v := ?_) rfl (by kernel_rfl) (by kernel_rfl) (by kernel_rfl) (fun _ _ _ h => h) (Or.inl ⟨by kernel_rfl, ?_⟩) hH ?_
            rotate_left
            · intro W hS
              have d1 := kept hc1 hS
              have d2 := kept hc2 hS
              have d3 := kept hc3 hS
              have d4 := kept hc4 hS
              go_simp
              first | done | with_reducible rfl
            simp only [Act.put, List.getElem_toArray, List.getElem_cons_succ, List.getElem_cons_zero, List.setIfInBounds_toArray, List.set_cons_zero, List.set_cons_succ]
            refine wpAnyH_take (i := 5) (v := ?_) rfl (by kernel_rfl) (by kernel_rfl) (by kernel_rfl) (fun _ _ _ h => h) (Or.inl ⟨by kernel_rfl, ?_⟩) hH ?_
            rotate_left
            · intro W hS
              have d1 := kept hc1 hS
              have d2 := kept hc2 hS
              have d3 := kept hc3 hS
              have d4 := kept hc4 hS
              go_simp
              first | done | with_reducible rfl
            simp only [Act.put, List.getElem_toArray, List.getElem_cons_succ, List.getElem_cons_zero, List.setIfInBounds_toArray, List.set_cons_zero, List.set_cons_succ]
            refine wpAnyH_take (i := 6) (v := ?_) rfl (by kernel_rfl) (by kernel_rfl) (by kernel_rfl) (fun _ _ _ h => h) (Or.inl ⟨by kernel_rfl, ?_⟩) hH ?_
            rotate_left
            · intro W hS
              have d1 := kept hc1 hS
              have d2 := kept hc2 hS
              have d3 := kept hc3 hS
              have d4 := kept hc4 hS
              go_simp
              first | done | with_reducible rfl
            simp only [Act.put, List.getElem_toArray, List.getElem_cons_succ, List.getElem_cons_zero, List.setIfInBounds_toArray, List.set_cons_zero, List.set_cons_succ]
            refine wpAnyH_take (i := 7) (v := ?_) rfl (by kernel_rfl) (by kernel_rfl) (by kernel_rfl) (fun _ _ _ h => h) (Or.inl ⟨by kernel_rfl, ?_⟩) hH ?_
            rotate_left
            · intro W hS
              have d1 := kept hc1 hS
              have d2 := kept hc2 hS
              have d3 := kept hc3 hS
              have d4 := kept hc4 hS
              go_simp
              first | done | with_reducible rfl
            simp only [Act.put, List.getElem_toArray, List.getElem_cons_succ, List.getElem_cons_zero, List.setIfInBounds_toArray, List.set_cons_zero, List.set_cons_succ]
            refine wpAnyH_take (i := 8) (v := ?_) rfl (by kernel_rfl) (by kernel_rfl) (by kernel_rfl) (fun _ _ _ h => h) (Or.inl ⟨by kernel_rfl, ?_⟩) hH ?_
            rotate_left
            · intro W hS
              have d1 := kept hc1 hS
              have d2 := kept hc2 hS
              have d3 := kept hc3 hS
              have d4 := kept hc4 hS
              go_simp
              first | done | with_reducible rfl
            simp only [Act.put, List.getElem_toArray, List.getElem_cons_succ, List.getElem_cons_zero, List.setIfInBounds_toArray, List.set_cons_zero, List.set_cons_succ]
            refine wpAnyH_take (i := 9) (v := ?_) rfl (by kernel_rfl) (by kernel_rfl) (by kernel_rfl) (fun _ _ _ h => h) (Or.inl ⟨by kernel_rfl, ?_⟩) hH ?_
            rotate_left
            · intro W hS
              have d1 := kept hc1 hS
              have d2 := kept hc2 hS
              have d3 := kept hc3 hS
              have d4 := kept hc4 hS
              go_simp
              first | done | with_reducible rfl
            simp only [Act.put, List.getElem_toArray, List.getElem_cons_succ, List.getElem_cons_zero, List.setIfInBounds_toArray, List.set_cons_zero, List.set_cons_succ]
            refine wpAnyH_take (i := 10) (v := ?_) rfl (by kernel_rfl) (by kernel_rfl) (by kernel_rfl) (fun _ _ _ h => h) (Or.inl ⟨by kernel_rfl, ?_⟩) hH ?_
            rotate_left
            · intro W hS
              have d1 := kept hc1 hS
              have d2 := kept hc2 hS
              have d3 := kept hc3 hS
              have d4 := kept hc4 hS
              go_simp
              first | done | with_reducible rfl
            simp only [Act.put, List.getElem_toArray, List.getElem_cons_succ, List.getElem_cons_zero, List.setIfInBounds_toArray, List.set_cons_zero, List.set_cons_succ]
            refine wpAnyH_ready (rs := [11]) (by kernel_rfl) (by simp) ?_
            refine AllReadyH.cons rfl (fun K hK => ?_) AllReadyH.nil
            go_simp
            refine (cI.out _).mono ?_
            rintro e w7 ⟨rfl, hb7⟩
            refine hK.out _ _ (chain2 hH hH.size hb7) (fun hH => ?_)
            clear hb7
            clear hK K
            try simp only [Act.put, List.getElem_toArray, List.getElem_cons_succ, List.getElem_cons_zero, List.setIfInBounds_toArray, List.set_cons_zero, List.set_cons_succ]
            refine wpAnyH_take (i := 12) (v := ?_) rfl (by kernel_rfl) (by kernel_rfl) (by kernel_rfl) (fun _ _ _ h => h) (Or.inl ⟨by kernel_rfl, ?_⟩) hH ?_
            rotate_left
            · intro W hS
              have d1 := kept hc1 hS
              have d2 := kept hc2 hS
              have d3 := kept hc3 hS
              have d4 := kept hc4 hS
              go_simp
              first | done | with_reducible rfl
            simp only [Act.put, List.getElem_toArray, List.getElem_cons_succ, List.getElem_cons_zero, List.setIfInBounds_toArray, List.set_cons_zero, List.set_cons_succ]
            refine wpAnyH_take (i := 13) (v := ?_) rfl (by kernel_rfl) (by kernel_rfl) (by kernel_rfl) (fun _ _ _ h => h) (Or.inl ⟨by kernel_rfl, ?_⟩) hH ?_
            rotate_left
            · intro W hS
              have d1 := kept hc1 hS
              have d2 := kept hc2 hS
              have d3 := kept hc3 hS
              have d4 := kept hc4 hS
              go_simp
              first | done | with_reducible rfl
            simp only [Act.put, List.getElem_toArray, List.getElem_cons_succ, List.getElem_cons_zero, List.setIfInBounds_toArray, List.set_cons_zero, List.set_cons_succ]
            refine wpAnyH_take (i := 14) (v := ?_) rfl (by kernel_rfl) (by kernel_rfl) (by kernel_rfl) (fun _ _ _ h => h) (Or.inl ⟨by kernel_rfl, ?_⟩) hH ?_
            rotate_left
            · intro W hS
              have d1 := kept hc1 hS
              have d2 := kept hc2 hS
              have d3 := kept hc3 hS
              have d4 := kept hc4 hS
              go_simp
              first | done | with_reducible rfl
            simp only [Act.put, List.getElem_toArray, List.getElem_cons_succ, List.getElem_cons_zero, List.setIfInBounds_toArray, List.set_cons_zero, List.set_cons_succ]
            refine wpAnyH_done (by kernel_rfl) ?_ _
            have HZ := hid (chain2 HBI.out HBI.out.size hH)
            clear hH
            cases r
            · go_wp2_with fail
              go_roundw
              case rel => exact ⟨j + 1, by go_num, hjk, by rw [HST.out]; rfl, HZ.out⟩
              case measure => simp [intOf]; omega
            · go_wp2_with fail
              go_roundw
              case rel => exact ⟨j + 1, by go_num, hjk, by rw [HST.out]; rfl, HZ.out⟩
              case measure => simp [intOf]; omega
          · go_wp2_with fail
            refine wp_region_held_drew (S := fun W' => Below wr.heap.size wr W') (by kernel_rfl) (Below.refl wr.heap.size wr).drew (fun hH => ?_)
            refine wpAnyH_take (i := 0) (v := ?_) rfl (by kernel_rfl) (by kernel_rfl) (by kernel_rfl) (fun _ _ _ h => h) (Or.inl ⟨by kernel_rfl, ?_⟩) hH ?_
            rotate_left
            · intro W hS
              skip
              go_simp
              first | done | with_reducible rfl
            simp only [Act.put, List.getElem_toArray, List.getElem_cons_succ, List.getElem_cons_zero, List.setIfInBounds_toArray, List.set_cons_zero, List.set_cons_succ]
            refine wpAnyH_take (i := 1) (v := ?_) rfl (by kernel_rfl) (by kernel_rfl) (by kernel_rfl) (fun _ _ _ h => h) (Or.inl ⟨by kernel_rfl, ?_⟩) hH ?_
            rotate_left
            · intro W hS
              skip
              go_simp
              first | done | with_reducible rfl
            simp only [Act.put, List.getElem_toArray, List.getElem_cons_succ, List.getElem_cons_zero, List.setIfInBounds_toArray, List.set_cons_zero, List.set_cons_succ]
            refine wpAnyH_take (i := 2) rfl (by kernel_rfl) (by kernel_rfl) (by kernel_rfl) (fun _ _ _ h => h) (Or.inr ⟨by kernel_rfl, rfl⟩) hH ?_
            simp only [Act.put, List.getElem_toArray, List.getElem_cons_succ, List.getElem_cons_zero, List.setIfInBounds_toArray, List.set_cons_zero, List.set_cons_succ]
            refine wpAnyH_take (i := 3) rfl (by kernel_rfl) (by kernel_rfl) (by kernel_rfl) (fun _ _ _ h => h) (Or.inr ⟨by kernel_rfl, rfl⟩) hH ?_
            simp only [Act.put, List.getElem_toArray, List.getElem_cons_succ, List.getElem_cons_zero, List.setIfInBounds_toArray, List.set_cons_zero, List.set_cons_succ]
            refine wpAnyH_take (i := 4) rfl (by kernel_rfl) (by kernel_rfl) (by kernel_rfl) (fun _ _ _ h => h) (Or.inr ⟨by kernel_rfl, rfl⟩) hH ?_
            simp only [Act.put, List.getElem_toArray, List.getElem_cons_succ, List.getElem_cons_zero, List.setIfInBounds_toArray, List.set_cons_zero, List.set_cons_succ]
            refine wpAnyH_take (i := 5) rfl (by kernel_rfl) (by kernel_rfl) (by kernel_rfl) (fun _ _ _ h => h) (Or.inr ⟨by kernel_rfl, rfl⟩) hH ?_
            simp only [Act.put, List.getElem_toArray, List.getElem_cons_succ, List.getElem_cons_zero, List.setIfInBounds_toArray, List.set_cons_zero, List.set_cons_succ]
            refine wpAnyH_take (i := 6) rfl (by kernel_rfl) (by kernel_rfl) (by kernel_rfl) (fun _ _ _ h => h) (Or.inr ⟨by kernel_rfl, rfl⟩) hH ?_
            simp only [Act.put, List.getElem_toArray, List.getElem_cons_succ, List.getElem_cons_zero, List.setIfInBounds_toArray, List.set_cons_zero, List.set_cons_succ]
            refine wpAnyH_take (i := 7) rfl (by kernel_rfl) (by kernel_rfl) (by kernel_rfl) (fun _ _ _ h => h) (Or.inr ⟨by kernel_rfl, rfl⟩) hH ?_
            simp only [Act.put, List.getElem_toArray, List.getElem_cons_succ, List.getElem_cons_zero, List.setIfInBounds_toArray, List.set_cons_zero, List.set_cons_succ]
            refine wpAnyH_take (i := 8) rfl (by kernel_rfl) (by kernel_rfl) (by kernel_rfl) (fun _ _ _ h => h) (Or.inr ⟨by kernel_rfl, rfl⟩) hH ?_
            simp only [Act.put, List.getElem_toArray, List.getElem_cons_succ, List.getElem_cons_zero, List.setIfInBounds_toArray, List.set_cons_zero, List.set_cons_succ]
            refine wpAnyH_take (i := 9) rfl (by kernel_rfl) (by kernel_rfl) (by kernel_rfl) (fun _ _ _ h => h) (Or.inr ⟨by kernel_rfl, rfl⟩) hH ?_
            simp only [Act.put, List.getElem_toArray, List.getElem_cons_succ, List.getElem_cons_zero, List.setIfInBounds_toArray, List.set_cons_zero, List.set_cons_succ]
            refine wpAnyH_take (i := 10) rfl (by kernel_rfl) (by kernel_rfl) (by kernel_rfl) (fun _ _ _ h => h) (Or.inr ⟨by kernel_rfl, rfl⟩) hH ?_
            simp only [Act.put, List.getElem_toArray, List.getElem_cons_succ, List.getElem_cons_zero, List.setIfInBounds_toArray, List.set_cons_zero, List.set_cons_succ]
            refine wpAnyH_take (i := 11) rfl (by kernel_rfl) (by kernel_rfl) (by kernel_rfl) (fun _ _ _ h => h) (Or.inr ⟨by kernel_rfl, rfl⟩) hH ?_
            simp only [Act.put, List.getElem_toArray, List.getElem_cons_succ, List.getElem_cons_zero, List.setIfInBounds_toArray, List.set_cons_zero, List.set_cons_succ]
            refine wpAnyH_take (i := 12) rfl (by kernel_rfl) (by kernel_rfl) (by kernel_rfl) (fun _ _ _ h => h) (Or.inr ⟨by kernel_rfl, rfl⟩) hH ?_
            simp only [Act.put, List.getElem_toArray, List.getElem_cons_succ, List.getElem_cons_zero, List.setIfInBounds_toArray, List.set_cons_zero, List.set_cons_succ]
            refine wpAnyH_take (i := 13) (v := ?_) rfl (by kernel_rfl) (by kernel_rfl) (by kernel_rfl) (fun _ _ _ h => h) (Or.inl ⟨by kernel_rfl, ?_⟩) hH ?_
            rotate_left
            · intro W hS
              skip
              go_simp
              first | done | with_reducible rfl
            simp only [Act.put, List.getElem_toArray, List.getElem_cons_succ, List.getElem_cons_zero, List.setIfInBounds_toArray, List.set_cons_zero, List.set_cons_succ]
            refine wpAnyH_take (i := 14) (v := ?_) rfl (by kernel_rfl) (by kernel_rfl) (by kernel_rfl) (fun _ _ _ h => h) (Or.inl ⟨by kernel_rfl, ?_⟩) hH ?_
            rotate_left
            · intro W hS
              skip
              go_simp
              first | done | with_reducible rfl
            simp only [Act.put, List.getElem_toArray, List.getElem_cons_succ, List.getElem_cons_zero, List.setIfInBounds_toArray, List.set_cons_zero, List.set_cons_succ]
            refine wpAnyH_done (by kernel_rfl) ?_ _
            have HZ := hid (chain2 HBI.out HBI.out.size hH)
            clear hH
            go_wp2_with fail
            go_roundw
            case rel => exact ⟨j + 1, by go_num, hjk, by rw [HST.out]; rfl, HZ.out⟩
            case measure => simp [intOf]; omega
        · have hjk2 : j = k := by omega
          subst hjk2
          have hon := onceF_succ HF.out
          have hbw := chain2 HB.out HB.out.size HBI.out
          obtain ⟨q, hq⟩ : ∃ q, (L.take j).any (isF f.1) = q := ⟨_, rfl⟩
          rw [hq] at hon ⊢
          have HON := hid hon
          have HBW := hid hbw
          clear hq hon hbw
          cases q
          · obtain ⟨b', off', hbo', hc1, hc2⟩ := (HR.out.below HBI.out).fld HF.out
            cases hbo'
            have HFB := hid (HL.out.name f (List.mem_of_getElem? HF.out))
            have hgl := HL.out.wide.get f.1
            have cG := hid (refGetW_any _ L f.1 wr (HR.out.below HBI.out) HL.out.wide (Nat.le_trans HFB.out (by decide)))
            have cW := hid (fun (W : World) (x : Value) (h : Reads2 W x (withsF came (onceF L j))) => refWith_any x (withsF came (onceF L j)) (f.1, getF L f.1) W h (merge_bd HK.out HL.out (by omega)).2 (Nat.lt_of_le_of_lt HFB.out (by decide)) (merge_bd HK.out HL.out (by omega)).1)
            simp only [Bool.false_eq_true, if_false] at HON
            rw [← withsF_snoc, ← HON.out] at cW
            generalize getF L f.1 = G at cG cW hgl
            generalize ((allF L f.1).length : Int) = nG at cG
            go_wp2_with fail
            refine cG.out.mono ?_
            rintro e w7 ⟨rfl, hb7⟩
            have HB7 := hid (chain2 HBW.out HBW.out.size hb7)
            have HOx := hid (HO.out.below (chain2 HBI.out HBI.out.size hb7))
            have hd1 := kept hc1 hb7
            clear hb7 hc1 hc2
            go_wp2_with fail
            refine (cW.out _ _ HOx.out).mono ?_
            rintro e w8 ⟨⟨v8, k8, rfl, ho8⟩, hb8⟩
            have HB8 := hid (chain2 HB7.out HB7.out.size hb8)
            have HR8 := hid ho8.reads2.2
            clear hb8 ho8
            go_wp2_with fail
            go_roundw
            case rel => exact ⟨j + 1, by go_num, hlt, HR8.out, HB8.out⟩
            case measure => simp [intOf]; omega
          · simp only [if_true] at HON
            go_wp2_with fail
            go_roundw
            case rel => exact ⟨j + 1, by go_num, hlt, by rw [HON.out]; exact HO.out.below HBI.out, HBW.out⟩
            case measure => simp [intOf]; omega
    · have hkn : k = n := by omega
      subst hkn
      go_wp2_with fail
      go_ret
      exact ⟨⟨_, rfl, by rw [HN.out]; exact HO.out⟩, chain2 HB4.out HB4.out.size HB.out⟩
end Go.Proofs.YtoolboafbkikjaaDoor
/-
  Contracts of package pass: Drops; what asks nothing of dates.
-/
namespace Go.Proofs.YtoolboafbkikjaaDoor
open Go.RowKit Go.Pantry

set_option maxRecDepth 8000 in
set_option maxHeartbeats 4000000 in
theorem pDrops_any (m : List UInt8) (st : Int) (w : World) :
    Calls Tryd.prog 28 #[strV m, .int .i64 st] w fun e w' => e = .returned (.bool (dropsF m st)) ∧ Below w.heap.size w w' := by
  have hd : dropsF m st = (!((m == [71, 69, 84]) || ((m == [72, 69, 65, 68]) || ((m == [79, 80, 84, 73, 79, 78, 83]) || (m == [84, 82, 65, 67, 69])))) && (decide (200 ≤ st) && decide (st ≤ 399))) := by
    unfold dropsF
    simp only [List.contains_cons, List.contains_nil, Bool.or_false]
    have : decide (st < 400) = decide (st ≤ 399) := by
      rw [decide_eq_decide]; omega
    rw [this]
  rw [hd]
  clear hd
  obtain ⟨a, ha⟩ : ∃ a, (m == [71, 69, 84]) = a := ⟨_, rfl⟩
  obtain ⟨b, hb⟩ : ∃ b, (m == [72, 69, 65, 68]) = b := ⟨_, rfl⟩
  obtain ⟨c, hc⟩ : ∃ c, (m == [79, 80, 84, 73, 79, 78, 83]) = c := ⟨_, rfl⟩
  obtain ⟨d, hd⟩ : ∃ d, (m == [84, 82, 65, 67, 69]) = d := ⟨_, rfl⟩
  obtain ⟨p, hp⟩ : ∃ p, decide (200 ≤ st) = p := ⟨_, rfl⟩
  obtain ⟨q, hq⟩ : ∃ q, decide (st ≤ 399) = q := ⟨_, rfl⟩
  rw [ha, hb, hc, hd, hp, hq]
  cases a with
  | true =>
    go_enter Tryd.func28, Tryd.ntmps28
    go_wp2_with fail
    go_ret
    exact ⟨rfl, Below.refl _ _⟩
  | false =>
    cases b with
    | true =>
      go_enter Tryd.func28, Tryd.ntmps28
      go_wp2_with fail
      go_ret
      exact ⟨rfl, Below.refl _ _⟩
    | false =>
      cases c with
      | true =>
        go_enter Tryd.func28, Tryd.ntmps28
        go_wp2_with fail
        go_ret
        exact ⟨rfl, Below.refl _ _⟩
      | false =>
        cases d with
        | true =>
          go_enter Tryd.func28, Tryd.ntmps28
          go_wp2_with fail
          go_ret
          exact ⟨rfl, Below.refl _ _⟩
        | false =>
          cases p with
          | true =>
            cases q with
            | true =>
              go_enter Tryd.func28, Tryd.ntmps28
              go_wp2_with fail
              go_ret
              exact ⟨rfl, Below.refl _ _⟩
            | false =>
              go_enter Tryd.func28, Tryd.ntmps28
              go_wp2_with fail
              go_ret
              exact ⟨rfl, Below.refl _ _⟩
          | false =>
            go_enter Tryd.func28, Tryd.ntmps28
            go_wp2_with fail
            go_ret
            exact ⟨rfl, Below.refl _ _⟩
theorem moves_ok {Ok : World → Prop} (keep : ∀ w w', Ok w → Below w.heap.size w w' → Ok w') : Moves Ok where
  keep := keep
  strip := fun v l w _ hr hs => (pStrip_any v l w hr hs).mono (by
    rintro e w' ⟨⟨v', k, rfl, ho⟩, hb⟩
    exact ⟨⟨v', rfl, ho.reads2.2⟩, hb⟩)
  onward := fun v l w _ hr hs => (pOnward_any v l w hr hs).mono (by
    rintro e w' ⟨⟨v', k, rfl, ho⟩, hb⟩
    exact ⟨⟨v', rfl, ho.reads2.2⟩, hb⟩)
  merge := fun cv v came said w _ hc hr hk _ hs => pMerge_any cv v came said w hc hr hk hs.wide (answer_small hs).wide (once_wide (answer_small hs).wide (fun n => Nat.le_trans ((answer_small hs).get n) (by decide)))
  drops := fun m st w _ _ _ => pDrops_any m st w
end Go.Proofs.YtoolboafbkikjaaDoor
