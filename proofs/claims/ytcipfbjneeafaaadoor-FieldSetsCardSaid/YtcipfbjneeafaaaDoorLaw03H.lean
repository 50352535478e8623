/-
  The walk of the statement FieldSets.
-/
import Derived.Test.YtcipfbjneeafaaaDoorLaw03B
import Derived.Test.YtcipfbjneeafaaaDoorRefFieldC
import Derived.Deep.RegionHeld3
namespace Go.Proofs.YtcipfbjneeafaaaDoor
open Go.RowKit Go.Pantry

set_option maxHeartbeats 8000000 in
theorem fieldSets_main (v : Value) (aom : Option Addr) (capm : Nat) (L M : List Fld) (w : World) (hr : Reads2 w v L) (hm : Reads2 w (.slice aom M.length capm) M) (hsl : smallF L = true) (hsm : smallF M = true) (hM : M.length ≤ 20) :
    Calls Tryd.prog 5 #[v, .slice aom M.length capm] w fun e w' => e = .returned (.bool true) ∧ Below w.heap.size w w' := by
  obtain ⟨hkl, hl70, hl2⟩ := small_ok hsl
  obtain ⟨hkm, hm70, hm2⟩ := small_ok hsm
  have csl := fun W h => small_any v L W h (by omega)
  have csm := fun W h => small_any (.slice aom M.length capm) M W h (by omega)
  rw [hsl] at csl
  rw [hsm] at csm
  have f1 := fun W h => Fields_any v L W h (by omega)
  have f2 := fun W h => Fields_any (.slice aom M.length capm) M W h (by omega)
  have cw := fun W h1 h2 => lWith_any v (.slice aom M.length capm) L M W h1 hkl h2 hkm
  have hkR : okFs (withsF L M) := ⟨by have := withsF_len L M; omega, fun g hg => by
    rcases withsF_of L M g hg with h | h
    · exact hkl.2 g h
    · exact hkm.2 g h⟩
  have hMI : (M.length : Int) ≤ 20 := by omega
  have CSL := hid csl
  have CSM := hid csm
  have F1 := hid f1
  have F2 := hid f2
  have CW := hid cw
  have HR := hid hr
  have HM := hid hm
  have HKL := hid hkl
  have HKM := hid hkm
  have HM2 := hid hm2
  have HKR := hid hkR
  have hroom := hm.room.2
  clear csl csm f1 f2 cw hr hm hkl hkm hl2 hm2 hsl hsm hkR
  go_enter Tryd.func5, Tryd.ntmps5
  go_wp2_with fail
  refine (anchor_any _).mono ?_
  rintro e w1 ⟨rfl, hb⟩
  go_wp2_with fail
  refine (CSL.out _ (HR.out.below hb)).mono ?_
  rintro e w2 ⟨rfl, hb2⟩
  replace hb := chain2 hb hb.size hb2
  clear hb2
  go_wp2_with fail
  refine (CSM.out _ (HM.out.below hb)).mono ?_
  rintro e w3 ⟨rfl, hb2⟩
  replace hb := chain2 hb hb.size hb2
  clear hb2
  go_wp2_with fail
  refine (F1.out _ (HR.out.below hb)).mono ?_
  rintro e w4 ⟨vx, rfl, hox, hb2⟩
  replace hb := chain2 hb hb.size hb2
  have HX := hid hox.reads2.2
  clear hb2 hox
  go_wp2_with fail
  refine (F2.out _ (HM.out.below hb)).mono ?_
  rintro e w5 ⟨vy, rfl, hoy, hb2⟩
  replace hb := chain2 hb hb.size hb2
  have HX5 := hid (HX.out.below hb2)
  have hry := hoy.reads2.2
  obtain ⟨aoy, capy, rfl⟩ := hry.form
  have HY := hid hry
  clear hb2 hoy hry HX
  go_wp2_with fail
  go_loopw [5, 36] (fun x i wr => ∃ (k : Nat), k ≤ M.length ∧ i = .int .i64 k ∧ Reads2 wr x (withsF L (M.take k)) ∧ Below w5.heap.size w5 wr) (fun _ i _ => M.length - (intOf i).toNat)
  case atStart => exact ⟨0, Nat.zero_le _, rfl, HX5.out, Below.refl _ _⟩
  case round =>
    obtain ⟨k, hk, rfl, hx, hbr⟩ := hrel
    have HX := hid hx
    clear hx
    by_cases hlt : k < M.length
    · obtain ⟨f, hf⟩ : ∃ f, M[k]? = some f := ⟨_, List.getElem?_eq_getElem hlt⟩
      obtain ⟨b, off, rfl, hc1, hc2⟩ := (HY.out.below hbr).fld hf
      have hfl := HM2.out f (List.mem_of_getElem? hf)
      have HT := hid (take_fld hf)
      clear hf
      have hle := withsF_len L (M.take k)
      rw [List.length_take] at hle
      have cwr := fun W v h => refWith_any v (withsF L (M.take k)) f W h (fun g hg => by
        rcases withsF_of L _ g hg with h | h
        · have := HKL.out.2 g h; omega
        · have := HKM.out.2 g (List.mem_of_mem_take h); omega) (by omega) (by omega)
      rw [← withsF_snoc, ← HT.out] at cwr
      have CWR := hid cwr
      obtain ⟨V, hV, hbV, -, -, -⟩ := box2 wr f 30
      have hbv := chain2 hbr hbr.size hbV
      have HXV := hid (HX.out.below hbV)
      clear cwr hle hbV hbr HX
      go_wp2_with fail
      rw [← hV]
      clear hV
      refine (CWR.out _ _ HXV.out).mono ?_
      rintro e w6 ⟨⟨v6, k6, rfl, ho6⟩, hb6⟩
      have hbn := chain2 hbv hbv.size hb6
      have hrn := ho6.reads2.2
      clear hb6 ho6 hc1 hc2
      go_wp2_with fail
      go_roundw
      case rel => exact ⟨k + 1, hlt, by go_num, hrn, hbn⟩
      case measure => simp [intOf]; omega
    · have hke : M.take k = M := List.take_of_length_le (by omega)
      have HX2 : Hid (Reads2 wr u5 (withsF L M)) := by have h := HX.out; rw [hke] at h; exact hid h
      have hbq := chain2 hb hb.size hbr
      clear hke HX hbr HX5 HY
      go_wp2_with fail
      refine (CW.out _ (HR.out.below hbq) (HM.out.below hbq)).mono ?_
      rintro e w6 ⟨⟨v8, k8, rfl, ho8⟩, hb6⟩
      have hr8 := ho8.reads2.2
      obtain ⟨rfl, -⟩ := ho8.reads2
      have hb7 := chain2 hbq hbq.size hb6
      have HX6 := hid (HX2.out.below hb6)
      have HR8 := hid hr8
      clear hb6 ho8 hr8 hbq HX2
      go_wp2_with fail
      go_loopw [49] (fun i wr => ∃ (k : Nat), k ≤ M.length ∧ i = .int .i64 k ∧ Below w6.heap.size w6 wr) (fun i _ => M.length - (intOf i).toNat)
      case atStart => exact ⟨0, Nat.zero_le _, rfl, Below.refl _ _⟩
      case round =>
        obtain ⟨i, hi, rfl, hbi⟩ := hrel
        by_cases hlt2 : i < M.length
        · obtain ⟨f, hf⟩ : ∃ f, M[i]? = some f := ⟨_, List.getElem?_eq_getElem hlt2⟩
          obtain ⟨b, off, rfl, hc1, hc2⟩ := (HM.out.below (chain2 hb7 hb7.size hbi)).fld hf
          have hfl := HM2.out f (List.mem_of_getElem? hf)
          have hspl : M = M.take i ++ f :: M.drop (i + 1) := by
            obtain ⟨h1, rfl⟩ := List.getElem?_eq_some_iff.1 hf
            rw [List.getElem_cons_drop, List.take_append_drop]
          have HSP := hid hspl
          clear hf hspl
          obtain ⟨V, hV, hbV, -, hx1, hx2⟩ := box2 wr f 29
          have hbv := chain2 hbi hbi.size hbV
          obtain ⟨ao', cap', hsl, hrt⟩ := tail_ex Tryd.prog 23 (by kernel_rfl) (fun _ => by kernel_rfl) ⟨b, off, none⟩ M.length capm (i + 1) hlt2 hroom
          have hsl2 : ∀ W, (Instr.slice 23 (.slice (some ⟨b, off, none⟩) M.length capm) (some (.int .i64 ((i : Int) + 1))) none none).run Tryd.prog W = .ok (.slice ao' (M.length - (i + 1)) cap') W := by
            have e : ((i + 1 : Nat) : Int) = (i : Int) + 1 := by omega
            rw [← e]; exact hsl
          have HT := hid (hrt V M (HM.out.below (chain2 hb7 hb7.size hbv)))
          have hn' : M.length - (i + 1) = (M.drop (i + 1)).length := by rw [List.length_drop]
          have hTs : ∀ g ∈ M.drop (i + 1), g.1.length ≤ 200 ∧ g.2.length ≤ 1100 := fun g hg => HM2.out g (List.mem_of_mem_drop hg)
          have hlast := fun h => withsF_last L (M.take i) f (M.drop (i + 1)) h
          rw [← HSP.out] at hlast
          have HLAST := hid hlast
          have hTl : (M.drop (i + 1)).length ≤ 20 := by rw [List.length_drop]; omega
          rw [hn'] at hsl2 HT
          have HSL := hid hsl2
          clear hsl hsl2 hrt hbV hbi hn' hlast HSP
          generalize M.drop (i + 1) = T at HSL HT hTs HLAST hTl
          have HTS := hid hTs
          clear hTs
          go_wp2_with (refine wpList_slice_low rfl 23 _ _ rfl rfl rfl (by kernel_rfl) (HSL.out _) ?_)
          rw [← hV]
          clear hV HSL hc1 hc2
          generalize wr.heap.size = ga at hx1 hx2 ⊢
          go_loopw [11, 59] (fun d j wr3 => ∃ (k : Nat), k ≤ T.length ∧ j = .int .i64 k ∧ d = .bool ((T.take k).all fun g => !isF f.1 g) ∧ Below V.heap.size V wr3) (fun _ j _ => T.length - (intOf j).toNat)
          case atStart => exact ⟨0, Nat.zero_le _, rfl, rfl, Below.refl _ _⟩
          case round =>
            obtain ⟨j, hj, rfl, rfl, hb3⟩ := hrel
            by_cases hlt3 : j < T.length
            · obtain ⟨g, hg⟩ : ∃ g, T[j]? = some g := ⟨_, List.getElem?_eq_getElem hlt3⟩
              obtain ⟨b2, off2, rfl, hd1, hd2⟩ := (HT.out.below hb3).fld hg
              have hgl := HTS.out g (List.mem_of_getElem? hg)
              have HTK := hid (take_fld hg)
              clear hg
              obtain ⟨q, hq⟩ : ∃ q, ((T.take j).all fun g => !isF f.1 g) = q := ⟨_, rfl⟩
              have hnx : ((T.take (j + 1)).all fun g => !isF f.1 g) = (q && !isF f.1 g) := by rw [HTK.out, List.all_append, hq]; simp
              rw [hq]
              have HNX := hid hnx
              clear hq hnx
              obtain ⟨X, hX, hbX, -, hy1, hy2⟩ := box2 wr g 29
              have hbx := chain2 hb3 hb3.size hbX
              have hz1 := kept hx1 hbx
              cases q
              · go_wp2_with fail
                rw [← hX]
                clear hX
                go_quiet (fail)
                go_wp2_with fail
                go_roundw
                case rel => exact ⟨j + 1, hlt3, by go_num, by rw [HNX.out]; rfl, chain2 hbx hbx.size (drewN_below2 _ _)⟩
                case measure => simp [intOf]; omega
              · have kf := fun W => refLower_any ⟨f.1.toArray⟩ W (by rw [szL]; omega)
                have kg := fun W => refLower_any ⟨g.1.toArray⟩ W (by rw [szL]; omega)
                rw [dtL] at kf kg
                have HIS : Hid (isF f.1 g = (lowerL g.1 == lowerL f.1)) := hid rfl
                go_wp2_with fail
                rw [← hX]
                clear hX
                generalize wr.heap.size = gb at hy1 hy2 ⊢
                have kS := fun (W W' : World) (h : W.cell? ⟨ga, 0, none⟩ = some (strV f.1) ∧ W.cell? ⟨gb, 0, none⟩ = some (strV g.1) ∧ Below V.heap.size V W) (hb : Below W.heap.size W W') => (⟨kept h.1 hb, kept h.2.1 hb, chain2 h.2.2 h.2.2.size hb⟩ : W'.cell? ⟨ga, 0, none⟩ = some (strV f.1) ∧ W'.cell? ⟨gb, 0, none⟩ = some (strV g.1) ∧ Below V.heap.size V W')
                have kf2 := fun W h => (kf W).mono (fun e W' (q : _ ∧ _) => (⟨q.1, kS W W' h q.2⟩ : _ ∧ _))
                have kg2 := fun W h => (kg W).mono (fun e W' (q : _ ∧ _) => (⟨q.1, kS W W' h q.2⟩ : _ ∧ _))
                have KF := hid kf2
                have KG := hid kg2
                clear kf kg kf2 kg2 kS
                obtain ⟨p, hp⟩ : ∃ p, isF f.1 g = p := ⟨_, rfl⟩
                rw [hp] at HNX
                have e1 : (lowerL g.1 == lowerL f.1) = p := hp
                have e3 : (lowerL f.1 == lowerL g.1) = p := by rw [← hp]; unfold isF; rw [Bool.eq_iff_iff, beq_iff_eq, beq_iff_eq]; exact eq_comm
                have e2 : (lowerL f.1 != lowerL g.1) = !p := by rw [bne, e3]
                clear hd1 hd2 HIS hp
                generalize lowerL f.1 = lf at KF e1 e2 e3
                generalize lowerL g.1 = lg at KG e1 e2 e3
                cases p
                all_goals
                  refine wp_region_held_drew (S := fun w' => w'.cell? ⟨ga, 0, none⟩ = some (strV f.1) ∧ w'.cell? ⟨gb, 0, none⟩ = some (strV g.1) ∧ Below V.heap.size V w') (by kernel_rfl) ⟨hz1, hy1, hbx.drew⟩ (fun hHeld => ?_)
                  refine wpAnyH_take (i := 0) (v := ?_) rfl (by kernel_rfl) (by kernel_rfl) (by kernel_rfl) (fun _ _ _ h => h) (Or.inl ⟨by kernel_rfl, ?_⟩) hHeld ?_
                  rotate_left
                  · intro W hSW
                    obtain ⟨hSc, hSd, hSe⟩ := hSW
                    go_simp
                    first | done | with_reducible rfl
                  simp only [Act.put, List.setIfInBounds_toArray, List.set_cons_zero, List.set_cons_succ]
                  refine wpAnyH_take (i := 1) (v := ?_) rfl (by kernel_rfl) (by kernel_rfl) (by kernel_rfl) (fun _ _ _ h => h) (Or.inl ⟨by kernel_rfl, ?_⟩) hHeld ?_
                  rotate_left
                  · intro W hSW
                    obtain ⟨hSc, hSd, hSe⟩ := hSW
                    go_simp
                    first | done | with_reducible rfl
                  simp only [Act.put, List.setIfInBounds_toArray, List.set_cons_zero, List.set_cons_succ]
                  refine wpAnyH_take (i := 2) (v := ?_) rfl (by kernel_rfl) (by kernel_rfl) (by kernel_rfl) (fun _ _ _ h => h) (Or.inl ⟨by kernel_rfl, ?_⟩) hHeld ?_
                  rotate_left
                  · intro W hSW
                    obtain ⟨hSc, hSd, hSe⟩ := hSW
                    go_simp
                    first | done | with_reducible rfl
                  simp only [Act.put, List.setIfInBounds_toArray, List.set_cons_zero, List.set_cons_succ]
                  refine wpAnyH_take (i := 3) (v := ?_) rfl (by kernel_rfl) (by kernel_rfl) (by kernel_rfl) (fun _ _ _ h => h) (Or.inl ⟨by kernel_rfl, ?_⟩) hHeld ?_
                  rotate_left
                  · intro W hSW
                    obtain ⟨hSc, hSd, hSe⟩ := hSW
                    go_simp
                    first | done | with_reducible rfl
                  simp only [Act.put, List.setIfInBounds_toArray, List.set_cons_zero, List.set_cons_succ]
                  refine wpAnyH_take (i := 5) (v := ?_) rfl (by kernel_rfl) (by kernel_rfl) (by kernel_rfl) (fun _ _ _ h => h) (Or.inl ⟨by kernel_rfl, ?_⟩) hHeld ?_
                  rotate_left
                  · intro W hSW
                    obtain ⟨hSc, hSd, hSe⟩ := hSW
                    go_simp
                    first | done | with_reducible rfl
                  simp only [Act.put, List.setIfInBounds_toArray, List.set_cons_zero, List.set_cons_succ]
                  refine wpAnyH_take (i := 6) (v := ?_) rfl (by kernel_rfl) (by kernel_rfl) (by kernel_rfl) (fun _ _ _ h => h) (Or.inl ⟨by kernel_rfl, ?_⟩) hHeld ?_
                  rotate_left
                  · intro W hSW
                    obtain ⟨hSc, hSd, hSe⟩ := hSW
                    go_simp
                    first | done | with_reducible rfl
                  simp only [Act.put, List.setIfInBounds_toArray, List.set_cons_zero, List.set_cons_succ]
                  refine wpAnyH_ready (rs := [4]) (by kernel_rfl) (by simp) ?_
                  refine AllReadyH.cons rfl (fun K hK => ?_) AllReadyH.nil
                  go_simp
                  refine (KF.out _ hHeld).mono ?_
                  rintro e w9 ⟨rfl, hS1⟩
                  refine hK.out _ _ hS1 (fun hHeld2 => ?_)
                  clear hK K hHeld
                  try simp only [Act.put, List.setIfInBounds_toArray, List.set_cons_zero, List.set_cons_succ]
                  refine wpAnyH_ready (rs := [7]) (by kernel_rfl) (by simp) ?_
                  refine AllReadyH.cons rfl (fun K hK => ?_) AllReadyH.nil
                  go_simp
                  refine (KG.out _ hHeld2).mono ?_
                  rintro e w9 ⟨rfl, hS1⟩
                  refine hK.out _ _ hS1 (fun hHeld3 => ?_)
                  clear hK K hHeld2
                  try simp only [Act.put, List.setIfInBounds_toArray, List.set_cons_zero, List.set_cons_succ]
                  refine wpAnyH_take (i := 8) (v := ?_) rfl (by kernel_rfl) (by kernel_rfl) (by kernel_rfl) (fun _ _ _ h => h) (Or.inl ⟨by kernel_rfl, ?_⟩) hHeld3 ?_
                  rotate_left
                  · intro W hSW
                    obtain ⟨hSc, hSd, hSe⟩ := hSW
                    go_simp
                    first | done | with_reducible rfl
                  simp only [List.getElem_toArray, List.getElem_cons_succ, List.getElem_cons_zero, Act.put, List.setIfInBounds_toArray, List.set_cons_zero, List.set_cons_succ]
                  refine wpAnyH_take (i := 9) (v := ?_) rfl (by kernel_rfl) (by kernel_rfl) (by kernel_rfl) (fun _ _ _ h => h) (Or.inl ⟨by kernel_rfl, ?_⟩) hHeld3 ?_
                  rotate_left
                  · intro W hSW
                    obtain ⟨hSc, hSd, hSe⟩ := hSW
                    go_simp
                    first | done | with_reducible rfl
                  simp only [List.getElem_toArray, List.getElem_cons_succ, List.getElem_cons_zero, Act.put, List.setIfInBounds_toArray, List.set_cons_zero, List.set_cons_succ]
                  refine wpAnyH_take (i := 10) (v := ?_) rfl (by kernel_rfl) (by kernel_rfl) (by kernel_rfl) (fun _ _ _ h => h) (Or.inl ⟨by kernel_rfl, ?_⟩) hHeld3 ?_
                  rotate_left
                  · intro W hSW
                    obtain ⟨hSc, hSd, hSe⟩ := hSW
                    go_simp
                    first | done | with_reducible rfl
                  simp only [List.getElem_toArray, List.getElem_cons_succ, List.getElem_cons_zero, Act.put, List.setIfInBounds_toArray, List.set_cons_zero, List.set_cons_succ]
                  refine wpAnyH_done (by kernel_rfl) ?_ _
                  go_wp2_with fail
                  go_roundw
                  case rel => exact ⟨j + 1, hlt3, by go_num, by rw [HNX.out]; rfl, hS1.2.2⟩
                  case measure => simp [intOf]; omega
            · have hke : T.take j = T := List.take_of_length_le (by omega)
              rw [hke]
              have y1 := kept hx1 hb3
              have y2 := kept hx2 hb3
              have hb8 := chain2 hbv hbv.size hb3
              have hr8 := HR8.out.below hb8
              have cg := fun W h => lGet_any v8 (withsF L M) ⟨f.1.toArray⟩ W h HKR.out (by rw [szL]; omega)
              have ca := fun W h => lAll_any v8 (withsF L M) ⟨f.1.toArray⟩ W h HKR.out (by rw [szL]; omega)
              rw [dtL] at cg ca
              clear hke hb3 hbv hx1 hx2
              cases hq : (T.all fun g => !isF f.1 g)
              · generalize getF (withsF L M) f.1 = G at cg
                generalize allF (withsF L M) f.1 = A at cg
                clear ca HLAST hq HTS HT
                have CG := hid cg
                clear cg
                go_wp2_with fail
                refine (CG.out _ hr8).mono ?_
                rintro e w9 ⟨rfl, hb9⟩
                have hbn := chain2 hb8 hb8.size hb9
                clear hr8 hb8 hb9 y1 y2
                go_wp2_with fail
                go_roundw
                case rel => exact ⟨i + 1, hlt2, by go_num, hbn⟩
                case measure => simp [intOf]; omega
              · have hA := HLAST.out (fun g hg => by have := List.all_eq_true.1 hq g hg; simpa using this)
                have hG : getF (withsF L M) f.1 = f.2 := by unfold getF; rw [hA]; rfl
                rw [hG, hA] at cg
                rw [hA] at ca
                clear HLAST hq HTS HT hA hG
                have CG := hid cg
                have CA := hid ca
                clear cg ca
                go_wp2_with fail
                refine (CG.out _ hr8).mono ?_
                rintro e w9 ⟨rfl, hb9⟩
                have hbn := chain2 hb8 hb8.size hb9
                replace y1 := kept y1 hb9
                replace y2 := kept y2 hb9
                replace hr8 := hr8.below hb9
                clear hb8 hb9
                have zz : (f.2 != f.2) = false := by simp
                go_wp2_with fail
                refine (CA.out _ hr8).mono ?_
                rintro e w10 ⟨⟨va, rfl, hoa⟩, hb10⟩
                obtain ⟨aoa, capa, rfl⟩ := Reads.strs hoa.reads
                have hbn2 := chain2 hbn hbn.size hb10
                clear hr8 hoa hb10 hbn y1 y2
                go_wp2_with fail
                go_roundw
                case rel => exact ⟨i + 1, hlt2, by go_num, hbn2⟩
                case measure => simp [intOf]; omega
        · have hML : (withsF L M).length < 1000000 := by have := HKR.out.1; omega
          have hb8 := chain2 hb7 hb7.size hbi
          go_wp2_with fail
          refine (Fields_any v8 (withsF L M) _ (HR8.out.below hbi) hML).mono ?_
          rintro e w9 ⟨vf, rfl, hof, hb9⟩
          have hrf := hof.reads2.2
          have hb10 := chain2 hbi hbi.size hb9
          go_wp2_with fail
          refine (refSame_any _ _ (withsF L M) (withsF L M) _ hrf (HX6.out.below hb10) hML).mono ?_
          rintro e w11 ⟨rfl, hb11⟩
          have hbf := chain2 hb7 hb7.size (chain2 hb10 hb10.size hb11)
          go_wp2_with fail
          go_ret
          exact ⟨ret_bool (by simp), hbf⟩

theorem fieldSets_walk (v1 : Value) (La : List Fld) (v2 : Value) (Lb : List Fld) (w : World) (hl1 : Reads2 w v1 La ∧ (∀ f ∈ La, f.1.length ≤ maxLen ∧ f.2.length ≤ maxLen) ∧ La.length ≤ maxLen) (hl2 : Reads2 w v2 Lb ∧ (∀ f ∈ Lb, f.1.length ≤ maxLen ∧ f.2.length ≤ maxLen) ∧ Lb.length ≤ maxLen) :
    Calls Tryd.prog 5 #[v1, v2] w fun e w' => e = .returned (.bool true) ∧ Below w.heap.size w w' := by
  obtain ⟨hra, -, hla⟩ := hl1
  obtain ⟨hrb, -, hlb⟩ := hl2
  unfold maxLen at hla hlb
  have csa := fun W h => small_any v1 La W h (by omega)
  have csb := fun W h => small_any v2 Lb W h (by omega)
  obtain ⟨qa, hqa⟩ : ∃ q, smallF La = q := ⟨_, rfl⟩
  obtain ⟨qb, hqb⟩ : ∃ q, smallF Lb = q := ⟨_, rfl⟩
  obtain ⟨aob, capb, rfl⟩ := hrb.form
  by_cases hall : qa = true ∧ qb = true ∧ (Lb.length : Int) ≤ 20
  · obtain ⟨rfl, rfl, h1⟩ := hall
    exact fieldSets_main v1 aob capb La Lb w hra hrb hqa hqb (by omega)
  · have hcase : qa = false ∨ (qa = true ∧ qb = false) ∨ (qa = true ∧ qb = true ∧ (20 : Int) < (Lb.length : Int)) := by
      cases qa
      · exact .inl rfl
      · cases qb
        · exact .inr (.inl ⟨rfl, rfl⟩)
        · simp only [true_and] at hall
          exact .inr (.inr ⟨rfl, rfl, by omega⟩)
    rw [hqa] at csa
    rw [hqb] at csb
    have CSA := hid csa
    have CSB := hid csb
    have HRA := hid hra
    have HRB := hid hrb
    clear csa csb hra hrb hqa hqb hall
    rcases hcase with rfl | ⟨rfl, rfl⟩ | ⟨rfl, rfl, hn2⟩
    · go_enter Tryd.func5, Tryd.ntmps5
      go_wp2_with fail
      refine (anchor_any _).mono ?_
      rintro e w1 ⟨rfl, hb⟩
      go_wp2_with fail
      refine (CSA.out _ (HRA.out.below hb)).mono ?_
      rintro e w2 ⟨rfl, hb2⟩
      replace hb := chain2 hb hb.size hb2
      clear hb2
      go_wp2_with fail
      go_ret
      exact ⟨rfl, hb⟩
    all_goals
      go_enter Tryd.func5, Tryd.ntmps5
      go_wp2_with fail
      refine (anchor_any _).mono ?_
      rintro e w1 ⟨rfl, hb⟩
      go_wp2_with fail
      refine (CSA.out _ (HRA.out.below hb)).mono ?_
      rintro e w2 ⟨rfl, hb2⟩
      replace hb := chain2 hb hb.size hb2
      clear hb2
      go_wp2_with fail
      refine (CSB.out _ (HRB.out.below hb)).mono ?_
      rintro e w3 ⟨rfl, hb2⟩
      replace hb := chain2 hb hb.size hb2
      clear hb2
      go_wp2_with fail
      go_ret
      exact ⟨rfl, hb⟩
end Go.Proofs.YtcipfbjneeafaaaDoor
