/-
  The walk of KeyApart.
-/
import Derived.Test.YtbjgbkbhalibdaaDoorLaw11D
import Derived.Deep.CutRange
namespace Go.Proofs.YtbjgbkbhalibdaaDoor
open Go.RowKit Go.Pantry

/-- is all of two places the same that a site asks for? -/
def sameP (q : Bool) (a b : PlaceR) : Bool := a.host == b.host && (a.path == b.path && (!q || (a.has == b.has && (!a.has || a.query == b.query))))
set_option maxRecDepth 8000 in
set_option maxHeartbeats 4000000 in
theorem keyApart_over {Ok : World → Prop} (K : Keys Ok) (hv : Value) (s : SiteZ) (p r : PlaceR) (av bv : Value) (a b : List Fld) (w : World) (ok : Ok w) (hh : Reads w hv (s.heads.map strV)) (ha : Reads2 w av a) (hb : Reads2 w bv b) (hl : s.heads.length ≤ maxLen) (hal : a.length ≤ maxLen) (hbl : b.length ≤ maxLen) :
    Calls Tryd.prog 3 #[.agg (rowZ hv s), .agg #[strV p.host, strV p.path, strV p.query, .bool p.has], .agg #[strV r.host, strV r.path, strV r.query, .bool r.has], av, bv] w fun e w' => e = .returned (.bool true) ∧ Below w.heap.size w w' := by
  unfold maxLen at hl hal hbl
  obtain ⟨no, nc, rfl⟩ := hh.strs
  obtain ⟨ao, ac, rfl⟩ := ha.form
  obtain ⟨bo, bc, rfl⟩ := hb.form
  obtain ⟨m, hm⟩ : ∃ m, s.heads.length = m := ⟨_, rfl⟩
  rw [hm] at hh ⊢
  obtain ⟨W, hW⟩ : ∃ W, ((w.alloc (.cells (rowZ (.slice no m nc) s) 24)).alloc (.cells #[strV p.host, strV p.path, strV p.query, .bool p.has] 26)).alloc (.cells #[strV r.host, strV r.path, strV r.query, .bool r.has] 26) = W := ⟨_, rfl⟩
  have hbW : Below w.heap.size w W := by rw [← hW]; exact chainK (chainK (below_alloc _ _) (below_alloc _ _)) (below_alloc _ _)
  have q1 : rowIs W w.heap.size (rowZ (.slice no m nc) s) 24 := by rw [← hW]; exact ((rowIs_new _ _ _).below (below_alloc _ _)).below (below_alloc _ _)
  have q2 : rowIs W (w.heap.size + 1) #[strV p.host, strV p.path, strV p.query, .bool p.has] 26 := by rw [← hW]; exact (rowIs_new_at _ _ _ _ (by simp)).below (below_alloc _ _)
  have q3 : rowIs W (w.heap.size + 1 + 1) #[strV r.host, strV r.path, strV r.query, .bool r.has] 26 := by rw [← hW]; exact rowIs_new_at _ _ _ _ (by simp)
  have cA := hid (anchor_any K W (K.keep _ _ ok hbW))
  have cFp := hid (fun (w' : World) (h : Below w.heap.size w w') => fit_any (.slice no m nc) s p w' (hh.below h) (by omega))
  have cFr := hid (fun (w' : World) (h : Below w.heap.size w w') => fit_any (.slice no m nc) s r w' (hh.below h) (by omega))
  have cSa := hid (fun (w' : World) (h : Below w.heap.size w w') => smallK_any (.slice ao a.length ac) a w' (ha.below h) (by omega))
  have cSb := hid (fun (w' : World) (h : Below w.heap.size w w') => smallK_any (.slice bo b.length bc) b w' (hb.below h) (by omega))
  have HQ := hid (And.intro q1 (And.intro q2 (And.intro q3 hbW)))
  have HR := hid (And.intro hh (And.intro ha hb))
  have HM := hid (And.intro hm ok)
  clear hh ha hb hm q1 q2 q3 hbW ok
  go_enter Tryd.func3, Tryd.ntmps3
  go_wp2_with fail
  clear hW
  refine cA.out.mono ?_
  rintro e w1 ⟨rfl, hb1⟩
  have r1 := HQ.out.1.below hb1
  have r2 := HQ.out.2.1.below hb1
  have r3 := HQ.out.2.2.1.below hb1
  have HB1 := hid (chain2 HQ.out.2.2.2 HQ.out.2.2.2.size hb1)
  have R1 := hid (And.intro r1 (And.intro r2 r3))
  clear hb1 cA HQ
  go_wp2_with (first
    | (refine wpList_load_row rfl 24 _ rfl w.heap.size rfl 24 _ (0, 0) _ r1 Tryd.underlying24 rfl infoSiteK ?_)
    | (refine wpList_load_row rfl 26 _ rfl (w.heap.size + 1) rfl 26 _ (0, 0) _ r2 Tryd.underlying26 rfl infoPlaceK ?_))
  refine (cFp.out _ HB1.out).mono ?_
  rintro e w2 ⟨f1, rfl, hf1, hb2⟩
  have s1 := R1.out.1.below hb2
  have s2 := R1.out.2.1.below hb2
  have s3 := R1.out.2.2.below hb2
  have HB2 := hid (chain2 HB1.out HB1.out.size hb2)
  have R2 := hid (And.intro s1 (And.intro s2 s3))
  have HF1 := hid hf1
  clear r1 r2 r3 hb2 hf1 R1 HB1
  cases f1 with
  | false =>
    clear s1 s2 s3
    go_wp2_with fail
    go_ret
    exact ⟨rfl, HB2.out⟩
  | true =>
    go_wp2_with (first
      | (refine wpList_unguard rfl ?_; refine wpList_load_row rfl 24 _ rfl w.heap.size rfl 24 _ (0, 0) _ s1 Tryd.underlying24 rfl infoSiteK ?_)
      | (refine wpList_unguard rfl ?_; refine wpList_load_row rfl 26 _ rfl (w.heap.size + 1 + 1) rfl 26 _ (0, 0) _ s3 Tryd.underlying26 rfl infoPlaceK ?_))
    refine (cFr.out _ HB2.out).mono ?_
    rintro e w3 ⟨f2, rfl, hf2, hb3⟩
    have HB3 := hid (chain2 HB2.out HB2.out.size hb3)
    have R3 := hid (And.intro (R2.out.1.below hb3) (And.intro (R2.out.2.1.below hb3) (R2.out.2.2.below hb3)))
    have HF2 := hid hf2
    clear s1 s2 s3 hb3 hf2 R2 HB2
    cases f2 with
    | false =>
      go_wp2_with fail
      go_ret
      exact ⟨rfl, HB3.out⟩
    | true =>
      have FT := hid (And.intro (HF1.out trivial) (HF2.out rfl))
      clear HF1 HF2
      go_wp2_with fail
      refine (cSa.out _ HB3.out).mono ?_
      rintro e w4 ⟨rfl, hb4⟩
      have HB4 := hid (chain2 HB3.out HB3.out.size hb4)
      have R4 := hid (And.intro (R3.out.1.below hb4) (And.intro (R3.out.2.1.below hb4) (R3.out.2.2.below hb4)))
      clear hb4 R3 HB3
      cases hsa : smallK a with
      | false =>
        go_wp2_with fail
        go_ret
        exact ⟨rfl, HB4.out⟩
      | true =>
        have SA := hid (smallK_ok hsa)
        clear hsa
        go_wp2_with fail
        refine (cSb.out _ HB4.out).mono ?_
        rintro e w5 ⟨rfl, hb5⟩
        have HB5 := hid (chain2 HB4.out HB4.out.size hb5)
        have R5 := hid (And.intro (R4.out.1.below hb5) (And.intro (R4.out.2.1.below hb5) (R4.out.2.2.below hb5)))
        clear hb5 R4 HB4
        cases hsb : smallK b with
        | false =>
          go_wp2_with fail
          go_ret
          exact ⟨rfl, HB5.out⟩
        | true =>
          have SB := hid (smallK_ok hsb)
          clear hsb
          go_upto_region 5 with fail
          go_cut [11] from 40 to 75 (fun u W' => u = .bool (sameP s.query p r) ∧ W' = w5)
          case first =>
            have x1 : w5.cell? ⟨w.heap.size + 1, 0, none⟩ = some (strV p.host) := R5.out.2.1.cell 0
            have x2 : w5.cell? ⟨w.heap.size + 1, 1, none⟩ = some (strV p.path) := R5.out.2.1.cell 1
            have x3 : w5.cell? ⟨w.heap.size + 1, 2, none⟩ = some (strV p.query) := R5.out.2.1.cell 2
            have x4 : w5.cell? ⟨w.heap.size + 1, 3, none⟩ = some (.bool p.has) := R5.out.2.1.cell 3
            have y1 : w5.cell? ⟨w.heap.size + 1 + 1, 0, none⟩ = some (strV r.host) := R5.out.2.2.cell 0
            have y2 : w5.cell? ⟨w.heap.size + 1 + 1, 1, none⟩ = some (strV r.path) := R5.out.2.2.cell 1
            have y3 : w5.cell? ⟨w.heap.size + 1 + 1, 2, none⟩ = some (strV r.query) := R5.out.2.2.cell 2
            have y4 : w5.cell? ⟨w.heap.size + 1 + 1, 3, none⟩ = some (.bool r.has) := R5.out.2.2.cell 3
            have z4 : w5.cell? ⟨w.heap.size, 4, none⟩ = some (.bool s.query) := R5.out.1.cell 4
            have hS : sameP s.query p r = (p.host == r.host && (p.path == r.path && (!s.query || (p.has == r.has && (!p.has || p.query == r.query))))) := rfl
            obtain ⟨sq, hsq⟩ : ∃ x, s.query = x := ⟨_, rfl⟩
            obtain ⟨h1, hh1⟩ : ∃ x, p.has = x := ⟨_, rfl⟩
            obtain ⟨h2, hh2⟩ : ∃ x, r.has = x := ⟨_, rfl⟩
            rw [hsq] at z4
            rw [hh1] at x4
            rw [hh2] at y4
            have hS2 := hS
            rw [hsq, hh1, hh2] at hS2
            have HE := hid (And.intro hsq (And.intro hh1 hh2))
            have hS3 : sameP s.query p r = _ := (congrArg (fun q => sameP q p r) hsq).trans hS2
            clear hsq hh1 hh2 hS hS2
            obtain ⟨e1, he1⟩ : ∃ e, (p.host == r.host) = e := ⟨_, rfl⟩
            obtain ⟨e2, he2⟩ : ∃ e, (p.path == r.path) = e := ⟨_, rfl⟩
            rw [he1, he2] at hS3
            have HS := hid hS3
            clear hS3
            cases e1 with
            | false =>
              go_wp2_with fail
              go_meet
              case rel => exact ⟨by rw [HS.out]; rfl, rfl⟩
            | true =>
              cases e2 with
              | false =>
                go_wp2_with fail
                go_meet
                case rel => exact ⟨by rw [HS.out]; rfl, rfl⟩
              | true =>
                cases sq with
                | false =>
                  go_wp2_with fail
                  go_meet
                  case rel => exact ⟨by rw [HS.out]; rfl, rfl⟩
                | true =>
                  cases h1 <;> cases h2
                  all_goals go_wp2_with fail
                  all_goals go_meet
                  all_goals exact ⟨by rw [HS.out]; simp, rfl⟩
          case rest =>
            obtain ⟨rfl, hwc⟩ := hcut
            rw [hwc]
            clear hwc wc
            have x6 : w5.cell? ⟨w.heap.size, 6, none⟩ = some (.slice no m nc) := R5.out.1.cell 6
            go_wp2_with fail
            clear x6
            go_loopw [11, 79] (fun q z wr => ∃ (k : Nat), z = .int .i64 (k : Int) ∧ k ≤ m ∧ q = .bool (sameP s.query p r && (s.heads.take k).all (sameN a b)) ∧ Below w5.heap.size w5 wr) (fun _ z _ => m - (intOf z).toNat)
            case atStart => exact ⟨0, rfl, Nat.zero_le _, congrArg Value.bool (by simp), Below.refl _ _⟩
            case round =>
              obtain ⟨k, rfl, hk, rfl, hbr⟩ := hrel
              have HBR := hid hbr
              have HBW := hid (chain2 HB5.out HB5.out.size hbr)
              clear hbr
              by_cases hlt : k < m
              · obtain ⟨u, hu⟩ : ∃ u, s.heads[k]? = some u := ⟨_, List.getElem?_eq_getElem (by rw [HM.out.1]; exact hlt)⟩
                obtain ⟨bb, off, g0, d0⟩ := (HR.out.1.below HBW.out).str hu
                subst g0
                have hkI : (k : Int) < (m : Int) := by omega
                have hk0 : (0 : Int) ≤ (k : Int) := by omega
                have hkw : IntKind.i64.wrap ((k : Int) + 1) = (k : Int) + 1 := IntWalk.i64_in _ (by have := HM.out.1; omega)
                have htk := take_str hu
                have hul := FT.out.1.texts u (List.mem_of_getElem? hu)
                have hst : (sameP s.query p r && (s.heads.take (k + 1)).all (sameN a b)) = ((sameP s.query p r && (s.heads.take k).all (sameN a b)) && sameN a b u) := by rw [htk]; simp [Bool.and_assoc]
                have hsn : sameN a b u = ((decide (0 < (allF a u).length) == decide (0 < (allF b u).length)) && getF a u == getF b u) := rfl
                have cGa := hid (fun (W : World) (v : Value) (h : Reads2 W v a) => SA.out.getAny v u W h (by omega))
                have cGb := hid (fun (W : World) (v : Value) (h : Reads2 W v b) => SB.out.getAny v u W h (by omega))
                obtain ⟨q, hq⟩ : ∃ q, (sameP s.query p r && (s.heads.take k).all (sameN a b)) = q := ⟨_, rfl⟩
                rw [hq] at hst ⊢
                rw [hsn] at hst
                obtain ⟨na, hna⟩ : ∃ x, (allF a u).length = x := ⟨_, rfl⟩
                obtain ⟨nb, hnb⟩ : ∃ x, (allF b u).length = x := ⟨_, rfl⟩
                rw [hna] at hst cGa
                rw [hnb] at hst cGb
                generalize getF a u = GA at hst cGa
                generalize getF b u = GB at hst cGb
                have HS := hid hst
                clear hst hsn htk hu hq hna hnb
                go_wp2_with fail
                refine (Fields_any (.slice ao a.length ac) a wr (HR.out.2.1.below HBW.out) (by have := SA.out.len; omega)).mono ?_
                rintro e w6 ⟨v6, rfl, ho6, hb6⟩
                have R6 := hid ho6.reads2.2
                have HB6 := hid (chain2 HBR.out HBR.out.size hb6)
                clear ho6 hb6
                go_wp2_with fail
                refine (cGa.out _ _ R6.out).mono ?_
                rintro e w7 ⟨rfl, hb7⟩
                have HB7 := hid (chain2 HB6.out HB6.out.size hb7)
                clear hb7
                go_wp2_with fail
                refine (Fields_any (.slice bo b.length bc) b w7 (HR.out.2.2.below (chain2 HB5.out HB5.out.size HB7.out)) (by have := SB.out.len; omega)).mono ?_
                rintro e w8 ⟨v8, rfl, ho8, hb8⟩
                have R8 := hid ho8.reads2.2
                have HB8 := hid (chain2 HB7.out HB7.out.size hb8)
                clear ho8 hb8
                go_wp2_with fail
                refine (cGb.out _ _ R8.out).mono ?_
                rintro e w9 ⟨rfl, hb9⟩
                have HB9 := hid (chain2 HB8.out HB8.out.size hb9)
                clear hb9 R6 R8 HB6 HB7 HB8
                obtain ⟨pa, hpa⟩ : ∃ x, decide (0 < na) = x := ⟨_, rfl⟩
                obtain ⟨pb, hpb⟩ : ∃ x, decide (0 < nb) = x := ⟨_, rfl⟩
                have hpaI : decide ((0 : Int) < (na : Int)) = pa := by rw [← hpa]; exact decide_eq_decide.2 (by omega)
                have hpbI : decide ((0 : Int) < (nb : Int)) = pb := by rw [← hpb]; exact decide_eq_decide.2 (by omega)
                cases q with
                | false =>
                  go_wp2_with fail
                  go_roundw
                  case rel => exact ⟨k + 1, by go_num, hlt, congrArg Value.bool (by rw [HS.out]; rfl), HB9.out⟩
                  case measure => simp [intOf]; omega
                | true =>
                  cases pa <;> cases pb
                  all_goals go_wp2_with fail
                  all_goals go_roundw
                  any_goals
                    (case rel => exact ⟨k + 1, by go_num, hlt, congrArg Value.bool (by rw [HS.out, hpa, hpb]; simp), HB9.out⟩)
                  any_goals
                    (case measure => simp [intOf]; omega)
              · have hkm : k = m := by omega
                have hkt : s.heads.take k = s.heads := List.take_of_length_le (by rw [HM.out.1]; omega)
                rw [hkt]
                have hsame := firstL_same s.query s.heads p r a b
                have hsk : sameK s.query s.heads p r a b = (sameP s.query p r && s.heads.all (sameN a b)) := rfl
                rw [hsk] at hsame
                obtain ⟨q, hq⟩ : ∃ q, (sameP s.query p r && s.heads.all (sameN a b)) = q := ⟨_, rfl⟩
                rw [hq] at hsame ⊢
                have QR := hid (And.intro (R5.out.1.below HBR.out) (And.intro (R5.out.2.1.below HBR.out) (R5.out.2.2.below HBR.out)))
                have hhl := FT.out
                have C1 : Hid (∀ W, Below wr.heap.size wr W → Calls Tryd.prog 13 #[.agg (rowZ (.slice no m nc) s), .agg #[strV p.host, strV p.path, strV p.query, .bool p.has], .slice ao a.length ac] W fun e w' => e = .returned (strV (firstL s.query s.heads p a)) ∧ Below W.heap.size W w') := fun W hS =>
                  K.first (.slice no m nc) (.slice ao a.length ac) s p a W (K.keep _ _ HM.out.2 (chain2 HBW.out HBW.out.size hS)) (HR.out.2.1.below (chain2 HBW.out HBW.out.size hS)) (HR.out.1.below (chain2 HBW.out HBW.out.size hS)) SA.out (Nat.le_trans hhl.1.heads (by decide)) (fun y hy => Nat.le_trans (hhl.1.texts y hy) (by decide)) (Nat.le_trans hhl.1.host (by decide)) (Nat.le_trans hhl.1.path (by decide)) (Nat.le_trans hhl.1.query (by decide))
                have C2 : Hid (∀ W, Below wr.heap.size wr W → Calls Tryd.prog 13 #[.agg (rowZ (.slice no m nc) s), .agg #[strV r.host, strV r.path, strV r.query, .bool r.has], .slice bo b.length bc] W fun e w' => e = .returned (strV (firstL s.query s.heads r b)) ∧ Below W.heap.size W w') := fun W hS =>
                  K.first (.slice no m nc) (.slice bo b.length bc) s r b W (K.keep _ _ HM.out.2 (chain2 HBW.out HBW.out.size hS)) (HR.out.2.2.below (chain2 HBW.out HBW.out.size hS)) (HR.out.1.below (chain2 HBW.out HBW.out.size hS)) SB.out (Nat.le_trans hhl.2.heads (by decide)) (fun y hy => Nat.le_trans (hhl.2.texts y hy) (by decide)) (Nat.le_trans hhl.2.host (by decide)) (Nat.le_trans hhl.2.path (by decide)) (Nat.le_trans hhl.2.query (by decide))
                generalize firstL s.query s.heads p a = X at C1 hsame
                generalize firstL s.query s.heads r b = Y at C2 hsame
                have HS := hid hsame
                clear hhl hsame hsk hkt hq
                go_wp2_with fail
                refine wp_region_U [] (by kernel_rfl) (fun _ W => Below wr.heap.size wr W) (b := []) (by kernel_rfl) ((Below.refl _ _).drew) ?_
                refine wpAnyU_take (i := 0) (v := .agg (rowZ (.slice no m nc) s)) (by decide) rfl (by kernel_rfl) (by kernel_rfl) (by kernel_rfl) (fun _ _ _ h => h) (Steady.plain (by kernel_rfl) ?_) ?_
                · intro b W hS
                  exact load_gives (x := .tmp 5) (by kernel_rfl) w.heap.size (by kernel_rfl) (QR.out.1.below hS) Tryd.underlying24 rfl infoSiteK
                simp only [Act.put, List.getElem_toArray, List.getElem_cons_succ, List.getElem_cons_zero, List.setIfInBounds_toArray, List.set_cons_zero, List.set_cons_succ]
                refine wpAnyU_take (i := 1) (v := .agg #[strV p.host, strV p.path, strV p.query, .bool p.has]) (by decide) rfl (by kernel_rfl) (by kernel_rfl) (by kernel_rfl) (fun _ _ _ h => h) (Steady.plain (by kernel_rfl) ?_) ?_
                · intro b W hS
                  exact load_gives (x := .tmp 6) (by kernel_rfl) (w.heap.size + 1) (by kernel_rfl) (QR.out.2.1.below hS) Tryd.underlying26 rfl infoPlaceK
                simp only [Act.put, List.getElem_toArray, List.getElem_cons_succ, List.getElem_cons_zero, List.setIfInBounds_toArray, List.set_cons_zero, List.set_cons_succ]
                refine wpAnyU_take (i := 2) (v := ?_) (by decide) rfl (by kernel_rfl) (by kernel_rfl) (by kernel_rfl) (fun _ _ _ h => h) (Steady.plain (by kernel_rfl) ?_) ?_
                rotate_left
                · intro b W hS
                  skip
                  go_simp
                  first | done | with_reducible rfl
                simp only [Act.put, List.getElem_toArray, List.getElem_cons_succ, List.getElem_cons_zero, List.setIfInBounds_toArray, List.set_cons_zero, List.set_cons_succ]
                refine wpAnyU_take (i := 3) (v := strV X) (by decide) rfl (by kernel_rfl) (by kernel_rfl) (by kernel_rfl) (fun _ _ _ h => h) (Steady.call (f := 13) (args := #[.agg (rowZ (.slice no m nc) s), .agg #[strV p.host, strV p.path, strV p.query, .bool p.has], .slice ao a.length ac]) (by kernel_rfl) (fun _ => by kernel_rfl) ?_) ?_
                · intro b W hS
                  refine (C1.out W hS).mono ?_
                  rintro e w' ⟨he, hb⟩
                  exact ⟨he, chain2 hS hS.size hb⟩
                simp only [Act.put, List.getElem_toArray, List.getElem_cons_succ, List.getElem_cons_zero, List.setIfInBounds_toArray, List.set_cons_zero, List.set_cons_succ]
                refine wpAnyU_take (i := 4) (v := .agg (rowZ (.slice no m nc) s)) (by decide) rfl (by kernel_rfl) (by kernel_rfl) (by kernel_rfl) (fun _ _ _ h => h) (Steady.plain (by kernel_rfl) ?_) ?_
                · intro b W hS
                  exact load_gives (x := .tmp 5) (by kernel_rfl) w.heap.size (by kernel_rfl) (QR.out.1.below hS) Tryd.underlying24 rfl infoSiteK
                simp only [Act.put, List.getElem_toArray, List.getElem_cons_succ, List.getElem_cons_zero, List.setIfInBounds_toArray, List.set_cons_zero, List.set_cons_succ]
                refine wpAnyU_take (i := 5) (v := .agg #[strV r.host, strV r.path, strV r.query, .bool r.has]) (by decide) rfl (by kernel_rfl) (by kernel_rfl) (by kernel_rfl) (fun _ _ _ h => h) (Steady.plain (by kernel_rfl) ?_) ?_
                · intro b W hS
                  exact load_gives (x := .tmp 7) (by kernel_rfl) (w.heap.size + 1 + 1) (by kernel_rfl) (QR.out.2.2.below hS) Tryd.underlying26 rfl infoPlaceK
                simp only [Act.put, List.getElem_toArray, List.getElem_cons_succ, List.getElem_cons_zero, List.setIfInBounds_toArray, List.set_cons_zero, List.set_cons_succ]
                refine wpAnyU_take (i := 6) (v := ?_) (by decide) rfl (by kernel_rfl) (by kernel_rfl) (by kernel_rfl) (fun _ _ _ h => h) (Steady.plain (by kernel_rfl) ?_) ?_
                rotate_left
                · intro b W hS
                  skip
                  go_simp
                  first | done | with_reducible rfl
                simp only [Act.put, List.getElem_toArray, List.getElem_cons_succ, List.getElem_cons_zero, List.setIfInBounds_toArray, List.set_cons_zero, List.set_cons_succ]
                refine wpAnyU_take (i := 7) (v := strV Y) (by decide) rfl (by kernel_rfl) (by kernel_rfl) (by kernel_rfl) (fun _ _ _ h => h) (Steady.call (f := 13) (args := #[.agg (rowZ (.slice no m nc) s), .agg #[strV r.host, strV r.path, strV r.query, .bool r.has], .slice bo b.length bc]) (by kernel_rfl) (fun _ => by kernel_rfl) ?_) ?_
                · intro b W hS
                  refine (C2.out W hS).mono ?_
                  rintro e w' ⟨he, hb⟩
                  exact ⟨he, chain2 hS hS.size hb⟩
                simp only [Act.put, List.getElem_toArray, List.getElem_cons_succ, List.getElem_cons_zero, List.setIfInBounds_toArray, List.set_cons_zero, List.set_cons_succ]
                refine wpAnyU_take (i := 8) (v := ?_) (by decide) rfl (by kernel_rfl) (by kernel_rfl) (by kernel_rfl) (fun _ _ _ h => h) (Steady.plain (by kernel_rfl) ?_) ?_
                rotate_left
                · intro b W hS
                  skip
                  go_simp
                  first | done | with_reducible rfl
                simp only [Act.put, List.getElem_toArray, List.getElem_cons_succ, List.getElem_cons_zero, List.setIfInBounds_toArray, List.set_cons_zero, List.set_cons_succ]
                refine wpAnyU_take (i := 9) (v := ?_) (by decide) rfl (by kernel_rfl) (by kernel_rfl) (by kernel_rfl) (fun _ _ _ h => h) (Steady.plain (by kernel_rfl) ?_) ?_
                rotate_left
                · intro b W hS
                  skip
                  go_simp
                  first | done | with_reducible rfl
                simp only [Act.put, List.getElem_toArray, List.getElem_cons_succ, List.getElem_cons_zero, List.setIfInBounds_toArray, List.set_cons_zero, List.set_cons_succ]
                refine wpAnyU_take (i := 10) (v := ?_) (by decide) rfl (by kernel_rfl) (by kernel_rfl) (by kernel_rfl) (fun _ _ _ h => h) (Steady.plain (by kernel_rfl) ?_) ?_
                rotate_left
                · intro b W hS
                  skip
                  go_simp
                  first | done | with_reducible rfl
                simp only [Act.put, List.getElem_toArray, List.getElem_cons_succ, List.getElem_cons_zero, List.setIfInBounds_toArray, List.set_cons_zero, List.set_cons_succ]
                refine wpAnyU_take (i := 11) (v := ?_) (by decide) rfl (by kernel_rfl) (by kernel_rfl) (by kernel_rfl) (fun _ _ _ h => h) (Steady.plain (by kernel_rfl) ?_) ?_
                rotate_left
                · intro b W hS
                  skip
                  go_simp
                  first | done | with_reducible rfl
                simp only [Act.put, List.getElem_toArray, List.getElem_cons_succ, List.getElem_cons_zero, List.setIfInBounds_toArray, List.set_cons_zero, List.set_cons_succ]
                refine wpAnyU_done (b := []) (by kernel_rfl) (by kernel_rfl) ?_ _
                intro w6 hS6
                have HB6 := hid (chain2 HBW.out HBW.out.size hS6)
                clear hS6
                go_wp2_with fail
                go_ret
                refine ⟨ret_bool ?_, HB6.out⟩
                rw [HS.out]; simp
end Go.Proofs.YtbjgbkbhalibdaaDoor
