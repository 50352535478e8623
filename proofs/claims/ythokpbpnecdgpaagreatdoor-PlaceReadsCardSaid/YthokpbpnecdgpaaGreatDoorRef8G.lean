/-
  The document's answers of layer 8: Read (no host of its own).
-/
import Derived.Test.YthokpbpnecdgpaaGreatDoorRef8F
namespace Go.Proofs.YthokpbpnecdgpaaGreatDoor
open Go.RowKit Go.Pantry

set_option maxRecDepth 100000 in
set_option maxHeartbeats 16000000 in
theorem refReadB (t : ByteArray) (h LW : List UInt8) (w : World) (ht : t.size ≤ 60000) (hh : h.length ≤ 60000) (e7 : decide ((7 : Int) ≤ (t.size : Int)) = true) (h7 : 7 ≤ t.size) (CL : Hid (∀ W, Calls Tryz.prog 14 #[.string (t.extract 0 7)] W fun e w' => e = .returned (strV LW) ∧ Below W.heap.size W w')) (hL : ¬ LW = [104, 116, 116, 112, 58, 47, 47]) (hL2 : (LW == [104, 116, 116, 112, 58, 47, 47]) = false) :
    Calls Tryz.prog 6 #[.string t, strV h] w fun e w' => e = .returned (.tuple #[placeV (placeL h t.data.toList), .bool (placeL h t.data.toList).isSome]) ∧ Below w.heap.size w w' := by
  obtain ⟨W0, hW0⟩ : ∃ W, W = w.alloc (.cells #[strV [], strV [], strV [], .bool false] 28) := ⟨_, rfl⟩
  have HB : Below w.heap.size w W0 := by rw [hW0]; exact below_alloc _ _
  have HR : rowIs W0 w.heap.size #[strV [], strV [], strV [], .bool false] 28 := by rw [hW0]; exact rowIs_new _ _ _
  obtain ⟨r, hr⟩ : ∃ r, t.data.toList = r := ⟨_, rfl⟩
  rw [hr]
  have hrl : r.length = t.size := by rw [← hr, size_list]
  obtain ⟨bl1, bl2⟩ := bef_len 63 r
  have ch := fun W => refHost_any ⟨h.toArray⟩ W (by rw [szL]; omega)
  have cc := fun W => refCut_any t W (by omega)
  have cp := fun W => refClean_any ⟨(bef 63 r).toArray⟩ W (by rw [szL]; omega)
  have cq := fun W => refClean_any ⟨(beh 63 r).toArray⟩ W (by rw [szL]; omega)
  rw [dtL] at ch cp cq
  rw [hr] at cc
  have hpl := fun P h => clean_len (bef 63 r) P h
  have hql := fun P h => clean_len (beh 63 r) P h
  cases h1 : hostL h with
  | none =>
    rw [placeL_host h1]
    rw [h1] at ch
    have CH : Hid (∀ W, Calls Tryz.prog 8 #[strV h] W fun e w' => e = .returned (.tuple #[strV [], .bool false]) ∧ Below W.heap.size W w') := hid ch
    clear ch cc cp cq hpl hql h1 bl1 bl2 hrl hr
    go_enter Tryz.func6, Tryz.ntmps6
    go_wp2_with fail
    rw [← hW0]
    clear hW0
    go_wp2_with (first
      | (go_at_call 14; with_reducible refine (CL.out _).mono ?_; rintro e w1 ⟨rfl, hb1⟩; replace HB := HB.trans (hb1.mono HB.size); replace HR := HR.below hb1)
      | (go_at_call 8; with_reducible refine (CH.out _).mono ?_; rintro e w3 ⟨rfl, hb3⟩; replace HB := HB.trans (hb3.mono HB.size); replace HR := HR.below hb3)
      | (refine wpList_store_row rfl 28 _ _ rfl w.heap.size _ rfl rfl 28 #[strV [], strV [], strV [], .bool false] HR infoPl8 rfl (onePl _ _ _ _) ?_))
    refine bodyPost_ret (results_row2 Tryz.results6 _ _ w.heap.size _ rfl (HR.setRow #[strV [], strV [], strV [], .bool false]) Tryz.underlying28 rfl infoPl8) rfl ?_
    exact ⟨rfl, below_setRow HB (Nat.le_refl _) _⟩
  | some H =>
    rw [h1] at ch
    have CH : Hid (∀ W, Calls Tryz.prog 8 #[strV h] W fun e w' => e = .returned (.tuple #[strV H, .bool true]) ∧ Below W.heap.size W w') := hid ch
    clear ch
    by_cases hnil : t.size = 0
    · have hr0 : r = [] := List.eq_nil_of_length_eq_zero (by omega)
      have hn1 : t.toList = [] := by rw [Lib.toList_data, hr, hr0]
      have hn2 : t.toList.isEmpty = true := by rw [hn1]; rfl
      have hO : placeL h r = none := placeL_no (by rw [hr0]; simp)
      rw [hO]
      clear cc cp cq hpl hql h1 bl1 bl2 hrl hr hr0 hO hnil
      go_enter Tryz.func6, Tryz.ntmps6
      go_wp2_with fail
      rw [← hW0]
      clear hW0
      go_wp2_with (first
        | (go_at_call 14; with_reducible refine (CL.out _).mono ?_; rintro e w1 ⟨rfl, hb1⟩; replace HB := HB.trans (hb1.mono HB.size); replace HR := HR.below hb1)
        | (go_at_call 8; with_reducible refine (CH.out _).mono ?_; rintro e w3 ⟨rfl, hb3⟩; replace HB := HB.trans (hb3.mono HB.size); replace HR := HR.below hb3)
        | (refine wpList_store_row rfl 28 _ _ rfl w.heap.size _ rfl rfl 28 #[strV [], strV [], strV [], .bool false] HR infoPl8 rfl (onePl _ _ _ _) ?_))
      refine bodyPost_ret (results_row2 Tryz.results6 _ _ w.heap.size _ rfl (HR.setRow #[strV [], strV [], strV [], .bool false]) Tryz.underlying28 rfl infoPl8) rfl ?_
      exact ⟨rfl, below_setRow HB (Nat.le_refl _) _⟩
    · have hpos : 0 < t.size := by omega
      have hn1 : ¬ t.toList = [] := by
        rw [Lib.toList_data, hr]; intro h; rw [h] at hrl; simp at hrl; omega
      have hn2 : t.toList.isEmpty = false := by rw [List.isEmpty_eq_false_iff]; exact hn1
      have hhd : r.head? = some t[0] := by
        rw [← hr, List.head?_eq_getElem?, List.getElem?_eq_getElem (by rw [size_list]; exact hpos), getElem_list t 0 hpos]
      clear hnil
      by_cases h47 : t[0] = 47
      · have fq : ((t[0].toNat : Int) != 47) = false := by rw [h47]; rfl
        rw [h47] at hhd
        have CC := hid cc
        clear cc h47
        obtain ⟨hs, hhs⟩ : ∃ hs, hasB 63 r = hs := ⟨_, rfl⟩
        have hpo := fun P Q h2 h3 => placeL_at (h := h) (r := r) (H := H) (P := P) (Q := Q) h1 h2 h3 hhd
        have hpp := placeL_p (h := h) (r := r)
        have hpq := placeL_q (h := h) (r := r)
        have hph := fun P h2 => clean_h47 (r := r) (P := P) h2 hhd
        rw [hhs] at CC hpo
        obtain ⟨O, hO⟩ : ∃ O, placeL h r = O := ⟨_, rfl⟩
        rw [hO] at hpo hpp hpq ⊢
        obtain ⟨p, hp⟩ : ∃ p, bef 63 r = p := ⟨_, rfl⟩
        obtain ⟨q, hq⟩ : ∃ q, beh 63 r = q := ⟨_, rfl⟩
        rw [hp] at CC cp hpo hpp bl1 hpl hph
        rw [hq] at CC cq hpo hpq bl2 hql
        clear hp hq hhs h1 hO hr hhd
        cases h2 : cleanL p with
        | none =>
          have hn := hpp h2
          subst hn
          rw [h2] at cp
          have CP : Hid (∀ W, Calls Tryz.prog 17 #[strV p] W fun e w' => e = .returned (.tuple #[strV [], .bool false]) ∧ Below W.heap.size W w') := hid cp
          clear cp cq hpo hpp hpq hpl hql h2 hph bl1 bl2 hrl
          go_enter Tryz.func6, Tryz.ntmps6
          go_wp2_with fail
          rw [← hW0]
          clear hW0
          go_wp2_with (first
            | (go_at_call 14; with_reducible refine (CL.out _).mono ?_; rintro e w1 ⟨rfl, hb1⟩; replace HB := HB.trans (hb1.mono HB.size); replace HR := HR.below hb1)
            | (go_at_call 8; with_reducible refine (CH.out _).mono ?_; rintro e w3 ⟨rfl, hb3⟩; replace HB := HB.trans (hb3.mono HB.size); replace HR := HR.below hb3)
            | (go_at_call 16; with_reducible refine (CC.out _).mono ?_; rintro e w4 ⟨rfl, hb4⟩; replace HB := HB.trans (hb4.mono HB.size); replace HR := HR.below hb4)
            | (go_at_call_of 17 (strV p); with_reducible refine (CP.out _).mono ?_; rintro e w5 ⟨rfl, hb5⟩; replace HB := HB.trans (hb5.mono HB.size); replace HR := HR.below hb5)
            | (refine wpList_store_row rfl 28 _ _ rfl w.heap.size _ rfl rfl 28 #[strV [], strV [], strV [], .bool false] HR infoPl8 rfl (onePl _ _ _ _) ?_))
          refine bodyPost_ret (results_row2 Tryz.results6 _ _ w.heap.size _ rfl (HR.setRow #[strV [], strV [], strV [], .bool false]) Tryz.underlying28 rfl infoPl8) rfl ?_
          exact ⟨rfl, below_setRow HB (Nat.le_refl _) _⟩
        | some P =>
          have hPl := hpl P h2
          have hPh := hph P h2
          rw [h2] at cp
          have CP : Hid (∀ W, Calls Tryz.prog 17 #[strV p] W fun e w' => e = .returned (.tuple #[strV P, .bool true]) ∧ Below W.heap.size W w') := hid cp
          clear cp hpp hpl hph
          cases h3 : cleanL q with
          | none =>
            have hn := hpq h3
            subst hn
            rw [h3] at cq
            have CQ : Hid (∀ W, Calls Tryz.prog 17 #[strV q] W fun e w' => e = .returned (.tuple #[strV [], .bool false]) ∧ Below W.heap.size W w') := hid cq
            clear cq hpo hpq hql h2 h3 bl1 bl2 hrl
            go_enter Tryz.func6, Tryz.ntmps6
            go_wp2_with fail
            rw [← hW0]
            clear hW0
            go_wp2_with (first
              | (go_at_call 14; with_reducible refine (CL.out _).mono ?_; rintro e w1 ⟨rfl, hb1⟩; replace HB := HB.trans (hb1.mono HB.size); replace HR := HR.below hb1)
              | (go_at_call 8; with_reducible refine (CH.out _).mono ?_; rintro e w3 ⟨rfl, hb3⟩; replace HB := HB.trans (hb3.mono HB.size); replace HR := HR.below hb3)
              | (go_at_call 16; with_reducible refine (CC.out _).mono ?_; rintro e w4 ⟨rfl, hb4⟩; replace HB := HB.trans (hb4.mono HB.size); replace HR := HR.below hb4)
              | (go_at_call_of 17 (strV p); with_reducible refine (CP.out _).mono ?_; rintro e w5 ⟨rfl, hb5⟩; replace HB := HB.trans (hb5.mono HB.size); replace HR := HR.below hb5)
              | (go_at_call_of 17 (strV q); with_reducible refine (CQ.out _).mono ?_; rintro e w6 ⟨rfl, hb6⟩; replace HB := HB.trans (hb6.mono HB.size); replace HR := HR.below hb6)
              | (refine wpList_store_row rfl 28 _ _ rfl w.heap.size _ rfl rfl 28 #[strV [], strV [], strV [], .bool false] HR infoPl8 rfl (onePl _ _ _ _) ?_))
            refine bodyPost_ret (results_row2 Tryz.results6 _ _ w.heap.size _ rfl (HR.setRow #[strV [], strV [], strV [], .bool false]) Tryz.underlying28 rfl infoPl8) rfl ?_
            exact ⟨rfl, below_setRow HB (Nat.le_refl _) _⟩
          | some Q =>
            have hQl := hql Q h3
            have hOv := hpo P Q h2 h3
            rw [h3] at cq
            have CQ : Hid (∀ W, Calls Tryz.prog 17 #[strV q] W fun e w' => e = .returned (.tuple #[strV Q, .bool true]) ∧ Below W.heap.size W w') := hid cq
            have hP1 : 1 ≤ P.length := by
              cases P with
              | nil => cases hPh
              | cons a P => simp
            have ct := fun W => refPath_any ⟨P.toArray⟩ W (by rw [szL]; omega) (by rw [szL]; omega)
            rw [dtL] at ct
            obtain ⟨PP, hPP⟩ : ∃ PP, pathL P = PP := ⟨_, rfl⟩
            rw [hPP] at ct hOv
            have CT : Hid (∀ W, Calls Tryz.prog 18 #[strV P] W fun e w' => e = .returned (strV PP) ∧ Below W.heap.size W w') := hid ct
            clear cq ct hpo hpq hql h2 h3 hPP hP1 hPh hPl hQl bl1 bl2 hrl
            by_cases hbig : PP.length ≤ 512 ∧ Q.length ≤ 512
            · have g1 : decide ((512 : Int) < (PP.length : Int)) = false := by rw [decide_eq_false_iff_not]; omega
              have g2 : decide ((512 : Int) < (Q.length : Int)) = false := by rw [decide_eq_false_iff_not]; omega
              rw [if_pos hbig] at hOv
              subst hOv
              clear hbig
              go_enter Tryz.func6, Tryz.ntmps6
              go_wp2_with fail
              rw [← hW0]
              clear hW0
              go_wp2_with (first
                | (go_at_call 14; with_reducible refine (CL.out _).mono ?_; rintro e w1 ⟨rfl, hb1⟩; replace HB := HB.trans (hb1.mono HB.size); replace HR := HR.below hb1)
                | (go_at_call 8; with_reducible refine (CH.out _).mono ?_; rintro e w3 ⟨rfl, hb3⟩; replace HB := HB.trans (hb3.mono HB.size); replace HR := HR.below hb3)
                | (go_at_call 16; with_reducible refine (CC.out _).mono ?_; rintro e w4 ⟨rfl, hb4⟩; replace HB := HB.trans (hb4.mono HB.size); replace HR := HR.below hb4)
                | (go_at_call_of 17 (strV p); with_reducible refine (CP.out _).mono ?_; rintro e w5 ⟨rfl, hb5⟩; replace HB := HB.trans (hb5.mono HB.size); replace HR := HR.below hb5)
                | (go_at_call_of 17 (strV q); with_reducible refine (CQ.out _).mono ?_; rintro e w6 ⟨rfl, hb6⟩; replace HB := HB.trans (hb6.mono HB.size); replace HR := HR.below hb6)
                | (go_at_call 18; with_reducible refine (CT.out _).mono ?_; rintro e w7 ⟨rfl, hb7⟩; replace HB := HB.trans (hb7.mono HB.size); replace HR := HR.below hb7)
                | (refine wpList_store_row rfl 28 _ _ rfl w.heap.size _ rfl rfl 28 #[strV [], strV [], strV [], .bool false] HR infoPl8 rfl (onePl _ _ _ _) ?_))
              refine bodyPost_ret (results_row2 Tryz.results6 _ _ w.heap.size _ rfl (HR.setRow #[strV H, strV PP, strV Q, .bool hs]) Tryz.underlying28 rfl infoPl8) rfl ?_
              exact ⟨rfl, below_setRow HB (Nat.le_refl _) _⟩
            · rw [if_neg hbig] at hOv
              subst hOv
              have hw : decide ((512 : Int) < (PP.length : Int)) = true ∨ (decide ((512 : Int) < (PP.length : Int)) = false ∧ decide ((512 : Int) < (Q.length : Int)) = true) := by
                simp only [decide_eq_true_eq, decide_eq_false_iff_not]; omega
              clear hbig
              rcases hw with g1 | ⟨g1, g2⟩
              all_goals
                go_enter Tryz.func6, Tryz.ntmps6
                go_wp2_with fail
                rw [← hW0]
                clear hW0
                go_wp2_with (first
                  | (go_at_call 14; with_reducible refine (CL.out _).mono ?_; rintro e w1 ⟨rfl, hb1⟩; replace HB := HB.trans (hb1.mono HB.size); replace HR := HR.below hb1)
                  | (go_at_call 8; with_reducible refine (CH.out _).mono ?_; rintro e w3 ⟨rfl, hb3⟩; replace HB := HB.trans (hb3.mono HB.size); replace HR := HR.below hb3)
                  | (go_at_call 16; with_reducible refine (CC.out _).mono ?_; rintro e w4 ⟨rfl, hb4⟩; replace HB := HB.trans (hb4.mono HB.size); replace HR := HR.below hb4)
                  | (go_at_call_of 17 (strV p); with_reducible refine (CP.out _).mono ?_; rintro e w5 ⟨rfl, hb5⟩; replace HB := HB.trans (hb5.mono HB.size); replace HR := HR.below hb5)
                  | (go_at_call_of 17 (strV q); with_reducible refine (CQ.out _).mono ?_; rintro e w6 ⟨rfl, hb6⟩; replace HB := HB.trans (hb6.mono HB.size); replace HR := HR.below hb6)
                  | (go_at_call 18; with_reducible refine (CT.out _).mono ?_; rintro e w7 ⟨rfl, hb7⟩; replace HB := HB.trans (hb7.mono HB.size); replace HR := HR.below hb7)
                  | (refine wpList_store_row rfl 28 _ _ rfl w.heap.size _ rfl rfl 28 #[strV [], strV [], strV [], .bool false] HR infoPl8 rfl (onePl _ _ _ _) ?_))
                refine bodyPost_ret (results_row2 Tryz.results6 _ _ w.heap.size _ rfl (HR.setRow #[strV [], strV [], strV [], .bool false]) Tryz.underlying28 rfl infoPl8) rfl ?_
                exact ⟨rfl, below_setRow HB (Nat.le_refl _) _⟩
      · have fq : ((t[0].toNat : Int) != 47) = true := by
          rw [bne_iff_ne]; intro h; apply h47; rw [← UInt8.toNat_inj]; show t[0].toNat = 47; omega
        have hO : placeL h r = none := placeL_no (by rw [hhd]; simpa using h47)
        rw [hO]
        clear cc cp cq hpl hql h1 bl1 bl2 hrl hr hO h47 hhd
        go_enter Tryz.func6, Tryz.ntmps6
        go_wp2_with fail
        rw [← hW0]
        clear hW0
        go_wp2_with (first
          | (go_at_call 14; with_reducible refine (CL.out _).mono ?_; rintro e w1 ⟨rfl, hb1⟩; replace HB := HB.trans (hb1.mono HB.size); replace HR := HR.below hb1)
          | (go_at_call 8; with_reducible refine (CH.out _).mono ?_; rintro e w3 ⟨rfl, hb3⟩; replace HB := HB.trans (hb3.mono HB.size); replace HR := HR.below hb3)
          | (refine wpList_store_row rfl 28 _ _ rfl w.heap.size _ rfl rfl 28 #[strV [], strV [], strV [], .bool false] HR infoPl8 rfl (onePl _ _ _ _) ?_))
        refine bodyPost_ret (results_row2 Tryz.results6 _ _ w.heap.size _ rfl (HR.setRow #[strV [], strV [], strV [], .bool false]) Tryz.underlying28 rfl infoPl8) rfl ?_
        exact ⟨rfl, below_setRow HB (Nat.le_refl _) _⟩
end Go.Proofs.YthokpbpnecdgpaaGreatDoor
