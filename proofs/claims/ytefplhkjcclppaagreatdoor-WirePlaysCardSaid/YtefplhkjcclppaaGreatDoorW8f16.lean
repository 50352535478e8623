/-
  Several texts in one: Ref6A, Ref6B.
-/
import Derived.Test.YtefplhkjcclppaaGreatDoorPureAll2
import Derived.Test.YtefplhkjcclppaaGreatDoorW8f04
import Derived.Test.YtefplhkjcclppaaGreatDoorW8fRefSignN
import Derived.Test.YtefplhkjcclppaaGreatDoorW8f03
/-
  The document's answers of layer 6: the frame of fields.
-/
namespace Go.Proofs.YtefplhkjcclppaaGreatDoor
open Go.RowKit Go.Pantry

theorem infoFr6 : (Tryz.prog.info? 72).map (·.size) = some 2 := by kernel_rfl
theorem oneF6 (a b : Int) : (#[.int .i64 a, .int .i64 b] : Array Value).all (·.oneCell') = true := by simp [Value.oneCell']
set_option maxRecDepth 100000 in
set_option maxHeartbeats 32000000 in
theorem refOf_any (m t : List UInt8) (st z : Int) (other : Nat) (v : Value) (L : List Fld) (w : World) (hr : Reads2 w v L) (hkn : L.length ≤ 1000) (hks : ∀ f ∈ L, f.1.length ≤ 100000 ∧ f.2.length ≤ 100000) :
    Calls Tryz.prog 44 #[.agg #[strV m, strV t, .int .i64 st, .int .i64 z, v], .int .i64 (other : Int)] w fun e w' => FrameIs (frameX z other L) e ∧ Below w.heap.size w w' := by
  obtain ⟨ao, cap, rfl⟩ := hr.form
  obtain ⟨W, hW⟩ : ∃ W, W = (w.alloc (.cells #[strV m, strV t, .int .i64 st, .int .i64 z, .slice ao L.length cap] 47)).alloc (.cells #[.int .i64 0, .int .i64 0] 72) := ⟨_, rfl⟩
  have hb0 : Below w.heap.size w W := by rw [hW]; exact (below_alloc _ _).alloc (by simp) _
  have hg0 : rowIs W w.heap.size #[strV m, strV t, .int .i64 st, .int .i64 z, .slice ao L.length cap] 47 := by rw [hW]; exact (rowIs_new _ _ _).below (below_alloc _ _)
  have hr0 : rowIs W (w.heap.size + 1) #[.int .i64 0, .int .i64 0] 72 := by rw [hW]; exact rowIs_new_at _ _ _ _ (by simp)
  have e4 := hg0.cell 4
  rw [hW] at e4
  have hL : ∀ f ∈ L, f.1.length < 4294967296 := fun f hf => Nat.lt_of_le_of_lt (hks f hf).1 (by decide)
  have hV : ∀ f ∈ L, f.2.length ≤ 100000 := fun f hf => (hks f hf).2
  have c1 := fun W h => refGet_any (.slice ao L.length cap) L ⟨clL.toArray⟩ W h hL hV hkn (by decide)
  have c2 := fun W h => refGet_any (.slice ao L.length cap) L ⟨teL.toArray⟩ W h hL hV hkn (by decide)
  have c3 := fun W h => refElements_any (.slice ao L.length cap) L ⟨teL.toArray⟩ W h hL hV hkn (by decide)
  have c4 := fun W h => refElements_any (.slice ao L.length cap) L ⟨clL.toArray⟩ W h hL hV hkn (by decide)
  rw [dtL] at c1 c2 c3 c4
  rw [all_cl] at c1
  rw [all_te] at c2
  rw [els_te] at c3
  rw [els_cl] at c4
  have sz1 := elementsF_size (n := teN) hV hkn
  have sz2 := elementsF_size (n := clN) hV hkn
  have hx : frameX z other L = if (allF L teN).isEmpty then (if (allF L clN).isEmpty then .ok (other, 0) else cntX (elementsF L clN)) else if !(allF L clN).isEmpty || !justX (elementsF L teN) || z == 0 then .error 24 else .ok (2, 0) := rfl
  generalize frameX z other L = x at hx ⊢
  have hA : (allF L clN).isEmpty = ((allF L clN).length == 0) := by cases allF L clN <;> rfl
  have hB : (allF L teN).isEmpty = ((allF L teN).length == 0) := by cases allF L teN <;> rfl
  rw [hA, hB] at hx
  generalize (allF L clN).length = nA at c1 hx
  generalize (allF L teN).length = nB at c2 hx
  generalize getF L clL = s1 at c1
  generalize getF L teL = s2 at c2
  generalize elementsF L teN = E1 at c3 hx sz1
  generalize elementsF L clN = E2 at c4 hx sz2
  unfold clL at c1 c4
  unfold teL at c2 c3
  have c5 := fun (a : List UInt8) W (h : a.length ≤ 100002000) => refLower_any ⟨a.toArray⟩ W (by rw [szL]; omega)
  have c6 := fun (a : List UInt8) W (h : a.length ≤ 100002000) => refNumber_any ⟨a.toArray⟩ W (by rw [szL]; omega)
  simp only at c5 c6
  have C1 := hid c1
  have C2 := hid c2
  have C3 := hid c3
  have C4 := hid c4
  have C5 := hid c5
  have C6 := hid c6
  have HR := hid hr
  have HX := hid hx
  have S1 := hid sz1
  have S2 := hid sz2
  clear c1 c2 c3 c4 c5 c6 hr hx sz1 sz2 hks hL hV hkn hA hB
  by_cases hnB : nB = 0
  · have b1 : ¬ (0 : Int) < (nB : Int) := by omega
    by_cases hnA : nA = 0
    · have hx : x = .ok (other, 0) := by rw [HX.out, hnA, hnB]; rfl
      subst hx
      have a1 : ((nA : Int) == 0) = true := by simp; exact hnA
      clear hnA hnB
      go_enter Tryz.func44, Tryz.ntmps44
      go_wp2_with fail
      rw [← hW]
      clear hW e4
      refine (C1.out _ (HR.out.below hb0)).mono ?_
      rintro e w1 ⟨rfl, hb1⟩
      have hg1 := hg0.below hb1
      have hr1 := hr0.below hb1
      have hbA := chain2 hb0 hb0.size hb1
      have e4 := hg1.cell 4
      clear hg0 hr0 hb0 hb1 C1
      go_wp2_with fail
      refine (C2.out _ (HR.out.below hbA)).mono ?_
      rintro e w2 ⟨rfl, hb2⟩
      have hg2 := hg1.below hb2
      have hr2 := hr1.below hb2
      have hbB := chain2 hbA hbA.size hb2
      have e3' := hg2.cell 3
      have e4' := hg2.cell 4
      clear hg1 hr1 hbA hb2 C2 e4
      go_wp2_with (refine wpList_store_row rfl 72 _ _ rfl (w.heap.size + 1) _ rfl rfl 72 #[.int .i64 0, .int .i64 0] hr2 infoFr6 rfl (oneF6 (other : Int) 0) ?_)
      refine bodyPost_ret (results_row2 Tryz.results44 _ _ (w.heap.size + 1) _ rfl (hr2.setRow _) Tryz.underlying72 rfl infoFr6) rfl ?_
      exact ⟨rfl, below_setRow hbB (Nat.le_succ _) _⟩
    · have hx : x = cntX E2 := by rw [HX.out, hnB]; simp [hnA]
      have a1 : ((nA : Int) == 0) = false := beq_eq_false_iff_ne.2 (by omega)
      clear HX
      clear hnA hnB C3 C5
      go_enter Tryz.func44, Tryz.ntmps44
      go_wp2_with fail
      rw [← hW]
      clear hW e4
      refine (C1.out _ (HR.out.below hb0)).mono ?_
      rintro e w1 ⟨rfl, hb1⟩
      have hg1 := hg0.below hb1
      have hr1 := hr0.below hb1
      have hbA := chain2 hb0 hb0.size hb1
      have e4 := hg1.cell 4
      clear hg0 hr0 hb0 hb1 C1
      go_wp2_with fail
      refine (C2.out _ (HR.out.below hbA)).mono ?_
      rintro e w2 ⟨rfl, hb2⟩
      have hg2 := hg1.below hb2
      have hr2 := hr1.below hb2
      have hbB := chain2 hbA hbA.size hb2
      have e3' := hg2.cell 3
      have e4' := hg2.cell 4
      clear hg1 hr1 hbA hb2 C2 e4
      go_wp2_with fail
      refine (C4.out _ (HR.out.below hbB)).mono ?_
      rintro e w3 ⟨⟨v3, rfl, ho3⟩, hb3⟩
      have hr3 := hr2.below hb3
      have hg3 := hg2.below hb3
      have hbC := chain2 hbB hbB.size hb3
      have e3'' := hg3.cell 3
      obtain ⟨ao3, cp3, rfl⟩ := Reads.strs ho3.reads
      have hrd := ho3.reads
      clear ho3 e3'' e3' e4' hg2 hg3 hr2 hbB hb3 C4
      by_cases hE0 : E2 = []
      · subst hE0
        have hx2 : x = .error 24 := hx
        subst hx2
        go_wp2_with (refine wpList_store_row rfl 72 _ _ rfl (w.heap.size + 1) _ rfl rfl 72 #[.int .i64 0, .int .i64 0] hr3 infoFr6 rfl (oneF6 0 0) ?_)
        refine bodyPost_ret (results_row2 Tryz.results44 _ _ (w.heap.size + 1) _ rfl (hr3.setRow _) Tryz.underlying72 rfl infoFr6) rfl ?_
        exact ⟨rfl, below_setRow hbC (Nat.le_succ _) _⟩
      · obtain ⟨a, r, hE⟩ : ∃ a r, E2 = a :: r := List.exists_cons_of_ne_nil hE0
        clear hE0
        have hlen : (E2.length : Int) ≠ 0 := by rw [hE]; simp; omega
        have hne0 : ((E2.length : Int) == 0) = false := by simpa using hlen
        have hp1 : 0 < E2.length := by omega
        have hp2 : (0 : Int) < (E2.length : Int) := by omega
        have hp3 : ¬ E2 = [] := by rw [hE]; simp
        have hx2 : x = if E2.all (goodN ((numberL a).getD 0)) then (if 2048 < (numberL a).getD 0 then .error 23 else .ok (1, (numberL a).getD 0)) else .error 24 := by rw [hx, hE]; rfl
        have hal := S2.out.2 a (by rw [hE]; simp)
        obtain ⟨b, off, cap', hv, hcell⟩ := hrd.at_some (by rw [List.length_map]; omega)
        have hce := hcell 0 (strV a) (by rw [hE]; rfl)
        rw [Nat.add_zero] at hce
        rw [List.length_map] at hv
        cases hv
        have c2 := C6.out a w3 hal
        obtain ⟨F, hF⟩ : ∃ F, (numberL a).getD 0 = F := ⟨_, rfl⟩
        rw [hF] at hx2 c2
        have HX := hid hx2
        have D2 := hid c2
        have HC := hid hcell
        clear c2 hx hx2 hcell hal hE hF hlen hrd
        go_wp2_with fail
        refine D2.out.mono ?_
        rintro e w4 ⟨rfl, rfl⟩
        clear D2 hce
        go_wp2_with fail
        go_loopw [14] (fun i wr => ∃ k : Nat, k ≤ E2.length ∧ i = .int .i64 (k : Int) ∧ (E2.take k).all (goodN F) = true ∧ w3 = wr) (fun i _ => E2.length - (intOf i).toNat)
        case atStart => exact ⟨0, Nat.zero_le _, rfl, rfl, rfl⟩
        case round =>
          obtain ⟨k, hk, rfl, hall, rfl⟩ := hrel
          have HA := hid hall
          have hEl := S2.out.1
          clear hall
          by_cases hlt : k < E2.length
          · obtain ⟨y, hy⟩ : ∃ y, E2[k]? = some y := ⟨_, List.getElem?_eq_getElem hlt⟩
            have hcx := HC.out k (strV y) (by rw [List.getElem?_map, hy]; rfl)
            have hmem := List.mem_of_getElem? hy
            have c3 := C6.out y w3 (S2.out.2 y hmem)
            have ht := all_take (f := F) hy
            have hgd : goodN F y = ((numberL y).isSome && (numberL y).getD 0 == F) := rfl
            have HM := hid hmem
            have HT := hid ht
            clear hy hmem ht
            cases hnx : numberL y with
            | none =>
              rw [hnx] at c3 hgd
              simp only [Option.isSome_none, Option.getD_none, Bool.false_and] at c3 hgd
              have hXe : x = .error 24 := by rw [HX.out, all_not HM.out hgd]; rfl
              have D3 := hid c3
              subst hXe
              clear c3 hnx hgd
              go_wp2_with fail
              refine D3.out.mono ?_
              rintro e w5 ⟨rfl, rfl⟩
              go_wp2_with (refine wpList_store_row rfl 72 _ _ rfl (w.heap.size + 1) _ rfl rfl 72 #[.int .i64 0, .int .i64 0] hr3 infoFr6 rfl (oneF6 0 0) ?_)
              refine bodyPost_ret (results_row2 Tryz.results44 _ _ (w.heap.size + 1) _ rfl (hr3.setRow _) Tryz.underlying72 rfl infoFr6) rfl ?_
              exact ⟨rfl, below_setRow hbC (Nat.le_succ _) _⟩
            | some mm =>
              rw [hnx] at c3 hgd
              simp only [Option.isSome_some, Option.getD_some, Bool.true_and] at c3 hgd
              have D3 := hid c3
              by_cases hmF : mm = F
              · have hg1 : goodN F y = true := by rw [hgd, hmF]; simp
                have z1 : ((mm : Int) == (F : Int)) = true := by simp; omega
                have z2 : ((mm : Int) != (F : Int)) = false := by simp; omega
                have hal2 : (E2.take (k + 1)).all (goodN F) = true := by rw [HT.out, HA.out, hg1]; rfl
                have HA2 := hid hal2
                clear c3 hnx hgd hg1 hal2 hmF
                go_wp2_with fail
                refine D3.out.mono ?_
                rintro e w5 ⟨rfl, rfl⟩
                go_wp2_with fail
                go_roundw
                case rel => exact ⟨k + 1, hlt, by go_num, HA2.out, by trivial⟩
                case measure => simp [intOf]; omega
              · have hg1 : goodN F y = false := by rw [hgd]; simpa using hmF
                have z1 : ((mm : Int) == (F : Int)) = false := beq_eq_false_iff_ne.2 (by omega)
                have z2 : ((mm : Int) != (F : Int)) = true := by rw [bne, z1]; rfl
                have hXe : x = .error 24 := by rw [HX.out, all_not HM.out hg1]; rfl
                subst hXe
                clear c3 hnx hgd hg1 hmF
                go_wp2_with fail
                refine D3.out.mono ?_
                rintro e w5 ⟨rfl, rfl⟩
                go_wp2_with (refine wpList_store_row rfl 72 _ _ rfl (w.heap.size + 1) _ rfl rfl 72 #[.int .i64 0, .int .i64 0] hr3 infoFr6 rfl (oneF6 0 0) ?_)
                refine bodyPost_ret (results_row2 Tryz.results44 _ _ (w.heap.size + 1) _ rfl (hr3.setRow _) Tryz.underlying72 rfl infoFr6) rfl ?_
                exact ⟨rfl, below_setRow hbC (Nat.le_succ _) _⟩
          · have hall := HA.out
            rw [List.take_of_length_le (by omega)] at hall
            have hx2 := HX.out
            rw [hall, if_pos rfl] at hx2
            clear hall
            by_cases h2048 : (2048 : Int) < (F : Int)
            · rw [if_pos (by omega)] at hx2
              subst hx2
              clear HX
              go_wp2_with (refine wpList_store_row rfl 72 _ _ rfl (w.heap.size + 1) _ rfl rfl 72 #[.int .i64 0, .int .i64 0] hr3 infoFr6 rfl (oneF6 0 0) ?_)
              refine bodyPost_ret (results_row2 Tryz.results44 _ _ (w.heap.size + 1) _ rfl (hr3.setRow _) Tryz.underlying72 rfl infoFr6) rfl ?_
              exact ⟨rfl, below_setRow hbC (Nat.le_succ _) _⟩
            · rw [if_neg (by omega)] at hx2
              subst hx2
              clear HX
              go_wp2_with (refine wpList_store_row rfl 72 _ _ rfl (w.heap.size + 1) _ rfl rfl 72 #[.int .i64 0, .int .i64 0] hr3 infoFr6 rfl (oneF6 1 (F : Int)) ?_)
              refine bodyPost_ret (results_row2 Tryz.results44 _ _ (w.heap.size + 1) _ rfl (hr3.setRow _) Tryz.underlying72 rfl infoFr6) rfl ?_
              exact ⟨rfl, below_setRow hbC (Nat.le_succ _) _⟩
  · have b1 : (0 : Int) < (nB : Int) := by omega
    by_cases hnA : nA = 0
    · have a2 : ¬ (0 : Int) < (nA : Int) := by omega
      by_cases hz : z = 0
      · have hx : x = .error 24 := by rw [HX.out, if_neg (by simpa using hnB), hz]; simp
        subst hx
        have z1 : (z == 0) = true := by simpa using hz
        clear hz hnA hnB HX
        go_enter Tryz.func44, Tryz.ntmps44
        go_wp2_with fail
        rw [← hW]
        clear hW e4
        refine (C1.out _ (HR.out.below hb0)).mono ?_
        rintro e w1 ⟨rfl, hb1⟩
        have hg1 := hg0.below hb1
        have hr1 := hr0.below hb1
        have hbA := chain2 hb0 hb0.size hb1
        have e4 := hg1.cell 4
        clear hg0 hr0 hb0 hb1 C1
        go_wp2_with fail
        refine (C2.out _ (HR.out.below hbA)).mono ?_
        rintro e w2 ⟨rfl, hb2⟩
        have hg2 := hg1.below hb2
        have hr2 := hr1.below hb2
        have hbB := chain2 hbA hbA.size hb2
        have e3' := hg2.cell 3
        have e4' := hg2.cell 4
        clear hg1 hr1 hbA hb2 C2 e4
        go_wp2_with fail
        refine (C3.out _ (HR.out.below hbB)).mono ?_
        rintro e w3 ⟨⟨v3, rfl, ho3⟩, hb3⟩
        have hr3 := hr2.below hb3
        have hg3 := hg2.below hb3
        have hbC := chain2 hbB hbB.size hb3
        have e3'' := hg3.cell 3
        obtain ⟨ao3, cp3, rfl⟩ := Reads.strs ho3.reads
        go_wp2_with (refine wpList_store_row rfl 72 _ _ rfl (w.heap.size + 1) _ rfl rfl 72 #[.int .i64 0, .int .i64 0] hr3 infoFr6 rfl (oneF6 0 0) ?_)
        refine bodyPost_ret (results_row2 Tryz.results44 _ _ (w.heap.size + 1) _ rfl (hr3.setRow _) Tryz.underlying72 rfl infoFr6) rfl ?_
        exact ⟨rfl, below_setRow hbC (Nat.le_succ _) _⟩
      · have z1 : (z == 0) = false := by simpa using hz
        have hx : x = if justX E1 then .ok (2, 0) else .error 24 := by
          rw [HX.out, if_neg (by simpa using hnB), hnA, z1]
          cases justX E1 <;> rfl
        have HX2 := hid hx
        clear hz hnA hnB HX hx
        match E1, C3, S1, HX2 with
        | [], C3, S1, HX2 =>
          have hx : x = .error 24 := HX2.out
          subst hx
          go_enter Tryz.func44, Tryz.ntmps44
          go_wp2_with fail
          rw [← hW]
          clear hW e4
          refine (C1.out _ (HR.out.below hb0)).mono ?_
          rintro e w1 ⟨rfl, hb1⟩
          have hg1 := hg0.below hb1
          have hr1 := hr0.below hb1
          have hbA := chain2 hb0 hb0.size hb1
          have e4 := hg1.cell 4
          clear hg0 hr0 hb0 hb1 C1
          go_wp2_with fail
          refine (C2.out _ (HR.out.below hbA)).mono ?_
          rintro e w2 ⟨rfl, hb2⟩
          have hg2 := hg1.below hb2
          have hr2 := hr1.below hb2
          have hbB := chain2 hbA hbA.size hb2
          have e3' := hg2.cell 3
          have e4' := hg2.cell 4
          clear hg1 hr1 hbA hb2 C2 e4
          go_wp2_with fail
          refine (C3.out _ (HR.out.below hbB)).mono ?_
          rintro e w3 ⟨⟨v3, rfl, ho3⟩, hb3⟩
          have hr3 := hr2.below hb3
          have hg3 := hg2.below hb3
          have hbC := chain2 hbB hbB.size hb3
          have e3'' := hg3.cell 3
          obtain ⟨ao3, cp3, rfl⟩ := Reads.strs ho3.reads
          go_wp2_with (refine wpList_store_row rfl 72 _ _ rfl (w.heap.size + 1) _ rfl rfl 72 #[.int .i64 0, .int .i64 0] hr3 infoFr6 rfl (oneF6 0 0) ?_)
          refine bodyPost_ret (results_row2 Tryz.results44 _ _ (w.heap.size + 1) _ rfl (hr3.setRow _) Tryz.underlying72 rfl infoFr6) rfl ?_
          exact ⟨rfl, below_setRow hbC (Nat.le_succ _) _⟩
        | a :: b :: r, C3, S1, HX2 =>
          have hx : x = .error 24 := HX2.out
          subst hx
          have hn : ((((a :: b :: r).length : Nat) : Int) == 1) = false := by simp; omega
          have hn2 : ((((a :: b :: r).length : Nat) : Int) != 1) = true := by rw [bne, hn]; rfl
          generalize a :: b :: r = E at *
          go_enter Tryz.func44, Tryz.ntmps44
          go_wp2_with fail
          rw [← hW]
          clear hW e4
          refine (C1.out _ (HR.out.below hb0)).mono ?_
          rintro e w1 ⟨rfl, hb1⟩
          have hg1 := hg0.below hb1
          have hr1 := hr0.below hb1
          have hbA := chain2 hb0 hb0.size hb1
          have e4 := hg1.cell 4
          clear hg0 hr0 hb0 hb1 C1
          go_wp2_with fail
          refine (C2.out _ (HR.out.below hbA)).mono ?_
          rintro e w2 ⟨rfl, hb2⟩
          have hg2 := hg1.below hb2
          have hr2 := hr1.below hb2
          have hbB := chain2 hbA hbA.size hb2
          have e3' := hg2.cell 3
          have e4' := hg2.cell 4
          clear hg1 hr1 hbA hb2 C2 e4
          go_wp2_with fail
          refine (C3.out _ (HR.out.below hbB)).mono ?_
          rintro e w3 ⟨⟨v3, rfl, ho3⟩, hb3⟩
          have hr3 := hr2.below hb3
          have hg3 := hg2.below hb3
          have hbC := chain2 hbB hbB.size hb3
          have e3'' := hg3.cell 3
          obtain ⟨ao3, cp3, rfl⟩ := Reads.strs ho3.reads
          go_wp2_with (refine wpList_store_row rfl 72 _ _ rfl (w.heap.size + 1) _ rfl rfl 72 #[.int .i64 0, .int .i64 0] hr3 infoFr6 rfl (oneF6 0 0) ?_)
          refine bodyPost_ret (results_row2 Tryz.results44 _ _ (w.heap.size + 1) _ rfl (hr3.setRow _) Tryz.underlying72 rfl infoFr6) rfl ?_
          exact ⟨rfl, below_setRow hbC (Nat.le_succ _) _⟩
        | [a], C3, S1, HX2 =>
          have hal := S1.out.2 a (by simp)
          have hx0 : x = if lowerL a == chW then .ok (2, 0) else .error 24 := HX2.out
          have D5 := hid (fun W => C5.out a W hal)
          cases hq : (lowerL a == chW) with
          | true =>
            rw [hq] at hx0
            have hx : x = .ok (2, 0) := hx0
            subst hx
            unfold chW at hq
            have hq2 : (lowerL a != [99, 104, 117, 110, 107, 101, 100]) = false := by rw [bne, hq]; rfl
            clear hx0 HX2
            go_enter Tryz.func44, Tryz.ntmps44
            go_wp2_with fail
            rw [← hW]
            clear hW e4
            refine (C1.out _ (HR.out.below hb0)).mono ?_
            rintro e w1 ⟨rfl, hb1⟩
            have hg1 := hg0.below hb1
            have hr1 := hr0.below hb1
            have hbA := chain2 hb0 hb0.size hb1
            have e4 := hg1.cell 4
            clear hg0 hr0 hb0 hb1 C1
            go_wp2_with fail
            refine (C2.out _ (HR.out.below hbA)).mono ?_
            rintro e w2 ⟨rfl, hb2⟩
            have hg2 := hg1.below hb2
            have hr2 := hr1.below hb2
            have hbB := chain2 hbA hbA.size hb2
            have e3' := hg2.cell 3
            have e4' := hg2.cell 4
            clear hg1 hr1 hbA hb2 C2 e4
            go_wp2_with fail
            refine (C3.out _ (HR.out.below hbB)).mono ?_
            rintro e w3 ⟨⟨v3, rfl, ho3⟩, hb3⟩
            have hr3 := hr2.below hb3
            have hg3 := hg2.below hb3
            have hbC := chain2 hbB hbB.size hb3
            have e3'' := hg3.cell 3
            obtain ⟨b, off, cap', rfl, hcell⟩ := ho3.reads.at_some (by simp)
            have hce := hcell 0 (strV a) rfl
            rw [Nat.add_zero] at hce
            clear ho3
            go_wp2_with fail
            refine (D5.out _).mono ?_
            rintro e w4 ⟨rfl, hb4⟩
            have hr4 := hr3.below hb4
            have hbD := chain2 hbC hbC.size hb4
            go_wp2_with (refine wpList_store_row rfl 72 _ _ rfl (w.heap.size + 1) _ rfl rfl 72 #[.int .i64 0, .int .i64 0] hr4 infoFr6 rfl (oneF6 2 0) ?_)
            refine bodyPost_ret (results_row2 Tryz.results44 _ _ (w.heap.size + 1) _ rfl (hr4.setRow _) Tryz.underlying72 rfl infoFr6) rfl ?_
            exact ⟨rfl, below_setRow hbD (Nat.le_succ _) _⟩
          | false =>
            rw [hq] at hx0
            have hx : x = .error 24 := hx0
            subst hx
            unfold chW at hq
            have hq2 : (lowerL a != [99, 104, 117, 110, 107, 101, 100]) = true := by rw [bne, hq]; rfl
            clear hx0 HX2
            go_enter Tryz.func44, Tryz.ntmps44
            go_wp2_with fail
            rw [← hW]
            clear hW e4
            refine (C1.out _ (HR.out.below hb0)).mono ?_
            rintro e w1 ⟨rfl, hb1⟩
            have hg1 := hg0.below hb1
            have hr1 := hr0.below hb1
            have hbA := chain2 hb0 hb0.size hb1
            have e4 := hg1.cell 4
            clear hg0 hr0 hb0 hb1 C1
            go_wp2_with fail
            refine (C2.out _ (HR.out.below hbA)).mono ?_
            rintro e w2 ⟨rfl, hb2⟩
            have hg2 := hg1.below hb2
            have hr2 := hr1.below hb2
            have hbB := chain2 hbA hbA.size hb2
            have e3' := hg2.cell 3
            have e4' := hg2.cell 4
            clear hg1 hr1 hbA hb2 C2 e4
            go_wp2_with fail
            refine (C3.out _ (HR.out.below hbB)).mono ?_
            rintro e w3 ⟨⟨v3, rfl, ho3⟩, hb3⟩
            have hr3 := hr2.below hb3
            have hg3 := hg2.below hb3
            have hbC := chain2 hbB hbB.size hb3
            have e3'' := hg3.cell 3
            obtain ⟨b, off, cap', rfl, hcell⟩ := ho3.reads.at_some (by simp)
            have hce := hcell 0 (strV a) rfl
            rw [Nat.add_zero] at hce
            clear ho3
            go_wp2_with fail
            refine (D5.out _).mono ?_
            rintro e w4 ⟨rfl, hb4⟩
            have hr4 := hr3.below hb4
            have hbD := chain2 hbC hbC.size hb4
            go_wp2_with (refine wpList_store_row rfl 72 _ _ rfl (w.heap.size + 1) _ rfl rfl 72 #[.int .i64 0, .int .i64 0] hr4 infoFr6 rfl (oneF6 0 0) ?_)
            refine bodyPost_ret (results_row2 Tryz.results44 _ _ (w.heap.size + 1) _ rfl (hr4.setRow _) Tryz.underlying72 rfl infoFr6) rfl ?_
            exact ⟨rfl, below_setRow hbD (Nat.le_succ _) _⟩
    · have hx : x = .error 24 := by rw [HX.out, if_neg (by simpa using hnB)]; simp [hnA]
      subst hx
      have a2 : (0 : Int) < (nA : Int) := by omega
      clear hnA hnB HX
      go_enter Tryz.func44, Tryz.ntmps44
      go_wp2_with fail
      rw [← hW]
      clear hW e4
      refine (C1.out _ (HR.out.below hb0)).mono ?_
      rintro e w1 ⟨rfl, hb1⟩
      have hg1 := hg0.below hb1
      have hr1 := hr0.below hb1
      have hbA := chain2 hb0 hb0.size hb1
      have e4 := hg1.cell 4
      clear hg0 hr0 hb0 hb1 C1
      go_wp2_with fail
      refine (C2.out _ (HR.out.below hbA)).mono ?_
      rintro e w2 ⟨rfl, hb2⟩
      have hg2 := hg1.below hb2
      have hr2 := hr1.below hb2
      have hbB := chain2 hbA hbA.size hb2
      have e3' := hg2.cell 3
      have e4' := hg2.cell 4
      clear hg1 hr1 hbA hb2 C2 e4
      go_wp2_with fail
      refine (C3.out _ (HR.out.below hbB)).mono ?_
      rintro e w3 ⟨⟨v3, rfl, ho3⟩, hb3⟩
      have hr3 := hr2.below hb3
      have hg3 := hg2.below hb3
      have hbC := chain2 hbB hbB.size hb3
      have e3'' := hg3.cell 3
      obtain ⟨ao3, cp3, rfl⟩ := Reads.strs ho3.reads
      go_wp2_with (refine wpList_store_row rfl 72 _ _ rfl (w.heap.size + 1) _ rfl rfl 72 #[.int .i64 0, .int .i64 0] hr3 infoFr6 rfl (oneF6 0 0) ?_)
      refine bodyPost_ret (results_row2 Tryz.results44 _ _ (w.heap.size + 1) _ rfl (hr3.setRow _) Tryz.underlying72 rfl infoFr6) rfl ?_
      exact ⟨rfl, below_setRow hbC (Nat.le_succ _) _⟩
end Go.Proofs.YtefplhkjcclppaaGreatDoor
/-
  The document's answers of layer 6: OfRequest, OfResponse; pantrymade.Frame.
-/
namespace Go.Proofs.YtefplhkjcclppaaGreatDoor
open Go.RowKit Go.Pantry

set_option maxRecDepth 100000 in
set_option maxHeartbeats 8000000 in
theorem refOfRequest_any (m t : List UInt8) (st z : Int) (v : Value) (L : List Fld) (w : World) (hr : Reads2 w v L) (hkn : L.length ≤ 1000) (hks : ∀ f ∈ L, f.1.length ≤ 100000 ∧ f.2.length ≤ 100000) :
    Calls Tryz.prog 23 #[.agg #[strV m, strV t, .int .i64 st, .int .i64 z, v]] w fun e w' => FrameIs (frameX z 0 L) e ∧ Below w.heap.size w w' := by
  obtain ⟨ao, cap, rfl⟩ := hr.form
  obtain ⟨W, hW⟩ : ∃ W, W = (w.alloc (.cells #[strV m, strV t, .int .i64 st, .int .i64 z, .slice ao L.length cap] 47)).alloc (.cells #[.int .i64 0, .int .i64 0] 72) := ⟨_, rfl⟩
  have hb0 : Below w.heap.size w W := by rw [hW]; exact (below_alloc _ _).alloc (by simp) _
  have hg0 : rowIs W w.heap.size #[strV m, strV t, .int .i64 st, .int .i64 z, .slice ao L.length cap] 47 := by rw [hW]; exact (rowIs_new _ _ _).below (below_alloc _ _)
  have hr0 : rowIs W (w.heap.size + 1) #[.int .i64 0, .int .i64 0] 72 := by rw [hW]; exact rowIs_new_at _ _ _ _ (by simp)
  have e0 := hg0.cell 0
  have e1 := hg0.cell 1
  have e2 := hg0.cell 2
  have e3 := hg0.cell 3
  have e4 := hg0.cell 4
  rw [hW] at e0 e1 e2 e3 e4
  have C1 := hid (fun W h => refOf_any m t st z 0 (.slice ao L.length cap) L W h hkn hks)
  have HR := hid hr
  clear hr hkn hks
  go_enter Tryz.func23, Tryz.ntmps23
  go_wp2_with fail
  rw [← hW]
  clear hW e0 e1 e2 e3 e4
  refine (C1.out _ (HR.out.below hb0)).mono ?_
  rintro e w1 ⟨hf, hb1⟩
  obtain ⟨t1, t2, t3, ht, rfl⟩ := hf.form
  have hr1 := hr0.below hb1
  have hbA := chain2 hb0 hb0.size hb1
  clear hg0 hr0 hb0 hb1 C1 hf
  go_wp2_with (refine wpList_store_row rfl 72 _ _ rfl (w.heap.size + 1) _ rfl rfl 72 #[.int .i64 0, .int .i64 0] hr1 infoFr6 rfl (oneF6 t1 t2) ?_)
  refine bodyPost_ret (results_row2 Tryz.results23 _ _ (w.heap.size + 1) _ rfl (hr1.setRow _) Tryz.underlying72 rfl infoFr6) rfl ?_
  exact ⟨by unfold FrameIs; rw [ht]; rfl, below_setRow hbA (Nat.le_succ _) _⟩
set_option maxRecDepth 100000 in
set_option maxHeartbeats 8000000 in
theorem refOfResponse_any (mt m t : List UInt8) (st z : Int) (v : Value) (L : List Fld) (w : World) (hr : Reads2 w v L) (hkn : L.length ≤ 1000) (hks : ∀ f ∈ L, f.1.length ≤ 100000 ∧ f.2.length ≤ 100000) :
    Calls Tryz.prog 22 #[strV mt, .agg #[strV m, strV t, .int .i64 st, .int .i64 z, v]] w fun e w' => FrameIs (if bareX (mt == [72, 69, 65, 68]) st then .ok (0, 0) else frameX z 3 L) e ∧ Below w.heap.size w w' := by
  obtain ⟨ao, cap, rfl⟩ := hr.form
  obtain ⟨W, hW⟩ : ∃ W, W = (w.alloc (.cells #[strV m, strV t, .int .i64 st, .int .i64 z, .slice ao L.length cap] 47)).alloc (.cells #[.int .i64 0, .int .i64 0] 72) := ⟨_, rfl⟩
  have hb0 : Below w.heap.size w W := by rw [hW]; exact (below_alloc _ _).alloc (by simp) _
  have hg0 : rowIs W w.heap.size #[strV m, strV t, .int .i64 st, .int .i64 z, .slice ao L.length cap] 47 := by rw [hW]; exact (rowIs_new _ _ _).below (below_alloc _ _)
  have hr0 : rowIs W (w.heap.size + 1) #[.int .i64 0, .int .i64 0] 72 := by rw [hW]; exact rowIs_new_at _ _ _ _ (by simp)
  have e0 := hg0.cell 0
  have e1 := hg0.cell 1
  have e2 := hg0.cell 2
  have e3 := hg0.cell 3
  have e4 := hg0.cell 4
  rw [hW] at e0 e1 e2 e3 e4
  have C1 := hid (fun W h => refOf_any m t st z 3 (.slice ao L.length cap) L W h hkn hks)
  have HR := hid hr
  have hbx : bareX (mt == [72, 69, 65, 68]) st = ((mt == [72, 69, 65, 68]) || (decide (st < 200) || st == 204 || st == 304)) := rfl
  generalize bareX (mt == [72, 69, 65, 68]) st = bx at hbx ⊢
  clear hr hkn hks
  obtain ⟨q1, hq1⟩ : ∃ q, (mt == [72, 69, 65, 68]) = q := ⟨_, rfl⟩
  obtain ⟨q2, hq2⟩ : ∃ q, decide (st < 200) = q := ⟨_, rfl⟩
  obtain ⟨q3, hq3⟩ : ∃ q, (st == 204) = q := ⟨_, rfl⟩
  obtain ⟨q4, hq4⟩ : ∃ q, (st == 304) = q := ⟨_, rfl⟩
  rw [hq1, hq2, hq3, hq4] at hbx
  have hcase : (q1 = true ∧ bx = true) ∨ (q1 = false ∧ q2 = true ∧ bx = true) ∨ (q1 = false ∧ q2 = false ∧ q3 = true ∧ bx = true) ∨ (q1 = false ∧ q2 = false ∧ q3 = false ∧ q4 = true ∧ bx = true) ∨ (q1 = false ∧ q2 = false ∧ q3 = false ∧ q4 = false ∧ bx = false) := by
    rw [hbx]
    cases q1 <;> cases q2 <;> cases q3 <;> cases q4 <;> decide
  clear hbx
  rcases hcase with ⟨rfl, rfl⟩ | ⟨rfl, rfl, rfl⟩ | ⟨rfl, rfl, rfl, rfl⟩ | ⟨rfl, rfl, rfl, rfl, rfl⟩ | ⟨rfl, rfl, rfl, rfl, rfl⟩
  · go_enter Tryz.func22, Tryz.ntmps22
    rw [hW] at hr0 hb0
    go_wp2_with (refine wpList_store_row rfl 72 _ _ rfl (w.heap.size + 1) _ rfl rfl 72 #[.int .i64 0, .int .i64 0] hr0 infoFr6 rfl (oneF6 0 0) ?_)
    first
    | (refine bodyPost_ret (results_row2 Tryz.results22 _ _ (w.heap.size + 1) _ rfl (hr0.setRow _) Tryz.underlying72 rfl infoFr6) rfl ?_; exact ⟨rfl, below_setRow hb0 (Nat.le_succ _) _⟩)
    | (refine bodyPost_ret (results_row2 Tryz.results22 _ _ (w.heap.size + 1) _ rfl hr0 Tryz.underlying72 rfl infoFr6) rfl ?_; exact ⟨rfl, hb0⟩)
  · go_enter Tryz.func22, Tryz.ntmps22
    rw [hW] at hr0 hb0
    go_wp2_with (refine wpList_store_row rfl 72 _ _ rfl (w.heap.size + 1) _ rfl rfl 72 #[.int .i64 0, .int .i64 0] hr0 infoFr6 rfl (oneF6 0 0) ?_)
    first
    | (refine bodyPost_ret (results_row2 Tryz.results22 _ _ (w.heap.size + 1) _ rfl (hr0.setRow _) Tryz.underlying72 rfl infoFr6) rfl ?_; exact ⟨rfl, below_setRow hb0 (Nat.le_succ _) _⟩)
    | (refine bodyPost_ret (results_row2 Tryz.results22 _ _ (w.heap.size + 1) _ rfl hr0 Tryz.underlying72 rfl infoFr6) rfl ?_; exact ⟨rfl, hb0⟩)
  · go_enter Tryz.func22, Tryz.ntmps22
    rw [hW] at hr0 hb0
    go_wp2_with (refine wpList_store_row rfl 72 _ _ rfl (w.heap.size + 1) _ rfl rfl 72 #[.int .i64 0, .int .i64 0] hr0 infoFr6 rfl (oneF6 0 0) ?_)
    first
    | (refine bodyPost_ret (results_row2 Tryz.results22 _ _ (w.heap.size + 1) _ rfl (hr0.setRow _) Tryz.underlying72 rfl infoFr6) rfl ?_; exact ⟨rfl, below_setRow hb0 (Nat.le_succ _) _⟩)
    | (refine bodyPost_ret (results_row2 Tryz.results22 _ _ (w.heap.size + 1) _ rfl hr0 Tryz.underlying72 rfl infoFr6) rfl ?_; exact ⟨rfl, hb0⟩)
  · go_enter Tryz.func22, Tryz.ntmps22
    rw [hW] at hr0 hb0
    go_wp2_with (refine wpList_store_row rfl 72 _ _ rfl (w.heap.size + 1) _ rfl rfl 72 #[.int .i64 0, .int .i64 0] hr0 infoFr6 rfl (oneF6 0 0) ?_)
    first
    | (refine bodyPost_ret (results_row2 Tryz.results22 _ _ (w.heap.size + 1) _ rfl (hr0.setRow _) Tryz.underlying72 rfl infoFr6) rfl ?_; exact ⟨rfl, below_setRow hb0 (Nat.le_succ _) _⟩)
    | (refine bodyPost_ret (results_row2 Tryz.results22 _ _ (w.heap.size + 1) _ rfl hr0 Tryz.underlying72 rfl infoFr6) rfl ?_; exact ⟨rfl, hb0⟩)
  · go_enter Tryz.func22, Tryz.ntmps22
    go_wp2_with fail
    rw [← hW]
    clear hW e0 e1 e2 e3 e4
    refine (C1.out _ (HR.out.below hb0)).mono ?_
    rintro e w1 ⟨hf, hb1⟩
    obtain ⟨t1, t2, t3, ht, rfl⟩ := hf.form
    have hr1 := hr0.below hb1
    have hbA := chain2 hb0 hb0.size hb1
    clear hg0 hr0 hb0 hb1 C1 hf
    go_wp2_with (refine wpList_store_row rfl 72 _ _ rfl (w.heap.size + 1) _ rfl rfl 72 #[.int .i64 0, .int .i64 0] hr1 infoFr6 rfl (oneF6 t1 t2) ?_)
    refine bodyPost_ret (results_row2 Tryz.results22 _ _ (w.heap.size + 1) _ rfl (hr1.setRow _) Tryz.underlying72 rfl infoFr6) rfl ?_
    exact ⟨by unfold FrameIs; simp only; rw [ht]; rfl, below_setRow hbA (Nat.le_succ _) _⟩
end Go.Proofs.YtefplhkjcclppaaGreatDoor
