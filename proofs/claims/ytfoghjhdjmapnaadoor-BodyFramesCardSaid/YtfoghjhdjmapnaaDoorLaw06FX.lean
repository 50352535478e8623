/-
  Several texts in one.
-/
import Derived.Test.YtfoghjhdjmapnaaDoorPureFrame
import Derived.Test.YtfoghjhdjmapnaaDoorSignB
import Derived.Test.YtfoghjhdjmapnaaDoorSignN
import Derived.Test.YtfoghjhdjmapnaaDoorDrawn
import Derived.Test.YtfoghjhdjmapnaaDoorBase2
import Derived.Test.YtfoghjhdjmapnaaDoorFieldH
import Derived.Test.YtfoghjhdjmapnaaDoorRefFieldEl
import Derived.Test.YtfoghjhdjmapnaaDoorRefFieldD
import Derived.Test.YtfoghjhdjmapnaaDoorRefSignN
import Derived.Test.YtfoghjhdjmapnaaDoorRefSignB
import Derived.Test.YtfoghjhdjmapnaaDoorRefFieldM
import Derived.Test.YtfoghjhdjmapnaaDoorBase6
import Derived.Test.YtfoghjhdjmapnaaDoorLaw06A
import Derived.Test.YtfoghjhdjmapnaaDoorLaw06B
import Derived.Laws.StructEq
/-
  Contracts of package body: justChunked, countedFrame.
-/
namespace Go.Proofs.YtfoghjhdjmapnaaDoor
open Go.RowKit Go.Pantry

theorem infoFrS : (Tryd.prog.info? 33).map (·.size) = some 2 := by kernel_rfl
theorem oneF (a b : Int) : (#[.int .i64 a, .int .i64 b] : Array Value).all (·.oneCell') = true := by simp [Value.oneCell']
set_option maxRecDepth 100000 in
set_option maxHeartbeats 4000000 in
theorem justChunked_any (v : Value) (E : List (List UInt8)) (w : World) (hr : Reads w v (E.map strV)) (hs : ∀ a ∈ E, a.length ≤ 4294967296) :
    Calls Tryd.prog 33 #[v] w fun e w' => e = .returned (.bool (justX E)) ∧ Below w.heap.size w w' := by
  obtain ⟨ao, cap, rfl⟩ := Reads.strs hr
  match E with
  | [] =>
    go_enter Tryd.func33, Tryd.ntmps33
    go_wp2_with fail
    go_ret
    exact ⟨rfl, Below.refl _ _⟩
  | a :: b :: r =>
    have hn : ((((a :: b :: r).length : Nat) : Int) == 1) = false := by simp; omega
    have hl : (a :: b :: r).length = r.length + 2 := rfl
    generalize (a :: b :: r).length = n at *
    go_enter Tryd.func33, Tryd.ntmps33
    go_wp2_with fail
    go_ret
    exact ⟨rfl, Below.refl _ _⟩
  | [a] =>
    have hal := hs a (by simp)
    have c1 := fun W => Same_any ⟨a.toArray⟩ ⟨chW.toArray⟩ W (by rw [szL]; unfold maxLen; omega) (by decide)
    rw [dtL, dtL, show lowerL chW = chW by decide +kernel] at c1
    have hj : justX [a] = (lowerL a == chW) := rfl
    rw [← hj] at c1
    generalize justX [a] = q at c1 ⊢
    unfold chW at c1
    obtain ⟨b, off, cap', hv, hcell⟩ := hr.at_some (by simp)
    have hce := hcell 0 (strV a) rfl
    rw [Nat.add_zero] at hce
    cases hv
    have C1 := hid c1
    clear c1 hr hcell hj
    go_enter Tryd.func33, Tryd.ntmps33
    go_wp2_with fail
    refine (C1.out _).mono ?_
    rintro e w1 ⟨rfl, hb1⟩
    go_wp2_with fail
    go_ret
    exact ⟨rfl, hb1⟩
set_option maxRecDepth 100000 in
set_option maxHeartbeats 8000000 in
theorem countedFrame_any (v : Value) (E : List (List UInt8)) (w : World) (hr : Reads w v (E.map strV)) (hs : ∀ a ∈ E, a.length ≤ 4294967296) (hn : E.length ≤ 4294967296) :
    Calls Tryd.prog 35 #[v] w fun e w' => FrameIs (cntX E) e ∧ Below w.heap.size w w' := by
  obtain ⟨W0, hW0⟩ : ∃ W, W = w.alloc (.cells #[.int .i64 0, .int .i64 0] 33) := ⟨_, rfl⟩
  have hb0 : Below w.heap.size w W0 := by rw [hW0]; exact below_alloc _ _
  have hr0 : rowIs W0 w.heap.size #[.int .i64 0, .int .i64 0] 33 := by rw [hW0]; exact rowIs_new _ _ _
  obtain ⟨ao, cap, rfl⟩ := Reads.strs hr
  have hrd := hr.below hb0
  cases hE : E with
  | nil =>
    subst hE
    go_enter Tryd.func35, Tryd.ntmps35
    go_wp2_with fail
    rw [← hW0]
    clear hW0
    refine bodyPost_ret (results_row2 Tryd.results35 _ _ w.heap.size _ rfl hr0 Tryd.underlying33 rfl infoFrS) rfl ?_
    exact ⟨rfl, hb0⟩
  | cons a r =>
    have hlen : (E.length : Int) ≠ 0 := by rw [hE]; simp; omega
    have hne0 : ((E.length : Int) == 0) = false := by simpa using hlen
    have hp1 : 0 < E.length := by omega
    have hp2 : (0 : Int) < (E.length : Int) := by omega
    have hp3 : ¬ E = [] := by rw [hE]; simp
    have hx : cntX E = if E.all (goodN ((numberL a).getD 0)) then (if 2048 < (numberL a).getD 0 then .error 23 else .ok (1, (numberL a).getD 0)) else .error 24 := by rw [hE]; rfl
    have hal := hs a (by rw [hE]; simp)
    rw [← hE]
    obtain ⟨b, off, cap', hv, hcell⟩ := hrd.at_some (by rw [List.length_map]; omega)
    have hce := hcell 0 (strV a) (by rw [hE]; rfl)
    rw [Nat.add_zero] at hce
    rw [hW0] at hce
    rw [List.length_map] at hv
    cases hv
    have c1 := fun (x : List UInt8) W (h : x.length ≤ 4294967296) => Number_any ⟨x.toArray⟩ W (by rw [szL]; omega)
    have c2 := c1 a W0 hal
    rw [dtL] at c2
    generalize cntX E = X at hx ⊢
    obtain ⟨F, hF⟩ : ∃ F, (numberL a).getD 0 = F := ⟨_, rfl⟩
    rw [hF] at hx c2
    have C1 := hid c1
    have C2 := hid c2
    have HX := hid hx
    have HC := hid hcell
    have HS := hid hs
    clear c1 c2 hx hcell hs hr hrd hal hE hF hlen
    go_enter Tryd.func35, Tryd.ntmps35
    go_wp2_with fail
    rw [← hW0]
    clear hW0 hce
    refine C2.out.mono ?_
    rintro e w1 ⟨rfl, rfl⟩
    clear C2
    go_wp2_with fail
    go_loopw [23] (fun i wr => ∃ k : Nat, k ≤ E.length ∧ i = .int .i64 (k : Int) ∧ (E.take k).all (goodN F) = true ∧ W0 = wr) (fun i _ => E.length - (intOf i).toNat)
    case atStart => exact ⟨0, Nat.zero_le _, rfl, rfl, rfl⟩
    case round =>
      obtain ⟨k, hk, rfl, hall, rfl⟩ := hrel
      have HA := hid hall
      clear hall
      by_cases hlt : k < E.length
      · obtain ⟨x, hx⟩ : ∃ x, E[k]? = some x := ⟨_, List.getElem?_eq_getElem hlt⟩
        have hcx := HC.out k (strV x) (by rw [List.getElem?_map, hx]; rfl)
        have hmem := List.mem_of_getElem? hx
        have c3 := C1.out x W0 (HS.out x hmem)
        try rw [dtL] at c3
        have ht := all_take (f := F) hx
        have hgd : goodN F x = ((numberL x).isSome && (numberL x).getD 0 == F) := rfl
        have HM := hid hmem
        have HT := hid ht
        clear hx hmem ht
        cases hnx : numberL x with
        | none =>
          rw [hnx] at c3 hgd
          simp only [Option.isSome_none, Option.getD_none, Bool.false_and] at c3 hgd
          have hXe : X = .error 24 := by rw [HX.out, all_not HM.out hgd]; rfl
          have C3 := hid c3
          subst hXe
          clear c3 hnx hgd
          go_wp2_with fail
          refine C3.out.mono ?_
          rintro e w2 ⟨rfl, rfl⟩
          go_wp2_with (refine wpList_store_row rfl 33 _ _ rfl w.heap.size _ rfl rfl 33 #[.int .i64 0, .int .i64 0] hr0 infoFrS rfl (oneF 0 0) ?_)
          refine bodyPost_ret (results_row2 Tryd.results35 _ _ w.heap.size _ rfl (hr0.setRow _) Tryd.underlying33 rfl infoFrS) rfl ?_
          exact ⟨rfl, below_setRow hb0 (Nat.le_refl _) _⟩
        | some m =>
          rw [hnx] at c3 hgd
          simp only [Option.isSome_some, Option.getD_some, Bool.true_and] at c3 hgd
          have C3 := hid c3
          by_cases hmF : m = F
          · have hg1 : goodN F x = true := by rw [hgd, hmF]; simp
            have z1 : ((m : Int) == (F : Int)) = true := by simp; omega
            have z2 : ((m : Int) != (F : Int)) = false := by simp; omega
            have hal2 : (E.take (k + 1)).all (goodN F) = true := by rw [HT.out, HA.out, hg1]; rfl
            have HA2 := hid hal2
            clear c3 hnx hgd hg1 hal2 hmF
            go_wp2_with fail
            refine C3.out.mono ?_
            rintro e w2 ⟨rfl, rfl⟩
            go_wp2_with fail
            go_roundw
            case rel => exact ⟨k + 1, hlt, by go_num, HA2.out, by trivial⟩
            case measure => simp [intOf]; omega
          · have hg1 : goodN F x = false := by rw [hgd]; simpa using hmF
            have z1 : ((m : Int) == (F : Int)) = false := beq_eq_false_iff_ne.2 (by omega)
            have z2 : ((m : Int) != (F : Int)) = true := by rw [bne, z1]; rfl
            have hXe : X = .error 24 := by rw [HX.out, all_not HM.out hg1]; rfl
            subst hXe
            clear c3 hnx hgd hg1 hmF
            go_wp2_with fail
            refine C3.out.mono ?_
            rintro e w2 ⟨rfl, rfl⟩
            go_wp2_with (refine wpList_store_row rfl 33 _ _ rfl w.heap.size _ rfl rfl 33 #[.int .i64 0, .int .i64 0] hr0 infoFrS rfl (oneF 0 0) ?_)
            refine bodyPost_ret (results_row2 Tryd.results35 _ _ w.heap.size _ rfl (hr0.setRow _) Tryd.underlying33 rfl infoFrS) rfl ?_
            exact ⟨rfl, below_setRow hb0 (Nat.le_refl _) _⟩
      · have hall := HA.out
        rw [List.take_of_length_le (by omega)] at hall
        have hx2 := HX.out
        rw [hall, if_pos rfl] at hx2
        clear hall
        by_cases h2048 : (2048 : Int) < (F : Int)
        · rw [if_pos (by omega)] at hx2
          subst hx2
          clear HX
          go_wp2_with (refine wpList_store_row rfl 33 _ _ rfl w.heap.size _ rfl rfl 33 #[.int .i64 0, .int .i64 0] hr0 infoFrS rfl (oneF 0 0) ?_)
          refine bodyPost_ret (results_row2 Tryd.results35 _ _ w.heap.size _ rfl (hr0.setRow _) Tryd.underlying33 rfl infoFrS) rfl ?_
          exact ⟨rfl, below_setRow hb0 (Nat.le_refl _) _⟩
        · rw [if_neg (by omega)] at hx2
          subst hx2
          clear HX
          go_wp2_with (refine wpList_store_row rfl 33 _ _ rfl w.heap.size _ rfl rfl 33 #[.int .i64 0, .int .i64 0] hr0 infoFrS rfl (oneF 1 (F : Int)) ?_)
          refine bodyPost_ret (results_row2 Tryd.results35 _ _ w.heap.size _ rfl (hr0.setRow _) Tryd.underlying33 rfl infoFrS) rfl ?_
          exact ⟨rfl, below_setRow hb0 (Nat.le_refl _) _⟩
end Go.Proofs.YtfoghjhdjmapnaaDoor
/-
  Contracts of package body: frameOf, bare, OfRequest, OfResponse.
-/
namespace Go.Proofs.YtfoghjhdjmapnaaDoor
open Go.RowKit Go.Pantry

theorem bare_any (z : Int) (w : World) : Calls Tryd.prog 26 #[.int .i64 z] w fun e w' => e = .returned (.bool (decide (z < 200) || z == 204 || z == 304)) ∧ w = w' := by
  obtain ⟨d1, h1⟩ : ∃ d, decide (z < 200) = d := ⟨_, rfl⟩
  obtain ⟨d2, h2⟩ : ∃ d, (z == 204) = d := ⟨_, rfl⟩
  obtain ⟨d3, h3⟩ : ∃ d, (z == 304) = d := ⟨_, rfl⟩
  rw [h1, h2, h3]
  cases d1 <;> cases d2 <;> cases d3
  all_goals
    go_enter Tryd.func26, Tryd.ntmps26
    go_wp2
    go_ret
    exact ⟨rfl, rfl⟩

set_option maxRecDepth 100000 in
set_option maxHeartbeats 16000000 in
theorem frameOf_any (minor : Int) (other : Nat) (v : Value) (L : List Fld) (w : World) (hr : Reads2 w v L) (hk : okFs L) :
    Calls Tryd.prog 23 #[.agg #[.int .i64 minor, v], .int .i64 (other : Int)] w fun e w' => FrameIs (frameX minor other L) e ∧ Below w.heap.size w w' := by
  obtain ⟨ao, cap, rfl⟩ := hr.form
  obtain ⟨W, hW⟩ : ∃ W, W = (w.alloc (.cells #[.int .i64 minor, .slice ao L.length cap] 27)).alloc (.cells #[.int .i64 0, .int .i64 0] 33) := ⟨_, rfl⟩
  have hb0 : Below w.heap.size w W := by rw [hW]; exact (below_alloc _ _).alloc (by simp) _
  have hg0 : rowIs W w.heap.size #[.int .i64 minor, .slice ao L.length cap] 27 := by rw [hW]; exact (rowIs_new _ _ _).below (below_alloc _ _)
  have hr0 : rowIs W (w.heap.size + 1) #[.int .i64 0, .int .i64 0] 33 := by rw [hW]; exact rowIs_new_at _ _ _ _ (by simp)
  have e0 := hg0.cell 0
  have e1 := hg0.cell 1
  rw [hW] at e0 e1
  have c1 := fun W h => lGet_any (.slice ao L.length cap) L ⟨teN.toArray⟩ W h hk (by decide)
  have c2 := fun W h => lGet_any (.slice ao L.length cap) L ⟨clN.toArray⟩ W h hk (by decide)
  have c3 := fun W h => lElements_any (.slice ao L.length cap) L ⟨teN.toArray⟩ W h hk (by decide)
  have c4 := fun W h => lElements_any (.slice ao L.length cap) L ⟨clN.toArray⟩ W h hk (by decide)
  rw [dtL] at c1 c2 c3 c4
  have sz1 := elementsF_size (n := teN) (fun f hf => (hk.2 f hf).2) hk.1
  have sz2 := elementsF_size (n := clN) (fun f hf => (hk.2 f hf).2) hk.1
  have hx : frameX minor other L = if (allF L teN).isEmpty then (if (allF L clN).isEmpty then .ok (other, 0) else cntX (elementsF L clN)) else if !(allF L clN).isEmpty || !justX (elementsF L teN) || minor == 0 then .error 24 else .ok (2, 0) := rfl
  generalize frameX minor other L = x at hx ⊢
  generalize (allF L teN).isEmpty = q1 at c1 hx
  generalize (allF L clN).isEmpty = q2 at c2 hx
  generalize getF L teN = s1 at c1
  generalize getF L clN = s2 at c2
  generalize elementsF L teN = E1 at c3 hx sz1
  generalize elementsF L clN = E2 at c4 hx sz2
  have c5 := fun W v h => justChunked_any v E1 W h (fun a ha => Nat.le_trans (sz1.2 a ha) (by decide))
  have c6 := fun W v h => countedFrame_any v E2 W h (fun a ha => Nat.le_trans (sz2.2 a ha) (by decide)) (Nat.le_trans sz2.1 (by decide))
  generalize justX E1 = q3 at c5 hx
  unfold teN at c1 c3
  unfold clN at c2 c4
  have C1 := hid c1
  have C2 := hid c2
  have C3 := hid c3
  have C4 := hid c4
  have C5 := hid c5
  have C6 := hid c6
  have HR := hid hr
  have HX := hid hx
  clear c1 c2 c3 c4 c5 c6 hr hx sz1 sz2 hk
  cases q1 with
  | true =>
    cases q2 with
    | true =>
      have hx : x = .ok (other, 0) := HX.out
      subst hx
      go_enter Tryd.func23, Tryd.ntmps23
      go_wp2_with fail
      rw [← hW]
      clear hW e0 e1
      refine (C1.out _ (HR.out.below hb0)).mono ?_
      rintro e w1 ⟨rfl, hb1⟩
      have hg1 := hg0.below hb1
      have hr1 := hr0.below hb1
      have hbA := chain2 hb0 hb0.size hb1
      have e1 := hg1.cell 1
      clear hg0 hr0 hb0 hb1 C1
      go_wp2_with fail
      refine (C2.out _ (HR.out.below hbA)).mono ?_
      rintro e w2 ⟨rfl, hb2⟩
      have hg2 := hg1.below hb2
      have hr2 := hr1.below hb2
      have hbB := chain2 hbA hbA.size hb2
      have e0' := hg2.cell 0
      have e1' := hg2.cell 1
      clear hg1 hr1 hbA hb2 C2 e1
      go_wp2_with (refine wpList_store_row rfl 33 _ _ rfl (w.heap.size + 1) _ rfl rfl 33 #[.int .i64 0, .int .i64 0] hr2 infoFrS rfl (oneF (other : Int) 0) ?_)
      refine bodyPost_ret (results_row2 Tryd.results23 _ _ (w.heap.size + 1) _ rfl (hr2.setRow _) Tryd.underlying33 rfl infoFrS) rfl ?_
      exact ⟨rfl, below_setRow hbB (Nat.le_succ _) _⟩
    | false =>
      have hx : x = cntX E2 := HX.out
      subst hx
      go_enter Tryd.func23, Tryd.ntmps23
      go_wp2_with fail
      rw [← hW]
      clear hW e0 e1
      refine (C1.out _ (HR.out.below hb0)).mono ?_
      rintro e w1 ⟨rfl, hb1⟩
      have hg1 := hg0.below hb1
      have hr1 := hr0.below hb1
      have hbA := chain2 hb0 hb0.size hb1
      have e1 := hg1.cell 1
      clear hg0 hr0 hb0 hb1 C1
      go_wp2_with fail
      refine (C2.out _ (HR.out.below hbA)).mono ?_
      rintro e w2 ⟨rfl, hb2⟩
      have hg2 := hg1.below hb2
      have hr2 := hr1.below hb2
      have hbB := chain2 hbA hbA.size hb2
      have e0' := hg2.cell 0
      have e1' := hg2.cell 1
      clear hg1 hr1 hbA hb2 C2 e1
      go_wp2_with fail
      refine (C4.out _ (HR.out.below hbB)).mono ?_
      rintro e w3 ⟨⟨v3, rfl, ho3⟩, hb3⟩
      have hr3 := hr2.below hb3
      have hbC := chain2 hbB hbB.size hb3
      obtain ⟨ao3, cp3, rfl⟩ := Reads.strs ho3.reads
      go_wp2_with fail
      refine (C6.out _ _ ho3.reads).mono ?_
      rintro e w4 ⟨hf, hb4⟩
      have hr4 := hr3.below hb4
      have hbD := chain2 hbC hbC.size hb4
      obtain ⟨t1, t2, t3, ht, rfl⟩ := hf.form
      clear hr3 hb4 hb3 hbB hr2 ho3 hg2 e0' e1' C3 C4 C5 C6
      go_wp2_with (refine wpList_store_row rfl 33 _ _ rfl (w.heap.size + 1) _ rfl rfl 33 #[.int .i64 0, .int .i64 0] hr4 infoFrS rfl (oneF t1 t2) ?_)
      refine bodyPost_ret (results_row2 Tryd.results23 _ _ (w.heap.size + 1) _ rfl (hr4.setRow _) Tryd.underlying33 rfl infoFrS) rfl ?_
      exact ⟨by unfold FrameIs; rw [ht]; rfl, below_setRow hbD (Nat.le_succ _) _⟩
  | false =>
    cases q2 with
    | false =>
      have hx : x = .error 24 := HX.out
      subst hx
      go_enter Tryd.func23, Tryd.ntmps23
      go_wp2_with fail
      rw [← hW]
      clear hW e0 e1
      refine (C1.out _ (HR.out.below hb0)).mono ?_
      rintro e w1 ⟨rfl, hb1⟩
      have hg1 := hg0.below hb1
      have hr1 := hr0.below hb1
      have hbA := chain2 hb0 hb0.size hb1
      have e1 := hg1.cell 1
      clear hg0 hr0 hb0 hb1 C1
      go_wp2_with fail
      refine (C2.out _ (HR.out.below hbA)).mono ?_
      rintro e w2 ⟨rfl, hb2⟩
      have hg2 := hg1.below hb2
      have hr2 := hr1.below hb2
      have hbB := chain2 hbA hbA.size hb2
      have e0' := hg2.cell 0
      have e1' := hg2.cell 1
      clear hg1 hr1 hbA hb2 C2 e1
      go_wp2_with (refine wpList_store_row rfl 33 _ _ rfl (w.heap.size + 1) _ rfl rfl 33 #[.int .i64 0, .int .i64 0] hr2 infoFrS rfl (oneF 0 0) ?_)
      refine bodyPost_ret (results_row2 Tryd.results23 _ _ (w.heap.size + 1) _ rfl (hr2.setRow _) Tryd.underlying33 rfl infoFrS) rfl ?_
      exact ⟨rfl, below_setRow hbB (Nat.le_succ _) _⟩
    | true =>
      cases q3 with
      | false =>
        have hx : x = .error 24 := HX.out
        subst hx
        go_enter Tryd.func23, Tryd.ntmps23
        go_wp2_with fail
        rw [← hW]
        clear hW e0 e1
        refine (C1.out _ (HR.out.below hb0)).mono ?_
        rintro e w1 ⟨rfl, hb1⟩
        have hg1 := hg0.below hb1
        have hr1 := hr0.below hb1
        have hbA := chain2 hb0 hb0.size hb1
        have e1 := hg1.cell 1
        clear hg0 hr0 hb0 hb1 C1
        go_wp2_with fail
        refine (C2.out _ (HR.out.below hbA)).mono ?_
        rintro e w2 ⟨rfl, hb2⟩
        have hg2 := hg1.below hb2
        have hr2 := hr1.below hb2
        have hbB := chain2 hbA hbA.size hb2
        have e0' := hg2.cell 0
        have e1' := hg2.cell 1
        clear hg1 hr1 hbA hb2 C2 e1
        go_wp2_with fail
        refine (C3.out _ (HR.out.below hbB)).mono ?_
        rintro e w3 ⟨⟨v3, rfl, ho3⟩, hb3⟩
        have hr3 := hr2.below hb3
        have hg3 := hg2.below hb3
        have hbC := chain2 hbB hbB.size hb3
        obtain ⟨ao3, cp3, rfl⟩ := Reads.strs ho3.reads
        go_wp2_with fail
        refine (C5.out _ _ ho3.reads).mono ?_
        rintro e w4 ⟨rfl, hb4⟩
        have hr4 := hr3.below hb4
        have hg4 := hg3.below hb4
        have hbD := chain2 hbC hbC.size hb4
        clear hr3 hg3 hb4 hb3 hbB hr2 ho3 hg2 e0' e1' C3 C4 C5 C6
        go_wp2_with (refine wpList_store_row rfl 33 _ _ rfl (w.heap.size + 1) _ rfl rfl 33 #[.int .i64 0, .int .i64 0] hr4 infoFrS rfl (oneF 0 0) ?_)
        refine bodyPost_ret (results_row2 Tryd.results23 _ _ (w.heap.size + 1) _ rfl (hr4.setRow _) Tryd.underlying33 rfl infoFrS) rfl ?_
        exact ⟨rfl, below_setRow hbD (Nat.le_succ _) _⟩
      | true =>
        by_cases hm : minor = 0
        · have hx : x = .error 24 := by rw [HX.out, hm]; rfl
          subst hx
          have z1 : (minor == 0) = true := by simpa using hm
          clear hm
          go_enter Tryd.func23, Tryd.ntmps23
          go_wp2_with fail
          rw [← hW]
          clear hW e0 e1
          refine (C1.out _ (HR.out.below hb0)).mono ?_
          rintro e w1 ⟨rfl, hb1⟩
          have hg1 := hg0.below hb1
          have hr1 := hr0.below hb1
          have hbA := chain2 hb0 hb0.size hb1
          have e1 := hg1.cell 1
          clear hg0 hr0 hb0 hb1 C1
          go_wp2_with fail
          refine (C2.out _ (HR.out.below hbA)).mono ?_
          rintro e w2 ⟨rfl, hb2⟩
          have hg2 := hg1.below hb2
          have hr2 := hr1.below hb2
          have hbB := chain2 hbA hbA.size hb2
          have e0' := hg2.cell 0
          have e1' := hg2.cell 1
          clear hg1 hr1 hbA hb2 C2 e1
          go_wp2_with fail
          refine (C3.out _ (HR.out.below hbB)).mono ?_
          rintro e w3 ⟨⟨v3, rfl, ho3⟩, hb3⟩
          have hr3 := hr2.below hb3
          have hg3 := hg2.below hb3
          have hbC := chain2 hbB hbB.size hb3
          obtain ⟨ao3, cp3, rfl⟩ := Reads.strs ho3.reads
          go_wp2_with fail
          refine (C5.out _ _ ho3.reads).mono ?_
          rintro e w4 ⟨rfl, hb4⟩
          have hr4 := hr3.below hb4
          have hg4 := hg3.below hb4
          have hbD := chain2 hbC hbC.size hb4
          clear hr3 hg3 hb4 hb3 hbB hr2 ho3 hg2 e0' e1' C3 C4 C5 C6
          have e0'' := hg4.cell 0
          go_wp2_with (refine wpList_store_row rfl 33 _ _ rfl (w.heap.size + 1) _ rfl rfl 33 #[.int .i64 0, .int .i64 0] hr4 infoFrS rfl (oneF 0 0) ?_)
          refine bodyPost_ret (results_row2 Tryd.results23 _ _ (w.heap.size + 1) _ rfl (hr4.setRow _) Tryd.underlying33 rfl infoFrS) rfl ?_
          exact ⟨rfl, below_setRow hbD (Nat.le_succ _) _⟩
        · have z1 : (minor == 0) = false := by simpa using hm
          have hx : x = .ok (2, 0) := by rw [HX.out, z1]; rfl
          subst hx
          clear hm
          go_enter Tryd.func23, Tryd.ntmps23
          go_wp2_with fail
          rw [← hW]
          clear hW e0 e1
          refine (C1.out _ (HR.out.below hb0)).mono ?_
          rintro e w1 ⟨rfl, hb1⟩
          have hg1 := hg0.below hb1
          have hr1 := hr0.below hb1
          have hbA := chain2 hb0 hb0.size hb1
          have e1 := hg1.cell 1
          clear hg0 hr0 hb0 hb1 C1
          go_wp2_with fail
          refine (C2.out _ (HR.out.below hbA)).mono ?_
          rintro e w2 ⟨rfl, hb2⟩
          have hg2 := hg1.below hb2
          have hr2 := hr1.below hb2
          have hbB := chain2 hbA hbA.size hb2
          have e0' := hg2.cell 0
          have e1' := hg2.cell 1
          clear hg1 hr1 hbA hb2 C2 e1
          go_wp2_with fail
          refine (C3.out _ (HR.out.below hbB)).mono ?_
          rintro e w3 ⟨⟨v3, rfl, ho3⟩, hb3⟩
          have hr3 := hr2.below hb3
          have hg3 := hg2.below hb3
          have hbC := chain2 hbB hbB.size hb3
          obtain ⟨ao3, cp3, rfl⟩ := Reads.strs ho3.reads
          go_wp2_with fail
          refine (C5.out _ _ ho3.reads).mono ?_
          rintro e w4 ⟨rfl, hb4⟩
          have hr4 := hr3.below hb4
          have hg4 := hg3.below hb4
          have hbD := chain2 hbC hbC.size hb4
          clear hr3 hg3 hb4 hb3 hbB hr2 ho3 hg2 e0' e1' C3 C4 C5 C6
          have e0'' := hg4.cell 0
          go_wp2_with (refine wpList_store_row rfl 33 _ _ rfl (w.heap.size + 1) _ rfl rfl 33 #[.int .i64 0, .int .i64 0] hr4 infoFrS rfl (oneF 2 0) ?_)
          refine bodyPost_ret (results_row2 Tryd.results23 _ _ (w.heap.size + 1) _ rfl (hr4.setRow _) Tryd.underlying33 rfl infoFrS) rfl ?_
          exact ⟨rfl, below_setRow hbD (Nat.le_succ _) _⟩
end Go.Proofs.YtfoghjhdjmapnaaDoor
/-
  Contracts of package body: OfRequest, OfResponse.
-/
namespace Go.Proofs.YtfoghjhdjmapnaaDoor
open Go.RowKit Go.Pantry

set_option maxRecDepth 100000 in
set_option maxHeartbeats 8000000 in
theorem OfRequest_any (m t : List UInt8) (z : Int) (v : Value) (L : List Fld) (w : World) (hr : Reads2 w v L) (hk : okFs L) :
    Calls Tryd.prog 11 #[.agg #[strV m, strV t, .int .i64 z, v]] w fun e w' => FrameIs (frameX z 0 L) e ∧ Below w.heap.size w w' := by
  obtain ⟨ao, cap, rfl⟩ := hr.form
  obtain ⟨W, hW⟩ : ∃ W, W = (w.alloc (.cells #[strV m, strV t, .int .i64 z, .slice ao L.length cap] 29)).alloc (.cells #[.int .i64 0, .int .i64 0] 33) := ⟨_, rfl⟩
  have hb0 : Below w.heap.size w W := by rw [hW]; exact (below_alloc _ _).alloc (by simp) _
  have hg0 : rowIs W w.heap.size #[strV m, strV t, .int .i64 z, .slice ao L.length cap] 29 := by rw [hW]; exact (rowIs_new _ _ _).below (below_alloc _ _)
  have hr0 : rowIs W (w.heap.size + 1) #[.int .i64 0, .int .i64 0] 33 := by rw [hW]; exact rowIs_new_at _ _ _ _ (by simp)
  have e0 := hg0.cell 0
  have e1 := hg0.cell 1
  have e2 := hg0.cell 2
  have e3 := hg0.cell 3
  rw [hW] at e0 e1 e2 e3
  have C1 := hid (fun W h => frameOf_any z 0 (.slice ao L.length cap) L W h hk)
  have HR := hid hr
  clear hr hk
  go_enter Tryd.func11, Tryd.ntmps11
  go_wp2_with fail
  rw [← hW]
  clear hW e0 e1 e2 e3
  refine (C1.out _ (HR.out.below hb0)).mono ?_
  rintro e w1 ⟨hf, hb1⟩
  obtain ⟨t1, t2, t3, ht, rfl⟩ := hf.form
  have hr1 := hr0.below hb1
  have hbA := chain2 hb0 hb0.size hb1
  clear hg0 hr0 hb0 hb1 C1 hf
  go_wp2_with (refine wpList_store_row rfl 33 _ _ rfl (w.heap.size + 1) _ rfl rfl 33 #[.int .i64 0, .int .i64 0] hr1 infoFrS rfl (oneF t1 t2) ?_)
  refine bodyPost_ret (results_row2 Tryd.results11 _ _ (w.heap.size + 1) _ rfl (hr1.setRow _) Tryd.underlying33 rfl infoFrS) rfl ?_
  exact ⟨by unfold FrameIs; rw [ht]; rfl, below_setRow hbA (Nat.le_succ _) _⟩
set_option maxRecDepth 100000 in
set_option maxHeartbeats 8000000 in
theorem OfResponse_any (mt m : List UInt8) (st z : Int) (v : Value) (L : List Fld) (w : World) (hr : Reads2 w v L) (hk : okFs L) :
    Calls Tryd.prog 15 #[strV mt, .agg #[.int .i64 st, strV m, .int .i64 z, v]] w fun e w' => FrameIs (if bareX (mt == [72, 69, 65, 68]) st then .ok (0, 0) else frameX z 3 L) e ∧ Below w.heap.size w w' := by
  obtain ⟨ao, cap, rfl⟩ := hr.form
  obtain ⟨W, hW⟩ : ∃ W, W = (w.alloc (.cells #[.int .i64 st, strV m, .int .i64 z, .slice ao L.length cap] 31)).alloc (.cells #[.int .i64 0, .int .i64 0] 33) := ⟨_, rfl⟩
  have hb0 : Below w.heap.size w W := by rw [hW]; exact (below_alloc _ _).alloc (by simp) _
  have hg0 : rowIs W w.heap.size #[.int .i64 st, strV m, .int .i64 z, .slice ao L.length cap] 31 := by rw [hW]; exact (rowIs_new _ _ _).below (below_alloc _ _)
  have hr0 : rowIs W (w.heap.size + 1) #[.int .i64 0, .int .i64 0] 33 := by rw [hW]; exact rowIs_new_at _ _ _ _ (by simp)
  have e0 := hg0.cell 0
  have e1 := hg0.cell 1
  have e2 := hg0.cell 2
  have e3 := hg0.cell 3
  have C1 := hid (fun W h => frameOf_any z 3 (.slice ao L.length cap) L W h hk)
  have c0 := fun W => bare_any st W
  have hbx : bareX (mt == [72, 69, 65, 68]) st = ((mt == [72, 69, 65, 68]) || (decide (st < 200) || st == 204 || st == 304)) := rfl
  obtain ⟨q2, hq2⟩ : ∃ q, (decide (st < 200) || st == 204 || st == 304) = q := ⟨_, rfl⟩
  rw [hq2] at hbx c0
  have HR := hid hr
  have C0 := hid c0
  clear hr hk c0 hq2
  cases hq1 : (mt == [72, 69, 65, 68]) with
  | true =>
    rw [hq1, Bool.true_or] at hbx
    rw [hbx, if_pos rfl]
    rw [hW] at e0 e1 e2 e3
    go_enter Tryd.func15, Tryd.ntmps15
    go_wp2_with fail
    rw [← hW]
    refine bodyPost_ret (results_row2 Tryd.results15 _ _ (w.heap.size + 1) _ rfl hr0 Tryd.underlying33 rfl infoFrS) rfl ?_
    exact ⟨rfl, hb0⟩
  | false =>
    rw [hq1, Bool.false_or] at hbx
    rw [hbx]
    have h0 : W.cell? ⟨w.heap.size, 0, none⟩ = some (.int .i64 st) := e0
    rw [hW] at e0 e1 e2 e3
    cases q2 with
    | true =>
      go_enter Tryd.func15, Tryd.ntmps15
      go_wp2_with fail
      rw [← hW]
      clear hW e0 e1 e2 e3
      refine (C0.out _).mono ?_
      rintro e w1 ⟨rfl, rfl⟩
      go_wp2_with (refine wpList_store_row rfl 33 _ _ rfl (w.heap.size + 1) _ rfl rfl 33 #[.int .i64 0, .int .i64 0] hr0 infoFrS rfl (oneF 0 0) ?_)
      refine bodyPost_ret (results_row2 Tryd.results15 _ _ (w.heap.size + 1) _ rfl (hr0.setRow _) Tryd.underlying33 rfl infoFrS) rfl ?_
      exact ⟨rfl, below_setRow hb0 (Nat.le_succ _) _⟩
    | false =>
      have k0 := hg0.cell 0
      have k1 := hg0.cell 1
      have k2 := hg0.cell 2
      have k3 := hg0.cell 3
      go_enter Tryd.func15, Tryd.ntmps15
      go_wp2_with fail
      rw [← hW]
      clear hW e0 e1 e2 e3
      refine (C0.out _).mono ?_
      rintro e w1 ⟨rfl, rfl⟩
      go_wp2_with fail
      refine (C1.out _ (HR.out.below hb0)).mono ?_
      rintro e w1 ⟨hf, hb1⟩
      obtain ⟨t1, t2, t3, ht, rfl⟩ := hf.form
      have hr1 := hr0.below hb1
      have hbA := chain2 hb0 hb0.size hb1
      clear hg0 hr0 hb0 hb1 C1 hf k0 k1 k2 k3
      go_wp2_with (refine wpList_store_row rfl 33 _ _ rfl (w.heap.size + 1) _ rfl rfl 33 #[.int .i64 0, .int .i64 0] hr1 infoFrS rfl (oneF t1 t2) ?_)
      refine bodyPost_ret (results_row2 Tryd.results15 _ _ (w.heap.size + 1) _ rfl (hr1.setRow _) Tryd.underlying33 rfl infoFrS) rfl ?_
      exact ⟨by unfold FrameIs; simp only; rw [ht]; rfl, below_setRow hbA (Nat.le_succ _) _⟩
end Go.Proofs.YtfoghjhdjmapnaaDoor
/-
  The document's answers of layer 6: the frame of fields.
-/
namespace Go.Proofs.YtfoghjhdjmapnaaDoor
open Go.RowKit Go.Pantry

theorem infoFr6 : (Tryd.prog.info? 37).map (·.size) = some 2 := by kernel_rfl
theorem oneF6 (a b : Int) : (#[.int .i64 a, .int .i64 b] : Array Value).all (·.oneCell') = true := by simp [Value.oneCell']
set_option maxRecDepth 100000 in
set_option maxHeartbeats 32000000 in
theorem refOf_any (m t : List UInt8) (st z : Int) (other : Nat) (v : Value) (L : List Fld) (w : World) (hr : Reads2 w v L) (hkn : L.length ≤ 1000) (hks : ∀ f ∈ L, f.1.length ≤ 100000 ∧ f.2.length ≤ 100000) :
    Calls Tryd.prog 24 #[.agg #[strV m, strV t, .int .i64 st, .int .i64 z, v], .int .i64 (other : Int)] w fun e w' => FrameIs (frameX z other L) e ∧ Below w.heap.size w w' := by
  obtain ⟨ao, cap, rfl⟩ := hr.form
  obtain ⟨W, hW⟩ : ∃ W, W = (w.alloc (.cells #[strV m, strV t, .int .i64 st, .int .i64 z, .slice ao L.length cap] 42)).alloc (.cells #[.int .i64 0, .int .i64 0] 37) := ⟨_, rfl⟩
  have hb0 : Below w.heap.size w W := by rw [hW]; exact (below_alloc _ _).alloc (by simp) _
  have hg0 : rowIs W w.heap.size #[strV m, strV t, .int .i64 st, .int .i64 z, .slice ao L.length cap] 42 := by rw [hW]; exact (rowIs_new _ _ _).below (below_alloc _ _)
  have hr0 : rowIs W (w.heap.size + 1) #[.int .i64 0, .int .i64 0] 37 := by rw [hW]; exact rowIs_new_at _ _ _ _ (by simp)
  have e4 := hg0.cell 4
  rw [hW] at e4
  have hL : ∀ f ∈ L, f.1.length < 4294967296 := fun f hf => Nat.lt_of_le_of_lt (hks f hf).1 (by decide)
  have hV : ∀ f ∈ L, f.2.length ≤ 100000 := fun f hf => (hks f hf).2
  have c1 := fun W h => refGet_any (.slice ao L.length cap) L ⟨clL.toArray⟩ W h hL hV hkn (by decide)
  have c2 := fun W h => refGet_any (.slice ao L.length cap) L ⟨teL.toArray⟩ W h hL hV hkn (by decide)
  have c3 := fun W h => refElements_any (.slice ao L.length cap) L ⟨teL.toArray⟩ W h hL hV hkn (by decide)
  have c4 := fun W h => refElements_any (.slice ao L.length cap) L ⟨clL.toArray⟩ W h hL hV hkn (by decide)
  rw [dtL] at c1 c2 c3 c4
  rw [all_cl] at c1
  rw [all_te] at c2
  rw [els_te] at c3
  rw [els_cl] at c4
  have sz1 := elementsF_size (n := teN) hV hkn
  have sz2 := elementsF_size (n := clN) hV hkn
  have hx : frameX z other L = if (allF L teN).isEmpty then (if (allF L clN).isEmpty then .ok (other, 0) else cntX (elementsF L clN)) else if !(allF L clN).isEmpty || !justX (elementsF L teN) || z == 0 then .error 24 else .ok (2, 0) := rfl
  generalize frameX z other L = x at hx ⊢
  have hA : (allF L clN).isEmpty = ((allF L clN).length == 0) := by cases allF L clN <;> rfl
  have hB : (allF L teN).isEmpty = ((allF L teN).length == 0) := by cases allF L teN <;> rfl
  rw [hA, hB] at hx
  generalize (allF L clN).length = nA at c1 hx
  generalize (allF L teN).length = nB at c2 hx
  generalize getF L clL = s1 at c1
  generalize getF L teL = s2 at c2
  generalize elementsF L teN = E1 at c3 hx sz1
  generalize elementsF L clN = E2 at c4 hx sz2
  unfold clL at c1 c4
  unfold teL at c2 c3
  have c5 := fun (a : List UInt8) W (h : a.length ≤ 100002000) => refLower_any ⟨a.toArray⟩ W (by rw [szL]; omega)
  have c6 := fun (a : List UInt8) W (h : a.length ≤ 100002000) => refNumber_any ⟨a.toArray⟩ W (by rw [szL]; omega)
  simp only at c5 c6
  have C1 := hid c1
  have C2 := hid c2
  have C3 := hid c3
  have C4 := hid c4
  have C5 := hid c5
  have C6 := hid c6
  have HR := hid hr
  have HX := hid hx
  have S1 := hid sz1
  have S2 := hid sz2
  clear c1 c2 c3 c4 c5 c6 hr hx sz1 sz2 hks hL hV hkn hA hB
  by_cases hnB : nB = 0
  · have b1 : ¬ (0 : Int) < (nB : Int) := by omega
    by_cases hnA : nA = 0
    · have hx : x = .ok (other, 0) := by rw [HX.out, hnA, hnB]; rfl
      subst hx
      have a1 : ((nA : Int) == 0) = true := by simp; exact hnA
      clear hnA hnB
      go_enter Tryd.func24, Tryd.ntmps24
      go_wp2_with fail
      rw [← hW]
      clear hW e4
      refine (C1.out _ (HR.out.below hb0)).mono ?_
      rintro e w1 ⟨rfl, hb1⟩
      have hg1 := hg0.below hb1
      have hr1 := hr0.below hb1
      have hbA := chain2 hb0 hb0.size hb1
      have e4 := hg1.cell 4
      clear hg0 hr0 hb0 hb1 C1
      go_wp2_with fail
      refine (C2.out _ (HR.out.below hbA)).mono ?_
      rintro e w2 ⟨rfl, hb2⟩
      have hg2 := hg1.below hb2
      have hr2 := hr1.below hb2
      have hbB := chain2 hbA hbA.size hb2
      have e3' := hg2.cell 3
      have e4' := hg2.cell 4
      clear hg1 hr1 hbA hb2 C2 e4
      go_wp2_with (refine wpList_store_row rfl 37 _ _ rfl (w.heap.size + 1) _ rfl rfl 37 #[.int .i64 0, .int .i64 0] hr2 infoFr6 rfl (oneF6 (other : Int) 0) ?_)
      refine bodyPost_ret (results_row2 Tryd.results24 _ _ (w.heap.size + 1) _ rfl (hr2.setRow _) Tryd.underlying37 rfl infoFr6) rfl ?_
      exact ⟨rfl, below_setRow hbB (Nat.le_succ _) _⟩
    · have hx : x = cntX E2 := by rw [HX.out, hnB]; simp [hnA]
      have a1 : ((nA : Int) == 0) = false := beq_eq_false_iff_ne.2 (by omega)
      clear HX
      clear hnA hnB C3 C5
      go_enter Tryd.func24, Tryd.ntmps24
      go_wp2_with fail
      rw [← hW]
      clear hW e4
      refine (C1.out _ (HR.out.below hb0)).mono ?_
      rintro e w1 ⟨rfl, hb1⟩
      have hg1 := hg0.below hb1
      have hr1 := hr0.below hb1
      have hbA := chain2 hb0 hb0.size hb1
      have e4 := hg1.cell 4
      clear hg0 hr0 hb0 hb1 C1
      go_wp2_with fail
      refine (C2.out _ (HR.out.below hbA)).mono ?_
      rintro e w2 ⟨rfl, hb2⟩
      have hg2 := hg1.below hb2
      have hr2 := hr1.below hb2
      have hbB := chain2 hbA hbA.size hb2
      have e3' := hg2.cell 3
      have e4' := hg2.cell 4
      clear hg1 hr1 hbA hb2 C2 e4
      go_wp2_with fail
      refine (C4.out _ (HR.out.below hbB)).mono ?_
      rintro e w3 ⟨⟨v3, rfl, ho3⟩, hb3⟩
      have hr3 := hr2.below hb3
      have hg3 := hg2.below hb3
      have hbC := chain2 hbB hbB.size hb3
      have e3'' := hg3.cell 3
      obtain ⟨ao3, cp3, rfl⟩ := Reads.strs ho3.reads
      have hrd := ho3.reads
      clear ho3 e3'' e3' e4' hg2 hg3 hr2 hbB hb3 C4
      by_cases hE0 : E2 = []
      · subst hE0
        have hx2 : x = .error 24 := hx
        subst hx2
        go_wp2_with (refine wpList_store_row rfl 37 _ _ rfl (w.heap.size + 1) _ rfl rfl 37 #[.int .i64 0, .int .i64 0] hr3 infoFr6 rfl (oneF6 0 0) ?_)
        refine bodyPost_ret (results_row2 Tryd.results24 _ _ (w.heap.size + 1) _ rfl (hr3.setRow _) Tryd.underlying37 rfl infoFr6) rfl ?_
        exact ⟨rfl, below_setRow hbC (Nat.le_succ _) _⟩
      · obtain ⟨a, r, hE⟩ : ∃ a r, E2 = a :: r := List.exists_cons_of_ne_nil hE0
        clear hE0
        have hlen : (E2.length : Int) ≠ 0 := by rw [hE]; simp; omega
        have hne0 : ((E2.length : Int) == 0) = false := by simpa using hlen
        have hp1 : 0 < E2.length := by omega
        have hp2 : (0 : Int) < (E2.length : Int) := by omega
        have hp3 : ¬ E2 = [] := by rw [hE]; simp
        have hx2 : x = if E2.all (goodN ((numberL a).getD 0)) then (if 2048 < (numberL a).getD 0 then .error 23 else .ok (1, (numberL a).getD 0)) else .error 24 := by rw [hx, hE]; rfl
        have hal := S2.out.2 a (by rw [hE]; simp)
        obtain ⟨b, off, cap', hv, hcell⟩ := hrd.at_some (by rw [List.length_map]; omega)
        have hce := hcell 0 (strV a) (by rw [hE]; rfl)
        rw [Nat.add_zero] at hce
        rw [List.length_map] at hv
        cases hv
        have c2 := C6.out a w3 hal
        obtain ⟨F, hF⟩ : ∃ F, (numberL a).getD 0 = F := ⟨_, rfl⟩
        rw [hF] at hx2 c2
        have HX := hid hx2
        have D2 := hid c2
        have HC := hid hcell
        clear c2 hx hx2 hcell hal hE hF hlen hrd
        go_wp2_with fail
        refine D2.out.mono ?_
        rintro e w4 ⟨rfl, rfl⟩
        clear D2 hce
        go_wp2_with fail
        go_loopw [14] (fun i wr => ∃ k : Nat, k ≤ E2.length ∧ i = .int .i64 (k : Int) ∧ (E2.take k).all (goodN F) = true ∧ w3 = wr) (fun i _ => E2.length - (intOf i).toNat)
        case atStart => exact ⟨0, Nat.zero_le _, rfl, rfl, rfl⟩
        case round =>
          obtain ⟨k, hk, rfl, hall, rfl⟩ := hrel
          have HA := hid hall
          have hEl := S2.out.1
          clear hall
          by_cases hlt : k < E2.length
          · obtain ⟨y, hy⟩ : ∃ y, E2[k]? = some y := ⟨_, List.getElem?_eq_getElem hlt⟩
            have hcx := HC.out k (strV y) (by rw [List.getElem?_map, hy]; rfl)
            have hmem := List.mem_of_getElem? hy
            have c3 := C6.out y w3 (S2.out.2 y hmem)
            have ht := all_take (f := F) hy
            have hgd : goodN F y = ((numberL y).isSome && (numberL y).getD 0 == F) := rfl
            have HM := hid hmem
            have HT := hid ht
            clear hy hmem ht
            cases hnx : numberL y with
            | none =>
              rw [hnx] at c3 hgd
              simp only [Option.isSome_none, Option.getD_none, Bool.false_and] at c3 hgd
              have hXe : x = .error 24 := by rw [HX.out, all_not HM.out hgd]; rfl
              have D3 := hid c3
              subst hXe
              clear c3 hnx hgd
              go_wp2_with fail
              refine D3.out.mono ?_
              rintro e w5 ⟨rfl, rfl⟩
              go_wp2_with (refine wpList_store_row rfl 37 _ _ rfl (w.heap.size + 1) _ rfl rfl 37 #[.int .i64 0, .int .i64 0] hr3 infoFr6 rfl (oneF6 0 0) ?_)
              refine bodyPost_ret (results_row2 Tryd.results24 _ _ (w.heap.size + 1) _ rfl (hr3.setRow _) Tryd.underlying37 rfl infoFr6) rfl ?_
              exact ⟨rfl, below_setRow hbC (Nat.le_succ _) _⟩
            | some mm =>
              rw [hnx] at c3 hgd
              simp only [Option.isSome_some, Option.getD_some, Bool.true_and] at c3 hgd
              have D3 := hid c3
              by_cases hmF : mm = F
              · have hg1 : goodN F y = true := by rw [hgd, hmF]; simp
                have z1 : ((mm : Int) == (F : Int)) = true := by simp; omega
                have z2 : ((mm : Int) != (F : Int)) = false := by simp; omega
                have hal2 : (E2.take (k + 1)).all (goodN F) = true := by rw [HT.out, HA.out, hg1]; rfl
                have HA2 := hid hal2
                clear c3 hnx hgd hg1 hal2 hmF
                go_wp2_with fail
                refine D3.out.mono ?_
                rintro e w5 ⟨rfl, rfl⟩
                go_wp2_with fail
                go_roundw
                case rel => exact ⟨k + 1, hlt, by go_num, HA2.out, by trivial⟩
                case measure => simp [intOf]; omega
              · have hg1 : goodN F y = false := by rw [hgd]; simpa using hmF
                have z1 : ((mm : Int) == (F : Int)) = false := beq_eq_false_iff_ne.2 (by omega)
                have z2 : ((mm : Int) != (F : Int)) = true := by rw [bne, z1]; rfl
                have hXe : x = .error 24 := by rw [HX.out, all_not HM.out hg1]; rfl
                subst hXe
                clear c3 hnx hgd hg1 hmF
                go_wp2_with fail
                refine D3.out.mono ?_
                rintro e w5 ⟨rfl, rfl⟩
                go_wp2_with (refine wpList_store_row rfl 37 _ _ rfl (w.heap.size + 1) _ rfl rfl 37 #[.int .i64 0, .int .i64 0] hr3 infoFr6 rfl (oneF6 0 0) ?_)
                refine bodyPost_ret (results_row2 Tryd.results24 _ _ (w.heap.size + 1) _ rfl (hr3.setRow _) Tryd.underlying37 rfl infoFr6) rfl ?_
                exact ⟨rfl, below_setRow hbC (Nat.le_succ _) _⟩
          · have hall := HA.out
            rw [List.take_of_length_le (by omega)] at hall
            have hx2 := HX.out
            rw [hall, if_pos rfl] at hx2
            clear hall
            by_cases h2048 : (2048 : Int) < (F : Int)
            · rw [if_pos (by omega)] at hx2
              subst hx2
              clear HX
              go_wp2_with (refine wpList_store_row rfl 37 _ _ rfl (w.heap.size + 1) _ rfl rfl 37 #[.int .i64 0, .int .i64 0] hr3 infoFr6 rfl (oneF6 0 0) ?_)
              refine bodyPost_ret (results_row2 Tryd.results24 _ _ (w.heap.size + 1) _ rfl (hr3.setRow _) Tryd.underlying37 rfl infoFr6) rfl ?_
              exact ⟨rfl, below_setRow hbC (Nat.le_succ _) _⟩
            · rw [if_neg (by omega)] at hx2
              subst hx2
              clear HX
              go_wp2_with (refine wpList_store_row rfl 37 _ _ rfl (w.heap.size + 1) _ rfl rfl 37 #[.int .i64 0, .int .i64 0] hr3 infoFr6 rfl (oneF6 1 (F : Int)) ?_)
              refine bodyPost_ret (results_row2 Tryd.results24 _ _ (w.heap.size + 1) _ rfl (hr3.setRow _) Tryd.underlying37 rfl infoFr6) rfl ?_
              exact ⟨rfl, below_setRow hbC (Nat.le_succ _) _⟩
  · have b1 : (0 : Int) < (nB : Int) := by omega
    by_cases hnA : nA = 0
    · have a2 : ¬ (0 : Int) < (nA : Int) := by omega
      by_cases hz : z = 0
      · have hx : x = .error 24 := by rw [HX.out, if_neg (by simpa using hnB), hz]; simp
        subst hx
        have z1 : (z == 0) = true := by simpa using hz
        clear hz hnA hnB HX
        go_enter Tryd.func24, Tryd.ntmps24
        go_wp2_with fail
        rw [← hW]
        clear hW e4
        refine (C1.out _ (HR.out.below hb0)).mono ?_
        rintro e w1 ⟨rfl, hb1⟩
        have hg1 := hg0.below hb1
        have hr1 := hr0.below hb1
        have hbA := chain2 hb0 hb0.size hb1
        have e4 := hg1.cell 4
        clear hg0 hr0 hb0 hb1 C1
        go_wp2_with fail
        refine (C2.out _ (HR.out.below hbA)).mono ?_
        rintro e w2 ⟨rfl, hb2⟩
        have hg2 := hg1.below hb2
        have hr2 := hr1.below hb2
        have hbB := chain2 hbA hbA.size hb2
        have e3' := hg2.cell 3
        have e4' := hg2.cell 4
        clear hg1 hr1 hbA hb2 C2 e4
        go_wp2_with fail
        refine (C3.out _ (HR.out.below hbB)).mono ?_
        rintro e w3 ⟨⟨v3, rfl, ho3⟩, hb3⟩
        have hr3 := hr2.below hb3
        have hg3 := hg2.below hb3
        have hbC := chain2 hbB hbB.size hb3
        have e3'' := hg3.cell 3
        obtain ⟨ao3, cp3, rfl⟩ := Reads.strs ho3.reads
        go_wp2_with (refine wpList_store_row rfl 37 _ _ rfl (w.heap.size + 1) _ rfl rfl 37 #[.int .i64 0, .int .i64 0] hr3 infoFr6 rfl (oneF6 0 0) ?_)
        refine bodyPost_ret (results_row2 Tryd.results24 _ _ (w.heap.size + 1) _ rfl (hr3.setRow _) Tryd.underlying37 rfl infoFr6) rfl ?_
        exact ⟨rfl, below_setRow hbC (Nat.le_succ _) _⟩
      · have z1 : (z == 0) = false := by simpa using hz
        have hx : x = if justX E1 then .ok (2, 0) else .error 24 := by
          rw [HX.out, if_neg (by simpa using hnB), hnA, z1]
          cases justX E1 <;> rfl
        have HX2 := hid hx
        clear hz hnA hnB HX hx
        match E1, C3, S1, HX2 with
        | [], C3, S1, HX2 =>
          have hx : x = .error 24 := HX2.out
          subst hx
          go_enter Tryd.func24, Tryd.ntmps24
          go_wp2_with fail
          rw [← hW]
          clear hW e4
          refine (C1.out _ (HR.out.below hb0)).mono ?_
          rintro e w1 ⟨rfl, hb1⟩
          have hg1 := hg0.below hb1
          have hr1 := hr0.below hb1
          have hbA := chain2 hb0 hb0.size hb1
          have e4 := hg1.cell 4
          clear hg0 hr0 hb0 hb1 C1
          go_wp2_with fail
          refine (C2.out _ (HR.out.below hbA)).mono ?_
          rintro e w2 ⟨rfl, hb2⟩
          have hg2 := hg1.below hb2
          have hr2 := hr1.below hb2
          have hbB := chain2 hbA hbA.size hb2
          have e3' := hg2.cell 3
          have e4' := hg2.cell 4
          clear hg1 hr1 hbA hb2 C2 e4
          go_wp2_with fail
          refine (C3.out _ (HR.out.below hbB)).mono ?_
          rintro e w3 ⟨⟨v3, rfl, ho3⟩, hb3⟩
          have hr3 := hr2.below hb3
          have hg3 := hg2.below hb3
          have hbC := chain2 hbB hbB.size hb3
          have e3'' := hg3.cell 3
          obtain ⟨ao3, cp3, rfl⟩ := Reads.strs ho3.reads
          go_wp2_with (refine wpList_store_row rfl 37 _ _ rfl (w.heap.size + 1) _ rfl rfl 37 #[.int .i64 0, .int .i64 0] hr3 infoFr6 rfl (oneF6 0 0) ?_)
          refine bodyPost_ret (results_row2 Tryd.results24 _ _ (w.heap.size + 1) _ rfl (hr3.setRow _) Tryd.underlying37 rfl infoFr6) rfl ?_
          exact ⟨rfl, below_setRow hbC (Nat.le_succ _) _⟩
        | a :: b :: r, C3, S1, HX2 =>
          have hx : x = .error 24 := HX2.out
          subst hx
          have hn : ((((a :: b :: r).length : Nat) : Int) == 1) = false := by simp; omega
          have hn2 : ((((a :: b :: r).length : Nat) : Int) != 1) = true := by rw [bne, hn]; rfl
          generalize a :: b :: r = E at *
          go_enter Tryd.func24, Tryd.ntmps24
          go_wp2_with fail
          rw [← hW]
          clear hW e4
          refine (C1.out _ (HR.out.below hb0)).mono ?_
          rintro e w1 ⟨rfl, hb1⟩
          have hg1 := hg0.below hb1
          have hr1 := hr0.below hb1
          have hbA := chain2 hb0 hb0.size hb1
          have e4 := hg1.cell 4
          clear hg0 hr0 hb0 hb1 C1
          go_wp2_with fail
          refine (C2.out _ (HR.out.below hbA)).mono ?_
          rintro e w2 ⟨rfl, hb2⟩
          have hg2 := hg1.below hb2
          have hr2 := hr1.below hb2
          have hbB := chain2 hbA hbA.size hb2
          have e3' := hg2.cell 3
          have e4' := hg2.cell 4
          clear hg1 hr1 hbA hb2 C2 e4
          go_wp2_with fail
          refine (C3.out _ (HR.out.below hbB)).mono ?_
          rintro e w3 ⟨⟨v3, rfl, ho3⟩, hb3⟩
          have hr3 := hr2.below hb3
          have hg3 := hg2.below hb3
          have hbC := chain2 hbB hbB.size hb3
          have e3'' := hg3.cell 3
          obtain ⟨ao3, cp3, rfl⟩ := Reads.strs ho3.reads
          go_wp2_with (refine wpList_store_row rfl 37 _ _ rfl (w.heap.size + 1) _ rfl rfl 37 #[.int .i64 0, .int .i64 0] hr3 infoFr6 rfl (oneF6 0 0) ?_)
          refine bodyPost_ret (results_row2 Tryd.results24 _ _ (w.heap.size + 1) _ rfl (hr3.setRow _) Tryd.underlying37 rfl infoFr6) rfl ?_
          exact ⟨rfl, below_setRow hbC (Nat.le_succ _) _⟩
        | [a], C3, S1, HX2 =>
          have hal := S1.out.2 a (by simp)
          have hx0 : x = if lowerL a == chW then .ok (2, 0) else .error 24 := HX2.out
          have D5 := hid (fun W => C5.out a W hal)
          cases hq : (lowerL a == chW) with
          | true =>
            rw [hq] at hx0
            have hx : x = .ok (2, 0) := hx0
            subst hx
            unfold chW at hq
            have hq2 : (lowerL a != [99, 104, 117, 110, 107, 101, 100]) = false := by rw [bne, hq]; rfl
            clear hx0 HX2
            go_enter Tryd.func24, Tryd.ntmps24
            go_wp2_with fail
            rw [← hW]
            clear hW e4
            refine (C1.out _ (HR.out.below hb0)).mono ?_
            rintro e w1 ⟨rfl, hb1⟩
            have hg1 := hg0.below hb1
            have hr1 := hr0.below hb1
            have hbA := chain2 hb0 hb0.size hb1
            have e4 := hg1.cell 4
            clear hg0 hr0 hb0 hb1 C1
            go_wp2_with fail
            refine (C2.out _ (HR.out.below hbA)).mono ?_
            rintro e w2 ⟨rfl, hb2⟩
            have hg2 := hg1.below hb2
            have hr2 := hr1.below hb2
            have hbB := chain2 hbA hbA.size hb2
            have e3' := hg2.cell 3
            have e4' := hg2.cell 4
            clear hg1 hr1 hbA hb2 C2 e4
            go_wp2_with fail
            refine (C3.out _ (HR.out.below hbB)).mono ?_
            rintro e w3 ⟨⟨v3, rfl, ho3⟩, hb3⟩
            have hr3 := hr2.below hb3
            have hg3 := hg2.below hb3
            have hbC := chain2 hbB hbB.size hb3
            have e3'' := hg3.cell 3
            obtain ⟨b, off, cap', rfl, hcell⟩ := ho3.reads.at_some (by simp)
            have hce := hcell 0 (strV a) rfl
            rw [Nat.add_zero] at hce
            clear ho3
            go_wp2_with fail
            refine (D5.out _).mono ?_
            rintro e w4 ⟨rfl, hb4⟩
            have hr4 := hr3.below hb4
            have hbD := chain2 hbC hbC.size hb4
            go_wp2_with (refine wpList_store_row rfl 37 _ _ rfl (w.heap.size + 1) _ rfl rfl 37 #[.int .i64 0, .int .i64 0] hr4 infoFr6 rfl (oneF6 2 0) ?_)
            refine bodyPost_ret (results_row2 Tryd.results24 _ _ (w.heap.size + 1) _ rfl (hr4.setRow _) Tryd.underlying37 rfl infoFr6) rfl ?_
            exact ⟨rfl, below_setRow hbD (Nat.le_succ _) _⟩
          | false =>
            rw [hq] at hx0
            have hx : x = .error 24 := hx0
            subst hx
            unfold chW at hq
            have hq2 : (lowerL a != [99, 104, 117, 110, 107, 101, 100]) = true := by rw [bne, hq]; rfl
            clear hx0 HX2
            go_enter Tryd.func24, Tryd.ntmps24
            go_wp2_with fail
            rw [← hW]
            clear hW e4
            refine (C1.out _ (HR.out.below hb0)).mono ?_
            rintro e w1 ⟨rfl, hb1⟩
            have hg1 := hg0.below hb1
            have hr1 := hr0.below hb1
            have hbA := chain2 hb0 hb0.size hb1
            have e4 := hg1.cell 4
            clear hg0 hr0 hb0 hb1 C1
            go_wp2_with fail
            refine (C2.out _ (HR.out.below hbA)).mono ?_
            rintro e w2 ⟨rfl, hb2⟩
            have hg2 := hg1.below hb2
            have hr2 := hr1.below hb2
            have hbB := chain2 hbA hbA.size hb2
            have e3' := hg2.cell 3
            have e4' := hg2.cell 4
            clear hg1 hr1 hbA hb2 C2 e4
            go_wp2_with fail
            refine (C3.out _ (HR.out.below hbB)).mono ?_
            rintro e w3 ⟨⟨v3, rfl, ho3⟩, hb3⟩
            have hr3 := hr2.below hb3
            have hg3 := hg2.below hb3
            have hbC := chain2 hbB hbB.size hb3
            have e3'' := hg3.cell 3
            obtain ⟨b, off, cap', rfl, hcell⟩ := ho3.reads.at_some (by simp)
            have hce := hcell 0 (strV a) rfl
            rw [Nat.add_zero] at hce
            clear ho3
            go_wp2_with fail
            refine (D5.out _).mono ?_
            rintro e w4 ⟨rfl, hb4⟩
            have hr4 := hr3.below hb4
            have hbD := chain2 hbC hbC.size hb4
            go_wp2_with (refine wpList_store_row rfl 37 _ _ rfl (w.heap.size + 1) _ rfl rfl 37 #[.int .i64 0, .int .i64 0] hr4 infoFr6 rfl (oneF6 0 0) ?_)
            refine bodyPost_ret (results_row2 Tryd.results24 _ _ (w.heap.size + 1) _ rfl (hr4.setRow _) Tryd.underlying37 rfl infoFr6) rfl ?_
            exact ⟨rfl, below_setRow hbD (Nat.le_succ _) _⟩
    · have hx : x = .error 24 := by rw [HX.out, if_neg (by simpa using hnB)]; simp [hnA]
      subst hx
      have a2 : (0 : Int) < (nA : Int) := by omega
      clear hnA hnB HX
      go_enter Tryd.func24, Tryd.ntmps24
      go_wp2_with fail
      rw [← hW]
      clear hW e4
      refine (C1.out _ (HR.out.below hb0)).mono ?_
      rintro e w1 ⟨rfl, hb1⟩
      have hg1 := hg0.below hb1
      have hr1 := hr0.below hb1
      have hbA := chain2 hb0 hb0.size hb1
      have e4 := hg1.cell 4
      clear hg0 hr0 hb0 hb1 C1
      go_wp2_with fail
      refine (C2.out _ (HR.out.below hbA)).mono ?_
      rintro e w2 ⟨rfl, hb2⟩
      have hg2 := hg1.below hb2
      have hr2 := hr1.below hb2
      have hbB := chain2 hbA hbA.size hb2
      have e3' := hg2.cell 3
      have e4' := hg2.cell 4
      clear hg1 hr1 hbA hb2 C2 e4
      go_wp2_with fail
      refine (C3.out _ (HR.out.below hbB)).mono ?_
      rintro e w3 ⟨⟨v3, rfl, ho3⟩, hb3⟩
      have hr3 := hr2.below hb3
      have hg3 := hg2.below hb3
      have hbC := chain2 hbB hbB.size hb3
      have e3'' := hg3.cell 3
      obtain ⟨ao3, cp3, rfl⟩ := Reads.strs ho3.reads
      go_wp2_with (refine wpList_store_row rfl 37 _ _ rfl (w.heap.size + 1) _ rfl rfl 37 #[.int .i64 0, .int .i64 0] hr3 infoFr6 rfl (oneF6 0 0) ?_)
      refine bodyPost_ret (results_row2 Tryd.results24 _ _ (w.heap.size + 1) _ rfl (hr3.setRow _) Tryd.underlying37 rfl infoFr6) rfl ?_
      exact ⟨rfl, below_setRow hbC (Nat.le_succ _) _⟩
end Go.Proofs.YtfoghjhdjmapnaaDoor
/-
  The document's answers of layer 6: OfRequest, OfResponse; pantrymade.Frame.
-/
namespace Go.Proofs.YtfoghjhdjmapnaaDoor
open Go.RowKit Go.Pantry

set_option maxRecDepth 100000 in
set_option maxHeartbeats 8000000 in
theorem refOfRequest_any (m t : List UInt8) (st z : Int) (v : Value) (L : List Fld) (w : World) (hr : Reads2 w v L) (hkn : L.length ≤ 1000) (hks : ∀ f ∈ L, f.1.length ≤ 100000 ∧ f.2.length ≤ 100000) :
    Calls Tryd.prog 12 #[.agg #[strV m, strV t, .int .i64 st, .int .i64 z, v]] w fun e w' => FrameIs (frameX z 0 L) e ∧ Below w.heap.size w w' := by
  obtain ⟨ao, cap, rfl⟩ := hr.form
  obtain ⟨W, hW⟩ : ∃ W, W = (w.alloc (.cells #[strV m, strV t, .int .i64 st, .int .i64 z, .slice ao L.length cap] 42)).alloc (.cells #[.int .i64 0, .int .i64 0] 37) := ⟨_, rfl⟩
  have hb0 : Below w.heap.size w W := by rw [hW]; exact (below_alloc _ _).alloc (by simp) _
  have hg0 : rowIs W w.heap.size #[strV m, strV t, .int .i64 st, .int .i64 z, .slice ao L.length cap] 42 := by rw [hW]; exact (rowIs_new _ _ _).below (below_alloc _ _)
  have hr0 : rowIs W (w.heap.size + 1) #[.int .i64 0, .int .i64 0] 37 := by rw [hW]; exact rowIs_new_at _ _ _ _ (by simp)
  have e0 := hg0.cell 0
  have e1 := hg0.cell 1
  have e2 := hg0.cell 2
  have e3 := hg0.cell 3
  have e4 := hg0.cell 4
  rw [hW] at e0 e1 e2 e3 e4
  have C1 := hid (fun W h => refOf_any m t st z 0 (.slice ao L.length cap) L W h hkn hks)
  have HR := hid hr
  clear hr hkn hks
  go_enter Tryd.func12, Tryd.ntmps12
  go_wp2_with fail
  rw [← hW]
  clear hW e0 e1 e2 e3 e4
  refine (C1.out _ (HR.out.below hb0)).mono ?_
  rintro e w1 ⟨hf, hb1⟩
  obtain ⟨t1, t2, t3, ht, rfl⟩ := hf.form
  have hr1 := hr0.below hb1
  have hbA := chain2 hb0 hb0.size hb1
  clear hg0 hr0 hb0 hb1 C1 hf
  go_wp2_with (refine wpList_store_row rfl 37 _ _ rfl (w.heap.size + 1) _ rfl rfl 37 #[.int .i64 0, .int .i64 0] hr1 infoFr6 rfl (oneF6 t1 t2) ?_)
  refine bodyPost_ret (results_row2 Tryd.results12 _ _ (w.heap.size + 1) _ rfl (hr1.setRow _) Tryd.underlying37 rfl infoFr6) rfl ?_
  exact ⟨by unfold FrameIs; rw [ht]; rfl, below_setRow hbA (Nat.le_succ _) _⟩
set_option maxRecDepth 100000 in
set_option maxHeartbeats 8000000 in
theorem refOfResponse_any (mt m t : List UInt8) (st z : Int) (v : Value) (L : List Fld) (w : World) (hr : Reads2 w v L) (hkn : L.length ≤ 1000) (hks : ∀ f ∈ L, f.1.length ≤ 100000 ∧ f.2.length ≤ 100000) :
    Calls Tryd.prog 16 #[strV mt, .agg #[strV m, strV t, .int .i64 st, .int .i64 z, v]] w fun e w' => FrameIs (if bareX (mt == [72, 69, 65, 68]) st then .ok (0, 0) else frameX z 3 L) e ∧ Below w.heap.size w w' := by
  obtain ⟨ao, cap, rfl⟩ := hr.form
  obtain ⟨W, hW⟩ : ∃ W, W = (w.alloc (.cells #[strV m, strV t, .int .i64 st, .int .i64 z, .slice ao L.length cap] 42)).alloc (.cells #[.int .i64 0, .int .i64 0] 37) := ⟨_, rfl⟩
  have hb0 : Below w.heap.size w W := by rw [hW]; exact (below_alloc _ _).alloc (by simp) _
  have hg0 : rowIs W w.heap.size #[strV m, strV t, .int .i64 st, .int .i64 z, .slice ao L.length cap] 42 := by rw [hW]; exact (rowIs_new _ _ _).below (below_alloc _ _)
  have hr0 : rowIs W (w.heap.size + 1) #[.int .i64 0, .int .i64 0] 37 := by rw [hW]; exact rowIs_new_at _ _ _ _ (by simp)
  have e0 := hg0.cell 0
  have e1 := hg0.cell 1
  have e2 := hg0.cell 2
  have e3 := hg0.cell 3
  have e4 := hg0.cell 4
  rw [hW] at e0 e1 e2 e3 e4
  have C1 := hid (fun W h => refOf_any m t st z 3 (.slice ao L.length cap) L W h hkn hks)
  have HR := hid hr
  have hbx : bareX (mt == [72, 69, 65, 68]) st = ((mt == [72, 69, 65, 68]) || (decide (st < 200) || st == 204 || st == 304)) := rfl
  generalize bareX (mt == [72, 69, 65, 68]) st = bx at hbx ⊢
  clear hr hkn hks
  obtain ⟨q1, hq1⟩ : ∃ q, (mt == [72, 69, 65, 68]) = q := ⟨_, rfl⟩
  obtain ⟨q2, hq2⟩ : ∃ q, decide (st < 200) = q := ⟨_, rfl⟩
  obtain ⟨q3, hq3⟩ : ∃ q, (st == 204) = q := ⟨_, rfl⟩
  obtain ⟨q4, hq4⟩ : ∃ q, (st == 304) = q := ⟨_, rfl⟩
  rw [hq1, hq2, hq3, hq4] at hbx
  have hcase : (q1 = true ∧ bx = true) ∨ (q1 = false ∧ q2 = true ∧ bx = true) ∨ (q1 = false ∧ q2 = false ∧ q3 = true ∧ bx = true) ∨ (q1 = false ∧ q2 = false ∧ q3 = false ∧ q4 = true ∧ bx = true) ∨ (q1 = false ∧ q2 = false ∧ q3 = false ∧ q4 = false ∧ bx = false) := by
    rw [hbx]
    cases q1 <;> cases q2 <;> cases q3 <;> cases q4 <;> decide
  clear hbx
  rcases hcase with ⟨rfl, rfl⟩ | ⟨rfl, rfl, rfl⟩ | ⟨rfl, rfl, rfl, rfl⟩ | ⟨rfl, rfl, rfl, rfl, rfl⟩ | ⟨rfl, rfl, rfl, rfl, rfl⟩
  · go_enter Tryd.func16, Tryd.ntmps16
    rw [hW] at hr0 hb0
    go_wp2_with (refine wpList_store_row rfl 37 _ _ rfl (w.heap.size + 1) _ rfl rfl 37 #[.int .i64 0, .int .i64 0] hr0 infoFr6 rfl (oneF6 0 0) ?_)
    first
    | (refine bodyPost_ret (results_row2 Tryd.results16 _ _ (w.heap.size + 1) _ rfl (hr0.setRow _) Tryd.underlying37 rfl infoFr6) rfl ?_; exact ⟨rfl, below_setRow hb0 (Nat.le_succ _) _⟩)
    | (refine bodyPost_ret (results_row2 Tryd.results16 _ _ (w.heap.size + 1) _ rfl hr0 Tryd.underlying37 rfl infoFr6) rfl ?_; exact ⟨rfl, hb0⟩)
  · go_enter Tryd.func16, Tryd.ntmps16
    rw [hW] at hr0 hb0
    go_wp2_with (refine wpList_store_row rfl 37 _ _ rfl (w.heap.size + 1) _ rfl rfl 37 #[.int .i64 0, .int .i64 0] hr0 infoFr6 rfl (oneF6 0 0) ?_)
    first
    | (refine bodyPost_ret (results_row2 Tryd.results16 _ _ (w.heap.size + 1) _ rfl (hr0.setRow _) Tryd.underlying37 rfl infoFr6) rfl ?_; exact ⟨rfl, below_setRow hb0 (Nat.le_succ _) _⟩)
    | (refine bodyPost_ret (results_row2 Tryd.results16 _ _ (w.heap.size + 1) _ rfl hr0 Tryd.underlying37 rfl infoFr6) rfl ?_; exact ⟨rfl, hb0⟩)
  · go_enter Tryd.func16, Tryd.ntmps16
    rw [hW] at hr0 hb0
    go_wp2_with (refine wpList_store_row rfl 37 _ _ rfl (w.heap.size + 1) _ rfl rfl 37 #[.int .i64 0, .int .i64 0] hr0 infoFr6 rfl (oneF6 0 0) ?_)
    first
    | (refine bodyPost_ret (results_row2 Tryd.results16 _ _ (w.heap.size + 1) _ rfl (hr0.setRow _) Tryd.underlying37 rfl infoFr6) rfl ?_; exact ⟨rfl, below_setRow hb0 (Nat.le_succ _) _⟩)
    | (refine bodyPost_ret (results_row2 Tryd.results16 _ _ (w.heap.size + 1) _ rfl hr0 Tryd.underlying37 rfl infoFr6) rfl ?_; exact ⟨rfl, hb0⟩)
  · go_enter Tryd.func16, Tryd.ntmps16
    rw [hW] at hr0 hb0
    go_wp2_with (refine wpList_store_row rfl 37 _ _ rfl (w.heap.size + 1) _ rfl rfl 37 #[.int .i64 0, .int .i64 0] hr0 infoFr6 rfl (oneF6 0 0) ?_)
    first
    | (refine bodyPost_ret (results_row2 Tryd.results16 _ _ (w.heap.size + 1) _ rfl (hr0.setRow _) Tryd.underlying37 rfl infoFr6) rfl ?_; exact ⟨rfl, below_setRow hb0 (Nat.le_succ _) _⟩)
    | (refine bodyPost_ret (results_row2 Tryd.results16 _ _ (w.heap.size + 1) _ rfl hr0 Tryd.underlying37 rfl infoFr6) rfl ?_; exact ⟨rfl, hb0⟩)
  · go_enter Tryd.func16, Tryd.ntmps16
    go_wp2_with fail
    rw [← hW]
    clear hW e0 e1 e2 e3 e4
    refine (C1.out _ (HR.out.below hb0)).mono ?_
    rintro e w1 ⟨hf, hb1⟩
    obtain ⟨t1, t2, t3, ht, rfl⟩ := hf.form
    have hr1 := hr0.below hb1
    have hbA := chain2 hb0 hb0.size hb1
    clear hg0 hr0 hb0 hb1 C1 hf
    go_wp2_with (refine wpList_store_row rfl 37 _ _ rfl (w.heap.size + 1) _ rfl rfl 37 #[.int .i64 0, .int .i64 0] hr1 infoFr6 rfl (oneF6 t1 t2) ?_)
    refine bodyPost_ret (results_row2 Tryd.results16 _ _ (w.heap.size + 1) _ rfl (hr1.setRow _) Tryd.underlying37 rfl infoFr6) rfl ?_
    exact ⟨by unfold FrameIs; simp only; rw [ht]; rfl, below_setRow hbA (Nat.le_succ _) _⟩
set_option maxHeartbeats 4000000 in
theorem madeFrame_any (a b : Int) (w : World) :
    Calls Tryd.prog 14 #[.agg #[.int .i64 a, .int .i64 b]] w fun e w' => e = .returned (.agg #[.int .i64 a, .int .i64 b]) ∧ Below w.heap.size w w' := by
  obtain ⟨W, hW⟩ : ∃ W, W = (w.alloc (.cells #[.int .i64 a, .int .i64 b] 33)).alloc (.cells #[.int .i64 0, .int .i64 0] 37) := ⟨_, rfl⟩
  have hb0 : Below w.heap.size w W := by rw [hW]; exact (below_alloc _ _).alloc (by simp) _
  have hg0 : rowIs W w.heap.size #[.int .i64 a, .int .i64 b] 33 := by rw [hW]; exact (rowIs_new _ _ _).below (below_alloc _ _)
  have hr0 : rowIs W (w.heap.size + 1) #[.int .i64 0, .int .i64 0] 37 := by rw [hW]; exact rowIs_new_at _ _ _ _ (by simp)
  have e0 := hg0.cell 0
  have e1 := hg0.cell 1
  rw [hW] at e0 e1 hr0
  go_enter Tryd.func14, Tryd.ntmps14
  go_wp2_with (refine wpList_store_row rfl 37 _ _ rfl (w.heap.size + 1) _ rfl rfl 37 #[.int .i64 0, .int .i64 0] hr0 infoFr6 rfl (oneF6 a b) ?_)
  refine bodyPost_ret (results_row Tryd.results14 _ _ (w.heap.size + 1) _ rfl (hr0.setRow _) Tryd.underlying37 rfl infoFr6) rfl ?_
  rw [hW] at hb0
  exact ⟨rfl, below_setRow hb0 (Nat.le_succ _) _⟩
end Go.Proofs.YtfoghjhdjmapnaaDoor
/-
  Contract of pantrymade.Request.
-/
namespace Go.Proofs.YtfoghjhdjmapnaaDoor
open Go.RowKit Go.Pantry

theorem infoHdS : (Tryd.prog.info? 42).map (·.size) = some 5 := by kernel_rfl
theorem one5 (a b : List UInt8) (x y : Int) (ao : Option Addr) (n c : Nat) : (#[strV a, strV b, .int .i64 x, .int .i64 y, .slice ao n c] : Array Value).all (·.oneCell') = true := by simp [Value.oneCell']
/-- a head as the document has it, made -/
def MadeHd (m t : List UInt8) (st z : Int) (L : List Fld) (e : Ending) (w' : World) : Prop := ∃ ao c, e = .returned (.agg #[strV m, strV t, .int .i64 st, .int .i64 z, .slice ao L.length c]) ∧ Reads2 w' (.slice ao L.length c) L
def MadeS (w0 : World) (g : Nat) (cs : Array Value) (t : TypeId) (r : Nat) (u : TypeId) : World → Prop := fun W => Below w0.heap.size w0 W ∧ w0.heap.size ≤ W.heap.size ∧ rowIs W g cs t ∧ ∃ ds, rowIs W r ds u ∧ ds.size = 5
theorem MadeS.below {w0 : World} {g : Nat} {cs : Array Value} {t : TypeId} {r : Nat} {u : TypeId} {W W' : World} (h : MadeS w0 g cs t r u W) (hb : Below W.heap.size W W') : MadeS w0 g cs t r u W' := by
  obtain ⟨h1, h2, h3, ds, h4, h5⟩ := h
  exact ⟨h1.trans (hb.mono h2), Nat.le_trans h2 hb.size, h3.below hb, ds, h4.below hb, h5⟩
theorem MadeS.stored {w0 : World} {g : Nat} {cs : Array Value} {t : TypeId} {r : Nat} {u : TypeId} {W : World} (h : MadeS w0 g cs t r u W) {ds : Array Value} (hd : ds.size = 5) (hr : w0.heap.size ≤ r) (hne : g ≠ r) : MadeS w0 g cs t r u (W.setRow r ds) := by
  obtain ⟨h1, h2, h3, es, h4, h5⟩ := h
  exact ⟨below_setRow h1 hr _, Nat.le_trans h2 (by simp [World.setRow]), h3.setRow_other ds hne, ds, h4.setRow ds, hd⟩
set_option maxRecDepth 100000 in
set_option maxHeartbeats 4000000 in
theorem madeReq_any (m t : List UInt8) (z : Int) (v : Value) (L : List Fld) (w : World) (hr : Reads2 w v L) (hn : L.length < 1000000) :
    Calls Tryd.prog 13 #[.agg #[strV m, strV t, .int .i64 z, v]] w fun e w' => MadeHd m t 0 z L e w' ∧ Below w.heap.size w w' := by
  obtain ⟨ao, cap, rfl⟩ := hr.form
  have cf := fun W h => Fields_any (.slice ao L.length cap) L W h hn
  have CF := hid cf
  have HR := hid hr
  clear cf hr
  obtain ⟨W, hW⟩ : ∃ W, W = (w.alloc (.cells #[strV m, strV t, .int .i64 z, .slice ao L.length cap] 29)).alloc (.cells #[.string ⟨#[]⟩, .string ⟨#[]⟩, .int .i64 0, .int .i64 0, .slice none 0 0] 42) := ⟨_, rfl⟩
  have hbW : Below w.heap.size w W := by rw [hW]; exact (below_alloc _ _).alloc (by simp) _
  have hg : rowIs W w.heap.size #[strV m, strV t, .int .i64 z, .slice ao L.length cap] 29 := by rw [hW]; exact (rowIs_new _ _ _).below (below_alloc _ _)
  have hg2 : rowIs W (w.heap.size + 1) #[.string ⟨#[]⟩, .string ⟨#[]⟩, .int .i64 0, .int .i64 0, .slice none 0 0] 42 := by rw [hW]; exact rowIs_new_at _ _ _ _ (by simp)
  have HS : MadeS w w.heap.size #[strV m, strV t, .int .i64 z, .slice ao L.length cap] 29 (w.heap.size + 1) 42 W.drew := ⟨hbW.drew, hbW.size, hg, ⟨_, hg2, rfl⟩⟩
  have hne : w.heap.size ≠ w.heap.size + 1 := by omega
  have hrl : w.heap.size + 1 < W.drew.heap.size := hg2.lt
  clear hbW hg hg2
  go_enter Tryd.func13, Tryd.ntmps13
  go_wp2_with fail
  rw [← hW]
  clear hW
  refine wp_region_held_drew (S := MadeS w w.heap.size #[strV m, strV t, .int .i64 z, .slice ao L.length cap] 29 (w.heap.size + 1) 42) (by kernel_rfl) HS (fun hH => ?_)
  refine wpAnyH_take (i := 0) (v := ?_) rfl (by kernel_rfl) (by kernel_rfl) (by kernel_rfl) (fun _ _ _ h => h) (Or.inl ⟨by kernel_rfl, ?_⟩) hH ?_
  rotate_left
  · intro W hS
    have h0 := hS.2.2.1.cell 0
    have h1 := hS.2.2.1.cell 1
    have h2 := hS.2.2.1.cell 2
    have h3 := hS.2.2.1.cell 3
    go_simp
    first | done | with_reducible rfl
  simp only [Act.put, List.getElem_toArray, List.getElem_cons_zero, List.setIfInBounds_toArray, List.set_cons_zero, List.set_cons_succ]
  refine wpAnyH_take (i := 1) (v := ?_) rfl (by kernel_rfl) (by kernel_rfl) (by kernel_rfl) (fun _ _ _ h => h) (Or.inl ⟨by kernel_rfl, ?_⟩) hH ?_
  rotate_left
  · intro W hS
    have h0 := hS.2.2.1.cell 0
    have h1 := hS.2.2.1.cell 1
    have h2 := hS.2.2.1.cell 2
    have h3 := hS.2.2.1.cell 3
    go_simp
    first | done | with_reducible rfl
  simp only [Act.put, List.getElem_toArray, List.getElem_cons_succ, List.getElem_cons_zero, List.setIfInBounds_toArray, List.set_cons_zero, List.set_cons_succ]
  refine wpAnyH_take (i := 2) (v := ?_) rfl (by kernel_rfl) (by kernel_rfl) (by kernel_rfl) (fun _ _ _ h => h) (Or.inl ⟨by kernel_rfl, ?_⟩) hH ?_
  rotate_left
  · intro W hS
    have h0 := hS.2.2.1.cell 0
    have h1 := hS.2.2.1.cell 1
    have h2 := hS.2.2.1.cell 2
    have h3 := hS.2.2.1.cell 3
    go_simp
    first | done | with_reducible rfl
  simp only [Act.put, List.getElem_toArray, List.getElem_cons_succ, List.getElem_cons_zero, List.setIfInBounds_toArray, List.set_cons_zero, List.set_cons_succ]
  refine wpAnyH_take (i := 3) (v := ?_) rfl (by kernel_rfl) (by kernel_rfl) (by kernel_rfl) (fun _ _ _ h => h) (Or.inl ⟨by kernel_rfl, ?_⟩) hH ?_
  rotate_left
  · intro W hS
    have h0 := hS.2.2.1.cell 0
    have h1 := hS.2.2.1.cell 1
    have h2 := hS.2.2.1.cell 2
    have h3 := hS.2.2.1.cell 3
    go_simp
    first | done | with_reducible rfl
  simp only [Act.put, List.getElem_toArray, List.getElem_cons_succ, List.getElem_cons_zero, List.setIfInBounds_toArray, List.set_cons_zero, List.set_cons_succ]
  refine wpAnyH_take (i := 4) (v := ?_) rfl (by kernel_rfl) (by kernel_rfl) (by kernel_rfl) (fun _ _ _ h => h) (Or.inl ⟨by kernel_rfl, ?_⟩) hH ?_
  rotate_left
  · intro W hS
    have h0 := hS.2.2.1.cell 0
    have h1 := hS.2.2.1.cell 1
    have h2 := hS.2.2.1.cell 2
    have h3 := hS.2.2.1.cell 3
    go_simp
    first | done | with_reducible rfl
  simp only [Act.put, List.getElem_toArray, List.getElem_cons_succ, List.getElem_cons_zero, List.setIfInBounds_toArray, List.set_cons_zero, List.set_cons_succ]
  refine wpAnyH_take (i := 5) (v := ?_) rfl (by kernel_rfl) (by kernel_rfl) (by kernel_rfl) (fun _ _ _ h => h) (Or.inl ⟨by kernel_rfl, ?_⟩) hH ?_
  rotate_left
  · intro W hS
    have h0 := hS.2.2.1.cell 0
    have h1 := hS.2.2.1.cell 1
    have h2 := hS.2.2.1.cell 2
    have h3 := hS.2.2.1.cell 3
    go_simp
    first | done | with_reducible rfl
  simp only [Act.put, List.getElem_toArray, List.getElem_cons_succ, List.getElem_cons_zero, List.setIfInBounds_toArray, List.set_cons_zero, List.set_cons_succ]
  refine wpAnyH_take (i := 6) (v := ?_) rfl (by kernel_rfl) (by kernel_rfl) (by kernel_rfl) (fun _ _ _ h => h) (Or.inl ⟨by kernel_rfl, ?_⟩) hH ?_
  rotate_left
  · intro W hS
    have h0 := hS.2.2.1.cell 0
    have h1 := hS.2.2.1.cell 1
    have h2 := hS.2.2.1.cell 2
    have h3 := hS.2.2.1.cell 3
    go_simp
    first | done | with_reducible rfl
  simp only [Act.put, List.getElem_toArray, List.getElem_cons_succ, List.getElem_cons_zero, List.setIfInBounds_toArray, List.set_cons_zero, List.set_cons_succ]
  refine wpAnyH_take (i := 7) (v := ?_) rfl (by kernel_rfl) (by kernel_rfl) (by kernel_rfl) (fun _ _ _ h => h) (Or.inl ⟨by kernel_rfl, ?_⟩) hH ?_
  rotate_left
  · intro W hS
    have h0 := hS.2.2.1.cell 0
    have h1 := hS.2.2.1.cell 1
    have h2 := hS.2.2.1.cell 2
    have h3 := hS.2.2.1.cell 3
    go_simp
    first | done | with_reducible rfl
  simp only [Act.put, List.getElem_toArray, List.getElem_cons_succ, List.getElem_cons_zero, List.setIfInBounds_toArray, List.set_cons_zero, List.set_cons_succ]
  refine wpAnyH_take (i := 8) (v := ?_) rfl (by kernel_rfl) (by kernel_rfl) (by kernel_rfl) (fun _ _ _ h => h) (Or.inl ⟨by kernel_rfl, ?_⟩) hH ?_
  rotate_left
  · intro W hS
    have h0 := hS.2.2.1.cell 0
    have h1 := hS.2.2.1.cell 1
    have h2 := hS.2.2.1.cell 2
    have h3 := hS.2.2.1.cell 3
    go_simp
    first | done | with_reducible rfl
  simp only [Act.put, List.getElem_toArray, List.getElem_cons_succ, List.getElem_cons_zero, List.setIfInBounds_toArray, List.set_cons_zero, List.set_cons_succ]
  refine wpAnyH_take (i := 9) (v := ?_) rfl (by kernel_rfl) (by kernel_rfl) (by kernel_rfl) (fun _ _ _ h => h) (Or.inl ⟨by kernel_rfl, ?_⟩) hH ?_
  rotate_left
  · intro W hS
    have h0 := hS.2.2.1.cell 0
    have h1 := hS.2.2.1.cell 1
    have h2 := hS.2.2.1.cell 2
    have h3 := hS.2.2.1.cell 3
    go_simp
    first | done | with_reducible rfl
  simp only [Act.put, List.getElem_toArray, List.getElem_cons_succ, List.getElem_cons_zero, List.setIfInBounds_toArray, List.set_cons_zero, List.set_cons_succ]
  refine wpAnyH_ready (rs := [10]) (by kernel_rfl) (by simp) ?_
  refine AllReadyH.cons rfl (fun K hK => ?_) AllReadyH.nil
  go_simp
  refine (CF.out _ (HR.out.below (hH.1))).mono ?_
  rintro e w9 ⟨v2, rfl, ho2, hb9⟩
  obtain ⟨ao2, c2, rfl⟩ := ownsRow_form2 ho2
  have hS1 := MadeS.below hH hb9
  have hrd := (ho2.reads2).2
  refine hK.out _ _ hS1 (fun hH => ?_)
  clear hK K
  try simp only [Act.put, List.getElem_toArray, List.getElem_cons_succ, List.getElem_cons_zero, List.setIfInBounds_toArray, List.set_cons_zero, List.set_cons_succ]
  refine wpAnyH_take (i := 11) (v := ?_) rfl (by kernel_rfl) (by kernel_rfl) (by kernel_rfl) (fun _ _ _ h => h) (Or.inl ⟨by kernel_rfl, ?_⟩) hH ?_
  rotate_left
  · intro W hS
    have h0 := hS.2.2.1.cell 0
    have h1 := hS.2.2.1.cell 1
    have h2 := hS.2.2.1.cell 2
    have h3 := hS.2.2.1.cell 3
    go_simp
    first | done | with_reducible rfl
  simp only [Act.put, List.getElem_toArray, List.getElem_cons_succ, List.getElem_cons_zero, List.setIfInBounds_toArray, List.set_cons_zero, List.set_cons_succ]
  refine wpAnyH_ready (rs := [12]) (by kernel_rfl) (by simp) ?_
  refine AllReadyH.cons rfl (fun K hK => ?_) AllReadyH.nil
  obtain ⟨ds, hds, hdz⟩ := hH.2.2.2
  refine wp_store_row 42 _ _ rfl (w.heap.size + 1) #[strV m, strV t, .int .i64 0, .int .i64 z, .slice ao2 L.length c2] rfl rfl 42 ds hds infoHdS hdz (one5 m t 0 z ao2 L.length c2) ?_
  have hS1 := MadeS.stored hH (ds := #[strV m, strV t, .int .i64 0, .int .i64 z, .slice ao2 L.length c2]) rfl (by omega) hne
  refine hK.out _ _ hS1 (fun hH => ?_)
  clear hK K
  try simp only [Act.put, List.getElem_toArray, List.getElem_cons_succ, List.getElem_cons_zero]
  refine wpAnyH_done (by kernel_rfl) ?_ _
  go_wp2_with fail
  refine bodyPost_ret (results_row Tryd.results13 _ _ (w.heap.size + 1) _ rfl (hds.setRow #[strV m, strV t, .int .i64 0, .int .i64 z, .slice ao2 L.length c2]) Tryd.underlying42 rfl infoHdS) rfl ?_
  exact ⟨⟨ao2, c2, rfl, ((ownsRow_far2 ho2 fun k hk => _root_.Go.setRow_other _ _ _ _ (by omega)).reads2).2⟩, hH.1⟩
end Go.Proofs.YtfoghjhdjmapnaaDoor
/-
  Contract of pantrymade.Response.
-/
namespace Go.Proofs.YtfoghjhdjmapnaaDoor
open Go.RowKit Go.Pantry

set_option maxRecDepth 100000 in
set_option maxHeartbeats 4000000 in
theorem madeRes_any (st : Int) (m : List UInt8) (z : Int) (v : Value) (L : List Fld) (w : World) (hr : Reads2 w v L) (hn : L.length < 1000000) :
    Calls Tryd.prog 17 #[.agg #[.int .i64 st, strV m, .int .i64 z, v]] w fun e w' => MadeHd m [] st z L e w' ∧ Below w.heap.size w w' := by
  obtain ⟨ao, cap, rfl⟩ := hr.form
  have cf := fun W h => Fields_any (.slice ao L.length cap) L W h hn
  have CF := hid cf
  have HR := hid hr
  clear cf hr
  obtain ⟨W, hW⟩ : ∃ W, W = (w.alloc (.cells #[.int .i64 st, strV m, .int .i64 z, .slice ao L.length cap] 31)).alloc (.cells #[.string ⟨#[]⟩, .string ⟨#[]⟩, .int .i64 0, .int .i64 0, .slice none 0 0] 42) := ⟨_, rfl⟩
  have hbW : Below w.heap.size w W := by rw [hW]; exact (below_alloc _ _).alloc (by simp) _
  have hg : rowIs W w.heap.size #[.int .i64 st, strV m, .int .i64 z, .slice ao L.length cap] 31 := by rw [hW]; exact (rowIs_new _ _ _).below (below_alloc _ _)
  have hg2 : rowIs W (w.heap.size + 1) #[.string ⟨#[]⟩, .string ⟨#[]⟩, .int .i64 0, .int .i64 0, .slice none 0 0] 42 := by rw [hW]; exact rowIs_new_at _ _ _ _ (by simp)
  have HS : MadeS w w.heap.size #[.int .i64 st, strV m, .int .i64 z, .slice ao L.length cap] 31 (w.heap.size + 1) 42 W.drew := ⟨hbW.drew, hbW.size, hg, ⟨_, hg2, rfl⟩⟩
  have hne : w.heap.size ≠ w.heap.size + 1 := by omega
  have hrl : w.heap.size + 1 < W.drew.heap.size := hg2.lt
  clear hbW hg hg2
  go_enter Tryd.func17, Tryd.ntmps17
  go_wp2_with fail
  rw [← hW]
  clear hW
  refine wp_region_held_drew (S := MadeS w w.heap.size #[.int .i64 st, strV m, .int .i64 z, .slice ao L.length cap] 31 (w.heap.size + 1) 42) (by kernel_rfl) HS (fun hH => ?_)
  refine wpAnyH_take (i := 0) (v := ?_) rfl (by kernel_rfl) (by kernel_rfl) (by kernel_rfl) (fun _ _ _ h => h) (Or.inl ⟨by kernel_rfl, ?_⟩) hH ?_
  rotate_left
  · intro W hS
    have h0 := hS.2.2.1.cell 0
    have h1 := hS.2.2.1.cell 1
    have h2 := hS.2.2.1.cell 2
    have h3 := hS.2.2.1.cell 3
    go_simp
    first | done | with_reducible rfl
  simp only [Act.put, List.getElem_toArray, List.getElem_cons_zero, List.setIfInBounds_toArray, List.set_cons_zero, List.set_cons_succ]
  refine wpAnyH_take (i := 1) (v := ?_) rfl (by kernel_rfl) (by kernel_rfl) (by kernel_rfl) (fun _ _ _ h => h) (Or.inl ⟨by kernel_rfl, ?_⟩) hH ?_
  rotate_left
  · intro W hS
    have h0 := hS.2.2.1.cell 0
    have h1 := hS.2.2.1.cell 1
    have h2 := hS.2.2.1.cell 2
    have h3 := hS.2.2.1.cell 3
    go_simp
    first | done | with_reducible rfl
  simp only [Act.put, List.getElem_toArray, List.getElem_cons_succ, List.getElem_cons_zero, List.setIfInBounds_toArray, List.set_cons_zero, List.set_cons_succ]
  refine wpAnyH_take (i := 2) (v := ?_) rfl (by kernel_rfl) (by kernel_rfl) (by kernel_rfl) (fun _ _ _ h => h) (Or.inl ⟨by kernel_rfl, ?_⟩) hH ?_
  rotate_left
  · intro W hS
    have h0 := hS.2.2.1.cell 0
    have h1 := hS.2.2.1.cell 1
    have h2 := hS.2.2.1.cell 2
    have h3 := hS.2.2.1.cell 3
    go_simp
    first | done | with_reducible rfl
  simp only [Act.put, List.getElem_toArray, List.getElem_cons_succ, List.getElem_cons_zero, List.setIfInBounds_toArray, List.set_cons_zero, List.set_cons_succ]
  refine wpAnyH_take (i := 3) (v := ?_) rfl (by kernel_rfl) (by kernel_rfl) (by kernel_rfl) (fun _ _ _ h => h) (Or.inl ⟨by kernel_rfl, ?_⟩) hH ?_
  rotate_left
  · intro W hS
    have h0 := hS.2.2.1.cell 0
    have h1 := hS.2.2.1.cell 1
    have h2 := hS.2.2.1.cell 2
    have h3 := hS.2.2.1.cell 3
    go_simp
    first | done | with_reducible rfl
  simp only [Act.put, List.getElem_toArray, List.getElem_cons_succ, List.getElem_cons_zero, List.setIfInBounds_toArray, List.set_cons_zero, List.set_cons_succ]
  refine wpAnyH_take (i := 4) (v := ?_) rfl (by kernel_rfl) (by kernel_rfl) (by kernel_rfl) (fun _ _ _ h => h) (Or.inl ⟨by kernel_rfl, ?_⟩) hH ?_
  rotate_left
  · intro W hS
    have h0 := hS.2.2.1.cell 0
    have h1 := hS.2.2.1.cell 1
    have h2 := hS.2.2.1.cell 2
    have h3 := hS.2.2.1.cell 3
    go_simp
    first | done | with_reducible rfl
  simp only [Act.put, List.getElem_toArray, List.getElem_cons_succ, List.getElem_cons_zero, List.setIfInBounds_toArray, List.set_cons_zero, List.set_cons_succ]
  refine wpAnyH_take (i := 5) (v := ?_) rfl (by kernel_rfl) (by kernel_rfl) (by kernel_rfl) (fun _ _ _ h => h) (Or.inl ⟨by kernel_rfl, ?_⟩) hH ?_
  rotate_left
  · intro W hS
    have h0 := hS.2.2.1.cell 0
    have h1 := hS.2.2.1.cell 1
    have h2 := hS.2.2.1.cell 2
    have h3 := hS.2.2.1.cell 3
    go_simp
    first | done | with_reducible rfl
  simp only [Act.put, List.getElem_toArray, List.getElem_cons_succ, List.getElem_cons_zero, List.setIfInBounds_toArray, List.set_cons_zero, List.set_cons_succ]
  refine wpAnyH_take (i := 6) (v := ?_) rfl (by kernel_rfl) (by kernel_rfl) (by kernel_rfl) (fun _ _ _ h => h) (Or.inl ⟨by kernel_rfl, ?_⟩) hH ?_
  rotate_left
  · intro W hS
    have h0 := hS.2.2.1.cell 0
    have h1 := hS.2.2.1.cell 1
    have h2 := hS.2.2.1.cell 2
    have h3 := hS.2.2.1.cell 3
    go_simp
    first | done | with_reducible rfl
  simp only [Act.put, List.getElem_toArray, List.getElem_cons_succ, List.getElem_cons_zero, List.setIfInBounds_toArray, List.set_cons_zero, List.set_cons_succ]
  refine wpAnyH_take (i := 7) (v := ?_) rfl (by kernel_rfl) (by kernel_rfl) (by kernel_rfl) (fun _ _ _ h => h) (Or.inl ⟨by kernel_rfl, ?_⟩) hH ?_
  rotate_left
  · intro W hS
    have h0 := hS.2.2.1.cell 0
    have h1 := hS.2.2.1.cell 1
    have h2 := hS.2.2.1.cell 2
    have h3 := hS.2.2.1.cell 3
    go_simp
    first | done | with_reducible rfl
  simp only [Act.put, List.getElem_toArray, List.getElem_cons_succ, List.getElem_cons_zero, List.setIfInBounds_toArray, List.set_cons_zero, List.set_cons_succ]
  refine wpAnyH_take (i := 8) (v := ?_) rfl (by kernel_rfl) (by kernel_rfl) (by kernel_rfl) (fun _ _ _ h => h) (Or.inl ⟨by kernel_rfl, ?_⟩) hH ?_
  rotate_left
  · intro W hS
    have h0 := hS.2.2.1.cell 0
    have h1 := hS.2.2.1.cell 1
    have h2 := hS.2.2.1.cell 2
    have h3 := hS.2.2.1.cell 3
    go_simp
    first | done | with_reducible rfl
  simp only [Act.put, List.getElem_toArray, List.getElem_cons_succ, List.getElem_cons_zero, List.setIfInBounds_toArray, List.set_cons_zero, List.set_cons_succ]
  refine wpAnyH_take (i := 9) (v := ?_) rfl (by kernel_rfl) (by kernel_rfl) (by kernel_rfl) (fun _ _ _ h => h) (Or.inl ⟨by kernel_rfl, ?_⟩) hH ?_
  rotate_left
  · intro W hS
    have h0 := hS.2.2.1.cell 0
    have h1 := hS.2.2.1.cell 1
    have h2 := hS.2.2.1.cell 2
    have h3 := hS.2.2.1.cell 3
    go_simp
    first | done | with_reducible rfl
  simp only [Act.put, List.getElem_toArray, List.getElem_cons_succ, List.getElem_cons_zero, List.setIfInBounds_toArray, List.set_cons_zero, List.set_cons_succ]
  refine wpAnyH_ready (rs := [10]) (by kernel_rfl) (by simp) ?_
  refine AllReadyH.cons rfl (fun K hK => ?_) AllReadyH.nil
  go_simp
  refine (CF.out _ (HR.out.below (hH.1))).mono ?_
  rintro e w9 ⟨v2, rfl, ho2, hb9⟩
  obtain ⟨ao2, c2, rfl⟩ := ownsRow_form2 ho2
  have hS1 := MadeS.below hH hb9
  have hrd := (ho2.reads2).2
  refine hK.out _ _ hS1 (fun hH => ?_)
  clear hK K
  try simp only [Act.put, List.getElem_toArray, List.getElem_cons_succ, List.getElem_cons_zero, List.setIfInBounds_toArray, List.set_cons_zero, List.set_cons_succ]
  refine wpAnyH_take (i := 11) (v := ?_) rfl (by kernel_rfl) (by kernel_rfl) (by kernel_rfl) (fun _ _ _ h => h) (Or.inl ⟨by kernel_rfl, ?_⟩) hH ?_
  rotate_left
  · intro W hS
    have h0 := hS.2.2.1.cell 0
    have h1 := hS.2.2.1.cell 1
    have h2 := hS.2.2.1.cell 2
    have h3 := hS.2.2.1.cell 3
    go_simp
    first | done | with_reducible rfl
  simp only [Act.put, List.getElem_toArray, List.getElem_cons_succ, List.getElem_cons_zero, List.setIfInBounds_toArray, List.set_cons_zero, List.set_cons_succ]
  refine wpAnyH_ready (rs := [12]) (by kernel_rfl) (by simp) ?_
  refine AllReadyH.cons rfl (fun K hK => ?_) AllReadyH.nil
  obtain ⟨ds, hds, hdz⟩ := hH.2.2.2
  refine wp_store_row 42 _ _ rfl (w.heap.size + 1) #[strV m, strV [], .int .i64 st, .int .i64 z, .slice ao2 L.length c2] rfl rfl 42 ds hds infoHdS hdz (one5 m [] st z ao2 L.length c2) ?_
  have hS1 := MadeS.stored hH (ds := #[strV m, strV [], .int .i64 st, .int .i64 z, .slice ao2 L.length c2]) rfl (by omega) hne
  refine hK.out _ _ hS1 (fun hH => ?_)
  clear hK K
  try simp only [Act.put, List.getElem_toArray, List.getElem_cons_succ, List.getElem_cons_zero]
  refine wpAnyH_done (by kernel_rfl) ?_ _
  go_wp2_with fail
  refine bodyPost_ret (results_row Tryd.results17 _ _ (w.heap.size + 1) _ rfl (hds.setRow #[strV m, strV [], .int .i64 st, .int .i64 z, .slice ao2 L.length c2]) Tryd.underlying42 rfl infoHdS) rfl ?_
  exact ⟨⟨ao2, c2, rfl, ((ownsRow_far2 ho2 fun k hk => _root_.Go.setRow_other _ _ _ _ (by omega)).reads2).2⟩, hH.1⟩
end Go.Proofs.YtfoghjhdjmapnaaDoor
namespace Go.Proofs.YtfoghjhdjmapnaaDoor
open Go.RowKit Go.Pantry
end Go.Proofs.YtfoghjhdjmapnaaDoor
/-
  The walk of the statement BodyFrames.
-/
namespace Go.Proofs.YtfoghjhdjmapnaaDoor
open Go.RowKit Go.Pantry

theorem guardF : Tryd.prog.eqGuardType Tryd.prog.depth 37 = false := by kernel_rfl
theorem equalFr (a b : Int) (w : World) : (Op.equalIn 10000 37 (.agg #[.int .i64 a, .int .i64 b]) (.agg #[.int .i64 a, .int .i64 b])).run Tryd.prog w = .ok true w := by
  have hu : Tryd.prog.underlying 37 = some (.struct (Tryd.prog.fieldsOf 37)) := by kernel_rfl
  have hp : Tryd.prog.stoodInHeld 37 = false := by kernel_rfl
  rw [run_equalIn_agg w 9999 _ _ _ hu hp]
  have hf : (Tryd.prog.fieldsOf 37).toList.map (fun x => (x.name == "_", x.type, x.offset)) = [(false, 3, 0), (false, 3, 1)] := by kernel_rfl
  generalize (Tryd.prog.fieldsOf 37).toList = fs at hf
  have hl : fs.length = 2 := by simpa using congrArg List.length hf
  obtain ⟨f0, f1, rfl⟩ : ∃ f0 f1, fs = [f0, f1] := by
    cases fs with
    | nil => simp at hl
    | cons f0 fs =>
      cases fs with
      | nil => simp at hl
      | cons f1 fs =>
        cases fs with
        | nil => exact ⟨f0, f1, rfl⟩
        | cons f2 fs => simp at hl
  simp only [List.map_cons, List.map_nil, List.cons.injEq, Prod.mk.injEq, and_true] at hf
  obtain ⟨⟨n0, t0, o0⟩, n1, t1, o1⟩ := hf
  have n0' : f0.name ≠ "_" := by simpa using n0
  have n1' : f1.name ≠ "_" := by simpa using n1
  have p0 : ∀ (u v : Value) (W : World), (part 3 #[u, v] 0).run Tryd.prog W = .ok u W := by intro u v W; kernel_rfl
  have p1 : ∀ (u v : Value) (W : World), (part 3 #[u, v] 1).run Tryd.prog W = .ok v W := by intro u v W; kernel_rfl
  have q : ∀ (x y : Int) (W : World), (Op.equalIn 9999 3 (.int .i64 x) (.int .i64 y)).run Tryd.prog W = .ok (x == y) W := by
    intro x y W
    first
    | exact run_equalIn_int (P := Tryd.prog) W 9998 3 .i64 x y Tryd.underlying3
    | exact run_equalIn_int W 9998 3 .i64 x y
    | kernel_rfl
    | simp [Op.equalIn]
  simp [Op.eqFields, n0', n1', t0, t1, o0, o1, p0, p1, q]
theorem neqFr (a b : Int) (w : World) : (binOp .neq 37 (.agg #[.int .i64 a, .int .i64 b]) (.agg #[.int .i64 a, .int .i64 b])).run Tryd.prog w = .ok (.bool false) w := by
  rw [run_neq_struct, equalFr]
  rfl
theorem eqlFr (a b : Int) (w : World) : (binOp .eql 37 (.agg #[.int .i64 a, .int .i64 b]) (.agg #[.int .i64 a, .int .i64 b])).run Tryd.prog w = .ok (.bool true) w := by
  rw [run_eql_struct, equalFr]
  rfl
/-- from w0 on; two boxes -/
def BoxF (w0 : World) (g1 : Nat) (c1 : Array Value) (t1 : TypeId) (g2 : Nat) (c2 : Array Value) (t2 : TypeId) : List Bool → World → Prop := fun _ W => Below w0.heap.size w0 W ∧ w0.heap.size ≤ W.heap.size ∧ rowIs W g1 c1 t1 ∧ rowIs W g2 c2 t2
theorem BoxF.below {w0 : World} {g1 g2 : Nat} {c1 c2 : Array Value} {t1 t2 : TypeId} {b : List Bool} {W W' : World} (h : BoxF w0 g1 c1 t1 g2 c2 t2 b W) (hb : Below W.heap.size W W') : BoxF w0 g1 c1 t1 g2 c2 t2 b W' :=
  ⟨h.1.trans (hb.mono h.2.1), Nat.le_trans h.2.1 hb.size, h.2.2.1.below hb, h.2.2.2.below hb⟩
set_option maxRecDepth 100000 in
set_option maxHeartbeats 32000000 in
theorem bodyFrames_walk (z st : Int) (smt : ByteArray) (v : Value) (L : List Fld) (w : World) (ht : Tab64 w) (hsm : smt.size ≤ maxLen) (hl : Reads2 w v L ∧ (∀ f ∈ L, f.1.length ≤ maxLen ∧ f.2.length ≤ maxLen) ∧ L.length ≤ maxLen) :
    Calls Tryd.prog 3 #[.int .i64 z, .int .i64 st, .string smt, v] w fun e w' => e = .returned (.bool true) ∧ Below w.heap.size w w' := by
  obtain ⟨mt, rfl⟩ := as_list smt
  rw [szL] at hsm
  obtain ⟨hr, -, hLl⟩ := hl
  obtain ⟨ao, cap, rfl⟩ := hr.form
  unfold maxLen at hsm hLl
  have cs := fun W h => small_any (.slice ao L.length cap) L W h (by omega)
  have CA := hid (anchor_any w ht)
  have HR := hid hr
  clear hr ht
  obtain ⟨q, hq⟩ : ∃ q, smallG L = q := ⟨_, rfl⟩
  rw [hq] at cs
  have CSM := hid cs
  clear cs
  cases q
  · clear hq
    go_enter Tryd.func3, Tryd.ntmps3
    go_wp2_with fail
    refine CA.out.mono ?_
    rintro e w1 ⟨rfl, hb1⟩
    go_wp2_with fail
    refine (CSM.out _ (HR.out.below hb1)).mono ?_
    rintro e w2 ⟨rfl, hb2⟩
    have hb3 := chain2 hb1 hb1.size hb2
    clear hb1 hb2
    go_wp2_with fail
    go_ret
    exact ⟨rfl, hb3⟩
  by_cases h1 : (30 : Int) < (mt.length : Int)
  · clear hq
    go_enter Tryd.func3, Tryd.ntmps3
    go_wp2_with fail
    refine CA.out.mono ?_
    rintro e w1 ⟨rfl, hb1⟩
    go_wp2_with fail
    refine (CSM.out _ (HR.out.below hb1)).mono ?_
    rintro e w2 ⟨rfl, hb2⟩
    have hb3 := chain2 hb1 hb1.size hb2
    clear hb1 hb2
    go_wp2_with fail
    go_ret
    exact ⟨rfl, hb3⟩
  have d1 : decide ((30 : Int) < (mt.length : Int)) = false := decide_eq_false h1
  obtain ⟨hk, -, -⟩ := smallG_ok hq
  have c1 := fun W h => OfRequest_any [] [] z (.slice ao L.length cap) L W h hk
  have c2 := fun W h => OfResponse_any mt [] st z (.slice ao L.length cap) L W h hk
  have c3 := fun W h => madeReq_any [] [] z (.slice ao L.length cap) L W h (by have := hk.1; omega)
  have c4 := fun W h => madeRes_any st [] z (.slice ao L.length cap) L W h (by have := hk.1; omega)
  have c5 := fun W v h => refOfRequest_any [] [] 0 z v L W h hk.1 hk.2
  have c6 := fun W v h => refOfResponse_any mt [] [] st z v L W h hk.1 hk.2
  generalize frameX z 0 L = x1 at c1 c5
  generalize (if bareX (mt == [72, 69, 65, 68]) st = true then Except.ok (0, 0) else frameX z 3 L) = x2 at c2 c6
  have C1 := hid c1
  have C2 := hid c2
  have C3 := hid c3
  have C4 := hid c4
  have C5 := hid c5
  have C6 := hid c6
  clear c1 c2 c3 c4 c5 c6 hq h1 hk
  go_enter Tryd.func3, Tryd.ntmps3
  go_wp2_with fail
  refine CA.out.mono ?_
  rintro e w1 ⟨rfl, hb1⟩
  go_wp2_with fail
  refine (CSM.out _ (HR.out.below hb1)).mono ?_
  rintro e w2 ⟨rfl, hb2⟩
  have hb3 := chain2 hb1 hb1.size hb2
  have hwG : w.heap.size ≤ w2.heap.size := hb3.size
  clear hb1 hb2 CA CSM
  obtain ⟨W1, hW1⟩ : ∃ W, W = w2.alloc (.cells #[.int .i64 z, .slice ao L.length cap] 27) := ⟨_, rfl⟩
  have hs1 : W1.heap.size = w2.heap.size + 1 := by rw [hW1]; simp
  have hb4 := chain2 hb3 hb3.size (show Below w2.heap.size w2 W1 by rw [hW1]; exact below_alloc _ _)
  have hgh : rowIs W1 w2.heap.size #[.int .i64 z, .slice ao L.length cap] 27 := by rw [hW1]; exact rowIs_new _ _ _
  obtain ⟨W2, hW2⟩ : ∃ W, W = W1.alloc (.cells #[.string ⟨#[]⟩, .string ⟨#[]⟩, .int .i64 z, .slice ao L.length cap] 29) := ⟨_, rfl⟩
  have hs2 : W2.heap.size = w2.heap.size + 1 + 1 := by rw [hW2, ← hs1]; simp
  have hb5 := chain2 hb4 hb4.size (show Below W1.heap.size W1 W2 by rw [hW2]; exact below_alloc _ _)
  have hgq : rowIs W2 (w2.heap.size + 1) #[.string ⟨#[]⟩, .string ⟨#[]⟩, .int .i64 z, .slice ao L.length cap] 29 := by rw [hW2, ← hs1]; exact rowIs_new _ _ _
  have hgh2 : rowIs W2 w2.heap.size #[.int .i64 z, .slice ao L.length cap] 27 := hgh.below (by rw [hW2]; exact below_alloc _ _)
  obtain ⟨W3, hW3⟩ : ∃ W, W = W2.alloc (.cells #[.int .i64 st, .string ⟨#[]⟩, .int .i64 z, .slice ao L.length cap] 31) := ⟨_, rfl⟩
  have hbW3 : Below W2.heap.size W2 W3 := by rw [hW3]; exact below_alloc _ _
  have hb6 := chain2 hb5 hb5.size hbW3
  have hgp : rowIs W3 (w2.heap.size + 1 + 1) #[.int .i64 st, .string ⟨#[]⟩, .int .i64 z, .slice ao L.length cap] 31 := by rw [hW3, ← hs2]; exact rowIs_new _ _ _
  have hgq3 := hgq.below hbW3
  have a0 := hgh.cell 0
  have a1 := hgh.cell 1
  have b0 := hgh2.cell 0
  have b1 := hgh2.cell 1
  have k0 := hgq3.cell 0
  have k1 := hgq3.cell 1
  have k2 := hgq3.cell 2
  have k3 := hgq3.cell 3
  rw [hW1] at a0 a1
  rw [hW2, hW1] at b0 b1
  rw [hW3, hW2, hW1] at k0 k1 k2 k3
  clear hb3 hb4 hb5 hgh hgq hgh2 hbW3
  go_wp2_with fail
  rw [← hW1, ← hW2, ← hW3]
  clear a0 a1 b0 b1 k0 k1 k2 k3 hW1 hW2 hW3 hs1 hs2 W1 W2
  generalize w2.heap.size = G at *
  refine (C1.out _ (HR.out.below hb6)).mono ?_
  rintro e w4 ⟨hf, hb7⟩
  obtain ⟨t1, t2, t3, htx, rfl⟩ := hf.form
  have HT1 := hid htx
  have hgq4 := hgq3.below hb7
  have hgp4 := hgp.below hb7
  have hb8 := chain2 hb6 hb6.size hb7
  clear hf htx hgq3 hgp hb6 hb7 C1
  obtain ⟨W5, hW5⟩ : ∃ W, W = w4.alloc (.cells #[.int .i64 t1, .int .i64 t2] 33) := ⟨_, rfl⟩
  have hbW : Below w4.heap.size w4 W5 := by rw [hW5]; exact below_alloc _ _
  have hgf : rowIs W5 w4.heap.size #[.int .i64 t1, .int .i64 t2] 33 := by rw [hW5]; exact rowIs_new _ _ _
  have hgq5 := hgq4.below hbW
  have hgp5 := hgp4.below hbW
  have hb9 := chain2 hb8 hb8.size hbW
  have hFG : w.heap.size ≤ w4.heap.size := hb8.size
  have hgpF : G + 1 + 1 ≠ w4.heap.size := by have := hgp4.lt; omega
  have k0 := hgq5.cell 0
  have k1 := hgq5.cell 1
  have k2 := hgq5.cell 2
  have k3 := hgq5.cell 3
  rw [hW5] at k0 k1 k2 k3
  clear hgq4 hgp4 hb8 hbW
  go_wp2_with fail
  rw [← hW5]
  clear hW5 k0 k1 k2 k3
  generalize w4.heap.size = GF at *
  refine (C3.out _ (HR.out.below hb9)).mono ?_
  rintro e w6 ⟨⟨ao6, cp6, rfl, rd6⟩, hb10⟩
  have hgf6 := hgf.below hb10
  have hgp6 := hgp5.below hb10
  have hb11 := chain2 hb9 hb9.size hb10
  clear hgq5 hgp5 hgf hb9 hb10 C3
  go_wp2_with fail
  refine (C5.out _ _ rd6).mono ?_
  rintro e w7 ⟨hf, hb12⟩
  obtain ⟨u1, u2, u3, hux, rfl⟩ := hf.form
  rw [HT1.out] at hux
  injection hux with hu1 hu23
  injection hu23 with hu2 hu3
  subst hu1 hu2 hu3
  have hgf7 := hgf6.below hb12
  have hgp7 := hgp6.below hb12
  have hb13 := chain2 hb11 hb11.size hb12
  clear hf hgf6 hgp6 hb11 hb12 rd6 C5 HT1
  obtain ⟨W8, hW8⟩ : ∃ W, W = w7.alloc (.cells #[.int .i64 t1, .int .i64 t2] 37) := ⟨_, rfl⟩
  have hbW : Below w7.heap.size w7 W8 := by rw [hW8]; exact below_alloc _ _
  have hgx : rowIs W8 w7.heap.size #[.int .i64 t1, .int .i64 t2] 37 := by rw [hW8]; exact rowIs_new _ _ _
  have hgf8 := hgf7.below hbW
  have hgp8 := hgp7.below hbW
  have hb14 := chain2 hb13 hb13.size hbW
  have hne : GF ≠ w7.heap.size := by have := hgf7.lt; omega
  have hXG : w.heap.size ≤ w7.heap.size := hb13.size
  have hneP : G + 1 + 1 ≠ w7.heap.size := by have := hgp7.lt; omega
  clear hgf7 hgp7 hb13 hbW
  go_wp2_with fail
  rw [← hW8]
  clear hW8
  generalize w7.heap.size = GX at *
  have q1 : (t3 == t3) = true := by simp
  have q2 : (t3 != t3) = false := by simp
  have gd := guardF
  refine wp_region_U [] (by kernel_rfl) (BoxF W8 GF #[.int .i64 t1, .int .i64 t2] 33 GX #[.int .i64 t1, .int .i64 t2] 37) (b := []) (by kernel_rfl) ⟨(Below.refl _ _).drew, Nat.le_refl _, hgf8, hgx⟩ ?_
  refine wpAnyU_take (i := 0) (v := ?_) (by decide) rfl (by kernel_rfl) (by kernel_rfl) (by kernel_rfl) (fun _ _ _ h => h) (Steady.plain (by kernel_rfl) ?_) ?_
  rotate_left
  · intro b W hS
    have nq := neqFr t1 t2 W
    have eq := eqlFr t1 t2 W
    go_simp
    first | done | with_reducible rfl
  simp only [Act.put, List.getElem_toArray, List.getElem_cons_zero, List.setIfInBounds_toArray, List.set_cons_zero, List.set_cons_succ]
  refine wpAnyU_take (i := 1) (v := ?_) (by decide) rfl (by kernel_rfl) (by kernel_rfl) (by kernel_rfl) (fun _ _ _ h => h) (Steady.plain (by kernel_rfl) ?_) ?_
  rotate_left
  · intro b W hS
    have nq := neqFr t1 t2 W
    have eq := eqlFr t1 t2 W
    go_simp
    first | done | with_reducible rfl
  simp only [Act.put, List.getElem_toArray, List.getElem_cons_succ, List.getElem_cons_zero, List.setIfInBounds_toArray, List.set_cons_zero, List.set_cons_succ]
  refine wpAnyU_take (i := 2) (v := ?_) (by decide) rfl (by kernel_rfl) (by kernel_rfl) (by kernel_rfl) (fun _ _ _ h => h) (Steady.plain (by kernel_rfl) ?_) ?_
  rotate_left
  · intro b W hS
    have nq := neqFr t1 t2 W
    have eq := eqlFr t1 t2 W
    go_simp
    first | done | with_reducible rfl
  simp only [Act.put, List.getElem_toArray, List.getElem_cons_succ, List.getElem_cons_zero, List.setIfInBounds_toArray, List.set_cons_zero, List.set_cons_succ]
  refine wpAnyU_take (i := 3) (v := ?_) (by decide) rfl (by kernel_rfl) (by kernel_rfl) (by kernel_rfl) (fun _ _ _ h => h) (Steady.plain (by kernel_rfl) ?_) ?_
  rotate_left
  · intro b W hS
    have nq := neqFr t1 t2 W
    have eq := eqlFr t1 t2 W
    go_simp
    first | done | with_reducible rfl
  simp only [Act.put, List.getElem_toArray, List.getElem_cons_succ, List.getElem_cons_zero, List.setIfInBounds_toArray, List.set_cons_zero, List.set_cons_succ]
  refine wpAnyU_take (i := 4) (v := .agg #[.int .i64 t1, .int .i64 t2]) (by decide) rfl (by kernel_rfl) (by kernel_rfl) (by kernel_rfl) (fun _ _ _ h => h) (Steady.plain (by kernel_rfl) ?_) ?_
  · intro b W hS
    exact load_gives (x := .tmp 12) (by kernel_rfl) GF (by kernel_rfl) hS.2.2.1 Tryd.underlying33 rfl infoFrS
  simp only [Act.put, List.getElem_toArray, List.getElem_cons_succ, List.getElem_cons_zero, List.setIfInBounds_toArray, List.set_cons_zero, List.set_cons_succ]
  refine wpAnyU_take (i := 5) (v := .agg #[.int .i64 t1, .int .i64 t2]) (by decide) rfl (by kernel_rfl) (by kernel_rfl) (by kernel_rfl) (fun _ _ _ h => h) (Steady.call (f := 14) (args := #[.agg #[.int .i64 t1, .int .i64 t2]]) (by kernel_rfl) (fun _ => by kernel_rfl) ?_) ?_
  · intro b W hS
    refine (madeFrame_any t1 t2 W).mono ?_
    rintro e w' ⟨he, hb⟩
    exact ⟨he, BoxF.below hS hb⟩
  simp only [Act.put, List.getElem_toArray, List.getElem_cons_succ, List.getElem_cons_zero, List.setIfInBounds_toArray, List.set_cons_zero, List.set_cons_succ]
  refine wpAnyU_take (i := 6) (v := .agg #[.int .i64 t1, .int .i64 t2]) (by decide) rfl (by kernel_rfl) (by kernel_rfl) (by kernel_rfl) (fun _ _ _ h => h) (Steady.plain (by kernel_rfl) ?_) ?_
  · intro b W hS
    exact load_gives (x := .tmp 14) (by kernel_rfl) GX (by kernel_rfl) hS.2.2.2 Tryd.underlying37 rfl infoFr6
  simp only [Act.put, List.getElem_toArray, List.getElem_cons_succ, List.getElem_cons_zero, List.setIfInBounds_toArray, List.set_cons_zero, List.set_cons_succ]
  refine wpAnyU_take (i := 7) (v := ?_) (by decide) rfl (by kernel_rfl) (by kernel_rfl) (by kernel_rfl) (fun _ _ _ h => h) (Steady.plain (by kernel_rfl) ?_) ?_
  rotate_left
  · intro b W hS
    have nq := neqFr t1 t2 W
    have eq := eqlFr t1 t2 W
    go_simp
    first | done | with_reducible rfl
  simp only [Act.put, List.getElem_toArray, List.getElem_cons_succ, List.getElem_cons_zero, List.setIfInBounds_toArray, List.set_cons_zero, List.set_cons_succ]
  refine wpAnyU_take (i := 8) (v := ?_) (by decide) rfl (by kernel_rfl) (by kernel_rfl) (by kernel_rfl) (fun _ _ _ h => h) (Steady.plain (by kernel_rfl) ?_) ?_
  rotate_left
  · intro b W hS
    have nq := neqFr t1 t2 W
    have eq := eqlFr t1 t2 W
    go_simp
    first | done | with_reducible rfl
  simp only [Act.put, List.getElem_toArray, List.getElem_cons_succ, List.getElem_cons_zero, List.setIfInBounds_toArray, List.set_cons_zero, List.set_cons_succ]
  refine wpAnyU_done (b := []) (by kernel_rfl) (by kernel_rfl) ?_ _
  intro W9 hS
  have hgf9 := hS.2.2.1
  have hgx9 := hS.2.2.2
  have hgp9 := hgp8.below hS.1
  have hb15 := chain2 hb14 hb14.size hS.1
  have k0 := hgp9.cell 0
  have k1 := hgp9.cell 1
  have k2 := hgp9.cell 2
  have k3 := hgp9.cell 3
  clear hgf8 hgx hgp8 hb14 hS
  go_wp2_with fail
  refine (C2.out _ (HR.out.below hb15)).mono ?_
  rintro e w10 ⟨hf, hb16⟩
  obtain ⟨s1, s2, s3, hsx, rfl⟩ := hf.form
  have HS1 := hid hsx
  have hgf10 := hgf9.below hb16
  have hgx10 := hgx9.below hb16
  have hgp10 := hgp9.below hb16
  have hb17 := chain2 hb15 hb15.size hb16
  clear hf hsx hgf9 hgx9 hgp9 hb15 hb16 k0 k1 k2 k3 C2
  have hgf11 := hgf10.setRow #[.int .i64 s1, .int .i64 s2]
  have hgx11 := hgx10.setRow_other #[.int .i64 s1, .int .i64 s2] (Ne.symm hne)
  have hgp11 := hgp10.setRow_other #[.int .i64 s1, .int .i64 s2] hgpF
  have hb18 := below_setRow hb17 hFG #[.int .i64 s1, .int .i64 s2]
  have k0 := hgp11.cell 0
  have k1 := hgp11.cell 1
  have k2 := hgp11.cell 2
  have k3 := hgp11.cell 3
  have HRD := hid (HR.out.below hb18)
  go_wp2_with (refine wpList_store_row rfl 33 _ _ rfl GF _ rfl rfl 33 #[.int .i64 t1, .int .i64 t2] hgf10 infoFrS rfl (oneF s1 s2) ?_)
  clear hgf10 hgx10 hgp10 hb17 hgp11 k0 k1 k2 k3
  generalize w10.setRow GF #[.int .i64 s1, .int .i64 s2] = W11 at *
  refine (C4.out _ HRD.out).mono ?_
  rintro e w12 ⟨⟨ao7, cp7, rfl, rd7⟩, hb19⟩
  have hgf12 := hgf11.below hb19
  have hgx12 := hgx11.below hb19
  have hb20 := chain2 hb18 hb18.size hb19
  clear hgf11 hgx11 hb18 hb19 HRD C4
  go_wp2_with fail
  refine (C6.out _ _ rd7).mono ?_
  rintro e w13 ⟨hf, hb21⟩
  obtain ⟨u1, u2, u3, hux, rfl⟩ := hf.form
  rw [HS1.out] at hux
  injection hux with hu1 hu23
  injection hu23 with hu2 hu3
  subst hu1 hu2 hu3
  have hgf13 := hgf12.below hb21
  have hgx13 := hgx12.below hb21
  have hb22 := chain2 hb20 hb20.size hb21
  clear hf hgf12 hgx12 hb20 hb21 rd7 C6 HS1
  have hgf14 := hgf13.setRow_other #[.int .i64 s1, .int .i64 s2] hne
  have hgx14 := hgx13.setRow #[.int .i64 s1, .int .i64 s2]
  have hb23 := below_setRow hb22 hXG #[.int .i64 s1, .int .i64 s2]
  go_wp2_with (refine wpList_store_row rfl 37 _ _ rfl GX _ rfl rfl 37 #[.int .i64 t1, .int .i64 t2] hgx13 infoFr6 rfl (oneF6 s1 s2) ?_)
  clear hgf13 hgx13 hb22 q1 q2
  generalize w13.setRow GX #[.int .i64 s1, .int .i64 s2] = W14 at *
  have q1 : (s3 == s3) = true := by simp
  have q2 : (s3 != s3) = false := by simp
  refine wp_region_U [] (by kernel_rfl) (BoxF W14 GF #[.int .i64 s1, .int .i64 s2] 33 GX #[.int .i64 s1, .int .i64 s2] 37) (b := []) (by kernel_rfl) ⟨(Below.refl _ _).drew, Nat.le_refl _, hgf14, hgx14⟩ ?_
  refine wpAnyU_take (i := 0) (v := ?_) (by decide) rfl (by kernel_rfl) (by kernel_rfl) (by kernel_rfl) (fun _ _ _ h => h) (Steady.plain (by kernel_rfl) ?_) ?_
  rotate_left
  · intro b W hS
    have nq := neqFr s1 s2 W
    have eq := eqlFr s1 s2 W
    go_simp
    first | done | with_reducible rfl
  simp only [Act.put, List.getElem_toArray, List.getElem_cons_zero, List.setIfInBounds_toArray, List.set_cons_zero, List.set_cons_succ]
  refine wpAnyU_take (i := 1) (v := ?_) (by decide) rfl (by kernel_rfl) (by kernel_rfl) (by kernel_rfl) (fun _ _ _ h => h) (Steady.plain (by kernel_rfl) ?_) ?_
  rotate_left
  · intro b W hS
    have nq := neqFr s1 s2 W
    have eq := eqlFr s1 s2 W
    go_simp
    first | done | with_reducible rfl
  simp only [Act.put, List.getElem_toArray, List.getElem_cons_succ, List.getElem_cons_zero, List.setIfInBounds_toArray, List.set_cons_zero, List.set_cons_succ]
  refine wpAnyU_take (i := 2) (v := ?_) (by decide) rfl (by kernel_rfl) (by kernel_rfl) (by kernel_rfl) (fun _ _ _ h => h) (Steady.plain (by kernel_rfl) ?_) ?_
  rotate_left
  · intro b W hS
    have nq := neqFr s1 s2 W
    have eq := eqlFr s1 s2 W
    go_simp
    first | done | with_reducible rfl
  simp only [Act.put, List.getElem_toArray, List.getElem_cons_succ, List.getElem_cons_zero, List.setIfInBounds_toArray, List.set_cons_zero, List.set_cons_succ]
  refine wpAnyU_take (i := 3) (v := ?_) (by decide) rfl (by kernel_rfl) (by kernel_rfl) (by kernel_rfl) (fun _ _ _ h => h) (Steady.plain (by kernel_rfl) ?_) ?_
  rotate_left
  · intro b W hS
    have nq := neqFr s1 s2 W
    have eq := eqlFr s1 s2 W
    go_simp
    first | done | with_reducible rfl
  simp only [Act.put, List.getElem_toArray, List.getElem_cons_succ, List.getElem_cons_zero, List.setIfInBounds_toArray, List.set_cons_zero, List.set_cons_succ]
  refine wpAnyU_take (i := 4) (v := .agg #[.int .i64 s1, .int .i64 s2]) (by decide) rfl (by kernel_rfl) (by kernel_rfl) (by kernel_rfl) (fun _ _ _ h => h) (Steady.plain (by kernel_rfl) ?_) ?_
  · intro b W hS
    exact load_gives (x := .tmp 12) (by kernel_rfl) GF (by kernel_rfl) hS.2.2.1 Tryd.underlying33 rfl infoFrS
  simp only [Act.put, List.getElem_toArray, List.getElem_cons_succ, List.getElem_cons_zero, List.setIfInBounds_toArray, List.set_cons_zero, List.set_cons_succ]
  refine wpAnyU_take (i := 5) (v := .agg #[.int .i64 s1, .int .i64 s2]) (by decide) rfl (by kernel_rfl) (by kernel_rfl) (by kernel_rfl) (fun _ _ _ h => h) (Steady.call (f := 14) (args := #[.agg #[.int .i64 s1, .int .i64 s2]]) (by kernel_rfl) (fun _ => by kernel_rfl) ?_) ?_
  · intro b W hS
    refine (madeFrame_any s1 s2 W).mono ?_
    rintro e w' ⟨he, hb⟩
    exact ⟨he, BoxF.below hS hb⟩
  simp only [Act.put, List.getElem_toArray, List.getElem_cons_succ, List.getElem_cons_zero, List.setIfInBounds_toArray, List.set_cons_zero, List.set_cons_succ]
  refine wpAnyU_take (i := 6) (v := .agg #[.int .i64 s1, .int .i64 s2]) (by decide) rfl (by kernel_rfl) (by kernel_rfl) (by kernel_rfl) (fun _ _ _ h => h) (Steady.plain (by kernel_rfl) ?_) ?_
  · intro b W hS
    exact load_gives (x := .tmp 14) (by kernel_rfl) GX (by kernel_rfl) hS.2.2.2 Tryd.underlying37 rfl infoFr6
  simp only [Act.put, List.getElem_toArray, List.getElem_cons_succ, List.getElem_cons_zero, List.setIfInBounds_toArray, List.set_cons_zero, List.set_cons_succ]
  refine wpAnyU_take (i := 7) (v := ?_) (by decide) rfl (by kernel_rfl) (by kernel_rfl) (by kernel_rfl) (fun _ _ _ h => h) (Steady.plain (by kernel_rfl) ?_) ?_
  rotate_left
  · intro b W hS
    have nq := neqFr s1 s2 W
    have eq := eqlFr s1 s2 W
    go_simp
    first | done | with_reducible rfl
  simp only [Act.put, List.getElem_toArray, List.getElem_cons_succ, List.getElem_cons_zero, List.setIfInBounds_toArray, List.set_cons_zero, List.set_cons_succ]
  refine wpAnyU_take (i := 8) (v := ?_) (by decide) rfl (by kernel_rfl) (by kernel_rfl) (by kernel_rfl) (fun _ _ _ h => h) (Steady.plain (by kernel_rfl) ?_) ?_
  rotate_left
  · intro b W hS
    have nq := neqFr s1 s2 W
    have eq := eqlFr s1 s2 W
    go_simp
    first | done | with_reducible rfl
  simp only [Act.put, List.getElem_toArray, List.getElem_cons_succ, List.getElem_cons_zero, List.setIfInBounds_toArray, List.set_cons_zero, List.set_cons_succ]
  refine wpAnyU_take (i := 9) (v := ?_) (by decide) rfl (by kernel_rfl) (by kernel_rfl) (by kernel_rfl) (fun _ _ _ h => h) (Steady.plain (by kernel_rfl) ?_) ?_
  rotate_left
  · intro b W hS
    have nq := neqFr s1 s2 W
    have eq := eqlFr s1 s2 W
    go_simp
    first | done | with_reducible rfl
  simp only [Act.put, List.getElem_toArray, List.getElem_cons_succ, List.getElem_cons_zero, List.setIfInBounds_toArray, List.set_cons_zero, List.set_cons_succ]
  refine wpAnyU_done (b := []) (by kernel_rfl) (by kernel_rfl) ?_ _
  intro W15 hS
  have hbZ := chain2 hb23 hb23.size hS.1
  go_wp2_with fail
  go_ret
  exact ⟨rfl, hbZ⟩
end Go.Proofs.YtfoghjhdjmapnaaDoor
