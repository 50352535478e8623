/-
  Contracts of package body: frameOf, bare, OfRequest, OfResponse.
-/
import Derived.Test.YtefplhkjcclppaaDoorBodyH
import Derived.Test.YtefplhkjcclppaaDoorFieldH
namespace Go.Proofs.YtefplhkjcclppaaDoor
open Go.RowKit Go.Pantry

set_option maxRecDepth 100000 in
set_option maxHeartbeats 16000000 in
theorem frameOf_any (minor : Int) (other : Nat) (v : Value) (L : List Fld) (w : World) (hr : Reads2 w v L) (hk : okFs L) :
    Calls Tryd.prog 13 #[.agg #[.int .i64 minor, v], .int .i64 (other : Int)] w fun e w' => FrameIs (frameX minor other L) e ∧ Below w.heap.size w w' := by
  obtain ⟨ao, cap, rfl⟩ := hr.form
  obtain ⟨W, hW⟩ : ∃ W, W = (w.alloc (.cells #[.int .i64 minor, .slice ao L.length cap] 32)).alloc (.cells #[.int .i64 0, .int .i64 0] 36) := ⟨_, rfl⟩
  have hb0 : Below w.heap.size w W := by rw [hW]; exact (below_alloc _ _).alloc (by simp) _
  have hg0 : rowIs W w.heap.size #[.int .i64 minor, .slice ao L.length cap] 32 := by rw [hW]; exact (rowIs_new _ _ _).below (below_alloc _ _)
  have hr0 : rowIs W (w.heap.size + 1) #[.int .i64 0, .int .i64 0] 36 := by rw [hW]; exact rowIs_new_at _ _ _ _ (by simp)
  have e0 := hg0.cell 0
  have e1 := hg0.cell 1
  rw [hW] at e0 e1
  have c1 := fun W h => lGet_any (.slice ao L.length cap) L ⟨teN.toArray⟩ W h hk (by decide)
  have c2 := fun W h => lGet_any (.slice ao L.length cap) L ⟨clN.toArray⟩ W h hk (by decide)
  have c3 := fun W h => lElements_any (.slice ao L.length cap) L ⟨teN.toArray⟩ W h hk (by decide)
  have c4 := fun W h => lElements_any (.slice ao L.length cap) L ⟨clN.toArray⟩ W h hk (by decide)
  rw [dtL] at c1 c2 c3 c4
  have sz1 := elementsF_size (n := teN) (fun f hf => (hk.2 f hf).2) hk.1
  have sz2 := elementsF_size (n := clN) (fun f hf => (hk.2 f hf).2) hk.1
  have hx : frameX minor other L = if (allF L teN).isEmpty then (if (allF L clN).isEmpty then .ok (other, 0) else cntX (elementsF L clN)) else if !(allF L clN).isEmpty || !justX (elementsF L teN) || minor == 0 then .error 24 else .ok (2, 0) := rfl
  generalize frameX minor other L = x at hx ⊢
  generalize (allF L teN).isEmpty = q1 at c1 hx
  generalize (allF L clN).isEmpty = q2 at c2 hx
  generalize getF L teN = s1 at c1
  generalize getF L clN = s2 at c2
  generalize elementsF L teN = E1 at c3 hx sz1
  generalize elementsF L clN = E2 at c4 hx sz2
  have c5 := fun W v h => justChunked_any v E1 W h (fun a ha => Nat.le_trans (sz1.2 a ha) (by decide))
  have c6 := fun W v h => countedFrame_any v E2 W h (fun a ha => Nat.le_trans (sz2.2 a ha) (by decide)) (Nat.le_trans sz2.1 (by decide))
  generalize justX E1 = q3 at c5 hx
  unfold teN at c1 c3
  unfold clN at c2 c4
  have C1 := hid c1
  have C2 := hid c2
  have C3 := hid c3
  have C4 := hid c4
  have C5 := hid c5
  have C6 := hid c6
  have HR := hid hr
  have HX := hid hx
  clear c1 c2 c3 c4 c5 c6 hr hx sz1 sz2 hk
  cases q1 with
  | true =>
    cases q2 with
    | true =>
      have hx : x = .ok (other, 0) := HX.out
      subst hx
      go_enter Tryd.func13, Tryd.ntmps13
      go_wp2_with fail
      rw [← hW]
      clear hW e0 e1
      refine (C1.out _ (HR.out.below hb0)).mono ?_
      rintro e w1 ⟨rfl, hb1⟩
      have hg1 := hg0.below hb1
      have hr1 := hr0.below hb1
      have hbA := chain2 hb0 hb0.size hb1
      have e1 := hg1.cell 1
      clear hg0 hr0 hb0 hb1 C1
      go_wp2_with fail
      refine (C2.out _ (HR.out.below hbA)).mono ?_
      rintro e w2 ⟨rfl, hb2⟩
      have hg2 := hg1.below hb2
      have hr2 := hr1.below hb2
      have hbB := chain2 hbA hbA.size hb2
      have e0' := hg2.cell 0
      have e1' := hg2.cell 1
      clear hg1 hr1 hbA hb2 C2 e1
      go_wp2_with (refine wpList_store_row rfl 36 _ _ rfl (w.heap.size + 1) _ rfl rfl 36 #[.int .i64 0, .int .i64 0] hr2 infoFrS rfl (oneF (other : Int) 0) ?_)
      refine bodyPost_ret (results_row2 Tryd.results13 _ _ (w.heap.size + 1) _ rfl (hr2.setRow _) Tryd.underlying36 rfl infoFrS) rfl ?_
      exact ⟨rfl, below_setRow hbB (Nat.le_succ _) _⟩
    | false =>
      have hx : x = cntX E2 := HX.out
      subst hx
      go_enter Tryd.func13, Tryd.ntmps13
      go_wp2_with fail
      rw [← hW]
      clear hW e0 e1
      refine (C1.out _ (HR.out.below hb0)).mono ?_
      rintro e w1 ⟨rfl, hb1⟩
      have hg1 := hg0.below hb1
      have hr1 := hr0.below hb1
      have hbA := chain2 hb0 hb0.size hb1
      have e1 := hg1.cell 1
      clear hg0 hr0 hb0 hb1 C1
      go_wp2_with fail
      refine (C2.out _ (HR.out.below hbA)).mono ?_
      rintro e w2 ⟨rfl, hb2⟩
      have hg2 := hg1.below hb2
      have hr2 := hr1.below hb2
      have hbB := chain2 hbA hbA.size hb2
      have e0' := hg2.cell 0
      have e1' := hg2.cell 1
      clear hg1 hr1 hbA hb2 C2 e1
      go_wp2_with fail
      refine (C4.out _ (HR.out.below hbB)).mono ?_
      rintro e w3 ⟨⟨v3, rfl, ho3⟩, hb3⟩
      have hr3 := hr2.below hb3
      have hbC := chain2 hbB hbB.size hb3
      obtain ⟨ao3, cp3, rfl⟩ := Reads.strs ho3.reads
      go_wp2_with fail
      refine (C6.out _ _ ho3.reads).mono ?_
      rintro e w4 ⟨hf, hb4⟩
      have hr4 := hr3.below hb4
      have hbD := chain2 hbC hbC.size hb4
      obtain ⟨t1, t2, t3, ht, rfl⟩ := hf.form
      clear hr3 hb4 hb3 hbB hr2 ho3 hg2 e0' e1' C3 C4 C5 C6
      go_wp2_with (refine wpList_store_row rfl 36 _ _ rfl (w.heap.size + 1) _ rfl rfl 36 #[.int .i64 0, .int .i64 0] hr4 infoFrS rfl (oneF t1 t2) ?_)
      refine bodyPost_ret (results_row2 Tryd.results13 _ _ (w.heap.size + 1) _ rfl (hr4.setRow _) Tryd.underlying36 rfl infoFrS) rfl ?_
      exact ⟨by unfold FrameIs; rw [ht]; rfl, below_setRow hbD (Nat.le_succ _) _⟩
  | false =>
    cases q2 with
    | false =>
      have hx : x = .error 24 := HX.out
      subst hx
      go_enter Tryd.func13, Tryd.ntmps13
      go_wp2_with fail
      rw [← hW]
      clear hW e0 e1
      refine (C1.out _ (HR.out.below hb0)).mono ?_
      rintro e w1 ⟨rfl, hb1⟩
      have hg1 := hg0.below hb1
      have hr1 := hr0.below hb1
      have hbA := chain2 hb0 hb0.size hb1
      have e1 := hg1.cell 1
      clear hg0 hr0 hb0 hb1 C1
      go_wp2_with fail
      refine (C2.out _ (HR.out.below hbA)).mono ?_
      rintro e w2 ⟨rfl, hb2⟩
      have hg2 := hg1.below hb2
      have hr2 := hr1.below hb2
      have hbB := chain2 hbA hbA.size hb2
      have e0' := hg2.cell 0
      have e1' := hg2.cell 1
      clear hg1 hr1 hbA hb2 C2 e1
      go_wp2_with (refine wpList_store_row rfl 36 _ _ rfl (w.heap.size + 1) _ rfl rfl 36 #[.int .i64 0, .int .i64 0] hr2 infoFrS rfl (oneF 0 0) ?_)
      refine bodyPost_ret (results_row2 Tryd.results13 _ _ (w.heap.size + 1) _ rfl (hr2.setRow _) Tryd.underlying36 rfl infoFrS) rfl ?_
      exact ⟨rfl, below_setRow hbB (Nat.le_succ _) _⟩
    | true =>
      cases q3 with
      | false =>
        have hx : x = .error 24 := HX.out
        subst hx
        go_enter Tryd.func13, Tryd.ntmps13
        go_wp2_with fail
        rw [← hW]
        clear hW e0 e1
        refine (C1.out _ (HR.out.below hb0)).mono ?_
        rintro e w1 ⟨rfl, hb1⟩
        have hg1 := hg0.below hb1
        have hr1 := hr0.below hb1
        have hbA := chain2 hb0 hb0.size hb1
        have e1 := hg1.cell 1
        clear hg0 hr0 hb0 hb1 C1
        go_wp2_with fail
        refine (C2.out _ (HR.out.below hbA)).mono ?_
        rintro e w2 ⟨rfl, hb2⟩
        have hg2 := hg1.below hb2
        have hr2 := hr1.below hb2
        have hbB := chain2 hbA hbA.size hb2
        have e0' := hg2.cell 0
        have e1' := hg2.cell 1
        clear hg1 hr1 hbA hb2 C2 e1
        go_wp2_with fail
        refine (C3.out _ (HR.out.below hbB)).mono ?_
        rintro e w3 ⟨⟨v3, rfl, ho3⟩, hb3⟩
        have hr3 := hr2.below hb3
        have hg3 := hg2.below hb3
        have hbC := chain2 hbB hbB.size hb3
        obtain ⟨ao3, cp3, rfl⟩ := Reads.strs ho3.reads
        go_wp2_with fail
        refine (C5.out _ _ ho3.reads).mono ?_
        rintro e w4 ⟨rfl, hb4⟩
        have hr4 := hr3.below hb4
        have hg4 := hg3.below hb4
        have hbD := chain2 hbC hbC.size hb4
        clear hr3 hg3 hb4 hb3 hbB hr2 ho3 hg2 e0' e1' C3 C4 C5 C6
        go_wp2_with (refine wpList_store_row rfl 36 _ _ rfl (w.heap.size + 1) _ rfl rfl 36 #[.int .i64 0, .int .i64 0] hr4 infoFrS rfl (oneF 0 0) ?_)
        refine bodyPost_ret (results_row2 Tryd.results13 _ _ (w.heap.size + 1) _ rfl (hr4.setRow _) Tryd.underlying36 rfl infoFrS) rfl ?_
        exact ⟨rfl, below_setRow hbD (Nat.le_succ _) _⟩
      | true =>
        by_cases hm : minor = 0
        · have hx : x = .error 24 := by rw [HX.out, hm]; rfl
          subst hx
          have z1 : (minor == 0) = true := by simpa using hm
          clear hm
          go_enter Tryd.func13, Tryd.ntmps13
          go_wp2_with fail
          rw [← hW]
          clear hW e0 e1
          refine (C1.out _ (HR.out.below hb0)).mono ?_
          rintro e w1 ⟨rfl, hb1⟩
          have hg1 := hg0.below hb1
          have hr1 := hr0.below hb1
          have hbA := chain2 hb0 hb0.size hb1
          have e1 := hg1.cell 1
          clear hg0 hr0 hb0 hb1 C1
          go_wp2_with fail
          refine (C2.out _ (HR.out.below hbA)).mono ?_
          rintro e w2 ⟨rfl, hb2⟩
          have hg2 := hg1.below hb2
          have hr2 := hr1.below hb2
          have hbB := chain2 hbA hbA.size hb2
          have e0' := hg2.cell 0
          have e1' := hg2.cell 1
          clear hg1 hr1 hbA hb2 C2 e1
          go_wp2_with fail
          refine (C3.out _ (HR.out.below hbB)).mono ?_
          rintro e w3 ⟨⟨v3, rfl, ho3⟩, hb3⟩
          have hr3 := hr2.below hb3
          have hg3 := hg2.below hb3
          have hbC := chain2 hbB hbB.size hb3
          obtain ⟨ao3, cp3, rfl⟩ := Reads.strs ho3.reads
          go_wp2_with fail
          refine (C5.out _ _ ho3.reads).mono ?_
          rintro e w4 ⟨rfl, hb4⟩
          have hr4 := hr3.below hb4
          have hg4 := hg3.below hb4
          have hbD := chain2 hbC hbC.size hb4
          clear hr3 hg3 hb4 hb3 hbB hr2 ho3 hg2 e0' e1' C3 C4 C5 C6
          have e0'' := hg4.cell 0
          go_wp2_with (refine wpList_store_row rfl 36 _ _ rfl (w.heap.size + 1) _ rfl rfl 36 #[.int .i64 0, .int .i64 0] hr4 infoFrS rfl (oneF 0 0) ?_)
          refine bodyPost_ret (results_row2 Tryd.results13 _ _ (w.heap.size + 1) _ rfl (hr4.setRow _) Tryd.underlying36 rfl infoFrS) rfl ?_
          exact ⟨rfl, below_setRow hbD (Nat.le_succ _) _⟩
        · have z1 : (minor == 0) = false := by simpa using hm
          have hx : x = .ok (2, 0) := by rw [HX.out, z1]; rfl
          subst hx
          clear hm
          go_enter Tryd.func13, Tryd.ntmps13
          go_wp2_with fail
          rw [← hW]
          clear hW e0 e1
          refine (C1.out _ (HR.out.below hb0)).mono ?_
          rintro e w1 ⟨rfl, hb1⟩
          have hg1 := hg0.below hb1
          have hr1 := hr0.below hb1
          have hbA := chain2 hb0 hb0.size hb1
          have e1 := hg1.cell 1
          clear hg0 hr0 hb0 hb1 C1
          go_wp2_with fail
          refine (C2.out _ (HR.out.below hbA)).mono ?_
          rintro e w2 ⟨rfl, hb2⟩
          have hg2 := hg1.below hb2
          have hr2 := hr1.below hb2
          have hbB := chain2 hbA hbA.size hb2
          have e0' := hg2.cell 0
          have e1' := hg2.cell 1
          clear hg1 hr1 hbA hb2 C2 e1
          go_wp2_with fail
          refine (C3.out _ (HR.out.below hbB)).mono ?_
          rintro e w3 ⟨⟨v3, rfl, ho3⟩, hb3⟩
          have hr3 := hr2.below hb3
          have hg3 := hg2.below hb3
          have hbC := chain2 hbB hbB.size hb3
          obtain ⟨ao3, cp3, rfl⟩ := Reads.strs ho3.reads
          go_wp2_with fail
          refine (C5.out _ _ ho3.reads).mono ?_
          rintro e w4 ⟨rfl, hb4⟩
          have hr4 := hr3.below hb4
          have hg4 := hg3.below hb4
          have hbD := chain2 hbC hbC.size hb4
          clear hr3 hg3 hb4 hb3 hbB hr2 ho3 hg2 e0' e1' C3 C4 C5 C6
          have e0'' := hg4.cell 0
          go_wp2_with (refine wpList_store_row rfl 36 _ _ rfl (w.heap.size + 1) _ rfl rfl 36 #[.int .i64 0, .int .i64 0] hr4 infoFrS rfl (oneF 2 0) ?_)
          refine bodyPost_ret (results_row2 Tryd.results13 _ _ (w.heap.size + 1) _ rfl (hr4.setRow _) Tryd.underlying36 rfl infoFrS) rfl ?_
          exact ⟨rfl, below_setRow hbD (Nat.le_succ _) _⟩
end Go.Proofs.YtefplhkjcclppaaDoor
