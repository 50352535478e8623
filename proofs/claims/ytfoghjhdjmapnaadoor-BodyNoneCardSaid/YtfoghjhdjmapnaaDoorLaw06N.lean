/-
  The walk of the statement BodyNone.
-/
import Derived.Test.YtfoghjhdjmapnaaDoorLaw06A
import Derived.Test.YtfoghjhdjmapnaaDoorLaw06B
import Derived.Test.YtfoghjhdjmapnaaDoorBodyJ
import Derived.Test.YtfoghjhdjmapnaaDoorFieldC
namespace Go.Proofs.YtfoghjhdjmapnaaDoor
open Go.RowKit Go.Pantry

theorem all_outs {L : List Fld} {ns : List (List UInt8)} {n : List UInt8} (h : n ∈ ns) : allF (outsF L ns) n = [] := by
  unfold allF outsF
  rw [List.filter_filter]
  have e : (L.filter fun f => isF n f && !ns.any fun m => isF m f) = [] := by
    rw [List.filter_eq_nil_iff]
    intro f _ hf
    simp only [Bool.and_eq_true, Bool.not_eq_true'] at hf
    have := List.any_eq_false.1 hf.2 n h
    exact this hf.1
  rw [e]
  rfl
theorem frameX_outs (L : List Fld) (z : Int) (o : Nat) : frameX z o (outsF L [clN, teN]) = .ok (o, 0) := by
  unfold frameX
  rw [all_outs (by simp), all_outs (by simp)]
  rfl
theorem okFs_outs {L : List Fld} {ns : List (List UInt8)} (h : okFs L) : okFs (outsF L ns) :=
  ⟨Nat.le_trans (List.length_filter_le ..) h.1, fun f hf => h.2 f (List.mem_filter.1 hf).1⟩
set_option maxRecDepth 100000 in
set_option maxHeartbeats 16000000 in
theorem bodyNone_walk (v : Value) (L : List Fld) (st : Int) (smt : ByteArray) (w : World) (ht : Tab64 w) (hl : Reads2 w v L ∧ (∀ f ∈ L, f.1.length ≤ maxLen ∧ f.2.length ≤ maxLen) ∧ L.length ≤ maxLen) (hsm : smt.size ≤ maxLen) :
    Calls Tryd.prog 8 #[v, .int .i64 st, .string smt] w fun e w' => e = .returned (.bool true) ∧ Below w.heap.size w w' := by
  obtain ⟨mt, rfl⟩ := as_list smt
  rw [szL] at hsm
  obtain ⟨hr, -, hLl⟩ := hl
  obtain ⟨ao, cap, rfl⟩ := hr.form
  unfold maxLen at hsm hLl
  have cs := fun W h => small_any (.slice ao L.length cap) L W h (by omega)
  have CA := hid (anchor_any w ht)
  have HR := hid hr
  clear hr ht
  obtain ⟨q, hq⟩ : ∃ q, smallG L = q := ⟨_, rfl⟩
  rw [hq] at cs
  have CSM := hid cs
  clear cs
  cases q
  · clear hq
    go_enter Tryd.func8, Tryd.ntmps8
    go_wp2_with fail
    refine CA.out.mono ?_
    rintro e w1 ⟨rfl, hb1⟩
    go_wp2_with fail
    refine (CSM.out _ (HR.out.below hb1)).mono ?_
    rintro e w2 ⟨rfl, hb2⟩
    have hb3 := chain2 hb1 hb1.size hb2
    clear hb1 hb2
    go_wp2_with fail
    go_ret
    exact ⟨rfl, hb3⟩
  by_cases h1 : (30 : Int) < (mt.length : Int)
  · clear hq
    go_enter Tryd.func8, Tryd.ntmps8
    go_wp2_with fail
    refine CA.out.mono ?_
    rintro e w1 ⟨rfl, hb1⟩
    go_wp2_with fail
    refine (CSM.out _ (HR.out.below hb1)).mono ?_
    rintro e w2 ⟨rfl, hb2⟩
    have hb3 := chain2 hb1 hb1.size hb2
    clear hb1 hb2
    go_wp2_with fail
    go_ret
    exact ⟨rfl, hb3⟩
  have d1 : decide ((30 : Int) < (mt.length : Int)) = false := decide_eq_false h1
  obtain ⟨hk, -, -⟩ := smallG_ok hq
  have c1 := fun W h => OfResponse_any mt [] st 1 (.slice ao L.length cap) L W h hk
  have c2 := fun W v h => OfResponse_any mt [] st 1 v (outsF L [clN, teN]) W h (okFs_outs hk)
  rw [frameX_outs] at c2
  have c3 := fun W vn h => lWithout_any (.slice ao L.length cap) vn L [clN, teN] W h hk
  have hbx : bareX (mt == [72, 69, 65, 68]) st = ((mt == [72, 69, 65, 68]) || (decide (st < 200) || st == 204 || st == 304)) := rfl
  generalize bareX (mt == [72, 69, 65, 68]) st = bx at c1 c2 hbx
  have hol : (outsF L [clN, teN]).length ≤ 1000 := (okFs_outs hk).1
  have C3 := hid c3
  clear c3 hq h1
  obtain ⟨q1, hq1⟩ : ∃ q, (mt == [72, 69, 65, 68]) = q := ⟨_, rfl⟩
  obtain ⟨q2, hq2⟩ : ∃ q, decide (st < 200) = q := ⟨_, rfl⟩
  obtain ⟨q3, hq3⟩ : ∃ q, (st == 204) = q := ⟨_, rfl⟩
  obtain ⟨q4, hq4⟩ : ∃ q, (st == 304) = q := ⟨_, rfl⟩
  rw [hq1, hq2, hq3, hq4] at hbx
  have hcase : (q1 = true ∧ bx = true) ∨ (q1 = false ∧ q2 = true ∧ bx = true) ∨ (q1 = false ∧ q2 = false ∧ q3 = true ∧ bx = true) ∨ (q1 = false ∧ q2 = false ∧ q3 = false ∧ q4 = true ∧ bx = true) ∨ (q1 = false ∧ q2 = false ∧ q3 = false ∧ q4 = false ∧ bx = false) := by
    rw [hbx]
    cases q1 <;> cases q2 <;> cases q3 <;> cases q4 <;> decide
  clear hbx
  rcases hcase with ⟨rfl, rfl⟩ | ⟨rfl, rfl, rfl⟩ | ⟨rfl, rfl, rfl, rfl⟩ | ⟨rfl, rfl, rfl, rfl, rfl⟩ | ⟨rfl, rfl, rfl, rfl, rfl⟩
  · simp only [if_true] at c1
    have C1 := hid c1
    clear c1 c2
    go_enter Tryd.func8, Tryd.ntmps8
    go_wp2_with fail
    refine CA.out.mono ?_
    rintro e w1 ⟨rfl, hb1⟩
    go_wp2_with fail
    refine (CSM.out _ (HR.out.below hb1)).mono ?_
    rintro e w2 ⟨rfl, hb2⟩
    have hb3 := chain2 hb1 hb1.size hb2
    have hwG : w.heap.size ≤ w2.heap.size := hb3.size
    clear hb1 hb2 CA CSM
    obtain ⟨W1, hW1⟩ : ∃ W, W = w2.alloc (.cells #[.int .i64 st, .string ⟨#[]⟩, .int .i64 1, .slice ao L.length cap] 31) := ⟨_, rfl⟩
    have hbW : Below w2.heap.size w2 W1 := by rw [hW1]; exact below_alloc _ _
    have hg : rowIs W1 w2.heap.size #[.int .i64 st, .string ⟨#[]⟩, .int .i64 1, .slice ao L.length cap] 31 := by rw [hW1]; exact rowIs_new _ _ _
    have k0 := hg.cell 0
    have k1 := hg.cell 1
    have k2 := hg.cell 2
    have k3 := hg.cell 3
    rw [hW1] at k0 k1 k2 k3
    have hb4 := chain2 hb3 hb3.size hbW
    clear hbW hb3
    go_wp2_with fail
    rw [← hW1]
    clear hW1 k0 k1 k2 k3
    generalize w2.heap.size = G at *
    refine (C1.out _ (HR.out.below hb4)).mono ?_
    rintro e w3 ⟨hf, hb5⟩
    unfold FrameIs fK at hf
    subst hf
    have hb6 := chain2 hb4 hb4.size hb5
    have hb7 := chain2 hb6 hb6.size (below_alloc w3 (.cells #[.int .i64 0, .int .i64 0] 33))
    clear hg hb4 hb5 hb6 C1
    go_wp2_with fail
    go_ret
    exact ⟨rfl, hb7⟩
  · simp only [if_true] at c1
    have C1 := hid c1
    clear c1 c2
    go_enter Tryd.func8, Tryd.ntmps8
    go_wp2_with fail
    refine CA.out.mono ?_
    rintro e w1 ⟨rfl, hb1⟩
    go_wp2_with fail
    refine (CSM.out _ (HR.out.below hb1)).mono ?_
    rintro e w2 ⟨rfl, hb2⟩
    have hb3 := chain2 hb1 hb1.size hb2
    have hwG : w.heap.size ≤ w2.heap.size := hb3.size
    clear hb1 hb2 CA CSM
    obtain ⟨W1, hW1⟩ : ∃ W, W = w2.alloc (.cells #[.int .i64 st, .string ⟨#[]⟩, .int .i64 1, .slice ao L.length cap] 31) := ⟨_, rfl⟩
    have hbW : Below w2.heap.size w2 W1 := by rw [hW1]; exact below_alloc _ _
    have hg : rowIs W1 w2.heap.size #[.int .i64 st, .string ⟨#[]⟩, .int .i64 1, .slice ao L.length cap] 31 := by rw [hW1]; exact rowIs_new _ _ _
    have k0 := hg.cell 0
    have k1 := hg.cell 1
    have k2 := hg.cell 2
    have k3 := hg.cell 3
    rw [hW1] at k0 k1 k2 k3
    have hb4 := chain2 hb3 hb3.size hbW
    clear hbW hb3
    go_wp2_with fail
    rw [← hW1]
    clear hW1 k0 k1 k2 k3
    generalize w2.heap.size = G at *
    refine (C1.out _ (HR.out.below hb4)).mono ?_
    rintro e w3 ⟨hf, hb5⟩
    unfold FrameIs fK at hf
    subst hf
    have hb6 := chain2 hb4 hb4.size hb5
    have hb7 := chain2 hb6 hb6.size (below_alloc w3 (.cells #[.int .i64 0, .int .i64 0] 33))
    clear hg hb4 hb5 hb6 C1
    go_wp2_with fail
    go_ret
    exact ⟨rfl, hb7⟩
  · simp only [if_true] at c1
    have C1 := hid c1
    clear c1 c2
    go_enter Tryd.func8, Tryd.ntmps8
    go_wp2_with fail
    refine CA.out.mono ?_
    rintro e w1 ⟨rfl, hb1⟩
    go_wp2_with fail
    refine (CSM.out _ (HR.out.below hb1)).mono ?_
    rintro e w2 ⟨rfl, hb2⟩
    have hb3 := chain2 hb1 hb1.size hb2
    have hwG : w.heap.size ≤ w2.heap.size := hb3.size
    clear hb1 hb2 CA CSM
    obtain ⟨W1, hW1⟩ : ∃ W, W = w2.alloc (.cells #[.int .i64 st, .string ⟨#[]⟩, .int .i64 1, .slice ao L.length cap] 31) := ⟨_, rfl⟩
    have hbW : Below w2.heap.size w2 W1 := by rw [hW1]; exact below_alloc _ _
    have hg : rowIs W1 w2.heap.size #[.int .i64 st, .string ⟨#[]⟩, .int .i64 1, .slice ao L.length cap] 31 := by rw [hW1]; exact rowIs_new _ _ _
    have k0 := hg.cell 0
    have k1 := hg.cell 1
    have k2 := hg.cell 2
    have k3 := hg.cell 3
    rw [hW1] at k0 k1 k2 k3
    have hb4 := chain2 hb3 hb3.size hbW
    clear hbW hb3
    go_wp2_with fail
    rw [← hW1]
    clear hW1 k0 k1 k2 k3
    generalize w2.heap.size = G at *
    refine (C1.out _ (HR.out.below hb4)).mono ?_
    rintro e w3 ⟨hf, hb5⟩
    unfold FrameIs fK at hf
    subst hf
    have hb6 := chain2 hb4 hb4.size hb5
    have hb7 := chain2 hb6 hb6.size (below_alloc w3 (.cells #[.int .i64 0, .int .i64 0] 33))
    clear hg hb4 hb5 hb6 C1
    go_wp2_with fail
    go_ret
    exact ⟨rfl, hb7⟩
  · simp only [if_true] at c1
    have C1 := hid c1
    clear c1 c2
    go_enter Tryd.func8, Tryd.ntmps8
    go_wp2_with fail
    refine CA.out.mono ?_
    rintro e w1 ⟨rfl, hb1⟩
    go_wp2_with fail
    refine (CSM.out _ (HR.out.below hb1)).mono ?_
    rintro e w2 ⟨rfl, hb2⟩
    have hb3 := chain2 hb1 hb1.size hb2
    have hwG : w.heap.size ≤ w2.heap.size := hb3.size
    clear hb1 hb2 CA CSM
    obtain ⟨W1, hW1⟩ : ∃ W, W = w2.alloc (.cells #[.int .i64 st, .string ⟨#[]⟩, .int .i64 1, .slice ao L.length cap] 31) := ⟨_, rfl⟩
    have hbW : Below w2.heap.size w2 W1 := by rw [hW1]; exact below_alloc _ _
    have hg : rowIs W1 w2.heap.size #[.int .i64 st, .string ⟨#[]⟩, .int .i64 1, .slice ao L.length cap] 31 := by rw [hW1]; exact rowIs_new _ _ _
    have k0 := hg.cell 0
    have k1 := hg.cell 1
    have k2 := hg.cell 2
    have k3 := hg.cell 3
    rw [hW1] at k0 k1 k2 k3
    have hb4 := chain2 hb3 hb3.size hbW
    clear hbW hb3
    go_wp2_with fail
    rw [← hW1]
    clear hW1 k0 k1 k2 k3
    generalize w2.heap.size = G at *
    refine (C1.out _ (HR.out.below hb4)).mono ?_
    rintro e w3 ⟨hf, hb5⟩
    unfold FrameIs fK at hf
    subst hf
    have hb6 := chain2 hb4 hb4.size hb5
    have hb7 := chain2 hb6 hb6.size (below_alloc w3 (.cells #[.int .i64 0, .int .i64 0] 33))
    clear hg hb4 hb5 hb6 C1
    go_wp2_with fail
    go_ret
    exact ⟨rfl, hb7⟩
  · simp only [Bool.false_eq_true, if_false] at c1 c2
    have C1 := hid c1
    have C2 := hid c2
    clear c1 c2
    go_enter Tryd.func8, Tryd.ntmps8
    go_wp2_with fail
    refine CA.out.mono ?_
    rintro e w1 ⟨rfl, hb1⟩
    go_wp2_with fail
    refine (CSM.out _ (HR.out.below hb1)).mono ?_
    rintro e w2 ⟨rfl, hb2⟩
    have hb3 := chain2 hb1 hb1.size hb2
    have hwG : w.heap.size ≤ w2.heap.size := hb3.size
    clear hb1 hb2 CA CSM
    obtain ⟨W1, hW1⟩ : ∃ W, W = w2.alloc (.cells #[.int .i64 st, .string ⟨#[]⟩, .int .i64 1, .slice ao L.length cap] 31) := ⟨_, rfl⟩
    have hbW : Below w2.heap.size w2 W1 := by rw [hW1]; exact below_alloc _ _
    have hg : rowIs W1 w2.heap.size #[.int .i64 st, .string ⟨#[]⟩, .int .i64 1, .slice ao L.length cap] 31 := by rw [hW1]; exact rowIs_new _ _ _
    have k0 := hg.cell 0
    have k1 := hg.cell 1
    have k2 := hg.cell 2
    have k3 := hg.cell 3
    rw [hW1] at k0 k1 k2 k3
    have hb4 := chain2 hb3 hb3.size hbW
    clear hbW hb3
    go_wp2_with fail
    rw [← hW1]
    clear hW1 k0 k1 k2 k3
    generalize w2.heap.size = G at *
    refine (C1.out _ (HR.out.below hb4)).mono ?_
    rintro e w3 ⟨hf, hb5⟩
    obtain ⟨t1, t2, t3, ht, rfl⟩ := hf.form
    have hg3 := hg.below hb5
    have hb6 := chain2 hb4 hb4.size hb5
    obtain ⟨W2, hW2⟩ : ∃ W, W = w3.alloc (.cells #[.int .i64 t1, .int .i64 t2] 33) := ⟨_, rfl⟩
    have hbW2 : Below w3.heap.size w3 W2 := by rw [hW2]; exact below_alloc _ _
    have hg4 := hg3.below hbW2
    have hb7 := chain2 hb6 hb6.size hbW2
    obtain ⟨W3, hW3⟩ : ∃ W, W = W2.alloc (.cells #[strV clN, strV teN] 9) := ⟨_, rfl⟩
    have hbW3 : Below W2.heap.size W2 W3 := by rw [hW3]; exact below_alloc _ _
    have hg5 := hg4.below hbW3
    have hb8 := chain2 hb7 hb7.size hbW3
    have hrn : Reads W3 (.slice (some ⟨W2.heap.size, 0, none⟩) 2 2) ([clN, teN].map strV) := by rw [hW3]; exact reads_new W2 _ _ 2
    have hsz : W2.heap.size = w3.heap.size + 1 := by rw [hW2]; simp
    rw [hsz] at hrn
    have HN := hid hrn
    rw [hW2] at hW3
    clear hg hb4 hb5 hg3 hb6 hW2 hbW2 hg4 hb7 hbW3 hrn hsz hf C1
    unfold clN teN at hW3
    go_wp2_with fail
    rw [← hW3]
    clear hW3
    refine (C3.out _ _ (HR.out.below hb8) HN.out ⟨by decide, by decide⟩).mono ?_
    rintro e w4 ⟨⟨v3, kk, rfl, ho3⟩, hb9⟩
    obtain rfl : kk = (outsF L [clN, teN]).length := ho3.reads2.1
    obtain ⟨ao3, cp3, rfl⟩ : ∃ a c, v3 = .slice a (outsF L [clN, teN]).length c := by
      obtain ⟨e1, h2⟩ := ho3.reads2
      obtain ⟨a, c, rfl⟩ := h2.form
      exact ⟨a, c, rfl⟩
    have hg6 := hg5.below hb9
    have hb10 := chain2 hb8 hb8.size hb9
    have hcl := hg6.cell 3
    have hfr := hg6.free 3
    have hg7 := hg6.setCell 3 (.slice ao3 (outsF L [clN, teN]).length cp3)
    have hb11 := hb10.setCell (p := ⟨G, 3, none⟩) hwG (.slice ao3 (outsF L [clN, teN]).length cp3)
    have hgl := hg5.lt
    have hrd3 : Reads2 (w4.setCell ⟨G, 3, none⟩ (.slice ao3 (outsF L [clN, teN]).length cp3)) (.slice ao3 (outsF L [clN, teN]).length cp3) (outsF L [clN, teN]) := ((ownsRow_far2 ho3 fun k hk => Below.heap_setCell _ ⟨G, 3, none⟩ _ k (by show k ≠ G; omega)).reads2).2
    obtain ⟨W5, hW5⟩ : ∃ W, W = w4.setCell ⟨G, 3, none⟩ (.slice ao3 (outsF L [clN, teN]).length cp3) := ⟨_, rfl⟩
    have k0 := hg7.cell 0
    have k1 := hg7.cell 1
    have k2 := hg7.cell 2
    have k3 := hg7.cell 3
    have c2' := C2.out _ _ hrd3
    have C4 := hid c2'
    clear hg5 hb8 hb9 hg6 hb10 hg7 ho3 hrd3 c2' C2 C3 HN hgl
    go_wp2_with fail
    refine C4.out.mono ?_
    rintro e w6 ⟨hf, hb12⟩
    unfold FrameIs fK at hf
    subst hf
    have hb13 := chain2 hb11 hb11.size hb12
    clear hb11 hb12 C4 k0 k1 k2 k3 hcl hfr hW5
    have hb14 := chain2 hb13 hb13.size (below_alloc w6 (.cells #[.int .i64 3, .int .i64 0] 33))
    clear hb13
    go_wp2_with fail
    go_ret
    exact ⟨rfl, hb14⟩
end Go.Proofs.YtfoghjhdjmapnaaDoor
