/-
  The document's answers of layer 13: Asking.
-/
import Derived.Test.YtoolboafbkikjaaDoorF1307
import Derived.Test.YtoolboafbkikjaaDoorF13Ref12B
set_option linter.unusedVariables false
set_option linter.unusedSimpArgs false

namespace Go.Proofs.YtoolboafbkikjaaDoor
open Go.RowKit Go.Pantry

theorem _root_.Go.Proofs.YtoolboafbkikjaaDoor.SmallF.wide {l : List Fld} (h : SmallF l) : WideF l :=
  ⟨Nat.le_trans h.len (by decide), fun f hf => Nat.le_trans (h.name f hf) (by decide), fun f hf => Nat.le_trans (h.val f hf) (by decide)⟩
theorem via_len {l : List Fld} (h : SmallF l) : (viaL l).length ≤ 18140 := by
  have hg := h.get nViaP
  unfold viaL
  split
  · decide
  · rw [List.length_append]; simp [markP]; omega
theorem strip_len (l : List Fld) : (stripF l).length ≤ l.length := Nat.le_trans (outsF_len _ _) (outsF_len _ _)
theorem strip_sub (l : List Fld) : ∀ f ∈ stripF l, f ∈ l := fun f h => outsF_sub f (outsF_sub f h)
theorem small_onward {l : List Fld} (h : SmallF l) : WideF (onwardF l) :=
  (h.wide.strip.out nViaP).snoc (Nat.le_trans (List.length_filter_le _ _) (Nat.le_trans (strip_len l) (Nat.le_trans h.len (by decide)))) (show sViaP.length ≤ 100000 by decide) (Nat.le_trans (via_len h) (by decide))
set_option maxRecDepth 8000 in
set_option maxHeartbeats 4000000 in
theorem r13Asking_any (v cv : Value) (req came : List Fld) (w : World) (hr : Reads2 w v req) (hc : Reads2 w cv came) (hs : SmallF req) (hk : SmallF came) :
    Calls Tryd.prog 21 #[v, cv] w (MadeP w (askingF req came)) := by
  have c1 := r13Onward_any v req w hr hs.wide
  have c2 := fun (W : World) (x vn : Value) (h : Reads2 W x (onwardF req)) (hn : Reads W vn (askN.map strV)) => r13WithoutO_any x vn (onwardF req) askN W h (small_onward hs) hn (by decide) (by decide)
  have hol : (outsF (onwardF req) askN).length ≤ 1000 := ((small_onward hs).outs _).len
  have c3 := fun (W : World) (h : Reads2 W cv came) => refGetW_any cv came nETag W h hk.wide (by decide)
  have c4 := fun (W : World) (h : Reads2 W cv came) => refDated_any cv came nLast W h hk (by decide)
  have c5 := fun (W : World) (h : Reads2 W cv came) => refGetW_any cv came nLast W h hk.wide (by decide)
  have ha : askingF req came = outsF (onwardF req) askN ++ (if getF came nETag = [] then [] else [(sINM, getF came nETag)]) ++ (if (datedF came nLast).isSome then [(sIMS, getF came nLast)] else []) := rfl
  rw [ha]
  clear ha
  generalize outsF (onwardF req) askN = O at c2 hol ⊢
  generalize getF came nETag = T at c3 ⊢
  generalize datedF came nLast = D at c4 ⊢
  generalize getF came nLast = Z at c5 ⊢
  generalize ((allF came nETag).length : Int) = nT at c3
  generalize ((allF came nLast).length : Int) = nZ at c5
  obtain ⟨R, hR⟩ : ∃ R, O ++ (if T = [] then [] else [(sINM, T)]) ++ (if D.isSome then [(sIMS, Z)] else []) = R := ⟨_, rfl⟩
  rw [hR]
  have HRR := hid hR
  clear hR
  have HC := hid hc
  have HC0 := hid hc
  have C1 := hid c1
  have C2 := hid c2
  have C3 := hid c3
  have C4 := hid c4
  have C5 := hid c5
  clear hr hc c1 c2 c3 c4 c5
  go_enter Tryd.func21, Tryd.ntmps21
  go_wp2_with fail
  refine C1.out.mono ?_
  rintro e w1 ⟨⟨v1, rfl, hr1⟩, hb1⟩
  have hb2 := below_alloc w1 (.cells (askN.map strV).toArray 9)
  have hf2 := lit_reads w1 askN 9 6 w1.heap.size rfl rfl (askN.map strV).toArray rfl
  have HB2 := hid (chain2 hb1 hb1.size hb2)
  have HC2 := hid (HC.out.below HB2.out)
  have D2 := hid (C2.out _ _ _ (hr1.below hb2) hf2)
  clear hf2 hr1 C2 C1 HC hb1 hb2
  go_wp2_with fail
  refine D2.out.mono ?_
  rintro e w3 ⟨⟨v3, rfl, -, how⟩, hb3⟩
  obtain ⟨j, ho3⟩ := how (by decide)
  have hj := ho3.reads2.1
  subst hj
  have HO3 := hid (ho3.base HB2.out.size)
  have HB3 := hid (chain2 HB2.out HB2.out.size hb3)
  have HC3 := hid (HC2.out.below hb3)
  have hs3 := HB3.out.size
  clear ho3 hb3 how D2 HB2 HC2
  go_wp2_with fail
  refine (C3.out _ HC3.out).mono ?_
  rintro e w4 ⟨rfl, hb4⟩
  have HO4 := hid (HO3.out.below hb4)
  have HB4 := hid (chain2 HB3.out HB3.out.size hb4)
  have HC4 := hid (HC3.out.below hb4)
  have hs4 := HB4.out.size
  clear hb4 HO3 HB3 HC3 C3 hs3
  have hs4w : w.heap.size ≤ w4.heap.size := hs4
  by_cases hT : T = []
  · subst hT
    rw [if_pos rfl, List.append_nil] at HRR
    go_wp2_with fail
    refine (C4.out _ HC4.out).mono ?_
    rintro e w6 ⟨rfl, hb6⟩
    have HO6 := hid (HO4.out.below hb6)
    have HB6 := hid (chain2 HB4.out HB4.out.size hb6)
    have HC6 := hid (HC4.out.below hb6)
    clear hb6 HO4 HB4 HC4 C4 hs4 hs4w
    cases D with
    | none =>
      simp only [timeV]
      go_wp2_with fail
      go_ret
      exact ⟨⟨_, rfl, by have h := HO6.out.reads2.2; have e := HRR.out; rw [← e]; simpa using h⟩, HB6.out⟩
    | some t =>
      simp only [timeV]
      go_wp2_with fail
      refine (C5.out _ HC6.out).mono ?_
      rintro e w7 ⟨rfl, hb7⟩
      have HO7 := hid (HO6.out.below hb7)
      have HB7 := hid (chain2 HB6.out HB6.out.size hb7)
      have hs7 := HB7.out.size
      clear hb7 HO6 HB6 HC6 C5
      go_wp2_with (at_builtin; go_must (refine wpList_append_fld _ rfl _ _ 31 rfl w.heap.size 54 Tryd.underlying31 infoFld3 rfl (by decide) rfl HO7.out (sIMS, Z) rfl (by first | rfl | simp) (by omega) hs7 ?_); intro v8 w8 ho8 hb8)
      have HO8 := hid ho8.reads2.2
      have HB8 := hid (HB7.out.trans hb8)
      clear ho8 hb8 HB7 HO7
      go_wp2_with fail
      go_ret
      exact ⟨⟨_, rfl, by have h := HO8.out; have e := HRR.out; rw [← e]; simpa using h⟩, HB8.out⟩
  · have q1 : (T == []) = false := by simp [hT]
    have q2 : (!(T == [])) = true := by rw [q1]; rfl
    have q3 : (T != []) = true := by rw [bne, q1]; rfl
    rw [if_neg hT] at HRR
    clear hT
    go_wp2_with (at_builtin; go_must (refine wpList_append_fld _ rfl _ _ 31 rfl w.heap.size 54 Tryd.underlying31 infoFld3 rfl (by decide) rfl HO4.out (sINM, T) rfl (by first | rfl | simp) (by omega) hs4 ?_); intro v5 w5 ho5 hb5)
    have HO5 := hid ho5
    have HB5 := hid (HB4.out.trans hb5)
    have HC5 := hid (HC0.out.below HB5.out)
    have hs5 := HB5.out.size
    have hs5w : w.heap.size ≤ w5.heap.size := hs5
    clear ho5 hb5 HO4 HB4 HC4 hs4 hs4w q1 q2 q3
    go_wp2_with fail
    refine (C4.out _ HC5.out).mono ?_
    rintro e w6 ⟨rfl, hb6⟩
    have HO6 := hid (HO5.out.below hb6)
    have HB6 := hid (chain2 HB5.out HB5.out.size hb6)
    have HC6 := hid (HC5.out.below hb6)
    clear hb6 HO5 HB5 HC5 C4 hs5 hs5w
    cases D with
    | none =>
      simp only [timeV]
      go_wp2_with fail
      go_ret
      exact ⟨⟨_, rfl, by have h := HO6.out.reads2.2; have e := HRR.out; rw [← e]; simpa using h⟩, HB6.out⟩
    | some t =>
      simp only [timeV]
      go_wp2_with fail
      refine (C5.out _ HC6.out).mono ?_
      rintro e w7 ⟨rfl, hb7⟩
      have HO7 := hid (HO6.out.below hb7)
      have HB7 := hid (chain2 HB6.out HB6.out.size hb7)
      have hs7 := HB7.out.size
      clear hb7 HO6 HB6 HC6 C5
      go_wp2_with (at_builtin; go_must (refine wpList_append_fld _ rfl _ _ 31 rfl w.heap.size 54 Tryd.underlying31 infoFld3 rfl (by decide) rfl HO7.out (sIMS, Z) rfl (by first | rfl | simp) (by omega) hs7 ?_); intro v8 w8 ho8 hb8)
      have HO8 := hid ho8.reads2.2
      have HB8 := hid (HB7.out.trans hb8)
      clear ho8 hb8 HB7 HO7
      go_wp2_with fail
      go_ret
      exact ⟨⟨_, rfl, by have h := HO8.out; have e := HRR.out; rw [← e]; simpa using h⟩, HB8.out⟩
end Go.Proofs.YtoolboafbkikjaaDoor
