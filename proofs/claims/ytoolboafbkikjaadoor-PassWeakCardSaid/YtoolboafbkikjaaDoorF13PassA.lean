/-
  Contracts of package pass: noFurther, Strip, mark, Onward.
-/
import Derived.Test.YtoolboafbkikjaaDoorF1305
import Derived.Test.YtoolboafbkikjaaDoorF1303
import Derived.Test.YtoolboafbkikjaaDoorF1306
set_option linter.unusedVariables false
set_option linter.unusedSimpArgs false

namespace Go.Proofs.YtoolboafbkikjaaDoor
open Go.RowKit Go.Pantry

theorem wideOk {l : List Fld} (h : WideF l) : okFs l := ⟨h.len, fun f hf => ⟨h.name f hf, h.val f hf⟩⟩
theorem oneFldP (a b : List UInt8) : (#[strV a, strV b] : Array Value).all (·.oneCell') = true := by rw [← Array.all_toList]; rfl
theorem infoFldS : (Tryd.prog.info? 49).map (·.size) = some 2 := by kernel_rfl
set_option maxRecDepth 8000 in
set_option maxHeartbeats 4000000 in
theorem pFar_any (v : Value) (l : List Fld) (w : World) (hr : Reads2 w v l) (hs : WideF l) :
    Calls Tryd.prog 34 #[v] w fun e w' => (∃ v', e = .returned v' ∧ Reads w' v' ((elementsF l nConn ++ fixedS).map strV)) ∧ Below w.heap.size w w' := by
  have c1 := lElements_any v l ⟨sConn.toArray⟩ w hr (wideOk hs) (by decide)
  rw [dtL, elements_eq (show lowerL sConn = lowerL nConn by decide)] at c1
  have hE1 : (elementsF l nConn).length ≤ 100002000 := (hs.elements nConn).1
  generalize elementsF l nConn = E at c1 hE1 ⊢
  have C1 := hid c1
  clear c1 hr hs
  go_enter Tryd.func34, Tryd.ntmps34
  go_wp2_with fail
  refine C1.out.mono ?_
  rintro e w1 ⟨⟨v1, rfl, ho⟩, hb1⟩
  have hbX := below_alloc w1 (.cells (fixedS.map strV).toArray 9)
  have hrX := reads_new w1 (fixedS.map strV) 9 10
  have hoX := ho.below hbX
  have hbx := chain2 hb1 hb1.size hbX
  have hsX := hbx.size
  have hn : (fixedS.map strV).length = 10 := rfl
  clear hb1 hbX ho C1
  go_wp2_with (at_builtin; go_must (refine wpList_append_all _ rfl _ _ 27 rfl w.heap.size 9 Tryd.underlying27 infoStr rfl (by decide) rfl hoX hrX (by simp [fixedS, Value.oneCell']) rfl (by rw [hn]; omega) hsX ?_); intro v3 w3 ho3 hg3 hb3)
  go_ret
  exact ⟨⟨_, rfl, by rw [List.map_append]; exact ho3.reads⟩, hbx.trans hb3⟩
set_option maxRecDepth 8000 in
theorem pStrip_any (v : Value) (l : List Fld) (w : World) (hr : Reads2 w v l) (hs : WideF l) :
    Calls Tryd.prog 12 #[v] w fun e w' => MadeFlds 49 w.heap.size (stripF l) e w' ∧ Below w.heap.size w w' := by
  have c1 := pFar_any v l w hr hs
  have hE := hs.elements nConn
  have hn1 : (elementsF l nConn ++ fixedS).length ≤ 1000000000 := by rw [List.length_append]; have : fixedS.length = 10 := rfl; omega
  have hn2 : ∀ n ∈ elementsF l nConn ++ fixedS, n.length ≤ 9223372036854775807 := fun n hn => by
    rcases List.mem_append.1 hn with h | h
    · exact Nat.le_trans (hE.2 n h) (by decide)
    · exact Nat.le_trans ((show ∀ m ∈ fixedS, m.length ≤ 100 by decide) n h) (by decide)
  have c2 := fun (W : World) (vn : Value) (h : Below w.heap.size w W) (hn : Reads W vn ((elementsF l nConn ++ fixedS).map strV)) => lWithout_any v vn l _ W (hr.below h) (wideOk hs) hn ⟨hn1, hn2⟩
  simp only [strip_code] at c2
  have C1 := hid c1
  have C2 := hid c2
  clear c1 c2 hr hs hE hn1 hn2
  go_enter Tryd.func12, Tryd.ntmps12
  go_wp2_with fail
  refine C1.out.mono ?_
  rintro e w1 ⟨⟨v1, rfl, hv1⟩, hb1⟩
  have D2 := hid (C2.out _ _ hb1 hv1)
  have HB1 := hid hb1
  clear hv1 hb1 C1 C2
  go_wp2_with fail
  refine D2.out.mono ?_
  rintro e w2 ⟨⟨v2, k2, rfl, ho2⟩, hb2⟩
  have HO2 := hid (ho2.base HB1.out.size)
  have HB2 := hid (chain2 HB1.out HB1.out.size hb2)
  clear ho2 hb2 D2
  go_wp2_with fail
  go_ret
  exact ⟨⟨_, k2, rfl, HO2.out⟩, HB2.out⟩
set_option maxRecDepth 8000 in
set_option maxHeartbeats 4000000 in
theorem pMark_any (v : Value) (l : List Fld) (w : World) (hr : Reads2 w v l) (hs : WideF l) :
    Calls Tryd.prog 40 #[v] w fun e w' => e = .returned (fldV (sViaP, viaL l)) ∧ Below w.heap.size w w' := by
  have c1 := fun (W : World) (h : Below w.heap.size w W) => lGet_any v l ⟨sViaP.toArray⟩ W (hr.below h) (wideOk hs) (by decide)
  have hv : viaL l = if (allF l sViaP).isEmpty then markP else getF l sViaP ++ 44 :: 32 :: markP := by
    unfold viaL
    rw [allF_eq (show lowerL nViaP = lowerL sViaP by decide)]
    have : getF l nViaP = getF l sViaP := by unfold getF; rw [allF_eq (show lowerL nViaP = lowerL sViaP by decide)]
    rw [this]
    cases h : allF l sViaP <;> simp
  simp only [dtL] at c1
  rw [hv]
  have hgl := hs.get sViaP
  clear hv
  generalize getF l sViaP = G at c1 hgl ⊢
  have e1 : (!(allF l sViaP).isEmpty) = !((allF l sViaP).isEmpty) := rfl
  generalize (allF l sViaP).isEmpty = b at c1 ⊢
  have C1 := hid c1
  obtain ⟨W, hW⟩ : ∃ W, W = w.alloc (.cells #[strV [], strV []] 49) := ⟨_, rfl⟩
  have hbW : Below w.heap.size w W := by rw [hW]; exact below_alloc _ _
  have hro : rowIs W w.heap.size #[strV [], strV []] 49 := by rw [hW]; exact rowIs_new _ _ _
  clear c1 hr hs e1
  cases b with
  | true =>
    go_enter Tryd.func40, Tryd.ntmps40
    go_wp2_with fail
    rw [← hW]
    clear hW
    refine (C1.out _ hbW).mono ?_
    rintro e w2 ⟨rfl, hb2⟩
    have hro2 := hro.below hb2
    have hb3 := chain2 hbW hbW.size hb2
    clear hro hb2 C1 hbW
    go_wp2_with (refine wpList_store_row rfl 49 _ _ rfl w.heap.size _ rfl rfl 49 #[strV [], strV []] hro2 infoFldS rfl (oneFldP _ _) ?_)
    refine bodyPost_ret (results_row Tryd.results40 _ _ w.heap.size _ rfl (hro2.setRow #[strV sViaP, strV markP]) Tryd.underlying49 rfl infoFldS) rfl ?_
    exact ⟨rfl, below_setRow hb3 (Nat.le_refl _) _⟩
  | false =>
    obtain ⟨X, hX, -, hs1⟩ := sum_lists (P := Tryd.prog) G [44, 32] (by omega) (by decide)
    obtain ⟨Y, hY, -, hs2⟩ := sum_lists (P := Tryd.prog) X [49, 46, 49, 32, 112, 97, 110, 116, 114, 121] (by rw [hX, List.length_append]; simp; omega) (by decide)
    have hY2 : (if false = true then markP else G ++ 44 :: 32 :: markP) = Y := by rw [hY, hX]; simp [markP]
    rw [hY2]
    clear hY2 hX hY hgl
    go_enter Tryd.func40, Tryd.ntmps40
    go_wp2_with fail
    rw [← hW]
    clear hW
    refine (C1.out _ hbW).mono ?_
    rintro e w2 ⟨rfl, hb2⟩
    have hro2 := hro.below hb2
    have hb3 := chain2 hbW hbW.size hb2
    clear hro hb2 C1 hbW
    go_wp2_with (refine wpList_store_row rfl 49 _ _ rfl w.heap.size _ rfl rfl 49 #[strV [], strV []] hro2 infoFldS rfl (oneFldP _ _) ?_)
    refine bodyPost_ret (results_row Tryd.results40 _ _ w.heap.size _ rfl (hro2.setRow #[strV sViaP, strV Y]) Tryd.underlying49 rfl infoFldS) rfl ?_
    exact ⟨rfl, below_setRow hb3 (Nat.le_refl _) _⟩
set_option maxRecDepth 8000 in
set_option maxHeartbeats 4000000 in
theorem pOnward_any (v : Value) (l : List Fld) (w : World) (hr : Reads2 w v l) (hs : WideF l) :
    Calls Tryd.prog 18 #[v] w fun e w' => MadeFlds 49 w.heap.size (onwardF l) e w' ∧ Below w.heap.size w w' := by
  have c1 := pStrip_any v l w hr hs
  have c2 := fun (W : World) (x vn : Value) (h : Reads2 W x (stripF l)) (hn : Reads W vn ([sViaP].map strV)) => lWithout_any x vn (stripF l) [sViaP] W h (wideOk hs.strip) hn ⟨by simp, by simp [sViaP]⟩
  have ho : outsF (stripF l) [sViaP] = outF (stripF l) nViaP := by rw [outsF_one]; exact outF_eq (by decide) _
  simp only [ho] at c2
  have c3 := fun (W : World) (h : Below w.heap.size w W) => pMark_any v l W (hr.below h) hs
  have hf : onwardF l = outF (stripF l) nViaP ++ [(sViaP, viaL l)] := rfl
  rw [hf]
  have hsl : (outF (stripF l) nViaP).length ≤ 1000 := (hs.strip.out nViaP).len
  generalize outF (stripF l) nViaP = O at c2 hsl ⊢
  generalize viaL l = V at c3 ⊢
  have C1 := hid c1
  have C2 := hid c2
  have C3 := hid c3
  clear c1 c2 c3 hr hs ho hf
  go_enter Tryd.func18, Tryd.ntmps18
  go_wp2_with fail
  refine C1.out.mono ?_
  rintro e w1 ⟨⟨v1, k1, rfl, ho1⟩, hb1⟩
  have hbX := below_alloc w1 (.cells ([sViaP].map strV).toArray 9)
  have hrX := reads_new w1 ([sViaP].map strV) 9 1
  have hr1 := ho1.reads2.2.below hbX
  have HB2 := hid (chain2 hb1 hb1.size hbX)
  have D2 := hid (C2.out _ _ _ hr1 hrX)
  clear hb1 hbX hrX hr1 ho1 C1 C2
  go_wp2_with fail
  refine D2.out.mono ?_
  rintro e w3 ⟨⟨v3, k3, rfl, ho3⟩, hb3⟩
  have hk3 := ho3.reads2.1
  have HO3 := hid (ho3.base HB2.out.size)
  have HB3 := hid (chain2 HB2.out HB2.out.size hb3)
  clear ho3 hb3 D2 HB2
  go_wp2_with fail
  refine (C3.out _ HB3.out).mono ?_
  rintro e w4 ⟨rfl, hb4⟩
  have ho4 := HO3.out.below hb4
  have HB4 := hid (chain2 HB3.out HB3.out.size hb4)
  have hs4 := HB4.out.size
  clear hb4 HO3 HB3 C3
  go_wp2_with (at_builtin; go_must (refine wpList_append_fld _ rfl _ _ 23 rfl w.heap.size 49 Tryd.underlying23 infoFld rfl (by decide) rfl ho4 (sViaP, V) rfl (by first | rfl | simp) (by omega) hs4 ?_); intro v5 w5 ho5 hb5)
  go_ret
  exact ⟨⟨_, _, rfl, ho5⟩, HB4.out.trans hb5⟩
end Go.Proofs.YtoolboafbkikjaaDoor
