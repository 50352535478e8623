/-
  Contracts of package control: Of.
-/
import Derived.Test.YtofkiihajhkmdaaDoorCtlB
import Derived.Test.YtofkiihajhkmdaaDoorFieldI
namespace Go.Pantry
open Go.RowKit
theorem elementsF_same {a b : List UInt8} (h : lowerL a = lowerL b) (L : List Fld) : elementsF L a = elementsF L b ∧ allF L a = allF L b := by
  have h1 : isF a = isF b := funext fun f => isF_same h f
  have h2 : allF L a = allF L b := by unfold allF; rw [h1]
  exact ⟨by rw [elementsF_of, elementsF_of, h2], h2⟩
theorem hasF_same {a b c d : List UInt8} (h : lowerL a = lowerL b) (h2 : lowerL c = lowerL d) (L : List Fld) : hasF L a c = hasF L b d := by
  unfold hasF
  rw [(elementsF_same h L).1, h2]
end Go.Pantry
namespace Go.Proofs.YtofkiihajhkmdaaDoor
open Go.RowKit Go.Pantry

set_option maxRecDepth 4000 in
set_option maxHeartbeats 8000000 in
theorem ctlOf_any (v : Value) (L : List Fld) (w : World) (hr : Reads2 w v L) (hk : okFs L) :
    Calls Tryd.prog 12 #[v] w fun e w' => e = .returned (ctlV (ctlF L)) ∧ Below w.heap.size w w' := by
  obtain ⟨hz, hzs⟩ := elementsF_size (n := nCC) (fun f hf => (hk.2 f hf).2) hk.1
  have hlow : lowerL [67, 97, 99, 104, 101, 45, 67, 111, 110, 116, 114, 111, 108] = lowerL nCC := by decide
  have c1 := fun W h => lElements_any v L ⟨([67, 97, 99, 104, 101, 45, 67, 111, 110, 116, 114, 111, 108] : List UInt8).toArray⟩ W h hk (by decide)
  have c2 := fun W h => lGet_any v L ⟨([67, 97, 99, 104, 101, 45, 67, 111, 110, 116, 114, 111, 108] : List UInt8).toArray⟩ W h hk (by decide)
  have c3 := fun W h => lHas_any v L ⟨([80, 114, 97, 103, 109, 97] : List UInt8).toArray⟩ ⟨([110, 111, 45, 99, 97, 99, 104, 101] : List UInt8).toArray⟩ W h hk (by decide) (by decide)
  rw [dtL, (elementsF_same hlow L).1] at c1
  rw [dtL, (elementsF_same hlow L).2] at c2
  rw [dtL, dtL, hasF_same (show lowerL [80, 114, 97, 103, 109, 97] = lowerL nPragma by decide) (show lowerL [110, 111, 45, 99, 97, 99, 104, 101] = lowerL nNoCache by decide) L] at c3
  have hc : ctlF L = ctlE (elementsF L nCC) ((allF L nCC).isEmpty && hasF L nPragma nNoCache) := rfl
  rw [hc]
  clear hc hlow
  generalize getF L _ = G at c2
  generalize elementsF L nCC = E at c1 hz hzs ⊢
  generalize (allF L nCC).isEmpty = em at c2 ⊢
  generalize hasF L nPragma nNoCache = hp at c3 ⊢
  obtain ⟨F, hF⟩ : ∃ F, ctlV (ctlE E (em && hp)) = F := ⟨_, rfl⟩
  rw [hF]
  have hfin : F = .agg #[.bool (ctlE E false).noStore, .bool ((ctlE E false).noCache || (em && hp)), .bool (ctlE E false).priv, .bool (ctlE E false).pub, .bool (ctlE E false).must, .bool (ctlE E false).only, .int .i64 (intO (ctlE E false).maxAge), .int .i64 (intO (ctlE E false).shared), .int .i64 (intO (ctlE E false).minFresh), .int .i64 (intO (ctlE E false).maxStale)] := by
    rw [← hF]
    simp only [ctlE, Bool.or_false]
  have HF := hid hfin
  have C1 := hid c1
  have C2 := hid c2
  have C3 := hid c3
  have HR := hid hr
  have HZ := hid hzs
  clear c1 c2 c3 hr hzs hk hF hfin
  go_enter Tryd.func12, Tryd.ntmps12
  obtain ⟨W, hW⟩ : ∃ W, W = w.alloc (.cells #[.bool false, .bool false, .bool false, .bool false, .bool false, .bool false, .int .i64 0, .int .i64 0, .int .i64 0, .int .i64 0] 29) := ⟨_, rfl⟩
  have hbW : Below w.heap.size w W := by rw [hW]; exact below_alloc _ _
  have hsW : W.heap.size = w.heap.size + 1 := by rw [hW]; simp
  have hro : rowIs W w.heap.size zeroC 29 := by rw [hW]; exact rowIs_new _ _ _
  go_wp2_with fail
  rw [← hW]
  clear hW
  refine (ctlNone_any _).mono ?_
  rintro r w1 ⟨rfl, hb1⟩
  replace hro := hro.below hb1
  have hg1 := hb1.size
  replace hb1 := chain2 hbW hbW.size hb1
  obtain ⟨V, hV⟩ : ∃ V, V = (w1.alloc (.cells #[.bool false, .bool false, .bool false, .bool false, .bool false, .bool false, .int .i64 0, .int .i64 0, .int .i64 0, .int .i64 0] 29)).setRow w1.heap.size #[.bool ctl0.noStore, .bool ctl0.noCache, .bool ctl0.priv, .bool ctl0.pub, .bool ctl0.must, .bool ctl0.only, .int .i64 (intO ctl0.maxAge), .int .i64 (intO ctl0.shared), .int .i64 (intO ctl0.minFresh), .int .i64 (intO ctl0.maxStale)] := ⟨_, rfl⟩
  have hbV : Below w1.heap.size w1 V := by rw [hV]; exact below_setRow (below_alloc _ _) (Nat.le_refl _) _
  have hrv : rowIs V w1.heap.size #[.bool ctl0.noStore, .bool ctl0.noCache, .bool ctl0.priv, .bool ctl0.pub, .bool ctl0.must, .bool ctl0.only, .int .i64 (intO ctl0.maxAge), .int .i64 (intO ctl0.shared), .int .i64 (intO ctl0.minFresh), .int .i64 (intO ctl0.maxStale)] 29 := by rw [hV]; exact (rowIs_new _ _ _).setRow _
  have h1 := ctl_one false false false false false false (-1) (-1) (-1) (-1)
  go_wp2_with (refine wpList_store_row rfl 29 _ _ rfl w1.heap.size _ rfl rfl 29 zeroC (rowIs_new _ _ _) infoCtl rfl h1 ?_)
  rw [← hV]
  clear hV h1
  replace hro := hro.below hbV
  replace hb1 := chain2 hb1 hb1.size hbV
  refine (C1.out _ (HR.out.below hb1)).mono ?_
  rintro r w2 ⟨⟨v', rfl, ho⟩, hb2⟩
  have hgV := hrv.lt
  replace hrv := hrv.below hb2
  replace hro := hro.below hb2
  replace hb2 := chain2 hb1 hb1.size hb2
  have hne : w.heap.size ≠ w1.heap.size := by omega
  clear hbV hb1 hbW
  obtain ⟨ao, cap, rfl⟩ := Reads.strs ho.reads
  have hgw : w.heap.size ≤ w1.heap.size := by omega
  generalize hgg : w1.heap.size = g at hrv hne hgw hgV ⊢
  generalize V.heap.size = B at ho hgV
  clear hgg hg1 hsW
  go_wp2_with fail
  go_loopw [12] (fun i wr => ∃ k : Nat, k ≤ E.length ∧ i = .int .i64 k ∧ rowIs wr g #[.bool (ctlE (E.take k) false).noStore, .bool (ctlE (E.take k) false).noCache, .bool (ctlE (E.take k) false).priv, .bool (ctlE (E.take k) false).pub, .bool (ctlE (E.take k) false).must, .bool (ctlE (E.take k) false).only, .int .i64 (intO (ctlE (E.take k) false).maxAge), .int .i64 (intO (ctlE (E.take k) false).shared), .int .i64 (intO (ctlE (E.take k) false).minFresh), .int .i64 (intO (ctlE (E.take k) false).maxStale)] 29 ∧ w2.grownBy wr (some g)) (fun i _ => E.length - (intOf i).toNat)
  case atStart => exact ⟨0, Nat.zero_le _, rfl, hrv, grown_refl _ _⟩
  case round =>
    obtain ⟨k, hkl, rfl, hrk, hgr⟩ := hrel
    have hok := ownsRow_grown ho hgr hgV
    by_cases hlt : k < E.length
    · obtain ⟨e, he⟩ : ∃ e, E[k]? = some e := ⟨_, List.getElem?_eq_getElem hlt⟩
      obtain ⟨b, off, rfl, hcw⟩ := Reads.str hok.reads he
      have hel := HZ.out e (List.mem_of_getElem? he)
      have hst : ctlE (E.take (k + 1)) false = takeC (ctlE (E.take k) false) e := by rw [take_str he, ctlE_snoc]
      have HST := hid hst
      clear he hst hok
      generalize ctlE (E.take k) false = c at hrk HST
      have c4 := fun W h => take_any g c e W (by omega) h
      have C4 := hid c4
      clear c4
      go_wp2_with fail
      refine (C4.out _ hrk).mono ?_
      rintro r w3 ⟨rfl, hrk3, hgr3⟩
      go_wp2_with fail
      go_roundw
      case rel => exact ⟨k + 1, hlt, by go_num, by rw [HST.out]; exact hrk3, grown_trans hgr hgr3⟩
      case measure => simp [intOf]; omega
    · have hke : E.take k = E := List.take_of_length_le (by omega)
      rw [hke] at hrk
      have hbk : Below w.heap.size w _ := hb2.trans (grown_below hgr hgw (by have := hb2.size; omega))
      have hrok := rowIs_grown hro hgr hne
      clear hke hok ho hro hb2 hrv hgr
      have h9 := fun b => ctl_one (ctlE E false).noStore b (ctlE E false).priv (ctlE E false).pub (ctlE E false).must (ctlE E false).only (intO (ctlE E false).maxAge) (intO (ctlE E false).shared) (intO (ctlE E false).minFresh) (intO (ctlE E false).maxStale)
      generalize ctlE E false = c at hrk h9 HF
      have H9 := hid h9
      clear h9
      go_wp2_with fail
      refine (C2.out _ (HR.out.below hbk)).mono ?_
      rintro r w3 ⟨rfl, hb3⟩
      replace hrk := hrk.below hb3
      replace hrok := hrok.below hb3
      replace hbk := chain2 hbk hbk.size hb3
      clear hb3
      cases em
      · have h9 := H9.out c.noCache
        have hfl : (c.noCache || (false && hp)) = c.noCache := by simp
        have hf2 := HF.out
        rw [hfl] at hf2
        have HF2 := hid hf2
        clear hf2 hfl
        go_wp2_with (first
          | (refine wpList_load_row rfl 29 _ rfl g rfl 29 _ (0, 0) _ hrk Tryd.underlying29 rfl infoCtl ?_)
          | (refine wpList_store_row rfl 29 _ _ rfl w.heap.size _ rfl rfl 29 zeroC hrok infoCtl rfl h9 ?_))
        refine bodyPost_ret (results_row Tryd.results12 _ _ w.heap.size _ rfl (hrok.setRow _) Tryd.underlying29 rfl infoCtl) rfl ?_
        exact ⟨by rw [HF2.out], below_setRow hbk (Nat.le_refl _) _⟩
      · go_wp2_with fail
        refine (C3.out _ (HR.out.below hbk)).mono ?_
        rintro r w4 ⟨rfl, hb3⟩
        replace hrk := hrk.below hb3
        replace hrok := hrok.below hb3
        replace hbk := chain2 hbk hbk.size hb3
        clear hb3
        cases hp
        · have h9 := H9.out c.noCache
          have hfl : (c.noCache || (true && false)) = c.noCache := by simp
          have hf2 := HF.out
          rw [hfl] at hf2
          have HF2 := hid hf2
          clear hf2 hfl
          go_wp2_with (first
            | (refine wpList_load_row rfl 29 _ rfl g rfl 29 _ (0, 0) _ hrk Tryd.underlying29 rfl infoCtl ?_)
            | (refine wpList_store_row rfl 29 _ _ rfl w.heap.size _ rfl rfl 29 zeroC hrok infoCtl rfl h9 ?_))
          refine bodyPost_ret (results_row Tryd.results12 _ _ w.heap.size _ rfl (hrok.setRow _) Tryd.underlying29 rfl infoCtl) rfl ?_
          exact ⟨by rw [HF2.out], below_setRow hbk (Nat.le_refl _) _⟩
        · have h9 := H9.out true
          have hfl : (c.noCache || (true && true)) = true := by simp
          have hf2 := HF.out
          rw [hfl] at hf2
          have HF2 := hid hf2
          clear hf2 hfl
          have hc : w4.cell? ⟨g, 1, none⟩ = some (.bool c.noCache) := hrk.cell 1
          have hf := hrk.free 1
          have hlt4 := hrk.lt
          replace hrok := hrok.setCell_other hrk hne 1 (.bool true)
          replace hbk : Below w.heap.size w (w4.setCell ⟨g, 1, none⟩ (.bool true)) := hbk.setCell (p := ⟨g, 1, none⟩) hgw (.bool true)
          have hrk5 : rowIs (w4.setCell ⟨g, 1, none⟩ (.bool true)) g #[.bool c.noStore, .bool true, .bool c.priv, .bool c.pub, .bool c.must, .bool c.only, .int .i64 (intO c.maxAge), .int .i64 (intO c.shared), .int .i64 (intO c.minFresh), .int .i64 (intO c.maxStale)] 29 := hrk.setCell 1 (.bool true)
          go_wp2_with (first
            | (refine wpList_load_row rfl 29 _ rfl g rfl 29 _ (0, 0) _ hrk5 Tryd.underlying29 rfl infoCtl ?_)
            | (refine wpList_store_row rfl 29 _ _ rfl w.heap.size _ rfl rfl 29 zeroC hrok infoCtl rfl h9 ?_))
          refine bodyPost_ret (results_row Tryd.results12 _ _ w.heap.size _ rfl (hrok.setRow _) Tryd.underlying29 rfl infoCtl) rfl ?_
          exact ⟨by rw [HF2.out], below_setRow hbk (Nat.le_refl _) _⟩
end Go.Proofs.YtofkiihajhkmdaaDoor
