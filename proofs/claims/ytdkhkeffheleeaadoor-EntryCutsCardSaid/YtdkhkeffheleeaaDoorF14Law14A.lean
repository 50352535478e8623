/-
  The document's example of layer 14.
-/
import Derived.Test.YtdkhkeffheleeaaDoorF1408
import Derived.Laws.BitsAllLaws

set_option linter.unusedVariables false
set_option linter.unusedSimpArgs false
namespace Go.Proofs.YtdkhkeffheleeaaDoor
open Go.RowKit Go.Pantry

set_option maxRecDepth 8000 in
set_option maxHeartbeats 8000000 in
theorem anchor14_any {Ok : World → Prop} (K : Entries Ok) (w : World) (ok : Ok w) :
    Calls Tryd.prog 10 #[] w fun e w' => e = .returned (.bool true) ∧ Below w.heap.size w w' := by
  have OK := hid (fun (W : World) (h : Below w.heap.size w W) => K.keep w W ok h)
  obtain ⟨D, hD⟩ : ∃ D, encB 1 exE = D := ⟨_, rfl⟩
  have hlen := exE_encl
  have hdec := exE_dec
  have hlast := exE_last
  have hbad := exE_bad
  rw [hD] at hlen hdec hlast hbad
  have CE := hid (fun (W : World) (bv : Value) (h : Below w.heap.size w W) (hb : Reads W bv [byteV 98]) => (show Calls Tryd.prog 13 #[.int .i64 1, .agg (rowE (.slice none 0 0) (.slice none 0 0) bv exE)] W fun x w' => (∃ r, x = .returned (.tuple #[r, .int .i64 0]) ∧ OwnB 5 w' W.heap.size r D) ∧ Below W.heap.size W w' by
    have c := K.encode 1 exE (.slice none 0 0) (.slice none 0 0) bv W (OK.out W h) (by decide) exE_small ⟨(entAt_zero W).names, (entAt_zero W).flds, hb⟩
    rw [exE_enc, hD] at c
    exact c))
  have CD := hid (fun (W : World) (r : Value) (h : Below w.heap.size w W) (hb : Bytes W r D) => (show Calls Tryd.prog 19 #[r] W fun x w' => ∃ nv fv dv, x = .returned (.tuple #[.agg (rowE nv fv dv exE), .int .i64 1, .int .i64 0]) ∧ EntAt w' nv fv dv exE ∧ In (fun k => W.heap.size ≤ k) nv ∧ In (fun k => W.heap.size ≤ k) fv ∧ In (fun k => W.heap.size ≤ k) dv ∧ Below W.heap.size W w' by
    have c := K.decode r D W (OK.out W h) hb (by rw [hlen]; decide)
    unfold DecPost at c
    rw [hdec] at c
    exact c))
  have CX := hid (fun (W : World) (r : Value) (h : Below w.heap.size w W) (hb : Bytes W r (D.set 33 99)) => (show Calls Tryd.prog 19 #[r] W fun x w' => ∃ nv fv dv, x = .returned (.tuple #[.agg (rowE nv fv dv zeroE), .int .i64 0, .int .i64 44]) ∧ EntAt w' nv fv dv zeroE ∧ In (fun k => W.heap.size ≤ k) nv ∧ In (fun k => W.heap.size ≤ k) fv ∧ In (fun k => W.heap.size ≤ k) dv ∧ Below W.heap.size W w' by
    have c := K.decode r (D.set 33 99) W (OK.out W h) hb (by rw [List.length_set, hlen]; decide)
    unfold DecPost at c
    rw [hbad] at c
    exact c))
  have CS1 := hid (fun (W : World) (pn pf pb qn qf qb : Value) (h : Below w.heap.size w W) (ha : EntAt W pn pf pb exE) (hb : EntAt W qn qf qb exE) => (show Calls Tryd.prog 23 #[.agg (rowE pn pf pb exE), .agg (rowE qn qf qb exE)] W fun x w' => x = .returned (.bool true) ∧ Below W.heap.size W w' by
    have c := K.same exE exE pn pf pb qn qf qb W (OK.out W h) exE_small exE_small ha hb
    rw [decide_eq_true rfl] at c
    exact c))
  have CS2 := hid (fun (W : World) (pn pf pb : Value) (h : Below w.heap.size w W) (ha : EntAt W pn pf pb exE) => (show Calls Tryd.prog 23 #[.agg (rowE pn pf pb exE), .agg (rowE (.slice none 0 0) (.slice none 0 0) (.slice none 0 0) zeroE)] W fun x w' => x = .returned (.bool false) ∧ Below W.heap.size W w' by
    have c := K.same exE zeroE pn pf pb _ _ _ W (OK.out W h) exE_small zeroE_small ha (entAt_zero W)
    rw [decide_eq_false (by decide)] at c
    exact c))
  have HLEN := hid hlen
  have HLAST := hid hlast
  clear hD hdec hbad ok hlen hlast
  have hcv := run_mark_lit (P := Tryd.prog) w 25 5 #[.int .u8 98] 1 1 Tryd.underlying25 Tryd.underlying5
  obtain ⟨W1, hW1⟩ : ∃ W, w.alloc (.cells #[.int .u8 98] 5 ((#[.int .u8 98] : Array Value).size, (#[.int .u8 98] : Array Value).size + 1)) = W := ⟨_, rfl⟩
  rw [hW1] at hcv
  have hb1 : Below w.heap.size w W1 := by rw [← hW1]; exact below_alloc _ _
  have hr1 : Reads W1 (.slice (some ⟨w.heap.size, 0, none⟩) 1 1) [byteV 98] := by
    refine ⟨some ⟨w.heap.size, 0, none⟩, 1, rfl, fun j u hj => ?_, fun e => by cases e⟩
    refine ⟨w.heap.size, 0, rfl, ?_⟩
    rw [← hW1, Nat.zero_add]
    have := World.cell?_alloc_mark w #[.int .u8 98] 5 ((#[.int .u8 98] : Array Value).size, (#[.int .u8 98] : Array Value).size + 1) j
    rw [this]
    have e1 : (#[.int .u8 98] : Array Value)[j]? = [byteV 98][j]? := by rw [← Array.getElem?_toList]; rfl
    rw [e1]; exact hj
  have hs1 : w.heap.size < W1.heap.size := by rw [← hW1]; simp
  obtain ⟨G, hG⟩ : ∃ G, W1.heap.size = G := ⟨_, rfl⟩
  have hz1 : rowIs (W1.alloc (.cells #[.string ⟨#[]⟩, .string ⟨#[]⟩, .slice none 0 0, .int .i64 0, .int .i64 0, .int .i64 0, .slice none 0 0, .slice none 0 0, .int .i64 0] 27)) G #[.string ⟨#[]⟩, .string ⟨#[]⟩, .slice none 0 0, .int .i64 0, .int .i64 0, .int .i64 0, .slice none 0 0, .slice none 0 0, .int .i64 0] 27 := by rw [← hG]; exact rowIs_new _ _ _
  obtain ⟨W2, hW2⟩ : ∃ W, (W1.alloc (.cells #[.string ⟨#[]⟩, .string ⟨#[]⟩, .slice none 0 0, .int .i64 0, .int .i64 0, .int .i64 0, .slice none 0 0, .slice none 0 0, .int .i64 0] 27)).setRow G (rowE (.slice none 0 0) (.slice none 0 0) (.slice (some ⟨w.heap.size, 0, none⟩) 1 1) exE) = W := ⟨_, rfl⟩
  have hb2 : Below W1.heap.size W1 W2 := by rw [← hW2]; exact below_setRow (below_alloc _ _) (Nat.le_of_eq hG) _
  have q1 : rowIs W2 G (rowE (.slice none 0 0) (.slice none 0 0) (.slice (some ⟨w.heap.size, 0, none⟩) 1 1) exE) 27 := by rw [← hW2]; exact hz1.setRow _
  have HR2 := hid (hr1.below hb2)
  have HB2 := hid (chain2 hb1 hb1.size hb2)
  have Q1 := hid q1
  have HGW := hid (show w.heap.size < G by rw [← hG]; exact hs1)
  rw [hG] at hs1
  clear hb1 hr1 hs1 hb2
  have y0 : W2.cell? ⟨G, 0, none⟩ = some (strV [107]) := q1.cell 0
  have y1 : W2.cell? ⟨G, 1, none⟩ = some (strV []) := q1.cell 1
  have y2 : W2.cell? ⟨G, 2, none⟩ = some (.slice none 0 0) := q1.cell 2
  have y3 : W2.cell? ⟨G, 3, none⟩ = some (.int .i64 0) := q1.cell 3
  have y4 : W2.cell? ⟨G, 4, none⟩ = some (.int .i64 0) := q1.cell 4
  have y5 : W2.cell? ⟨G, 5, none⟩ = some (.int .i64 200) := q1.cell 5
  have y6 : W2.cell? ⟨G, 6, none⟩ = some (.slice none 0 0) := q1.cell 6
  have y7 : W2.cell? ⟨G, 7, none⟩ = some (.slice (some ⟨w.heap.size, 0, none⟩) 1 1) := q1.cell 7
  have y8 : W2.cell? ⟨G, 8, none⟩ = some (.int .i64 1) := q1.cell 8
  go_enter Tryd.func10, Tryd.ntmps10
  go_wp2_with (refine wpList_store_row rfl 27 _ _ rfl G _ rfl rfl 27 #[.string ⟨#[]⟩, .string ⟨#[]⟩, .slice none 0 0, .int .i64 0, .int .i64 0, .int .i64 0, .slice none 0 0, .slice none 0 0, .int .i64 0] hz1 infoEntP rfl (oneEntS _ _ _ _ _ _ _ _ _ _ _ _ _ _ _) ?_)
  refine (CE.out W2 _ HB2.out HR2.out).mono ?_
  rintro x3 w3 ⟨⟨r, rfl, hor⟩, hb3⟩
  obtain ⟨rg, rc, hrv⟩ := own_slice hor (fun h => by rw [h] at HLEN; cases HLEN.out)
  rw [HLEN.out] at hrv
  subst hrv
  have hor2 : w3.ownsRow W2.heap.size 5 1 (.slice (some ⟨rg, 0, none⟩) 34 rc) 34 (D.map byteV) := by have h := hor; unfold OwnB at h; rw [HLEN.out] at h; exact h
  have HOR := hid hor2
  have HRG := hid (hor2.lt rg rfl)
  have HB3 := hid (chain2 HB2.out HB2.out.size hb3)
  have HR3 := hid (HR2.out.below hb3)
  have Q3 := hid (Q1.out.below hb3)
  have HBY := hid (ownsRow_bytes hor)
  have HQG := hid Q1.out.lt
  clear hor hor2 hb3 Q1 HR2 hW2 hcv hz1 hW1 y0 y1 y2 y3 y4 y5 y6 y7 y8 q1
  go_wp2_with fail
  refine (CD.out w3 _ HB3.out HBY.out).mono ?_
  rintro x4 w4 ⟨nv, fv, dv, rfl, hat, i1, i2, i3, hb4⟩
  obtain ⟨na, nc, hnv⟩ := hat.names.strs
  obtain ⟨fa, fc, hfv⟩ := hat.flds.form
  obtain ⟨da, dc, hdv⟩ : ∃ a c, dv = .slice a 1 c := by
    obtain ⟨a, c, h, -⟩ := hat.body
    exact ⟨a, c, h⟩
  have hnv0 : nv = .slice na 0 nc := hnv
  have hfv0 : fv = .slice fa 0 fc := hfv
  subst hnv0 hfv0 hdv
  clear hnv hfv
  have hz4 : rowIs (w4.alloc (.cells #[.string ⟨#[]⟩, .string ⟨#[]⟩, .slice none 0 0, .int .i64 0, .int .i64 0, .int .i64 0, .slice none 0 0, .slice none 0 0, .int .i64 0] 27)) w4.heap.size #[.string ⟨#[]⟩, .string ⟨#[]⟩, .slice none 0 0, .int .i64 0, .int .i64 0, .int .i64 0, .slice none 0 0, .slice none 0 0, .int .i64 0] 27 := rowIs_new _ _ _
  obtain ⟨W5, hW5⟩ : ∃ W, (w4.alloc (.cells #[.string ⟨#[]⟩, .string ⟨#[]⟩, .slice none 0 0, .int .i64 0, .int .i64 0, .int .i64 0, .slice none 0 0, .slice none 0 0, .int .i64 0] 27)).setRow w4.heap.size (rowE (.slice na 0 nc) (.slice fa 0 fc) (.slice da 1 dc) exE) = W := ⟨_, rfl⟩
  have hb5 : Below w4.heap.size w4 W5 := by rw [← hW5]; exact below_setRow (below_alloc _ _) (Nat.le_refl _) _
  have hp5 : rowIs W5 w4.heap.size (rowE (.slice na 0 nc) (.slice fa 0 fc) (.slice da 1 dc) exE) 27 := by rw [← hW5]; exact hz4.setRow _
  have hb35 := chain2 hb4 hb4.size hb5
  have hor5 := HOR.out.below hb35
  have hl5 : (D.map byteV)[33]? = some (.int .u8 98) := by rw [List.getElem?_map, HLAST.out]; rfl
  have x33 : W5.cell? ⟨rg, 33, none⟩ = some (.int .u8 98) := own_cell hor5 hl5
  have f33 : W5.frozen? ⟨rg, 33, none⟩ = false := own_free hor5 33
  have hxor : bits .xor .u8 98 1 = 99 := u8_xor_nat 98 1 (by decide) (by decide)
  obtain ⟨W6, hW6⟩ : ∃ W, W5.setCell ⟨rg, 33, none⟩ (.int .u8 99) = W := ⟨_, rfl⟩
  have kk : Kept (fun k => k = rg) W5 W6 := by rw [← hW6]; exact (Kept.refl (fun k => k = rg) W5).setCell (.inl rfl) _
  have hrgl := HRG.out.1
  have hrgu := HRG.out.2
  have hs4 := hb4.size
  have hq3 := HQG.out
  have HOR6 := hid (show Bytes W6 (.slice (some ⟨rg, 0, none⟩) 34 rc) (D.set 33 99) by
    have h := ownsRow_set14 hor5 33 (by decide) (.int .u8 99)
    rw [hW6] at h
    have e : (D.map byteV).set 33 (.int .u8 99) = (D.set 33 99).map byteV := by rw [List.map_set]; rfl
    rw [e] at h
    exact ownsRow_bytes h)
  have hb36 : Below W2.heap.size w3 W6 := (hb35.mono (by omega)).trans (kk.below (fun k e _ => by omega) (by have := hb35.size; omega))
  have HB6 := hid (HB3.out.trans (hb36.mono HB2.out.size))
  have HQ6 := hid ((Q3.out.below hb35).kept kk (by omega))
  have HP6 := hid (hp5.kept kk (by omega))
  have HR6 := hid (reads_kept (HR3.out.below hb35) kk (fun k e hx => by have e2 : w.heap.size = k := Option.some.inj e; have := HGW.out; omega))
  have HAT6 := hid ((hat.below hb5).kept kk (fun k e hx => by have := i1 k e; omega) (fun k e hx => by have := i2 k e; omega) (fun k e hx => by have := i3 k e; omega))
  clear hat i1 i2 i3 hb4 hb5 hp5 hb35 hor5 hl5 kk hrgl hrgu hq3 hb36 HOR HRG HR3 Q3 HBY hs4
  go_wp2_with (refine wpList_store_row rfl 27 _ _ rfl w4.heap.size _ rfl rfl 27 #[.string ⟨#[]⟩, .string ⟨#[]⟩, .slice none 0 0, .int .i64 0, .int .i64 0, .int .i64 0, .slice none 0 0, .slice none 0 0, .int .i64 0] hz4 infoEntP rfl (oneEntS _ _ _ _ _ _ _ _ _ _ _ _ _ _ _) ?_)
  refine (CX.out W6 _ HB6.out HOR6.out).mono ?_
  rintro x7 w7 ⟨mv, gv, ev, rfl, hat, -, -, -, hb7⟩
  obtain ⟨ma, mc, hmv⟩ := hat.names.strs
  obtain ⟨ga, gc, hgv⟩ := hat.flds.form
  obtain ⟨ea, ec, hev⟩ : ∃ a c, ev = .slice a 0 c := by
    obtain ⟨a, c, h, -⟩ := hat.body
    exact ⟨a, c, h⟩
  have hmv0 : mv = .slice ma 0 mc := hmv
  have hgv0 : gv = .slice ga 0 gc := hgv
  subst hmv0 hgv0 hev
  clear hmv hgv
  have hz7 : rowIs (w7.alloc (.cells #[.string ⟨#[]⟩, .string ⟨#[]⟩, .slice none 0 0, .int .i64 0, .int .i64 0, .int .i64 0, .slice none 0 0, .slice none 0 0, .int .i64 0] 27)) w7.heap.size #[.string ⟨#[]⟩, .string ⟨#[]⟩, .slice none 0 0, .int .i64 0, .int .i64 0, .int .i64 0, .slice none 0 0, .slice none 0 0, .int .i64 0] 27 := rowIs_new _ _ _
  obtain ⟨W8, hW8⟩ : ∃ W, (w7.alloc (.cells #[.string ⟨#[]⟩, .string ⟨#[]⟩, .slice none 0 0, .int .i64 0, .int .i64 0, .int .i64 0, .slice none 0 0, .slice none 0 0, .int .i64 0] 27)).setRow w7.heap.size (rowE (.slice ma 0 mc) (.slice ga 0 gc) (.slice ea 0 ec) zeroE) = W := ⟨_, rfl⟩
  have hb8 : Below w7.heap.size w7 W8 := by rw [← hW8]; exact below_setRow (below_alloc _ _) (Nat.le_refl _) _
  have hb68 := chain2 hb7 hb7.size hb8
  have HB8 := hid (chain2 HB6.out HB6.out.size hb68)
  have hp8 := HP6.out.below hb68
  have hq8 := HQ6.out.below hb68
  have HR8 := hid (HR6.out.below hb68)
  have HP8 := hid hp8
  have HAT8 := hid (HAT6.out.below hb68)
  have p0 : W8.cell? ⟨w4.heap.size, 0, none⟩ = some (strV [107]) := hp8.cell 0
  have p1 : W8.cell? ⟨w4.heap.size, 1, none⟩ = some (strV []) := hp8.cell 1
  have p2 : W8.cell? ⟨w4.heap.size, 2, none⟩ = some (.slice na 0 nc) := hp8.cell 2
  have p3 : W8.cell? ⟨w4.heap.size, 3, none⟩ = some (.int .i64 0) := hp8.cell 3
  have p4 : W8.cell? ⟨w4.heap.size, 4, none⟩ = some (.int .i64 0) := hp8.cell 4
  have p5 : W8.cell? ⟨w4.heap.size, 5, none⟩ = some (.int .i64 200) := hp8.cell 5
  have p6 : W8.cell? ⟨w4.heap.size, 6, none⟩ = some (.slice fa 0 fc) := hp8.cell 6
  have p7 : W8.cell? ⟨w4.heap.size, 7, none⟩ = some (.slice da 1 dc) := hp8.cell 7
  have p8 : W8.cell? ⟨w4.heap.size, 8, none⟩ = some (.int .i64 1) := hp8.cell 8
  have q0 : W8.cell? ⟨G, 0, none⟩ = some (strV [107]) := hq8.cell 0
  have q1 : W8.cell? ⟨G, 1, none⟩ = some (strV []) := hq8.cell 1
  have q2 : W8.cell? ⟨G, 2, none⟩ = some (.slice none 0 0) := hq8.cell 2
  have q3 : W8.cell? ⟨G, 3, none⟩ = some (.int .i64 0) := hq8.cell 3
  have q4 : W8.cell? ⟨G, 4, none⟩ = some (.int .i64 0) := hq8.cell 4
  have q5 : W8.cell? ⟨G, 5, none⟩ = some (.int .i64 200) := hq8.cell 5
  have q6 : W8.cell? ⟨G, 6, none⟩ = some (.slice none 0 0) := hq8.cell 6
  have q7 : W8.cell? ⟨G, 7, none⟩ = some ((.slice (some ⟨w.heap.size, 0, none⟩) 1 1)) := hq8.cell 7
  have q8 : W8.cell? ⟨G, 8, none⟩ = some (.int .i64 1) := hq8.cell 8
  clear hat hb7 hb8 hb68 hp8 hq8 hW6 hW5 hz4 x33 f33 HP6 HQ6 HR6 HAT6 HB6 HOR6
  have c1 := hid (CS1.out W8 _ _ _ _ _ _ HB8.out HAT8.out ⟨(entAt_zero W8).names, (entAt_zero W8).flds, HR8.out⟩)
  go_wp2_with (refine wpList_store_row rfl 27 _ _ rfl w7.heap.size _ rfl rfl 27 #[.string ⟨#[]⟩, .string ⟨#[]⟩, .slice none 0 0, .int .i64 0, .int .i64 0, .int .i64 0, .slice none 0 0, .slice none 0 0, .int .i64 0] hz7 infoEntP rfl (oneEntS _ _ _ _ _ _ _ _ _ _ _ _ _ _ _) ?_)
  refine c1.out.mono ?_
  rintro x9 w9 ⟨rfl, hb9⟩
  have hp9 := HP8.out.below hb9
  have HB9 := hid (chain2 HB8.out HB8.out.size hb9)
  have c2 := hid (CS2.out w9 _ _ _ HB9.out (HAT8.out.below hb9))
  clear hW8 hz7 p0 q0 p1 q1 p2 q2 p3 q3 p4 q4 p5 q5 p6 q6 p7 q7 p8 q8 hb9 c1 HB8 HAT8 HR8 HP8
  have p0 : w9.cell? ⟨w4.heap.size, 0, none⟩ = some (strV [107]) := hp9.cell 0
  have p1 : w9.cell? ⟨w4.heap.size, 1, none⟩ = some (strV []) := hp9.cell 1
  have p2 : w9.cell? ⟨w4.heap.size, 2, none⟩ = some (.slice na 0 nc) := hp9.cell 2
  have p3 : w9.cell? ⟨w4.heap.size, 3, none⟩ = some (.int .i64 0) := hp9.cell 3
  have p4 : w9.cell? ⟨w4.heap.size, 4, none⟩ = some (.int .i64 0) := hp9.cell 4
  have p5 : w9.cell? ⟨w4.heap.size, 5, none⟩ = some (.int .i64 200) := hp9.cell 5
  have p6 : w9.cell? ⟨w4.heap.size, 6, none⟩ = some (.slice fa 0 fc) := hp9.cell 6
  have p7 : w9.cell? ⟨w4.heap.size, 7, none⟩ = some (.slice da 1 dc) := hp9.cell 7
  have p8 : w9.cell? ⟨w4.heap.size, 8, none⟩ = some (.int .i64 1) := hp9.cell 8
  clear hp9
  go_wp2_with fail
  refine c2.out.mono ?_
  rintro x10 w10 ⟨rfl, hb10⟩
  have HB10 := hid (chain2 HB9.out HB9.out.size hb10)
  clear hb10 c2 p0 p1 p2 p3 p4 p5 p6 p7 p8
  go_wp2_with fail
  go_ret
  exact ⟨rfl, HB10.out⟩
end Go.Proofs.YtdkhkeffheleeaaDoor
