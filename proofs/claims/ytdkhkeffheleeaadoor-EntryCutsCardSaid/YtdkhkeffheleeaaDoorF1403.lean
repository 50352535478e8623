/-
  Several texts in one: Ref14B, Ref14C, Ref14D, Ref14R, Ref14S.
-/
import Derived.Test.YtdkhkeffheleeaaDoorF14Ref14A
import Derived.Deep.RegionHeld
import Derived.Test.YtdkhkeffheleeaaDoorF1401
import Derived.Deep.QuietTactic
import Derived.BigQuiet
import Derived.Test.YtdkhkeffheleeaaDoorHeldA
/-
  The document's answers of layer 14: text; rest; Bytes.
-/
set_option linter.unusedVariables false
set_option linter.unusedSimpArgs false
namespace Go.Pantry
open Go.RowKit
theorem textB_len (s : List UInt8) : (textB s).length = s.length + 2 := by unfold textB; rw [List.length_append, numB_len]; omega
abbrev OwnB (t : TypeId) (w : World) (B : Nat) (v : Value) (l : List UInt8) : Prop := w.ownsRow B t 1 v l.length (l.map byteV)
end Go.Pantry
namespace Go.Proofs.YtdkhkeffheleeaaDoor
open Go.RowKit Go.Pantry

set_option maxRecDepth 8000 in
set_option maxHeartbeats 4000000 in
theorem r14Text_any (v : Value) (B : Nat) (l s : List UInt8) (w : World) (ho : OwnB 5 w B v l) (hB : B ≤ w.heap.size) (hl : l.length ≤ 100000000) (hs : s.length ≤ 100000000) :
    Calls Tryd.prog 58 #[v, strV s] w fun e w' => MadeBy 5 B (l ++ textB s) e w' ∧ Below B w w' := by
  have C : Calls Tryd.prog 35 #[.int .i64 (s.length : Int), .int .i64 2] w fun e w' => ReadBy (numB s.length 2) e w' ∧ Below w.heap.size w w' := r14Num_any s.length 2 w (by omega) (by omega)
  have HC := hid C
  have hz : ((⟨s.toArray⟩ : ByteArray).size : Int) = (s.length : Int) := by rw [szL]
  have hT : textB s = numB s.length 2 ++ s := rfl
  have h2 := numB_len 2 s.length
  rw [hT]
  generalize numB s.length 2 = x at HC h2
  obtain ⟨ao, cap, rfl⟩ := ownsRow_bytes_form ho
  have HO := hid ho
  clear C hT ho
  go_enter Tryd.func58, Tryd.ntmps58
  go_wp2_with fail
  refine HC.out.mono ?_
  rintro e w1 ⟨⟨v1, rfl, hr1⟩, hb1⟩
  have ho1 := HO.out.below hb1
  have hs1 := Nat.le_trans hB hb1.size
  have hB1 := hb1.mono hB
  obtain ⟨a1, c1, rfl, -⟩ := id hr1
  have hxl : (x.map byteV).length = 2 := by rw [List.length_map, h2]
  rw [hxl] at hr1 ⊢
  go_wp2_with (first
    | (at_builtin; refine wpList_append_all _ rfl _ _ 25 rfl B 5 Tryd.underlying25 infoU8 rfl (by decide) rfl ho1 hr1 (oneCell_bytes _) rfl (by rw [hxl]; omega) hs1 ?_; intro v3 w3 ho3 hg3 hb3; have hs3 : B ≤ w3.heap.size := Nat.le_trans hs1 hb3.size)
    | (at_builtin; refine wpList_append_str _ rfl _ _ 25 9 rfl B 5 Tryd.underlying25 Tryd.underlying9 infoU8 rfl ho3 (l := s) rfl (by rw [hxl]; omega) hs3 ?_; intro v4 w4 ho4 hb4))
  go_ret
  refine ⟨⟨v4, rfl, ?_⟩, (hB1.trans hb3).trans hb4⟩
  have e1 : (l ++ (x ++ s)).length = l.length + (x.map byteV).length + s.length := by simp; omega
  have e2 : (l ++ (x ++ s)).map byteV = l.map byteV ++ x.map byteV ++ s.map byteV := by simp
  rw [e1, e2]
  exact ho4
end Go.Proofs.YtdkhkeffheleeaaDoor
/-
  The document's answers of layer 14: rest.
-/
set_option linter.unusedVariables false
set_option linter.unusedSimpArgs false
namespace Go.Pantry
open Go.RowKit
theorem own_cat {w : World} {B : Nat} {e : TypeId} {v : Value} {l x : List UInt8} (h : w.ownsRow B e 1 v (l.length + (x.map byteV).length) (l.map byteV ++ x.map byteV)) : w.ownsRow B e 1 v (l ++ x).length ((l ++ x).map byteV) := by
  rw [List.map_append, List.length_append, show x.length = (x.map byteV).length by rw [List.length_map]]; exact h
theorem fldsB_snoc (L : List Fld) (f : Fld) : fldsB (L ++ [f]) = fldsB L ++ fldB f := by unfold fldsB; rw [List.flatMap_append]; simp
theorem textsB_snoc (L : List (List UInt8)) (s : List UInt8) : textsB (L ++ [s]) = textsB L ++ textB s := by unfold textsB; rw [List.flatMap_append]; simp
theorem fldsB_len : ∀ {L : List Fld} {k : Nat}, (∀ f ∈ L, f.1.length ≤ 64 ∧ f.2.length ≤ 1024) → L.length ≤ k → (fldsB L).length ≤ 1100 * k
  | [], k, _, _ => by simp [fldsB]
  | f :: L, k, h, hk => by
    obtain ⟨k', rfl⟩ : ∃ m, k = m + 1 := ⟨k - 1, by simp at hk; omega⟩
    have ih := fldsB_len (L := L) (k := k') (fun x hx => h x (by simp [hx])) (by simpa using hk)
    have h1 := h f (by simp)
    show (fldB f ++ fldsB L).length ≤ _
    unfold fldB
    rw [List.length_append, List.length_append, textB_len, textB_len]
    omega
theorem textsB_len : ∀ {L : List (List UInt8)} {k : Nat}, (∀ s ∈ L, s.length ≤ 64) → L.length ≤ k → (textsB L).length ≤ 66 * k
  | [], k, _, _ => by simp [textsB]
  | s :: L, k, h, hk => by
    obtain ⟨k', rfl⟩ : ∃ m, k = m + 1 := ⟨k - 1, by simp at hk; omega⟩
    have ih := textsB_len (L := L) (k := k') (fun x hx => h x (by simp [hx])) (by simpa using hk)
    have h1 := h s (by simp)
    show (textB s ++ textsB L).length ≤ _
    rw [List.length_append, textB_len]
    omega
/-- an entry's nine cells -/
abbrev rowE (nv fv bv : Value) (e : EntP) : Array Value := #[strV e.key, strV e.second, nv, .int .i64 e.asked, .int .i64 e.came, .int .i64 e.status, fv, bv, .int .i64 e.gen]
structure EntAt (w : World) (nv fv bv : Value) (e : EntP) : Prop where
  names : Reads w nv (e.names.map strV)
  flds : Reads2 w fv e.fields
  body : Reads w bv (e.body.map byteV)
theorem EntAt.below {w w' : World} {nv fv bv : Value} {e : EntP} (h : EntAt w nv fv bv e) (hb : Below w.heap.size w w') : EntAt w' nv fv bv e := ⟨h.names.below hb, h.flds.below hb, h.body.below hb⟩
end Go.Pantry
namespace Go.Proofs.YtdkhkeffheleeaaDoor
open Go.RowKit Go.Pantry

set_option maxRecDepth 8000 in
set_option maxHeartbeats 8000000 in
theorem r14Rest1_any (e : EntP) (nv fv bv : Value) (w : World) (hE : RightE e) (hf : 1 = 3 ∨ (e.second = [] ∧ e.names = [])) (hat : EntAt w nv fv bv e) :
    Calls Tryd.prog 34 #[.int .i64 1, .agg (rowE nv fv bv e)] w fun x w' => MadeBy 5 w.heap.size (restB 1 e) x w' ∧ Below w.heap.size w w' := by
  obtain ⟨no, nc, rfl⟩ := hat.names.strs
  obtain ⟨fo, fc, rfl⟩ := hat.flds.form
  obtain ⟨bo, bc, hbv⟩ : ∃ ao cap, bv = .slice ao e.body.length cap := by
    obtain ⟨ao, cap, h, -⟩ := hat.body
    exact ⟨ao, cap, by rw [h, List.length_map]⟩
  subst hbv
  obtain ⟨w0, hw0⟩ : ∃ W, w.alloc (.cells (rowE (.slice no e.names.length nc) (.slice fo e.fields.length fc) (.slice bo e.body.length bc) e) 32) = W := ⟨_, rfl⟩
  have hbW : Below w.heap.size w w0 := by rw [← hw0]; exact below_alloc _ _
  have q0 : rowIs w0 w.heap.size (rowE (.slice no e.names.length nc) (.slice fo e.fields.length fc) (.slice bo e.body.length bc) e) 32 := by rw [← hw0]; exact rowIs_new _ _ _
  have HW := hid hbW
  have RQ0 := hid q0
  have hn0 := hat.names.below hbW
  have HNM := hid hn0
  have HF := hid (hat.flds.below hbW)
  have HBD := hid (hat.body.below hbW)
  have ha := hE.asked
  have hc := hE.came
  have hst := hE.status
  have hg := hE.gen
  have hfl := hE.flds
  have hnl := hE.names
  have hky := hE.key
  have hse := hE.second
  clear hat q0 hn0
  go_enter Tryd.func34, Tryd.ntmps34
  have HB0 := hid (show Below w0.heap.size w0 w0 from Below.refl _ _)
  have ow := (World.ownsRow_nil w0 w0.heap.size 5 1 : w0.ownsRow w0.heap.size 5 1 (.slice none 0 0) 0 [])
  obtain ⟨L0, hL0⟩ : ∃ L : List UInt8, [] = L := ⟨_, rfl⟩
  have OW0 : Hid (OwnB 5 w0 w0.heap.size (.slice none 0 0) L0) := by show OwnB _ _ _ _ _; rw [← hL0]; exact ow
  have l0 : L0.length ≤ 0 := by rw [← hL0]; exact Nat.le_refl 0
  have HL0 := hid hL0
  clear ow hL0 hbW
  have z0 : w0.cell? ⟨w.heap.size, 0, none⟩ = some (strV e.key) := RQ0.out.cell 0
  obtain ⟨L1, hL⟩ : ∃ L, L0 ++ textB e.key = L := ⟨_, rfl⟩
  have l1 : L1.length ≤ 1202 := by rw [← hL, List.length_append]; rw [textB_len]; have := hE.key; omega
  have HL1 := hid hL
  have cT := r14Text_any _ w0.heap.size L0 e.key w0 OW0.out (by have := HB0.out.size; omega) (by omega) (by omega)
  rw [hL] at cT
  have CT := hid cT
  clear cT
  try go_wp2_with fail
  refine CT.out.mono ?_
  rintro e0 w1 ⟨⟨v1, rfl, ho⟩, hb⟩
  obtain ⟨aa1, cc1, rfl⟩ := ownsRow_bytes_form ho
  clear CT
  have hbb := hb
  have RQ1 := hid (RQ0.out.below hbb)
  have HB1 := hid hbb
  have OW1 := hid ho
  clear hb hbb ho hL OW0 hw0
  clear z0
  have z3 : w1.cell? ⟨w.heap.size, 3, none⟩ = some (.int .i64 e.asked) := RQ1.out.cell 3
  have cN : Calls Tryd.prog 35 #[.int .i64 e.asked, .int .i64 6] w1 fun ex w' => ReadBy (numB e.asked.toNat 6) ex w' ∧ Below w1.heap.size w1 w' := by
    have h := r14Num_any e.asked.toNat 6 w1 (by omega) (by omega)
    rw [show ((e.asked.toNat : Nat) : Int) = e.asked by omega] at h
    exact h
  have hx := numB_len 6 e.asked.toNat
  obtain ⟨L2, hL⟩ : ∃ L, L1 ++ numB e.asked.toNat 6 = L := ⟨_, rfl⟩
  have l2 : L2.length ≤ 1208 := by rw [← hL, List.length_append]; rw [hx]; omega
  have HL2 := hid hL
  generalize numB e.asked.toNat 6 = x at cN hx hL
  have CN := hid cN
  clear cN
  try go_wp2_with fail
  refine CN.out.mono ?_
  rintro e1 u1 ⟨⟨y1, rfl, hr⟩, hb1⟩
  have ho1 := OW1.out.below hb1
  have hs1 : w0.heap.size ≤ u1.heap.size := Nat.le_trans (by have := HB1.out.size; omega) hb1.size
  have hB1 : Below w0.heap.size w1 u1 := hb1.mono (by have := HB1.out.size; omega)
  obtain ⟨a, c, rfl, -⟩ := id hr
  have hxl : (x.map byteV).length = 6 := by rw [List.length_map, hx]
  rw [hxl] at hr ⊢
  go_wp2_with (at_builtin; go_must (refine wpList_append_all _ rfl _ _ 25 rfl w0.heap.size 5 Tryd.underlying25 infoU8 rfl (by decide) rfl ho1 hr (oneCell_bytes _) rfl (by rw [hxl]; omega) hs1 ?_); intro v2 w2 ho3 hg3 hb3; have ho := own_cat ho3; rw [hL] at ho; obtain ⟨aa2, cc2, rfl⟩ := ownsRow_bytes_form ho; have y4 : w2.cell? ⟨w.heap.size, 4, none⟩ = some (.int .i64 e.came) := (RQ0.out.below (HB1.out.trans (hB1.trans hb3))).cell 4)
  have hb : Below w0.heap.size w1 w2 := hB1.trans hb3
  clear CN hx ho1 hs1 hB1 hr hxl ho3 hg3 hb3 hb1 y4
  have hbb := HB1.out.trans hb
  have RQ2 := hid (RQ0.out.below hbb)
  have HB2 := hid hbb
  have OW2 := hid ho
  clear hb hbb ho hL RQ1 OW1 HB1
  clear z3
  have z4 : w2.cell? ⟨w.heap.size, 4, none⟩ = some (.int .i64 e.came) := RQ2.out.cell 4
  have cN : Calls Tryd.prog 35 #[.int .i64 e.came, .int .i64 6] w2 fun ex w' => ReadBy (numB e.came.toNat 6) ex w' ∧ Below w2.heap.size w2 w' := by
    have h := r14Num_any e.came.toNat 6 w2 (by omega) (by omega)
    rw [show ((e.came.toNat : Nat) : Int) = e.came by omega] at h
    exact h
  have hx := numB_len 6 e.came.toNat
  obtain ⟨L3, hL⟩ : ∃ L, L2 ++ numB e.came.toNat 6 = L := ⟨_, rfl⟩
  have l3 : L3.length ≤ 1214 := by rw [← hL, List.length_append]; rw [hx]; omega
  have HL3 := hid hL
  generalize numB e.came.toNat 6 = x at cN hx hL
  have CN := hid cN
  clear cN
  try go_wp2_with fail
  refine CN.out.mono ?_
  rintro e2 u2 ⟨⟨y2, rfl, hr⟩, hb1⟩
  have ho1 := OW2.out.below hb1
  have hs1 : w0.heap.size ≤ u2.heap.size := Nat.le_trans (by have := HB2.out.size; omega) hb1.size
  have hB1 : Below w0.heap.size w2 u2 := hb1.mono (by have := HB2.out.size; omega)
  obtain ⟨a, c, rfl, -⟩ := id hr
  have hxl : (x.map byteV).length = 6 := by rw [List.length_map, hx]
  rw [hxl] at hr ⊢
  go_wp2_with (at_builtin; go_must (refine wpList_append_all _ rfl _ _ 25 rfl w0.heap.size 5 Tryd.underlying25 infoU8 rfl (by decide) rfl ho1 hr (oneCell_bytes _) rfl (by rw [hxl]; omega) hs1 ?_); intro v3 w3 ho3 hg3 hb3; have ho := own_cat ho3; rw [hL] at ho; obtain ⟨aa3, cc3, rfl⟩ := ownsRow_bytes_form ho; have y5 : w3.cell? ⟨w.heap.size, 5, none⟩ = some (.int .i64 e.status) := (RQ0.out.below (HB2.out.trans (hB1.trans hb3))).cell 5)
  have hb : Below w0.heap.size w2 w3 := hB1.trans hb3
  clear CN hx ho1 hs1 hB1 hr hxl ho3 hg3 hb3 hb1 y5
  have hbb := HB2.out.trans hb
  have RQ3 := hid (RQ0.out.below hbb)
  have HB3 := hid hbb
  have OW3 := hid ho
  clear hb hbb ho hL RQ2 OW2 HB2
  clear z4
  have z5 : w3.cell? ⟨w.heap.size, 5, none⟩ = some (.int .i64 e.status) := RQ3.out.cell 5
  have cN : Calls Tryd.prog 35 #[.int .i64 e.status, .int .i64 6] w3 fun ex w' => ReadBy (numB e.status.toNat 6) ex w' ∧ Below w3.heap.size w3 w' := by
    have h := r14Num_any e.status.toNat 6 w3 (by omega) (by omega)
    rw [show ((e.status.toNat : Nat) : Int) = e.status by omega] at h
    exact h
  have hx := numB_len 6 e.status.toNat
  obtain ⟨L4, hL⟩ : ∃ L, L3 ++ numB e.status.toNat 6 = L := ⟨_, rfl⟩
  have l4 : L4.length ≤ 1220 := by rw [← hL, List.length_append]; rw [hx]; omega
  have HL4 := hid hL
  generalize numB e.status.toNat 6 = x at cN hx hL
  have CN := hid cN
  clear cN
  try go_wp2_with fail
  refine CN.out.mono ?_
  rintro e3 u3 ⟨⟨y3, rfl, hr⟩, hb1⟩
  have ho1 := OW3.out.below hb1
  have hs1 : w0.heap.size ≤ u3.heap.size := Nat.le_trans (by have := HB3.out.size; omega) hb1.size
  have hB1 : Below w0.heap.size w3 u3 := hb1.mono (by have := HB3.out.size; omega)
  obtain ⟨a, c, rfl, -⟩ := id hr
  have hxl : (x.map byteV).length = 6 := by rw [List.length_map, hx]
  rw [hxl] at hr ⊢
  go_wp2_with (at_builtin; go_must (refine wpList_append_all _ rfl _ _ 25 rfl w0.heap.size 5 Tryd.underlying25 infoU8 rfl (by decide) rfl ho1 hr (oneCell_bytes _) rfl (by rw [hxl]; omega) hs1 ?_); intro v4 w4 ho3 hg3 hb3; have ho := own_cat ho3; rw [hL] at ho; obtain ⟨aa4, cc4, rfl⟩ := ownsRow_bytes_form ho; have y6 : w4.cell? ⟨w.heap.size, 6, none⟩ = some (.slice fo e.fields.length fc) := (RQ0.out.below (HB3.out.trans (hB1.trans hb3))).cell 6)
  have hb : Below w0.heap.size w3 w4 := hB1.trans hb3
  clear CN hx ho1 hs1 hB1 hr hxl ho3 hg3 hb3 hb1 y6
  have hbb := HB3.out.trans hb
  have RQ4 := hid (RQ0.out.below hbb)
  have HB4 := hid hbb
  have OW4 := hid ho
  clear hb hbb ho hL RQ3 OW3 HB3
  clear z5
  have z6 : w4.cell? ⟨w.heap.size, 6, none⟩ = some (.slice fo e.fields.length fc) := RQ4.out.cell 6
  have cN : Calls Tryd.prog 35 #[.int .i64 (e.fields.length : Int), .int .i64 2] w4 fun ex w' => ReadBy (numB e.fields.length 2) ex w' ∧ Below w4.heap.size w4 w' := by
    have h := r14Num_any e.fields.length 2 w4 (by omega) (by omega)
    rw [show ((e.fields.length : Nat) : Int) = (e.fields.length : Int) by omega] at h
    exact h
  have hx := numB_len 2 e.fields.length
  obtain ⟨L5, hL⟩ : ∃ L, L4 ++ numB e.fields.length 2 = L := ⟨_, rfl⟩
  have l5 : L5.length ≤ 1222 := by rw [← hL, List.length_append]; rw [hx]; omega
  have HL5 := hid hL
  generalize numB e.fields.length 2 = x at cN hx hL
  have CN := hid cN
  clear cN
  try go_wp2_with fail
  refine CN.out.mono ?_
  rintro e4 u4 ⟨⟨y4, rfl, hr⟩, hb1⟩
  have ho1 := OW4.out.below hb1
  have hs1 : w0.heap.size ≤ u4.heap.size := Nat.le_trans (by have := HB4.out.size; omega) hb1.size
  have hB1 : Below w0.heap.size w4 u4 := hb1.mono (by have := HB4.out.size; omega)
  obtain ⟨a, c, rfl, -⟩ := id hr
  have hxl : (x.map byteV).length = 2 := by rw [List.length_map, hx]
  rw [hxl] at hr ⊢
  go_wp2_with (at_builtin; go_must (refine wpList_append_all _ rfl _ _ 25 rfl w0.heap.size 5 Tryd.underlying25 infoU8 rfl (by decide) rfl ho1 hr (oneCell_bytes _) rfl (by rw [hxl]; omega) hs1 ?_); intro v5 w5 ho3 hg3 hb3; have ho := own_cat ho3; rw [hL] at ho; obtain ⟨aa5, cc5, rfl⟩ := ownsRow_bytes_form ho; have y6 : w5.cell? ⟨w.heap.size, 6, none⟩ = some (.slice fo e.fields.length fc) := (RQ0.out.below (HB4.out.trans (hB1.trans hb3))).cell 6)
  have hb : Below w0.heap.size w4 w5 := hB1.trans hb3
  clear CN hx ho1 hs1 hB1 hr hxl ho3 hg3 hb3 hb1 y6
  have hbb := HB4.out.trans hb
  have RQ5 := hid (RQ0.out.below hbb)
  have HB5 := hid hbb
  have OW5 := hid ho
  clear hb hbb ho hL RQ4 OW4 HB4
  clear z6
  have z6 : w5.cell? ⟨w.heap.size, 6, none⟩ = some (.slice fo e.fields.length fc) := RQ5.out.cell 6
  try go_wp2_with fail
  clear z6
  go_loopw [5, 7] (fun sv i wr => ∃ (j : Nat) (aa : Option Addr) (cc : Nat), j ≤ e.fields.length ∧ i = .int .i64 (j : Int) ∧ sv = .slice aa (L5 ++ fldsB (e.fields.take j)).length cc ∧ OwnB 5 wr w0.heap.size sv (L5 ++ fldsB (e.fields.take j)) ∧ Below w0.heap.size w5 wr) (fun _ i _ => e.fields.length - (intOf i).toNat)
  case atStart => exact ⟨0, aa5, cc5, Nat.zero_le _, rfl, by simp [fldsB], by simpa [fldsB] using OW5.out, Below.refl _ _⟩
  case round =>
    obtain ⟨j, ja, jc, hj, rfl, rfl, hoj, hbj⟩ := hrel
    have hfl : (fldsB (e.fields.take j)).length ≤ 1100 * j := fldsB_len (fun f hf => hE.fld f (List.mem_of_mem_take hf)) (by rw [List.length_take]; omega)
    have hf64 := hE.flds
    obtain ⟨M, hM⟩ : ∃ M, L5 ++ fldsB (e.fields.take j) = M := ⟨_, rfl⟩
    have hMl : M.length ≤ 0 + 1222 + 1100 * j := by rw [← hM, List.length_append]; omega
    rw [hM] at hoj ⊢
    have HM := hid hM
    have OJ := hid hoj
    have HBJ := hid hbj
    have hbw := HB5.out.trans hbj
    have RJ := hid (RQ0.out.below hbw)
    have HBW := hid hbw
    clear hoj hM
    have z6 : wr.cell? ⟨w.heap.size, 6, none⟩ = some (.slice fo e.fields.length fc) := RJ.out.cell 6
    by_cases hlt : j < e.fields.length
    · obtain ⟨f, hf⟩ : ∃ f, e.fields[j]? = some f := ⟨_, List.getElem?_eq_getElem hlt⟩
      obtain ⟨bb, off, hao, d1, d2⟩ := (HF.out.below hbw).fld hf
      cases hao
      obtain ⟨f1, f2⟩ := hE.fld f (List.mem_of_getElem? hf)
      have HT := hid (take_fld hf)
      clear hf hbj hbw
      have hjI : (j : Int) < (e.fields.length : Int) := by omega
      have hj0 : (0 : Int) ≤ (j : Int) := by omega
      have hjw : IntKind.i64.wrap ((j : Int) + 1) = (j : Int) + 1 := IntWalk.i64_in _ (by omega)
      have cT := r14Text_any _ w0.heap.size M f.1 wr OJ.out (by have := HBW.out.size; omega) (by omega) (by omega)
      obtain ⟨M1, hM1⟩ : ∃ x, M ++ textB f.1 = x := ⟨_, rfl⟩
      have hM1l : M1.length ≤ M.length + 70 := by rw [← hM1, List.length_append, textB_len]; omega
      rw [hM1] at cT
      have HM1 := hid hM1
      have CT := hid cT
      clear d2 cT hM1
      go_wp2_with fail
      refine CT.out.mono ?_
      rintro ex x1 ⟨⟨y1, rfl, ho1⟩, hb1⟩
      obtain ⟨a1, c1, rfl⟩ := ownsRow_bytes_form ho1
      have hbw1 := HBW.out.trans hb1
      have z6 : x1.cell? ⟨w.heap.size, 6, none⟩ = some (.slice (some ⟨bb, off, none⟩) e.fields.length fc) := (RQ0.out.below hbw1).cell 6
      have cT2 := r14Text_any _ w0.heap.size M1 f.2 x1 ho1 (by have := hbw1.size; omega) (by omega) (by omega)
      obtain ⟨M2, hM2⟩ : ∃ x, M1 ++ textB f.2 = x := ⟨_, rfl⟩
      rw [hM2] at cT2
      have CT2 := hid cT2
      have HM2 := hid (show M2 = L5 ++ fldsB (e.fields.take (j + 1)) by rw [← hM2, HT.out, fldsB_snoc, ← HM1.out, ← HM.out, List.append_assoc, List.append_assoc]; rfl)
      have HF1 := ((HF.out.below hbw1).fld (j := j) (p := f) (by have := HT.out; exact fld_of_take hlt this))
      obtain ⟨bb', off', hao', -, d2⟩ := HF1
      cases hao'
      have HB1x := hid (HBJ.out.trans hb1)
      clear CT ho1 hb1 hbw1 d1 cT2 hM2
      go_wp2_with fail
      refine CT2.out.mono ?_
      rintro ex x2 ⟨⟨y2, rfl, ho2⟩, hb2⟩
      obtain ⟨a2, c2, rfl⟩ := ownsRow_bytes_form ho2
      have HB2x := hid (HB1x.out.trans hb2)
      have O2 := hid ho2
      clear CT2 hb2 ho2 z6 d2
      go_wp2_with fail
      go_roundw
      case rel => exact ⟨j + 1, a2, c2, hlt, by go_num, by rw [← HM2.out], by rw [← HM2.out]; exact O2.out, HB2x.out⟩
      case measure => simp [intOf]; omega
    · have hjn : e.fields.take j = e.fields := List.take_of_length_le (by omega)
      have hjd : decide ((j : Int) < (e.fields.length : Int)) = false := decide_eq_false (by omega)
      rw [hjn] at HM
      have z7 : wr.cell? ⟨w.heap.size, 7, none⟩ = some (.slice bo e.body.length bc) := RJ.out.cell 7
      have hcv := reads_string (P := Tryd.prog) (HBD.out.below hbw) 25 9 5 Tryd.underlying25 Tryd.underlying5 Tryd.underlying9
      have CT := hid (r14Text_any _ w0.heap.size M e.body wr OJ.out (by have := HBW.out.size; omega) (by omega) (by have := hE.body; omega))
      clear hbj hbw hjn
      go_wp2_with fail
      refine CT.out.mono ?_
      rintro ex x1 ⟨⟨y1, rfl, ho1⟩, hb1⟩
      have HB1x := hid (HBW.out.trans hb1)
      have O1 := hid ho1
      clear CT ho1 hb1
      go_wp2_with fail
      go_ret
      refine ⟨⟨_, rfl, ?_⟩, chain2 HW.out HW.out.size HB1x.out⟩
      have hfin : M ++ textB e.body = restB 1 e := by
        rw [← HM.out]
        rw [← HL5.out, ← HL4.out, ← HL3.out, ← HL2.out, ← HL1.out, ← HL0.out]
        unfold restB headB tailB
        simp [List.append_assoc]
      rw [← hfin]
      exact O1.out.base HW.out.size
set_option maxRecDepth 8000 in
set_option maxHeartbeats 8000000 in
theorem r14Rest2_any (e : EntP) (nv fv bv : Value) (w : World) (hE : RightE e) (hf : 2 = 3 ∨ (e.second = [] ∧ e.names = [])) (hat : EntAt w nv fv bv e) :
    Calls Tryd.prog 34 #[.int .i64 2, .agg (rowE nv fv bv e)] w fun x w' => MadeBy 5 w.heap.size (restB 2 e) x w' ∧ Below w.heap.size w w' := by
  obtain ⟨no, nc, rfl⟩ := hat.names.strs
  obtain ⟨fo, fc, rfl⟩ := hat.flds.form
  obtain ⟨bo, bc, hbv⟩ : ∃ ao cap, bv = .slice ao e.body.length cap := by
    obtain ⟨ao, cap, h, -⟩ := hat.body
    exact ⟨ao, cap, by rw [h, List.length_map]⟩
  subst hbv
  obtain ⟨w0, hw0⟩ : ∃ W, w.alloc (.cells (rowE (.slice no e.names.length nc) (.slice fo e.fields.length fc) (.slice bo e.body.length bc) e) 32) = W := ⟨_, rfl⟩
  have hbW : Below w.heap.size w w0 := by rw [← hw0]; exact below_alloc _ _
  have q0 : rowIs w0 w.heap.size (rowE (.slice no e.names.length nc) (.slice fo e.fields.length fc) (.slice bo e.body.length bc) e) 32 := by rw [← hw0]; exact rowIs_new _ _ _
  have HW := hid hbW
  have RQ0 := hid q0
  have hn0 := hat.names.below hbW
  have HNM := hid hn0
  have HF := hid (hat.flds.below hbW)
  have HBD := hid (hat.body.below hbW)
  have ha := hE.asked
  have hc := hE.came
  have hst := hE.status
  have hg := hE.gen
  have hfl := hE.flds
  have hnl := hE.names
  have hky := hE.key
  have hse := hE.second
  clear hat q0 hn0
  go_enter Tryd.func34, Tryd.ntmps34
  have HB0 := hid (show Below w0.heap.size w0 w0 from Below.refl _ _)
  have ow := (World.ownsRow_nil w0 w0.heap.size 5 1 : w0.ownsRow w0.heap.size 5 1 (.slice none 0 0) 0 [])
  obtain ⟨L0, hL0⟩ : ∃ L : List UInt8, [] = L := ⟨_, rfl⟩
  have OW0 : Hid (OwnB 5 w0 w0.heap.size (.slice none 0 0) L0) := by show OwnB _ _ _ _ _; rw [← hL0]; exact ow
  have l0 : L0.length ≤ 0 := by rw [← hL0]; exact Nat.le_refl 0
  have HL0 := hid hL0
  clear ow hL0 hbW
  have z8 : w0.cell? ⟨w.heap.size, 8, none⟩ = some (.int .i64 e.gen) := RQ0.out.cell 8
  have cN : Calls Tryd.prog 35 #[.int .i64 e.gen, .int .i64 6] w0 fun ex w' => ReadBy (numB e.gen.toNat 6) ex w' ∧ Below w0.heap.size w0 w' := by
    have h := r14Num_any e.gen.toNat 6 w0 (by omega) (by omega)
    rw [show ((e.gen.toNat : Nat) : Int) = e.gen by omega] at h
    exact h
  have hx := numB_len 6 e.gen.toNat
  obtain ⟨L1, hL⟩ : ∃ L, L0 ++ numB e.gen.toNat 6 = L := ⟨_, rfl⟩
  have l1 : L1.length ≤ 6 := by rw [← hL, List.length_append]; rw [hx]; omega
  have HL1 := hid hL
  generalize numB e.gen.toNat 6 = x at cN hx hL
  have CN := hid cN
  clear cN
  try go_wp2_with fail
  refine CN.out.mono ?_
  rintro e0 u0 ⟨⟨y0, rfl, hr⟩, hb1⟩
  have ho1 := OW0.out.below hb1
  have hs1 : w0.heap.size ≤ u0.heap.size := Nat.le_trans (by have := HB0.out.size; omega) hb1.size
  have hB1 : Below w0.heap.size w0 u0 := hb1.mono (by have := HB0.out.size; omega)
  obtain ⟨a, c, rfl, -⟩ := id hr
  have hxl : (x.map byteV).length = 6 := by rw [List.length_map, hx]
  rw [hxl] at hr ⊢
  go_wp2_with (at_builtin; go_must (refine wpList_append_all _ rfl _ _ 25 rfl w0.heap.size 5 Tryd.underlying25 infoU8 rfl (by decide) rfl ho1 hr (oneCell_bytes _) rfl (by rw [hxl]; omega) hs1 ?_); intro v1 w1 ho3 hg3 hb3; have ho := own_cat ho3; rw [hL] at ho; obtain ⟨aa1, cc1, rfl⟩ := ownsRow_bytes_form ho; have y0 : w1.cell? ⟨w.heap.size, 0, none⟩ = some (strV e.key) := (RQ0.out.below (HB0.out.trans (hB1.trans hb3))).cell 0)
  have hb : Below w0.heap.size w0 w1 := hB1.trans hb3
  clear CN hx ho1 hs1 hB1 hr hxl ho3 hg3 hb3 hb1 y0
  have hbb := hb
  have RQ1 := hid (RQ0.out.below hbb)
  have HB1 := hid hbb
  have OW1 := hid ho
  clear hb hbb ho hL OW0 hw0
  clear z8
  have z0 : w1.cell? ⟨w.heap.size, 0, none⟩ = some (strV e.key) := RQ1.out.cell 0
  obtain ⟨L2, hL⟩ : ∃ L, L1 ++ textB e.key = L := ⟨_, rfl⟩
  have l2 : L2.length ≤ 1208 := by rw [← hL, List.length_append]; rw [textB_len]; have := hE.key; omega
  have HL2 := hid hL
  have cT := r14Text_any _ w0.heap.size L1 e.key w1 OW1.out (by have := HB1.out.size; omega) (by omega) (by omega)
  rw [hL] at cT
  have CT := hid cT
  clear cT
  try go_wp2_with fail
  refine CT.out.mono ?_
  rintro e1 w2 ⟨⟨v2, rfl, ho⟩, hb⟩
  obtain ⟨aa2, cc2, rfl⟩ := ownsRow_bytes_form ho
  clear CT
  have hbb := HB1.out.trans hb
  have RQ2 := hid (RQ0.out.below hbb)
  have HB2 := hid hbb
  have OW2 := hid ho
  clear hb hbb ho hL RQ1 OW1 HB1
  clear z0
  have z3 : w2.cell? ⟨w.heap.size, 3, none⟩ = some (.int .i64 e.asked) := RQ2.out.cell 3
  have cN : Calls Tryd.prog 35 #[.int .i64 e.asked, .int .i64 6] w2 fun ex w' => ReadBy (numB e.asked.toNat 6) ex w' ∧ Below w2.heap.size w2 w' := by
    have h := r14Num_any e.asked.toNat 6 w2 (by omega) (by omega)
    rw [show ((e.asked.toNat : Nat) : Int) = e.asked by omega] at h
    exact h
  have hx := numB_len 6 e.asked.toNat
  obtain ⟨L3, hL⟩ : ∃ L, L2 ++ numB e.asked.toNat 6 = L := ⟨_, rfl⟩
  have l3 : L3.length ≤ 1214 := by rw [← hL, List.length_append]; rw [hx]; omega
  have HL3 := hid hL
  generalize numB e.asked.toNat 6 = x at cN hx hL
  have CN := hid cN
  clear cN
  try go_wp2_with fail
  refine CN.out.mono ?_
  rintro e2 u2 ⟨⟨y2, rfl, hr⟩, hb1⟩
  have ho1 := OW2.out.below hb1
  have hs1 : w0.heap.size ≤ u2.heap.size := Nat.le_trans (by have := HB2.out.size; omega) hb1.size
  have hB1 : Below w0.heap.size w2 u2 := hb1.mono (by have := HB2.out.size; omega)
  obtain ⟨a, c, rfl, -⟩ := id hr
  have hxl : (x.map byteV).length = 6 := by rw [List.length_map, hx]
  rw [hxl] at hr ⊢
  go_wp2_with (at_builtin; go_must (refine wpList_append_all _ rfl _ _ 25 rfl w0.heap.size 5 Tryd.underlying25 infoU8 rfl (by decide) rfl ho1 hr (oneCell_bytes _) rfl (by rw [hxl]; omega) hs1 ?_); intro v3 w3 ho3 hg3 hb3; have ho := own_cat ho3; rw [hL] at ho; obtain ⟨aa3, cc3, rfl⟩ := ownsRow_bytes_form ho; have y4 : w3.cell? ⟨w.heap.size, 4, none⟩ = some (.int .i64 e.came) := (RQ0.out.below (HB2.out.trans (hB1.trans hb3))).cell 4)
  have hb : Below w0.heap.size w2 w3 := hB1.trans hb3
  clear CN hx ho1 hs1 hB1 hr hxl ho3 hg3 hb3 hb1 y4
  have hbb := HB2.out.trans hb
  have RQ3 := hid (RQ0.out.below hbb)
  have HB3 := hid hbb
  have OW3 := hid ho
  clear hb hbb ho hL RQ2 OW2 HB2
  clear z3
  have z4 : w3.cell? ⟨w.heap.size, 4, none⟩ = some (.int .i64 e.came) := RQ3.out.cell 4
  have cN : Calls Tryd.prog 35 #[.int .i64 e.came, .int .i64 6] w3 fun ex w' => ReadBy (numB e.came.toNat 6) ex w' ∧ Below w3.heap.size w3 w' := by
    have h := r14Num_any e.came.toNat 6 w3 (by omega) (by omega)
    rw [show ((e.came.toNat : Nat) : Int) = e.came by omega] at h
    exact h
  have hx := numB_len 6 e.came.toNat
  obtain ⟨L4, hL⟩ : ∃ L, L3 ++ numB e.came.toNat 6 = L := ⟨_, rfl⟩
  have l4 : L4.length ≤ 1220 := by rw [← hL, List.length_append]; rw [hx]; omega
  have HL4 := hid hL
  generalize numB e.came.toNat 6 = x at cN hx hL
  have CN := hid cN
  clear cN
  try go_wp2_with fail
  refine CN.out.mono ?_
  rintro e3 u3 ⟨⟨y3, rfl, hr⟩, hb1⟩
  have ho1 := OW3.out.below hb1
  have hs1 : w0.heap.size ≤ u3.heap.size := Nat.le_trans (by have := HB3.out.size; omega) hb1.size
  have hB1 : Below w0.heap.size w3 u3 := hb1.mono (by have := HB3.out.size; omega)
  obtain ⟨a, c, rfl, -⟩ := id hr
  have hxl : (x.map byteV).length = 6 := by rw [List.length_map, hx]
  rw [hxl] at hr ⊢
  go_wp2_with (at_builtin; go_must (refine wpList_append_all _ rfl _ _ 25 rfl w0.heap.size 5 Tryd.underlying25 infoU8 rfl (by decide) rfl ho1 hr (oneCell_bytes _) rfl (by rw [hxl]; omega) hs1 ?_); intro v4 w4 ho3 hg3 hb3; have ho := own_cat ho3; rw [hL] at ho; obtain ⟨aa4, cc4, rfl⟩ := ownsRow_bytes_form ho; have y5 : w4.cell? ⟨w.heap.size, 5, none⟩ = some (.int .i64 e.status) := (RQ0.out.below (HB3.out.trans (hB1.trans hb3))).cell 5)
  have hb : Below w0.heap.size w3 w4 := hB1.trans hb3
  clear CN hx ho1 hs1 hB1 hr hxl ho3 hg3 hb3 hb1 y5
  have hbb := HB3.out.trans hb
  have RQ4 := hid (RQ0.out.below hbb)
  have HB4 := hid hbb
  have OW4 := hid ho
  clear hb hbb ho hL RQ3 OW3 HB3
  clear z4
  have z5 : w4.cell? ⟨w.heap.size, 5, none⟩ = some (.int .i64 e.status) := RQ4.out.cell 5
  have cN : Calls Tryd.prog 35 #[.int .i64 e.status, .int .i64 6] w4 fun ex w' => ReadBy (numB e.status.toNat 6) ex w' ∧ Below w4.heap.size w4 w' := by
    have h := r14Num_any e.status.toNat 6 w4 (by omega) (by omega)
    rw [show ((e.status.toNat : Nat) : Int) = e.status by omega] at h
    exact h
  have hx := numB_len 6 e.status.toNat
  obtain ⟨L5, hL⟩ : ∃ L, L4 ++ numB e.status.toNat 6 = L := ⟨_, rfl⟩
  have l5 : L5.length ≤ 1226 := by rw [← hL, List.length_append]; rw [hx]; omega
  have HL5 := hid hL
  generalize numB e.status.toNat 6 = x at cN hx hL
  have CN := hid cN
  clear cN
  try go_wp2_with fail
  refine CN.out.mono ?_
  rintro e4 u4 ⟨⟨y4, rfl, hr⟩, hb1⟩
  have ho1 := OW4.out.below hb1
  have hs1 : w0.heap.size ≤ u4.heap.size := Nat.le_trans (by have := HB4.out.size; omega) hb1.size
  have hB1 : Below w0.heap.size w4 u4 := hb1.mono (by have := HB4.out.size; omega)
  obtain ⟨a, c, rfl, -⟩ := id hr
  have hxl : (x.map byteV).length = 6 := by rw [List.length_map, hx]
  rw [hxl] at hr ⊢
  go_wp2_with (at_builtin; go_must (refine wpList_append_all _ rfl _ _ 25 rfl w0.heap.size 5 Tryd.underlying25 infoU8 rfl (by decide) rfl ho1 hr (oneCell_bytes _) rfl (by rw [hxl]; omega) hs1 ?_); intro v5 w5 ho3 hg3 hb3; have ho := own_cat ho3; rw [hL] at ho; obtain ⟨aa5, cc5, rfl⟩ := ownsRow_bytes_form ho; have y6 : w5.cell? ⟨w.heap.size, 6, none⟩ = some (.slice fo e.fields.length fc) := (RQ0.out.below (HB4.out.trans (hB1.trans hb3))).cell 6)
  have hb : Below w0.heap.size w4 w5 := hB1.trans hb3
  clear CN hx ho1 hs1 hB1 hr hxl ho3 hg3 hb3 hb1 y6
  have hbb := HB4.out.trans hb
  have RQ5 := hid (RQ0.out.below hbb)
  have HB5 := hid hbb
  have OW5 := hid ho
  clear hb hbb ho hL RQ4 OW4 HB4
  clear z5
  have z6 : w5.cell? ⟨w.heap.size, 6, none⟩ = some (.slice fo e.fields.length fc) := RQ5.out.cell 6
  have cN : Calls Tryd.prog 35 #[.int .i64 (e.fields.length : Int), .int .i64 2] w5 fun ex w' => ReadBy (numB e.fields.length 2) ex w' ∧ Below w5.heap.size w5 w' := by
    have h := r14Num_any e.fields.length 2 w5 (by omega) (by omega)
    rw [show ((e.fields.length : Nat) : Int) = (e.fields.length : Int) by omega] at h
    exact h
  have hx := numB_len 2 e.fields.length
  obtain ⟨L6, hL⟩ : ∃ L, L5 ++ numB e.fields.length 2 = L := ⟨_, rfl⟩
  have l6 : L6.length ≤ 1228 := by rw [← hL, List.length_append]; rw [hx]; omega
  have HL6 := hid hL
  generalize numB e.fields.length 2 = x at cN hx hL
  have CN := hid cN
  clear cN
  try go_wp2_with fail
  refine CN.out.mono ?_
  rintro e5 u5 ⟨⟨y5, rfl, hr⟩, hb1⟩
  have ho1 := OW5.out.below hb1
  have hs1 : w0.heap.size ≤ u5.heap.size := Nat.le_trans (by have := HB5.out.size; omega) hb1.size
  have hB1 : Below w0.heap.size w5 u5 := hb1.mono (by have := HB5.out.size; omega)
  obtain ⟨a, c, rfl, -⟩ := id hr
  have hxl : (x.map byteV).length = 2 := by rw [List.length_map, hx]
  rw [hxl] at hr ⊢
  go_wp2_with (at_builtin; go_must (refine wpList_append_all _ rfl _ _ 25 rfl w0.heap.size 5 Tryd.underlying25 infoU8 rfl (by decide) rfl ho1 hr (oneCell_bytes _) rfl (by rw [hxl]; omega) hs1 ?_); intro v6 w6 ho3 hg3 hb3; have ho := own_cat ho3; rw [hL] at ho; obtain ⟨aa6, cc6, rfl⟩ := ownsRow_bytes_form ho; have y6 : w6.cell? ⟨w.heap.size, 6, none⟩ = some (.slice fo e.fields.length fc) := (RQ0.out.below (HB5.out.trans (hB1.trans hb3))).cell 6)
  have hb : Below w0.heap.size w5 w6 := hB1.trans hb3
  clear CN hx ho1 hs1 hB1 hr hxl ho3 hg3 hb3 hb1 y6
  have hbb := HB5.out.trans hb
  have RQ6 := hid (RQ0.out.below hbb)
  have HB6 := hid hbb
  have OW6 := hid ho
  clear hb hbb ho hL RQ5 OW5 HB5
  clear z6
  have z6 : w6.cell? ⟨w.heap.size, 6, none⟩ = some (.slice fo e.fields.length fc) := RQ6.out.cell 6
  try go_wp2_with fail
  clear z6
  go_loopw [5, 7] (fun sv i wr => ∃ (j : Nat) (aa : Option Addr) (cc : Nat), j ≤ e.fields.length ∧ i = .int .i64 (j : Int) ∧ sv = .slice aa (L6 ++ fldsB (e.fields.take j)).length cc ∧ OwnB 5 wr w0.heap.size sv (L6 ++ fldsB (e.fields.take j)) ∧ Below w0.heap.size w6 wr) (fun _ i _ => e.fields.length - (intOf i).toNat)
  case atStart => exact ⟨0, aa6, cc6, Nat.zero_le _, rfl, by simp [fldsB], by simpa [fldsB] using OW6.out, Below.refl _ _⟩
  case round =>
    obtain ⟨j, ja, jc, hj, rfl, rfl, hoj, hbj⟩ := hrel
    have hfl : (fldsB (e.fields.take j)).length ≤ 1100 * j := fldsB_len (fun f hf => hE.fld f (List.mem_of_mem_take hf)) (by rw [List.length_take]; omega)
    have hf64 := hE.flds
    obtain ⟨M, hM⟩ : ∃ M, L6 ++ fldsB (e.fields.take j) = M := ⟨_, rfl⟩
    have hMl : M.length ≤ 6 + 1222 + 1100 * j := by rw [← hM, List.length_append]; omega
    rw [hM] at hoj ⊢
    have HM := hid hM
    have OJ := hid hoj
    have HBJ := hid hbj
    have hbw := HB6.out.trans hbj
    have RJ := hid (RQ0.out.below hbw)
    have HBW := hid hbw
    clear hoj hM
    have z6 : wr.cell? ⟨w.heap.size, 6, none⟩ = some (.slice fo e.fields.length fc) := RJ.out.cell 6
    by_cases hlt : j < e.fields.length
    · obtain ⟨f, hf⟩ : ∃ f, e.fields[j]? = some f := ⟨_, List.getElem?_eq_getElem hlt⟩
      obtain ⟨bb, off, hao, d1, d2⟩ := (HF.out.below hbw).fld hf
      cases hao
      obtain ⟨f1, f2⟩ := hE.fld f (List.mem_of_getElem? hf)
      have HT := hid (take_fld hf)
      clear hf hbj hbw
      have hjI : (j : Int) < (e.fields.length : Int) := by omega
      have hj0 : (0 : Int) ≤ (j : Int) := by omega
      have hjw : IntKind.i64.wrap ((j : Int) + 1) = (j : Int) + 1 := IntWalk.i64_in _ (by omega)
      have cT := r14Text_any _ w0.heap.size M f.1 wr OJ.out (by have := HBW.out.size; omega) (by omega) (by omega)
      obtain ⟨M1, hM1⟩ : ∃ x, M ++ textB f.1 = x := ⟨_, rfl⟩
      have hM1l : M1.length ≤ M.length + 70 := by rw [← hM1, List.length_append, textB_len]; omega
      rw [hM1] at cT
      have HM1 := hid hM1
      have CT := hid cT
      clear d2 cT hM1
      go_wp2_with fail
      refine CT.out.mono ?_
      rintro ex x1 ⟨⟨y1, rfl, ho1⟩, hb1⟩
      obtain ⟨a1, c1, rfl⟩ := ownsRow_bytes_form ho1
      have hbw1 := HBW.out.trans hb1
      have z6 : x1.cell? ⟨w.heap.size, 6, none⟩ = some (.slice (some ⟨bb, off, none⟩) e.fields.length fc) := (RQ0.out.below hbw1).cell 6
      have cT2 := r14Text_any _ w0.heap.size M1 f.2 x1 ho1 (by have := hbw1.size; omega) (by omega) (by omega)
      obtain ⟨M2, hM2⟩ : ∃ x, M1 ++ textB f.2 = x := ⟨_, rfl⟩
      rw [hM2] at cT2
      have CT2 := hid cT2
      have HM2 := hid (show M2 = L6 ++ fldsB (e.fields.take (j + 1)) by rw [← hM2, HT.out, fldsB_snoc, ← HM1.out, ← HM.out, List.append_assoc, List.append_assoc]; rfl)
      have HF1 := ((HF.out.below hbw1).fld (j := j) (p := f) (by have := HT.out; exact fld_of_take hlt this))
      obtain ⟨bb', off', hao', -, d2⟩ := HF1
      cases hao'
      have HB1x := hid (HBJ.out.trans hb1)
      clear CT ho1 hb1 hbw1 d1 cT2 hM2
      go_wp2_with fail
      refine CT2.out.mono ?_
      rintro ex x2 ⟨⟨y2, rfl, ho2⟩, hb2⟩
      obtain ⟨a2, c2, rfl⟩ := ownsRow_bytes_form ho2
      have HB2x := hid (HB1x.out.trans hb2)
      have O2 := hid ho2
      clear CT2 hb2 ho2 z6 d2
      go_wp2_with fail
      go_roundw
      case rel => exact ⟨j + 1, a2, c2, hlt, by go_num, by rw [← HM2.out], by rw [← HM2.out]; exact O2.out, HB2x.out⟩
      case measure => simp [intOf]; omega
    · have hjn : e.fields.take j = e.fields := List.take_of_length_le (by omega)
      have hjd : decide ((j : Int) < (e.fields.length : Int)) = false := decide_eq_false (by omega)
      rw [hjn] at HM
      have z7 : wr.cell? ⟨w.heap.size, 7, none⟩ = some (.slice bo e.body.length bc) := RJ.out.cell 7
      have hcv := reads_string (P := Tryd.prog) (HBD.out.below hbw) 25 9 5 Tryd.underlying25 Tryd.underlying5 Tryd.underlying9
      have CT := hid (r14Text_any _ w0.heap.size M e.body wr OJ.out (by have := HBW.out.size; omega) (by omega) (by have := hE.body; omega))
      clear hbj hbw hjn
      go_wp2_with fail
      refine CT.out.mono ?_
      rintro ex x1 ⟨⟨y1, rfl, ho1⟩, hb1⟩
      have HB1x := hid (HBW.out.trans hb1)
      have O1 := hid ho1
      clear CT ho1 hb1
      go_wp2_with fail
      go_ret
      refine ⟨⟨_, rfl, ?_⟩, chain2 HW.out HW.out.size HB1x.out⟩
      have hfin : M ++ textB e.body = restB 2 e := by
        rw [← HM.out]
        rw [← HL6.out, ← HL5.out, ← HL4.out, ← HL3.out, ← HL2.out, ← HL1.out, ← HL0.out]
        unfold restB headB tailB
        simp [List.append_assoc]
      rw [← hfin]
      exact O1.out.base HW.out.size
set_option maxRecDepth 8000 in
set_option maxHeartbeats 8000000 in
theorem r14Rest3_any (e : EntP) (nv fv bv : Value) (w : World) (hE : RightE e) (hf : 3 = 3 ∨ (e.second = [] ∧ e.names = [])) (hat : EntAt w nv fv bv e) :
    Calls Tryd.prog 34 #[.int .i64 3, .agg (rowE nv fv bv e)] w fun x w' => MadeBy 5 w.heap.size (restB 3 e) x w' ∧ Below w.heap.size w w' := by
  obtain ⟨no, nc, rfl⟩ := hat.names.strs
  obtain ⟨fo, fc, rfl⟩ := hat.flds.form
  obtain ⟨bo, bc, hbv⟩ : ∃ ao cap, bv = .slice ao e.body.length cap := by
    obtain ⟨ao, cap, h, -⟩ := hat.body
    exact ⟨ao, cap, by rw [h, List.length_map]⟩
  subst hbv
  obtain ⟨w0, hw0⟩ : ∃ W, w.alloc (.cells (rowE (.slice no e.names.length nc) (.slice fo e.fields.length fc) (.slice bo e.body.length bc) e) 32) = W := ⟨_, rfl⟩
  have hbW : Below w.heap.size w w0 := by rw [← hw0]; exact below_alloc _ _
  have q0 : rowIs w0 w.heap.size (rowE (.slice no e.names.length nc) (.slice fo e.fields.length fc) (.slice bo e.body.length bc) e) 32 := by rw [← hw0]; exact rowIs_new _ _ _
  have HW := hid hbW
  have RQ0 := hid q0
  have hn0 := hat.names.below hbW
  have HNM := hid hn0
  have HF := hid (hat.flds.below hbW)
  have HBD := hid (hat.body.below hbW)
  have ha := hE.asked
  have hc := hE.came
  have hst := hE.status
  have hg := hE.gen
  have hfl := hE.flds
  have hnl := hE.names
  have hky := hE.key
  have hse := hE.second
  clear hat q0 hn0
  go_enter Tryd.func34, Tryd.ntmps34
  have HB0 := hid (show Below w0.heap.size w0 w0 from Below.refl _ _)
  have ow := (World.ownsRow_nil w0 w0.heap.size 5 1 : w0.ownsRow w0.heap.size 5 1 (.slice none 0 0) 0 [])
  obtain ⟨L0, hL0⟩ : ∃ L : List UInt8, [] = L := ⟨_, rfl⟩
  have OW0 : Hid (OwnB 5 w0 w0.heap.size (.slice none 0 0) L0) := by show OwnB _ _ _ _ _; rw [← hL0]; exact ow
  have l0 : L0.length ≤ 0 := by rw [← hL0]; exact Nat.le_refl 0
  have HL0 := hid hL0
  clear ow hL0 hbW
  have z1 : w0.cell? ⟨w.heap.size, 1, none⟩ = some (strV e.second) := RQ0.out.cell 1
  obtain ⟨L1, hL⟩ : ∃ L, L0 ++ textB e.second = L := ⟨_, rfl⟩
  have l1 : L1.length ≤ 602 := by rw [← hL, List.length_append]; rw [textB_len]; have := hE.second; omega
  have HL1 := hid hL
  have cT := r14Text_any _ w0.heap.size L0 e.second w0 OW0.out (by have := HB0.out.size; omega) (by omega) (by omega)
  rw [hL] at cT
  have CT := hid cT
  clear cT
  try go_wp2_with fail
  refine CT.out.mono ?_
  rintro e0 w1 ⟨⟨v1, rfl, ho⟩, hb⟩
  obtain ⟨aa1, cc1, rfl⟩ := ownsRow_bytes_form ho
  clear CT
  have hbb := hb
  have RQ1 := hid (RQ0.out.below hbb)
  have HB1 := hid hbb
  have OW1 := hid ho
  clear hb hbb ho hL OW0 hw0
  clear z1
  have z2 : w1.cell? ⟨w.heap.size, 2, none⟩ = some (.slice no e.names.length nc) := RQ1.out.cell 2
  have cN : Calls Tryd.prog 35 #[.int .i64 (e.names.length : Int), .int .i64 2] w1 fun ex w' => ReadBy (numB e.names.length 2) ex w' ∧ Below w1.heap.size w1 w' := by
    have h := r14Num_any e.names.length 2 w1 (by omega) (by omega)
    rw [show ((e.names.length : Nat) : Int) = (e.names.length : Int) by omega] at h
    exact h
  have hx := numB_len 2 e.names.length
  obtain ⟨L2, hL⟩ : ∃ L, L1 ++ numB e.names.length 2 = L := ⟨_, rfl⟩
  have l2 : L2.length ≤ 604 := by rw [← hL, List.length_append]; rw [hx]; omega
  have HL2 := hid hL
  generalize numB e.names.length 2 = x at cN hx hL
  have CN := hid cN
  clear cN
  try go_wp2_with fail
  refine CN.out.mono ?_
  rintro e1 u1 ⟨⟨y1, rfl, hr⟩, hb1⟩
  have ho1 := OW1.out.below hb1
  have hs1 : w0.heap.size ≤ u1.heap.size := Nat.le_trans (by have := HB1.out.size; omega) hb1.size
  have hB1 : Below w0.heap.size w1 u1 := hb1.mono (by have := HB1.out.size; omega)
  obtain ⟨a, c, rfl, -⟩ := id hr
  have hxl : (x.map byteV).length = 2 := by rw [List.length_map, hx]
  rw [hxl] at hr ⊢
  go_wp2_with (at_builtin; go_must (refine wpList_append_all _ rfl _ _ 25 rfl w0.heap.size 5 Tryd.underlying25 infoU8 rfl (by decide) rfl ho1 hr (oneCell_bytes _) rfl (by rw [hxl]; omega) hs1 ?_); intro v2 w2 ho3 hg3 hb3; have ho := own_cat ho3; rw [hL] at ho; obtain ⟨aa2, cc2, rfl⟩ := ownsRow_bytes_form ho; have y2 : w2.cell? ⟨w.heap.size, 2, none⟩ = some (.slice no e.names.length nc) := (RQ0.out.below (HB1.out.trans (hB1.trans hb3))).cell 2)
  have hb : Below w0.heap.size w1 w2 := hB1.trans hb3
  clear CN hx ho1 hs1 hB1 hr hxl ho3 hg3 hb3 hb1 y2
  have hbb := HB1.out.trans hb
  have RQ2 := hid (RQ0.out.below hbb)
  have HB2 := hid hbb
  have OW2 := hid ho
  clear hb hbb ho hL RQ1 OW1 HB1
  clear z2
  have z2 : w2.cell? ⟨w.heap.size, 2, none⟩ = some (.slice no e.names.length nc) := RQ2.out.cell 2
  try go_wp2_with fail
  clear z2
  go_loopw [5, 6] (fun sv i wr => ∃ (j : Nat) (aa : Option Addr) (cc : Nat), j ≤ e.names.length ∧ i = .int .i64 (j : Int) ∧ sv = .slice aa (L2 ++ textsB (e.names.take j)).length cc ∧ OwnB 5 wr w0.heap.size sv (L2 ++ textsB (e.names.take j)) ∧ Below w0.heap.size w2 wr) (fun _ i _ => e.names.length - (intOf i).toNat)
  case atStart => exact ⟨0, aa2, cc2, Nat.zero_le _, rfl, by simp [textsB], by simpa [textsB] using OW2.out, Below.refl _ _⟩
  case round =>
    obtain ⟨j, ja, jc, hj, rfl, rfl, hoj, hbj⟩ := hrel
    have hfl2 : (textsB (e.names.take j)).length ≤ 66 * j := textsB_len (fun f hf => hE.each f (List.mem_of_mem_take hf)) (by rw [List.length_take]; omega)
    obtain ⟨M, hM⟩ : ∃ M, L2 ++ textsB (e.names.take j) = M := ⟨_, rfl⟩
    have hMl : M.length ≤ 604 + 66 * j := by rw [← hM, List.length_append]; omega
    rw [hM] at hoj ⊢
    have HM := hid hM
    have OJ := hid hoj
    have HBJ := hid hbj
    have hbw := HB2.out.trans hbj
    have RJ := hid (RQ0.out.below hbw)
    have HBW := hid hbw
    clear hoj hM
    have z2 : wr.cell? ⟨w.heap.size, 2, none⟩ = some (.slice no e.names.length nc) := RJ.out.cell 2
    by_cases hlt : j < e.names.length
    · obtain ⟨f, hf⟩ : ∃ f, e.names[j]? = some f := ⟨_, List.getElem?_eq_getElem hlt⟩
      obtain ⟨bb, off, hao, d1⟩ := (HNM.out.below hbw).str hf
      cases hao
      have f1 := hE.each f (List.mem_of_getElem? hf)
      have HT := hid (take_str hf)
      clear hf hbj hbw
      have hjI : (j : Int) < (e.names.length : Int) := by omega
      have hj0 : (0 : Int) ≤ (j : Int) := by omega
      have hjw : IntKind.i64.wrap ((j : Int) + 1) = (j : Int) + 1 := IntWalk.i64_in _ (by omega)
      have cT := r14Text_any _ w0.heap.size M f wr OJ.out (by have := HBW.out.size; omega) (by omega) (by omega)
      obtain ⟨M1, hM1⟩ : ∃ x, M ++ textB f = x := ⟨_, rfl⟩
      rw [hM1] at cT
      have HM1 := hid (show M1 = L2 ++ textsB (e.names.take (j + 1)) by rw [← hM1, HT.out, textsB_snoc, ← HM.out, List.append_assoc])
      have CT := hid cT
      clear cT hM1
      go_wp2_with fail
      refine CT.out.mono ?_
      rintro ex x1 ⟨⟨y1, rfl, ho1⟩, hb1⟩
      obtain ⟨a1, c1, rfl⟩ := ownsRow_bytes_form ho1
      have HB1x := hid (HBJ.out.trans hb1)
      have O1 := hid ho1
      clear CT ho1 hb1 z2 d1
      go_wp2_with fail
      go_roundw
      case rel => exact ⟨j + 1, a1, c1, hlt, by go_num, by rw [← HM1.out], by rw [← HM1.out]; exact O1.out, HB1x.out⟩
      case measure => simp [intOf]; omega
    · have hjn : e.names.take j = e.names := List.take_of_length_le (by omega)
      have hjd : decide ((j : Int) < (e.names.length : Int)) = false := decide_eq_false (by omega)
      rw [hjn] at HM
      have HL3 := HM
      obtain ⟨L3, hLe⟩ : ∃ x, M = x := ⟨_, rfl⟩
      rw [hLe] at HL3 OJ hMl ⊢
      have l3 : L3.length ≤ 1132 := by omega
      have OW3 := OJ
      have HB3 := HBW
      have RQ3 := RJ
      obtain ⟨w3, hwe⟩ : ∃ x, wr = x := ⟨_, rfl⟩
      rw [hwe] at OW3 HB3 RQ3 z2 ⊢
      clear hbj hbw hjn OJ HBW RJ HM HBJ hwe hLe hMl hfl2
      have z8 : w3.cell? ⟨w.heap.size, 8, none⟩ = some (.int .i64 e.gen) := RQ3.out.cell 8
      have cN : Calls Tryd.prog 35 #[.int .i64 e.gen, .int .i64 6] w3 fun ex w' => ReadBy (numB e.gen.toNat 6) ex w' ∧ Below w3.heap.size w3 w' := by
        have h := r14Num_any e.gen.toNat 6 w3 (by omega) (by omega)
        rw [show ((e.gen.toNat : Nat) : Int) = e.gen by omega] at h
        exact h
      have hx := numB_len 6 e.gen.toNat
      obtain ⟨L4, hL⟩ : ∃ L, L3 ++ numB e.gen.toNat 6 = L := ⟨_, rfl⟩
      have l4 : L4.length ≤ 1138 := by rw [← hL, List.length_append]; rw [hx]; omega
      have HL4 := hid hL
      generalize numB e.gen.toNat 6 = x at cN hx hL
      have CN := hid cN
      clear cN
      try go_wp2_with fail
      refine CN.out.mono ?_
      rintro e3 u3 ⟨⟨y3, rfl, hr⟩, hb1⟩
      have ho1 := OW3.out.below hb1
      have hs1 : w0.heap.size ≤ u3.heap.size := Nat.le_trans (by have := HB3.out.size; omega) hb1.size
      have hB1 : Below w0.heap.size w3 u3 := hb1.mono (by have := HB3.out.size; omega)
      obtain ⟨a, c, rfl, -⟩ := id hr
      have hxl : (x.map byteV).length = 6 := by rw [List.length_map, hx]
      rw [hxl] at hr ⊢
      go_wp2_with (at_builtin; go_must (refine wpList_append_all _ rfl _ _ 25 rfl w0.heap.size 5 Tryd.underlying25 infoU8 rfl (by decide) rfl ho1 hr (oneCell_bytes _) rfl (by rw [hxl]; omega) hs1 ?_); intro v4 w4 ho3 hg3 hb3; have ho := own_cat ho3; rw [hL] at ho; obtain ⟨aa4, cc4, rfl⟩ := ownsRow_bytes_form ho; have y0 : w4.cell? ⟨w.heap.size, 0, none⟩ = some (strV e.key) := (RQ0.out.below (HB3.out.trans (hB1.trans hb3))).cell 0)
      have hb : Below w0.heap.size w3 w4 := hB1.trans hb3
      clear CN hx ho1 hs1 hB1 hr hxl ho3 hg3 hb3 hb1 y0
      have hbb := HB3.out.trans hb
      have RQ4 := hid (RQ0.out.below hbb)
      have HB4 := hid hbb
      have OW4 := hid ho
      clear hb hbb ho hL RQ3 OW3 HB3
      clear z8
      have z0 : w4.cell? ⟨w.heap.size, 0, none⟩ = some (strV e.key) := RQ4.out.cell 0
      obtain ⟨L5, hL⟩ : ∃ L, L4 ++ textB e.key = L := ⟨_, rfl⟩
      have l5 : L5.length ≤ 2340 := by rw [← hL, List.length_append]; rw [textB_len]; have := hE.key; omega
      have HL5 := hid hL
      have cT := r14Text_any _ w0.heap.size L4 e.key w4 OW4.out (by have := HB4.out.size; omega) (by omega) (by omega)
      rw [hL] at cT
      have CT := hid cT
      clear cT
      try go_wp2_with fail
      refine CT.out.mono ?_
      rintro e4 w5 ⟨⟨v5, rfl, ho⟩, hb⟩
      obtain ⟨aa5, cc5, rfl⟩ := ownsRow_bytes_form ho
      clear CT
      have hbb := HB4.out.trans hb
      have RQ5 := hid (RQ0.out.below hbb)
      have HB5 := hid hbb
      have OW5 := hid ho
      clear hb hbb ho hL RQ4 OW4 HB4
      clear z0
      have z3 : w5.cell? ⟨w.heap.size, 3, none⟩ = some (.int .i64 e.asked) := RQ5.out.cell 3
      have cN : Calls Tryd.prog 35 #[.int .i64 e.asked, .int .i64 6] w5 fun ex w' => ReadBy (numB e.asked.toNat 6) ex w' ∧ Below w5.heap.size w5 w' := by
        have h := r14Num_any e.asked.toNat 6 w5 (by omega) (by omega)
        rw [show ((e.asked.toNat : Nat) : Int) = e.asked by omega] at h
        exact h
      have hx := numB_len 6 e.asked.toNat
      obtain ⟨L6, hL⟩ : ∃ L, L5 ++ numB e.asked.toNat 6 = L := ⟨_, rfl⟩
      have l6 : L6.length ≤ 2346 := by rw [← hL, List.length_append]; rw [hx]; omega
      have HL6 := hid hL
      generalize numB e.asked.toNat 6 = x at cN hx hL
      have CN := hid cN
      clear cN
      try go_wp2_with fail
      refine CN.out.mono ?_
      rintro e5 u5 ⟨⟨y5, rfl, hr⟩, hb1⟩
      have ho1 := OW5.out.below hb1
      have hs1 : w0.heap.size ≤ u5.heap.size := Nat.le_trans (by have := HB5.out.size; omega) hb1.size
      have hB1 : Below w0.heap.size w5 u5 := hb1.mono (by have := HB5.out.size; omega)
      obtain ⟨a, c, rfl, -⟩ := id hr
      have hxl : (x.map byteV).length = 6 := by rw [List.length_map, hx]
      rw [hxl] at hr ⊢
      go_wp2_with (at_builtin; go_must (refine wpList_append_all _ rfl _ _ 25 rfl w0.heap.size 5 Tryd.underlying25 infoU8 rfl (by decide) rfl ho1 hr (oneCell_bytes _) rfl (by rw [hxl]; omega) hs1 ?_); intro v6 w6 ho3 hg3 hb3; have ho := own_cat ho3; rw [hL] at ho; obtain ⟨aa6, cc6, rfl⟩ := ownsRow_bytes_form ho; have y4 : w6.cell? ⟨w.heap.size, 4, none⟩ = some (.int .i64 e.came) := (RQ0.out.below (HB5.out.trans (hB1.trans hb3))).cell 4)
      have hb : Below w0.heap.size w5 w6 := hB1.trans hb3
      clear CN hx ho1 hs1 hB1 hr hxl ho3 hg3 hb3 hb1 y4
      have hbb := HB5.out.trans hb
      have RQ6 := hid (RQ0.out.below hbb)
      have HB6 := hid hbb
      have OW6 := hid ho
      clear hb hbb ho hL RQ5 OW5 HB5
      clear z3
      have z4 : w6.cell? ⟨w.heap.size, 4, none⟩ = some (.int .i64 e.came) := RQ6.out.cell 4
      have cN : Calls Tryd.prog 35 #[.int .i64 e.came, .int .i64 6] w6 fun ex w' => ReadBy (numB e.came.toNat 6) ex w' ∧ Below w6.heap.size w6 w' := by
        have h := r14Num_any e.came.toNat 6 w6 (by omega) (by omega)
        rw [show ((e.came.toNat : Nat) : Int) = e.came by omega] at h
        exact h
      have hx := numB_len 6 e.came.toNat
      obtain ⟨L7, hL⟩ : ∃ L, L6 ++ numB e.came.toNat 6 = L := ⟨_, rfl⟩
      have l7 : L7.length ≤ 2352 := by rw [← hL, List.length_append]; rw [hx]; omega
      have HL7 := hid hL
      generalize numB e.came.toNat 6 = x at cN hx hL
      have CN := hid cN
      clear cN
      try go_wp2_with fail
      refine CN.out.mono ?_
      rintro e6 u6 ⟨⟨y6, rfl, hr⟩, hb1⟩
      have ho1 := OW6.out.below hb1
      have hs1 : w0.heap.size ≤ u6.heap.size := Nat.le_trans (by have := HB6.out.size; omega) hb1.size
      have hB1 : Below w0.heap.size w6 u6 := hb1.mono (by have := HB6.out.size; omega)
      obtain ⟨a, c, rfl, -⟩ := id hr
      have hxl : (x.map byteV).length = 6 := by rw [List.length_map, hx]
      rw [hxl] at hr ⊢
      go_wp2_with (at_builtin; go_must (refine wpList_append_all _ rfl _ _ 25 rfl w0.heap.size 5 Tryd.underlying25 infoU8 rfl (by decide) rfl ho1 hr (oneCell_bytes _) rfl (by rw [hxl]; omega) hs1 ?_); intro v7 w7 ho3 hg3 hb3; have ho := own_cat ho3; rw [hL] at ho; obtain ⟨aa7, cc7, rfl⟩ := ownsRow_bytes_form ho; have y5 : w7.cell? ⟨w.heap.size, 5, none⟩ = some (.int .i64 e.status) := (RQ0.out.below (HB6.out.trans (hB1.trans hb3))).cell 5)
      have hb : Below w0.heap.size w6 w7 := hB1.trans hb3
      clear CN hx ho1 hs1 hB1 hr hxl ho3 hg3 hb3 hb1 y5
      have hbb := HB6.out.trans hb
      have RQ7 := hid (RQ0.out.below hbb)
      have HB7 := hid hbb
      have OW7 := hid ho
      clear hb hbb ho hL RQ6 OW6 HB6
      clear z4
      have z5 : w7.cell? ⟨w.heap.size, 5, none⟩ = some (.int .i64 e.status) := RQ7.out.cell 5
      have cN : Calls Tryd.prog 35 #[.int .i64 e.status, .int .i64 6] w7 fun ex w' => ReadBy (numB e.status.toNat 6) ex w' ∧ Below w7.heap.size w7 w' := by
        have h := r14Num_any e.status.toNat 6 w7 (by omega) (by omega)
        rw [show ((e.status.toNat : Nat) : Int) = e.status by omega] at h
        exact h
      have hx := numB_len 6 e.status.toNat
      obtain ⟨L8, hL⟩ : ∃ L, L7 ++ numB e.status.toNat 6 = L := ⟨_, rfl⟩
      have l8 : L8.length ≤ 2358 := by rw [← hL, List.length_append]; rw [hx]; omega
      have HL8 := hid hL
      generalize numB e.status.toNat 6 = x at cN hx hL
      have CN := hid cN
      clear cN
      try go_wp2_with fail
      refine CN.out.mono ?_
      rintro e7 u7 ⟨⟨y7, rfl, hr⟩, hb1⟩
      have ho1 := OW7.out.below hb1
      have hs1 : w0.heap.size ≤ u7.heap.size := Nat.le_trans (by have := HB7.out.size; omega) hb1.size
      have hB1 : Below w0.heap.size w7 u7 := hb1.mono (by have := HB7.out.size; omega)
      obtain ⟨a, c, rfl, -⟩ := id hr
      have hxl : (x.map byteV).length = 6 := by rw [List.length_map, hx]
      rw [hxl] at hr ⊢
      go_wp2_with (at_builtin; go_must (refine wpList_append_all _ rfl _ _ 25 rfl w0.heap.size 5 Tryd.underlying25 infoU8 rfl (by decide) rfl ho1 hr (oneCell_bytes _) rfl (by rw [hxl]; omega) hs1 ?_); intro v8 w8 ho3 hg3 hb3; have ho := own_cat ho3; rw [hL] at ho; obtain ⟨aa8, cc8, rfl⟩ := ownsRow_bytes_form ho; have y6 : w8.cell? ⟨w.heap.size, 6, none⟩ = some (.slice fo e.fields.length fc) := (RQ0.out.below (HB7.out.trans (hB1.trans hb3))).cell 6)
      have hb : Below w0.heap.size w7 w8 := hB1.trans hb3
      clear CN hx ho1 hs1 hB1 hr hxl ho3 hg3 hb3 hb1 y6
      have hbb := HB7.out.trans hb
      have RQ8 := hid (RQ0.out.below hbb)
      have HB8 := hid hbb
      have OW8 := hid ho
      clear hb hbb ho hL RQ7 OW7 HB7
      clear z5
      have z6 : w8.cell? ⟨w.heap.size, 6, none⟩ = some (.slice fo e.fields.length fc) := RQ8.out.cell 6
      have cN : Calls Tryd.prog 35 #[.int .i64 (e.fields.length : Int), .int .i64 2] w8 fun ex w' => ReadBy (numB e.fields.length 2) ex w' ∧ Below w8.heap.size w8 w' := by
        have h := r14Num_any e.fields.length 2 w8 (by omega) (by omega)
        rw [show ((e.fields.length : Nat) : Int) = (e.fields.length : Int) by omega] at h
        exact h
      have hx := numB_len 2 e.fields.length
      obtain ⟨L9, hL⟩ : ∃ L, L8 ++ numB e.fields.length 2 = L := ⟨_, rfl⟩
      have l9 : L9.length ≤ 2360 := by rw [← hL, List.length_append]; rw [hx]; omega
      have HL9 := hid hL
      generalize numB e.fields.length 2 = x at cN hx hL
      have CN := hid cN
      clear cN
      try go_wp2_with fail
      refine CN.out.mono ?_
      rintro e8 u8 ⟨⟨y8, rfl, hr⟩, hb1⟩
      have ho1 := OW8.out.below hb1
      have hs1 : w0.heap.size ≤ u8.heap.size := Nat.le_trans (by have := HB8.out.size; omega) hb1.size
      have hB1 : Below w0.heap.size w8 u8 := hb1.mono (by have := HB8.out.size; omega)
      obtain ⟨a, c, rfl, -⟩ := id hr
      have hxl : (x.map byteV).length = 2 := by rw [List.length_map, hx]
      rw [hxl] at hr ⊢
      go_wp2_with (at_builtin; go_must (refine wpList_append_all _ rfl _ _ 25 rfl w0.heap.size 5 Tryd.underlying25 infoU8 rfl (by decide) rfl ho1 hr (oneCell_bytes _) rfl (by rw [hxl]; omega) hs1 ?_); intro v9 w9 ho3 hg3 hb3; have ho := own_cat ho3; rw [hL] at ho; obtain ⟨aa9, cc9, rfl⟩ := ownsRow_bytes_form ho; have y6 : w9.cell? ⟨w.heap.size, 6, none⟩ = some (.slice fo e.fields.length fc) := (RQ0.out.below (HB8.out.trans (hB1.trans hb3))).cell 6)
      have hb : Below w0.heap.size w8 w9 := hB1.trans hb3
      clear CN hx ho1 hs1 hB1 hr hxl ho3 hg3 hb3 hb1 y6
      have hbb := HB8.out.trans hb
      have RQ9 := hid (RQ0.out.below hbb)
      have HB9 := hid hbb
      have OW9 := hid ho
      clear hb hbb ho hL RQ8 OW8 HB8
      clear z6
      have z6 : w9.cell? ⟨w.heap.size, 6, none⟩ = some (.slice fo e.fields.length fc) := RQ9.out.cell 6
      try go_wp2_with fail
      clear z6
      go_loopw [5, 7] (fun sv i wr => ∃ (j : Nat) (aa : Option Addr) (cc : Nat), j ≤ e.fields.length ∧ i = .int .i64 (j : Int) ∧ sv = .slice aa (L9 ++ fldsB (e.fields.take j)).length cc ∧ OwnB 5 wr w0.heap.size sv (L9 ++ fldsB (e.fields.take j)) ∧ Below w0.heap.size w9 wr) (fun _ i _ => e.fields.length - (intOf i).toNat)
      case atStart => exact ⟨0, aa9, cc9, Nat.zero_le _, rfl, by simp [fldsB], by simpa [fldsB] using OW9.out, Below.refl _ _⟩
      case round =>
        obtain ⟨j, ja, jc, hj, rfl, rfl, hoj, hbj⟩ := hrel
        have hfl : (fldsB (e.fields.take j)).length ≤ 1100 * j := fldsB_len (fun f hf => hE.fld f (List.mem_of_mem_take hf)) (by rw [List.length_take]; omega)
        have hf64 := hE.flds
        obtain ⟨M, hM⟩ : ∃ M, L9 ++ fldsB (e.fields.take j) = M := ⟨_, rfl⟩
        have hMl : M.length ≤ 1138 + 1222 + 1100 * j := by rw [← hM, List.length_append]; omega
        rw [hM] at hoj ⊢
        have HM := hid hM
        have OJ := hid hoj
        have HBJ := hid hbj
        have hbw := HB9.out.trans hbj
        have RJ := hid (RQ0.out.below hbw)
        have HBW := hid hbw
        clear hoj hM
        have z6 : wr.cell? ⟨w.heap.size, 6, none⟩ = some (.slice fo e.fields.length fc) := RJ.out.cell 6
        by_cases hlt : j < e.fields.length
        · obtain ⟨f, hf⟩ : ∃ f, e.fields[j]? = some f := ⟨_, List.getElem?_eq_getElem hlt⟩
          obtain ⟨bb, off, hao, d1, d2⟩ := (HF.out.below hbw).fld hf
          cases hao
          obtain ⟨f1, f2⟩ := hE.fld f (List.mem_of_getElem? hf)
          have HT := hid (take_fld hf)
          clear hf hbj hbw
          have hjI : (j : Int) < (e.fields.length : Int) := by omega
          have hj0 : (0 : Int) ≤ (j : Int) := by omega
          have hjw : IntKind.i64.wrap ((j : Int) + 1) = (j : Int) + 1 := IntWalk.i64_in _ (by omega)
          have cT := r14Text_any _ w0.heap.size M f.1 wr OJ.out (by have := HBW.out.size; omega) (by omega) (by omega)
          obtain ⟨M1, hM1⟩ : ∃ x, M ++ textB f.1 = x := ⟨_, rfl⟩
          have hM1l : M1.length ≤ M.length + 70 := by rw [← hM1, List.length_append, textB_len]; omega
          rw [hM1] at cT
          have HM1 := hid hM1
          have CT := hid cT
          clear d2 cT hM1
          go_wp2_with fail
          refine CT.out.mono ?_
          rintro ex x1 ⟨⟨y1, rfl, ho1⟩, hb1⟩
          obtain ⟨a1, c1, rfl⟩ := ownsRow_bytes_form ho1
          have hbw1 := HBW.out.trans hb1
          have z6 : x1.cell? ⟨w.heap.size, 6, none⟩ = some (.slice (some ⟨bb, off, none⟩) e.fields.length fc) := (RQ0.out.below hbw1).cell 6
          have cT2 := r14Text_any _ w0.heap.size M1 f.2 x1 ho1 (by have := hbw1.size; omega) (by omega) (by omega)
          obtain ⟨M2, hM2⟩ : ∃ x, M1 ++ textB f.2 = x := ⟨_, rfl⟩
          rw [hM2] at cT2
          have CT2 := hid cT2
          have HM2 := hid (show M2 = L9 ++ fldsB (e.fields.take (j + 1)) by rw [← hM2, HT.out, fldsB_snoc, ← HM1.out, ← HM.out, List.append_assoc, List.append_assoc]; rfl)
          have HF1 := ((HF.out.below hbw1).fld (j := j) (p := f) (by have := HT.out; exact fld_of_take hlt this))
          obtain ⟨bb', off', hao', -, d2⟩ := HF1
          cases hao'
          have HB1x := hid (HBJ.out.trans hb1)
          clear CT ho1 hb1 hbw1 d1 cT2 hM2
          go_wp2_with fail
          refine CT2.out.mono ?_
          rintro ex x2 ⟨⟨y2, rfl, ho2⟩, hb2⟩
          obtain ⟨a2, c2, rfl⟩ := ownsRow_bytes_form ho2
          have HB2x := hid (HB1x.out.trans hb2)
          have O2 := hid ho2
          clear CT2 hb2 ho2 z6 d2
          go_wp2_with fail
          go_roundw
          case rel => exact ⟨j + 1, a2, c2, hlt, by go_num, by rw [← HM2.out], by rw [← HM2.out]; exact O2.out, HB2x.out⟩
          case measure => simp [intOf]; omega
        · have hjn : e.fields.take j = e.fields := List.take_of_length_le (by omega)
          have hjd : decide ((j : Int) < (e.fields.length : Int)) = false := decide_eq_false (by omega)
          rw [hjn] at HM
          have z7 : wr.cell? ⟨w.heap.size, 7, none⟩ = some (.slice bo e.body.length bc) := RJ.out.cell 7
          have hcv := reads_string (P := Tryd.prog) (HBD.out.below hbw) 25 9 5 Tryd.underlying25 Tryd.underlying5 Tryd.underlying9
          have CT := hid (r14Text_any _ w0.heap.size M e.body wr OJ.out (by have := HBW.out.size; omega) (by omega) (by have := hE.body; omega))
          clear hbj hbw hjn
          go_wp2_with fail
          refine CT.out.mono ?_
          rintro ex x1 ⟨⟨y1, rfl, ho1⟩, hb1⟩
          have HB1x := hid (HBW.out.trans hb1)
          have O1 := hid ho1
          clear CT ho1 hb1
          go_wp2_with fail
          go_ret
          refine ⟨⟨_, rfl, ?_⟩, chain2 HW.out HW.out.size HB1x.out⟩
          have hfin : M ++ textB e.body = restB 3 e := by
            rw [← HM.out]
            rw [← HL9.out, ← HL8.out, ← HL7.out, ← HL6.out, ← HL5.out, ← HL4.out, ← HL3.out, ← HL2.out, ← HL1.out, ← HL0.out]
            unfold restB headB tailB
            simp [List.append_assoc]
          rw [← hfin]
          exact O1.out.base HW.out.size
end Go.Proofs.YtdkhkeffheleeaaDoor
/-
  The document's answers of layer 14: Bytes.
-/
set_option linter.unusedVariables false
set_option linter.unusedSimpArgs false
namespace Go.Proofs.YtdkhkeffheleeaaDoor
open Go.RowKit Go.Pantry

theorem infoEntD : (Tryd.prog.info? 32).map (·.size) = some 9 := by kernel_rfl
theorem r14Rest_any (v : Nat) (hv : 1 ≤ v ∧ v ≤ 3) (e : EntP) (nv fv bv : Value) (w : World) (hE : RightE e) (hf : v = 3 ∨ (e.second = [] ∧ e.names = [])) (hat : EntAt w nv fv bv e) :
    Calls Tryd.prog 34 #[.int .i64 (v : Int), .agg (rowE nv fv bv e)] w fun x w' => MadeBy 5 w.heap.size (restB v e) x w' ∧ Below w.heap.size w w' := by
  have : v = 1 ∨ v = 2 ∨ v = 3 := by omega
  rcases this with rfl | rfl | rfl
  · exact r14Rest1_any e nv fv bv w hE hf hat
  · exact r14Rest2_any e nv fv bv w hE hf hat
  · exact r14Rest3_any e nv fv bv w hE hf hat
theorem restB_len {v : Nat} {e : EntP} (hE : RightE e) : (restB v e).length ≤ 100000 := by
  have h1 := hE.key
  have h2 := hE.second
  have h3 := hE.names
  have h4 := hE.body
  have h5 := hE.flds
  have h6 := textsB_len hE.each h3
  have h7 := fldsB_len hE.fld h5
  unfold restB headB tailB
  simp only [List.length_append, numB_len, textB_len]
  have h8 : (if v = 3 then textB e.second ++ (numB e.names.length 2 ++ textsB e.names) else []).length ≤ 2000 := by
    split
    · simp only [List.length_append, numB_len, textB_len]; omega
    · simp
  have h9 : (if 2 ≤ v then numB e.gen.toNat 6 else []).length ≤ 6 := by
    split
    · rw [numB_len]; exact Nat.le_refl 6
    · simp
  omega
set_option maxRecDepth 8000 in
set_option maxHeartbeats 8000000 in
theorem r14Bytes_any (v : Nat) (hv : 1 ≤ v ∧ v ≤ 3) (e : EntP) (nv fv bv : Value) (w : World) (hE : RightE e) (hf : v = 3 ∨ (e.second = [] ∧ e.names = [])) (hat : EntAt w nv fv bv e) :
    Calls Tryd.prog 18 #[.int .i64 (v : Int), .agg (rowE nv fv bv e)] w fun x w' => MadeBy 5 w.heap.size (recB v e) x w' ∧ Below w.heap.size w w' := by
  obtain ⟨W, hW⟩ : ∃ W, w.alloc (.cells (rowE nv fv bv e) 32) = W := ⟨_, rfl⟩
  have hbW : Below w.heap.size w W := by rw [← hW]; exact below_alloc _ _
  have q1 : rowIs W w.heap.size (rowE nv fv bv e) 32 := by rw [← hW]; exact rowIs_new _ _ _
  have C1 := hid (r14Rest_any v hv e nv fv bv W hE hf (hat.below hbW))
  have HW := hid hbW
  have hrl := restB_len (v := v) hE
  have hrec : recB v e = [69, UInt8.ofNat v] ++ numB (restB v e).length 2 ++ numB (sumL (restB v e)) 4 ++ restB v e := by unfold recB; simp
  rw [hrec]
  generalize restB v e = r at C1 hrl ⊢
  have hvc : IntKind.u8.wrap (v : Int) = (v : Int) := by simp [IntKind.wrap, IntKind.signed, IntKind.bits] <;> omega
  have hvb : ((UInt8.ofNat v).toNat : Int) = (v : Int) := by rw [ver_byte hv.2]
  have hev : byteV (UInt8.ofNat v) = .int .u8 (v : Int) := by show Value.int .u8 _ = _; rw [hvb]
  have hs4 := sumL_lt r
  obtain ⟨S, hS⟩ : ∃ S, sumL r = S := ⟨_, rfl⟩
  rw [hS] at hs4 ⊢
  have HS := hid hS
  have HEV := hid hev
  clear hbW hat hrec hS hvb hev
  go_enter Tryd.func18, Tryd.ntmps18
  go_wp2_with (refine wpList_load_row rfl 32 _ rfl w.heap.size rfl 32 _ (0, 0) _ q1 Tryd.underlying32 rfl infoEntD ?_)
  refine C1.out.mono ?_
  rintro x1 w1 ⟨⟨v1, rfl, ho1⟩, hb1⟩
  clear hW q1
  obtain ⟨a1, c1, rfl⟩ := ownsRow_bytes_form ho1
  have HR1 := hid ho1.reads
  have HB1 := hid (chain2 HW.out HW.out.size hb1)
  have hbA := below_alloc w1 (.cells #[.int .u8 69, .int .u8 (v : Int)] 5)
  have hoA := World.ownsRow_lit (base := w1.heap.size) (e := 5) (size := 1) w1 #[.int .u8 69, .int .u8 (v : Int)] 2 (Nat.le_refl _) (by unfold maxLen; omega) rfl
  have hA : OwnB 5 (w1.alloc (.cells #[.int .u8 69, .int .u8 (v : Int)] 5)) w1.heap.size (.slice (some ⟨w1.heap.size, 0, none⟩) 2 2) [69, UInt8.ofNat v] := by
    show World.ownsRow _ _ _ _ _ _ _
    rw [List.map_cons, List.map_cons, HEV.out]
    exact hoA
  have HA := hid hA
  have HXA := hid hbA
  have cN : Calls Tryd.prog 35 #[.int .i64 (r.length : Int), .int .i64 2] (w1.alloc (.cells #[.int .u8 69, .int .u8 (v : Int)] 5)) fun ex w' => ReadBy (numB r.length 2) ex w' ∧ Below (w1.alloc (.cells #[.int .u8 69, .int .u8 (v : Int)] 5)).heap.size (w1.alloc (.cells #[.int .u8 69, .int .u8 (v : Int)] 5)) w' := r14Num_any r.length 2 _ (by omega) (by omega)
  have h2 := numB_len 2 r.length
  obtain ⟨N2, hN2⟩ : ∃ x, numB r.length 2 = x := ⟨_, rfl⟩
  have h4 := numB_len 4 S
  obtain ⟨N4, hN4⟩ : ∃ x, numB S 4 = x := ⟨_, rfl⟩
  rw [hN2] at cN h2
  rw [hN4] at h4
  have HN := hid (And.intro hN2 hN4)
  have CN := hid cN
  clear hbA hoA hA cN ho1 hb1 hN2 hN4
  go_wp2_with fail
  refine CN.out.mono ?_
  rintro x2 w2 ⟨⟨v2, rfl, hr2⟩, hb2⟩
  have hX2 := HXA.out.trans (hb2.mono HXA.out.size)
  have ho2 := HA.out.below hb2
  have hs2 : w1.heap.size ≤ w2.heap.size := hX2.size
  obtain ⟨a2, c2, rfl, -⟩ := id hr2
  have hxl : (N2.map byteV).length = 2 := by rw [List.length_map, h2]
  rw [hxl] at hr2 ⊢
  obtain ⟨L2, hL2⟩ : ∃ x, [69, UInt8.ofNat v] ++ N2 = x := ⟨_, rfl⟩
  have HL2 := hid (show L2.length = 4 by rw [← hL2, List.length_append, h2]; rfl)
  go_wp2_with (at_builtin; go_must (refine wpList_append_all _ rfl _ _ 25 rfl w1.heap.size 5 Tryd.underlying25 infoU8 rfl (by decide) rfl ho2 hr2 (oneCell_bytes _) rfl (by rw [hxl]; simp) hs2 ?_); intro v3 w3 ho3 hg3 hb3; have ho := own_cat ho3; rw [hL2] at ho; obtain ⟨a3, c3, rfl⟩ := ownsRow_bytes_form ho)
  have hX3 := hX2.trans hb3
  have cS := r14Sum_any (.slice a1 r.length c1) r w3 (HR1.out.below hX3) (by omega)
  rw [HS.out] at cS
  have CS := hid cS
  have HX3 := hid hX3
  have HO3 := hid ho
  clear hX2 hX3 cS ho ho2 hs2 hr2 hxl ho3 hg3 hb3 hb2 CN HA HXA
  try go_wp2_with fail
  refine CS.out.mono ?_
  rintro x4 w4 ⟨rfl, hb4⟩
  have hX4 := HX3.out.trans (hb4.mono HX3.out.size)
  have HX4 := hid hX4
  have HO4 := hid (HO3.out.below hb4)
  have cM : Calls Tryd.prog 35 #[.int .i64 (S : Int), .int .i64 4] w4 fun ex w' => ReadBy (numB S 4) ex w' ∧ Below w4.heap.size w4 w' := r14Num_any S 4 _ (by omega) (by omega)
  rw [HN.out.2] at cM
  have CM := hid cM
  clear hb4 hX4 HX3 HO3 cM CS
  go_wp2_with fail
  refine CM.out.mono ?_
  rintro x5 w5 ⟨⟨v5, rfl, hr5⟩, hb5⟩
  have hX5 := HX4.out.trans (hb5.mono HX4.out.size)
  have ho5 := HO4.out.below hb5
  have hs5 : w1.heap.size ≤ w5.heap.size := hX5.size
  obtain ⟨a5, c5, rfl, -⟩ := id hr5
  have hxl : (N4.map byteV).length = 4 := by rw [List.length_map, h4]
  rw [hxl] at hr5 ⊢
  obtain ⟨L5, hL5⟩ : ∃ x, L2 ++ N4 = x := ⟨_, rfl⟩
  have HL5 := hid (show L5.length = 8 by rw [← hL5, List.length_append, h4, HL2.out])
  have hL2b : L2.length < 100 := by rw [HL2.out]; decide
  have hL5b : L5.length < 100 := by rw [HL5.out]; decide
  have HR := HR1
  go_wp2_with (first
    | (at_builtin; refine wpList_append_all _ rfl _ _ 25 rfl w1.heap.size 5 Tryd.underlying25 infoU8 rfl (by decide) rfl ho5 hr5 (oneCell_bytes _) rfl (by rw [hxl]; omega) hs5 ?_; intro v6 w6 ho6 hg6 hb6; have ho := own_cat ho6; rw [hL5] at ho; obtain ⟨a6, c6, rfl⟩ := ownsRow_bytes_form ho; have hX6 := hX5.trans hb6; have hrr := HR.out.below hX6; have hs6 := hX6.size)
    | (at_builtin; refine wpList_append_all _ rfl _ _ 25 rfl w1.heap.size 5 Tryd.underlying25 infoU8 rfl (by decide) rfl ho hrr (oneCell_bytes _) rfl (by rw [List.length_map]; omega) hs6 ?_; intro v7 w7 ho7 hg7 hb7))
  go_ret
  have hfin := own_cat ho7
  refine ⟨⟨v7, rfl, ?_⟩, chain2 HB1.out HB1.out.size (hX6.trans hb7)⟩
  rw [HN.out.1, HN.out.2]
  have hR : 69 :: UInt8.ofNat v :: (N2 ++ N4 ++ r) = L5 ++ r := by rw [← hL5, ← hL2]; simp
  first
    | (rw [hR]; exact World.ownsRow.base hfin HB1.out.size)
    | (show World.ownsRow _ _ _ _ _ _ _; rw [show ([69, UInt8.ofNat v] ++ N2 ++ N4 ++ r) = L5 ++ r by rw [← hL5, ← hL2]]; exact World.ownsRow.base hfin HB1.out.size)
end Go.Proofs.YtdkhkeffheleeaaDoor
/-
  The document's reader of entries: num, text.
-/
set_option linter.unusedVariables false
set_option linter.unusedSimpArgs false
namespace Go.Pantry
open Go.RowKit
theorem slice_both {P : Program} (t : TypeId) (ht : P.underlying t = some (.slice (P.elem t))) (h1 : ∀ W, (sizeOf (P.elem t)).run P W = .ok 1 W) {w : World} {v : Value} {l : List UInt8} (h : Bytes w v l) (a k : Nat) (hk : a + k ≤ l.length) :
    ∃ ao' cap', (∀ W, (Instr.slice t v (some (.int .i64 (a : Int))) (some (.int .i64 ((a + k : Nat) : Int))) none).run P W = .ok (.slice ao' k cap') W) ∧ Bytes w (.slice ao' k cap') ((l.drop a).take k) := by
  obtain ⟨ao1, cap1, hs1, hb1⟩ := bytes_low (P := P) t ht h1 h a (by omega)
  obtain ⟨ao, cap, rfl, hc, hr⟩ := h
  have hrun := hs1 (default : World)
  rw [run_slice_l _ t ao l.length cap ht .i64 (a : Int) (by omega) (by omega), h1] at hrun
  simp only [Result.andThen, sliced, Int.toNat_natCast] at hrun
  refine ⟨(if cap = a then ao else ao.map (·.add (a * 1))), cap - a, fun W => ?_, ?_⟩
  · rw [run_slice_lh W t ao l.length cap ht .i64 .i64 (a : Int) ((a + k : Nat) : Int) (by omega) (by omega) (by omega), h1]
    simp only [Result.andThen, sliced, Int.toNat_natCast]
    rw [show a + k - a = k by omega]
  · have hv : Value.slice ao1 (l.length - a) cap1 = .slice (if cap = a then ao else ao.map (·.add (a * 1))) (l.length - a) (cap - a) := by
      injection hrun with h _
      exact h.symm
    rw [hv] at hb1
    have hl : ((l.drop a).take k).length = k := by rw [List.length_take, List.length_drop]; omega
    refine ⟨_, _, by rw [hl], by rw [hl]; omega, ?_⟩
    have hh := (bytesRead hb1).take k (by rw [List.length_map, List.length_drop]; omega)
    rw [List.map_take]
    exact hh
end Go.Pantry
namespace Go.Proofs.YtdkhkeffheleeaaDoor
open Go.RowKit Go.Pantry

/-- the document's reader in its box g, over the bytes B in v: what is left is st -/
structure RAt (w : World) (g : Nat) (B : List UInt8) (v : Value) (st : Option (List UInt8)) : Prop where
  ex : ∃ (a : Nat) (bad : Bool), rowIs w g #[v, .int .i64 (a : Int), .bool bad] 68 ∧ a ≤ B.length ∧ bad = st.isNone ∧ (∀ l, st = some l → l = B.drop a)
  bytes : Bytes w v B
  apart : In (fun k => k ≠ g) v
theorem RAt.lt {w : World} {g : Nat} {B : List UInt8} {v : Value} {st : Option (List UInt8)} (h : RAt w g B v st) : g < w.heap.size := by
  obtain ⟨a, bad, h1, -⟩ := h.ex
  exact h1.lt
theorem bytes_kept {X : Nat → Prop} {w w' : World} {v : Value} {l : List UInt8} (h : Bytes w v l) (hk : Kept X w w') (hx : In (fun k => ¬ X k) v) : Bytes w' v l := by
  obtain ⟨ao, cap, rfl, hc, hr⟩ := h
  exact ⟨ao, cap, rfl, hc, reads_kept hr hk hx⟩
theorem RAt.kept {X : Nat → Prop} {w w' : World} {g : Nat} {B : List UInt8} {v : Value} {st : Option (List UInt8)} (h : RAt w g B v st) (hk : Kept X w w') (hg : ¬ X g) (hx : In (fun k => ¬ X k) v) : RAt w' g B v st := by
  obtain ⟨a, bad, h1, h2⟩ := h.ex
  exact ⟨⟨a, bad, h1.kept hk hg, h2⟩, bytes_kept h.bytes hk hx, h.apart⟩
theorem RAt.below {w w' : World} {g : Nat} {B : List UInt8} {v : Value} {st : Option (List UInt8)} (h : RAt w g B v st) (hb : Below w.heap.size w w') : RAt w' g B v st :=
  h.kept (Kept.of_below (X := fun _ => False) hb) (fun h => h) (fun _ _ h => h)
/-- a store into the box -/
theorem RAt.set {w : World} {g : Nat} {B : List UInt8} {v : Value} {st st' : Option (List UInt8)} (h : RAt w g B v st) {a : Nat} {bad : Bool} (hr : rowIs w g #[v, .int .i64 (a : Int), .bool bad] 68) (j : Nat) (u : Value) (a' : Nat) (bad' : Bool)
    (hrow : (#[v, .int .i64 (a : Int), .bool bad] : Array Value).setIfInBounds j u = #[v, .int .i64 (a' : Int), .bool bad']) (ha : a' ≤ B.length) (hb : bad' = st'.isNone) (hl : ∀ l, st' = some l → l = B.drop a') : RAt (w.setCell ⟨g, j, none⟩ u) g B v st' ∧ Kept (fun k => k = g) w (w.setCell ⟨g, j, none⟩ u) := by
  have kk := (Kept.refl (fun k => k = g) w).setCell (i := j) (.inl rfl) u
  have h1 := hr.setCell j u
  rw [hrow] at h1
  exact ⟨⟨⟨a', bad', h1, ha, hb, hl⟩, bytes_kept h.bytes kk h.apart, h.apart⟩, kk⟩
/-- what a method of the reader leaves -/
def RPost (w : World) (g : Nat) (B : List UInt8) (v : Value) (x : Value) (st : Option (List UInt8)) (e : Ending) (w' : World) : Prop := e = .returned x ∧ RAt w' g B v st ∧ Kept (fun k => k = g) w w'
theorem numO_lack {k : Nat} {l : List UInt8} (h : l.length < k) : numO k (some l) = (0, none) := by
  unfold numO
  simp only [Option.bind_some]
  unfold numD
  rw [if_pos h]
theorem numO_there {k : Nat} {l : List UInt8} (h : ¬ l.length < k) : numO k (some l) = (numN (l.take k), some (l.drop k)) := by
  unfold numO
  simp only [Option.bind_some]
  unfold numD
  rw [if_neg h]
theorem numN_lt (l : List UInt8) : numN l < 256 ^ l.length := (numB_numN l.length l rfl).2
theorem numN_take_lt (l : List UInt8) {j : Nat} (hj : j ≤ 5) : numN (l.take j) < 1099511627776 := by
  have h := numN_lt (l.take j)
  have h2 : (l.take j).length ≤ 5 := by rw [List.length_take]; omega
  have h3 : 256 ^ (l.take j).length ≤ 256 ^ 5 := Nat.pow_le_pow_right (by decide) h2
  have h4 : (256 : Nat) ^ 5 = 1099511627776 := by decide
  omega
set_option maxRecDepth 8000 in
set_option maxHeartbeats 4000000 in
theorem r14RNum_any (g : Nat) (B : List UInt8) (v : Value) (st : Option (List UInt8)) (k : Nat) (w : World) (h : RAt w g B v st) (hB : B.length ≤ 1000000) (hk : k ≤ 6) :
    Calls Tryd.prog 41 #[.pointer (some ⟨g, 0, none⟩), .int .i64 (k : Int)] w (RPost w g B v (.int .i64 ((numO k st).1 : Int)) (numO k st).2) := by
  obtain ⟨a, bad, hr, ha, hbad, hl⟩ := h.ex
  obtain ⟨ao, cap, hv, hc, hbr⟩ := h.bytes
  subst hv
  obtain ⟨n, hn⟩ : ∃ n, B.length = n := ⟨_, rfl⟩
  rw [hn] at hr ha hc hB hbr h ⊢
  have c0 : w.cell? ⟨g, 0, none⟩ = some (.slice ao n cap) := hr.cell 0
  have c1 : w.cell? ⟨g, 1, none⟩ = some (.int .i64 (a : Int)) := hr.cell 1
  have c2 : w.cell? ⟨g, 2, none⟩ = some (.bool bad) := hr.cell 2
  have HH := hid (fun (W : World) (hb : Below w.heap.size w W) => h.below hb)
  have HR := hid (fun (W : World) (hb : Below w.heap.size w W) => hr.below hb)
  have HRD := hid (fun (W : World) (hb : Below w.heap.size w W) => hbr.below hb)
  have HN := hid hn
  have hw1 : IntKind.i64.wrap ((n : Int) - (a : Int)) = (n : Int) - (a : Int) := IntWalk.i64_in _ (by omega)
  cases st with
  | none =>
    have hb1 : bad = true := hbad
    subst hb1
    rw [numO_none]
    clear h hr hn hbad hl hbr
    go_enter Tryd.func41, Tryd.ntmps41
    go_wp2_with fail
    go_quiet (fail)
    have hb := below_drewN (Below.refl w.heap.size w) nq
    generalize w.drewN nq = W at hb ⊢
    have hR := HR.out W hb
    have f2 := hR.free 2
    have y2 : W.cell? ⟨g, 2, none⟩ = some (.bool true) := hR.cell 2
    have hs := hid ((HH.out W hb).set (st' := none) hR 2 (.bool true) a true rfl (by rw [HN.out]; exact ha) rfl (fun l hl => by cases hl))
    have HBW := hid hb
    clear hR hb
    go_wp2_with fail
    go_ret
    exact ⟨rfl, hs.out.1, (Kept.of_below (X := fun k => k = g) HBW.out).trans hs.out.2 (fun _ h _ => h)⟩
  | some l =>
    have hb1 : bad = false := hbad
    subst hb1
    have hla : l = B.drop a := hl l rfl
    have hll : l.length = n - a := by rw [hla, List.length_drop, hn]
    by_cases hlk : l.length < k
    · rw [numO_lack hlk]
      have d1 : decide ((n : Int) - (a : Int) < (k : Int)) = true := decide_eq_true (by omega)
      clear h hr hn hbad hl hbr hla hll hlk
      go_enter Tryd.func41, Tryd.ntmps41
      go_wp2_with fail
      go_quiet (fail)
      have hb := below_drewN (Below.refl w.heap.size w) nq
      generalize w.drewN nq = W at hb ⊢
      have hR := HR.out W hb
      have f2 := hR.free 2
      have y2 : W.cell? ⟨g, 2, none⟩ = some (.bool false) := hR.cell 2
      have hs := hid ((HH.out W hb).set (st' := none) hR 2 (.bool true) a true rfl (by rw [HN.out]; exact ha) rfl (fun l hl => by cases hl))
      have HBW := hid hb
      clear hR hb
      go_wp2_with fail
      go_ret
      exact ⟨rfl, hs.out.1, (Kept.of_below (X := fun k => k = g) HBW.out).trans hs.out.2 (fun _ h _ => h)⟩
    · rw [numO_there hlk]
      have d1 : decide ((n : Int) - (a : Int) < (k : Int)) = false := decide_eq_false (by omega)
      have hak : a + k ≤ n := by omega
      have HLA := hid hla
      have HLL := hid hll
      clear h hr hn hbad hl hbr hla hll hlk
      go_enter Tryd.func41, Tryd.ntmps41
      go_wp2_with fail
      go_quiet (fail)
      have hb := below_drewN (Below.refl w.heap.size w) nq
      generalize w.drewN nq = W at hb ⊢
      have HBW := hid hb
      clear hb c0 c1 c2
      go_wp2_with fail
      go_loopw [5, 6] (fun nv i wr => ∃ j : Nat, i = .int .i64 (j : Int) ∧ j ≤ k ∧ nv = .int .i64 ((numN (l.take j) : Nat) : Int) ∧ Below w.heap.size w wr) (fun _ i _ => k - (intOf i).toNat)
      case atStart => exact ⟨0, rfl, Nat.zero_le _, rfl, HBW.out⟩
      case round =>
        obtain ⟨j, rfl, hj, rfl, hbr⟩ := hrel
        have HBR := hid hbr
        have hR := HR.out wr hbr
        by_cases hlt : j < k
        · have c0 : wr.cell? ⟨g, 0, none⟩ = some (.slice ao n cap) := hR.cell 0
          have c1 : wr.cell? ⟨g, 1, none⟩ = some (.int .i64 (a : Int)) := hR.cell 1
          obtain ⟨c, hcj⟩ : ∃ c, B[a + j]? = some c := ⟨_, List.getElem?_eq_getElem (by rw [HN.out]; omega)⟩
          obtain ⟨ao2, cap2, hv2, hcell, -⟩ := HRD.out wr hbr
          obtain ⟨b, off, hao, x1⟩ := hcell (a + j) (byteV c) (by rw [List.getElem?_map, hcj]; rfl)
          have hao2 : ao2 = ao := by injection hv2 with e1 _ _; exact e1.symm
          rw [hao2] at hao
          subst hao
          clear hv2 hao2
          have hlj : l[j]? = some c := by rw [HLA.out, List.getElem?_drop]; exact hcj
          have htk : l.take (j + 1) = l.take j ++ [c] := by rw [List.take_add_one, hlj]; rfl
          have hsn := numN_snoc (l.take j) c
          rw [← htk] at hsn
          have hb5 := numN_take_lt l (j := j) (by omega)
          have hcl := c.toNat_lt
          obtain ⟨m, hm⟩ : ∃ m, numN (l.take j) = m := ⟨_, rfl⟩
          rw [hm] at hsn hb5 ⊢
          have HS := hid hsn
          have hjk : decide ((j : Int) < (k : Int)) = true := decide_eq_true (by omega)
          have k1 : IntKind.i64.wrap (256 * (m : Int)) = 256 * (m : Int) := IntWalk.i64_in _ (by omega)
          have k2 : IntKind.i64.wrap (256 * (m : Int) + (c.toNat : Int)) = 256 * (m : Int) + (c.toNat : Int) := IntWalk.i64_in _ (by omega)
          have k3 : IntKind.i64.wrap ((j : Int) + 1) = (j : Int) + 1 := IntWalk.i64_in _ (by omega)
          have k4 : IntKind.i64.wrap ((a : Int) + (j : Int)) = ((a + j : Nat) : Int) := by rw [IntWalk.i64_in _ (by omega)]; omega
          have k5 : (0 : Int) ≤ ((a + j : Nat) : Int) := by omega
          have k6 : ((a + j : Nat) : Int) < (n : Int) := by omega
          clear hR hbr hcell hlj htk hsn hcj hm
          go_wp2_with fail
          go_quiet (fail)
          have hb := below_drewN (Below.refl wr.heap.size wr) nq
          generalize wr.drewN nq = V at hb ⊢
          have HBV := hid (chain2 HBR.out HBR.out.size hb)
          clear hb c0 c1 x1
          go_wp2_with fail
          go_roundw
          case rel => exact ⟨j + 1, by go_num, by omega, by rw [HS.out]; simp, HBV.out⟩
          case measure => simp [intOf]; omega
        · have hjk2 : j = k := by omega
          subst hjk2
          have hjk : decide ((j : Int) < (j : Int)) = false := decide_eq_false (by omega)
          have c1 : wr.cell? ⟨g, 1, none⟩ = some (.int .i64 (a : Int)) := hR.cell 1
          have f1 := hR.free 1
          have k4 : IntKind.i64.wrap ((a : Int) + (j : Int)) = ((a + j : Nat) : Int) := by rw [IntWalk.i64_in _ (by omega)]; omega
          have hs := hid ((HH.out wr hbr).set (st' := some (l.drop j)) hR 1 (.int .i64 ((a + j : Nat) : Int)) (a + j) false rfl (by rw [HN.out]; exact hak) rfl (fun x hx => by cases hx; rw [HLA.out, List.drop_drop]))
          clear hR hbr
          go_wp2_with fail
          go_ret
          exact ⟨rfl, hs.out.1, (Kept.of_below (X := fun k => k = g) HBR.out).trans hs.out.2 (fun _ h _ => h)⟩
theorem textO_num (st : Option (List UInt8)) : textO st = match (numO 2 st).2 with
    | none => ([], none)
    | some r => if r.length < (numO 2 st).1 then ([], none) else (r.take (numO 2 st).1, some (r.drop (numO 2 st).1)) := by
  cases st with
  | none => rfl
  | some l =>
    unfold textO numO
    simp only [Option.bind_some]
    unfold textD
    cases numD 2 l with
    | none => rfl
    | some p =>
      obtain ⟨n, r⟩ := p
      simp only
      by_cases h : r.length < n
      · rw [if_pos h, if_pos h]
      · rw [if_neg h, if_neg h]
set_option maxRecDepth 8000 in
set_option maxHeartbeats 4000000 in
theorem r14RText_any (g : Nat) (B : List UInt8) (v : Value) (st : Option (List UInt8)) (w : World) (h : RAt w g B v st) (hB : B.length ≤ 1000000) :
    Calls Tryd.prog 65 #[.pointer (some ⟨g, 0, none⟩)] w (RPost w g B v (strV (textO st).1) (textO st).2) := by
  obtain ⟨ao, cap, hv, hc⟩ := bytes_form h.bytes
  subst hv
  obtain ⟨n, hn⟩ : ∃ n, B.length = n := ⟨_, rfl⟩
  have HN := hid hn
  have c : Calls Tryd.prog 41 #[.pointer (some ⟨g, 0, none⟩), .int .i64 2] w (RPost w g B (.slice ao B.length cap) (.int .i64 ((numO 2 st).1 : Int)) (numO 2 st).2) := r14RNum_any g B _ st 2 w h hB (by decide)
  have ht := textO_num st
  have hm2 := numO_lt 2 st (by decide)
  obtain ⟨X, Y, hXY⟩ : ∃ X Y, textO st = (X, Y) := ⟨_, _, rfl⟩
  rw [hXY] at ht ⊢
  show Calls _ _ _ _ (RPost w g B (.slice ao B.length cap) (strV X) Y)
  rw [hn] at c hB hc ⊢
  clear h hn hXY
  generalize (numO 2 st).1 = m at c hm2 ht
  generalize (numO 2 st).2 = s1 at c ht
  have HT := hid ht
  clear ht
  have C := hid c
  clear c
  go_enter Tryd.func65, Tryd.ntmps65
  go_wp2_with fail
  refine C.out.mono ?_
  rintro e w1 ⟨rfl, h1, hk1⟩
  have HK1 := hid hk1
  clear hk1 C
  obtain ⟨a, bad, hr, ha, hbad, hl⟩ := h1.ex
  have hbb := h1.bytes
  rw [HN.out] at ha
  have c0 : w1.cell? ⟨g, 0, none⟩ = some (.slice ao n cap) := hr.cell 0
  have c1 : w1.cell? ⟨g, 1, none⟩ = some (.int .i64 (a : Int)) := hr.cell 1
  have c2 : w1.cell? ⟨g, 2, none⟩ = some (.bool bad) := hr.cell 2
  have HH := hid (fun (W : World) (hb : Below w1.heap.size w1 W) => h1.below hb)
  have HR := hid (fun (W : World) (hb : Below w1.heap.size w1 W) => hr.below hb)
  have hw1 : IntKind.i64.wrap ((n : Int) - (a : Int)) = (n : Int) - (a : Int) := IntWalk.i64_in _ (by omega)
  cases s1 with
  | none =>
    have hb1 : bad = true := hbad
    subst hb1
    clear h1 hr hbad hl hbb
    go_wp2_with fail
    go_quiet (fail)
    have hb := below_drewN (Below.refl w1.heap.size w1) nq
    generalize w1.drewN nq = W at hb ⊢
    have hR := HR.out W hb
    have f2 := hR.free 2
    have y2 : W.cell? ⟨g, 2, none⟩ = some (.bool true) := hR.cell 2
    have hs := hid ((HH.out W hb).set (st' := none) hR 2 (.bool true) a true rfl (by rw [HN.out]; exact ha) rfl (fun l hl => by cases hl))
    have HBW := hid hb
    clear hR hb
    go_wp2_with fail
    go_ret
    obtain ⟨rfl, rfl⟩ : X = [] ∧ Y = none := by have h := HT.out; simpa using h
    exact ⟨rfl, hs.out.1, (HK1.out.then HBW.out).trans hs.out.2 (fun _ h _ => h)⟩
  | some l =>
    have hb1 : bad = false := hbad
    subst hb1
    have hla : l = B.drop a := hl l rfl
    have hll : l.length = n - a := by rw [hla, List.length_drop, HN.out]
    by_cases hlk : l.length < m
    · replace HT := hid (show (X, Y) = (([] : List UInt8), (none : Option (List UInt8))) by have h := HT.out; simp only [if_pos hlk] at h; exact h)
      have d1 : decide ((n : Int) - (a : Int) < (m : Int)) = true := decide_eq_true (by omega)
      clear h1 hr hbad hl hbb hla hll hlk
      go_wp2_with fail
      go_quiet (fail)
      have hb := below_drewN (Below.refl w1.heap.size w1) nq
      generalize w1.drewN nq = W at hb ⊢
      have hR := HR.out W hb
      have f2 := hR.free 2
      have y2 : W.cell? ⟨g, 2, none⟩ = some (.bool false) := hR.cell 2
      have hs := hid ((HH.out W hb).set (st' := none) hR 2 (.bool true) a true rfl (by rw [HN.out]; exact ha) rfl (fun l hl => by cases hl))
      have HBW := hid hb
      clear hR hb
      go_wp2_with fail
      go_ret
      obtain ⟨rfl, rfl⟩ : X = [] ∧ Y = none := by have h := HT.out; simpa using h
      exact ⟨rfl, hs.out.1, (HK1.out.then HBW.out).trans hs.out.2 (fun _ h _ => h)⟩
    · replace HT := hid (show (X, Y) = (l.take m, some (l.drop m)) by have h := HT.out; simp only [if_neg hlk] at h; exact h)
      have d1 : decide ((n : Int) - (a : Int) < (m : Int)) = false := decide_eq_false (by omega)
      have ham : a + m ≤ n := by omega
      have HLA := hid hla
      have HLL := hid hll
      clear h1 hr hbad hl hbb hla hll hlk
      go_wp2_with fail
      go_quiet (fail)
      have hb := below_drewN (Below.refl w1.heap.size w1) nq
      generalize w1.drewN nq = W at hb ⊢
      have HBW := hid hb
      have hR := HR.out W hb
      have y1 : W.cell? ⟨g, 1, none⟩ = some (.int .i64 (a : Int)) := hR.cell 1
      have f1 := hR.free 1
      have k4 : IntKind.i64.wrap ((a : Int) + (m : Int)) = ((a + m : Nat) : Int) := by rw [IntWalk.i64_in _ (by omega)]; omega
      have hs := (HH.out W hb).set (st' := some (l.drop m)) hR 1 (.int .i64 ((a + m : Nat) : Int)) (a + m) false rfl (by rw [HN.out]; exact ham) rfl (fun x hx => by cases hx; rw [HLA.out, List.drop_drop])
      obtain ⟨V, hV⟩ : ∃ V, W.setCell ⟨g, 1, none⟩ (.int .i64 ((a + m : Nat) : Int)) = V := ⟨_, rfl⟩
      rw [hV] at hs
      have hrV : rowIs V g #[.slice ao n cap, .int .i64 ((a + m : Nat) : Int), .bool false] 68 := by rw [← hV]; exact hR.setCell 1 _
      have HS := hid hs
      have HV := hid hV
      clear hb hR c0 c1 c2 hs
      go_wp2_with fail
      rw [show ((a + m : Nat) : Int) = (a : Int) + (m : Int) by omega] at hV
      rw [hV]
      obtain ⟨so, sc, hsl, hsb⟩ := slice_both 25 Tryd.underlying25 (fun W => by rfl) HS.out.1.bytes a m (by rw [HN.out]; exact ham)
      rw [← HLA.out] at hsb
      simp only [Int.natCast_add] at hsl
      have hcv := fun q => reads_string (P := Tryd.prog) ((bytesRead hsb).below (below_drewN (Below.refl _ _) q)) 25 9 5 Tryd.underlying25 Tryd.underlying5 Tryd.underlying9
      have x0 : V.cell? ⟨g, 0, none⟩ = some (.slice ao n cap) := hrV.cell 0
      have x1 : V.cell? ⟨g, 1, none⟩ = some (.int .i64 ((a : Int) + (m : Int))) := hrV.cell 1
      have k5 : IntKind.i64.wrap ((a : Int) + (m : Int) - (m : Int)) = (a : Int) := by rw [IntWalk.i64_in _ (by omega)]; omega
      clear y1 f1 k4 hrV hV hsb
      generalize l.take m = L at hcv HT
      go_quiet (fail)
      have hbV := below_drewN (Below.refl V.heap.size V) nq
      generalize V.drewN nq = U at hbV ⊢
      clear hcv hsl x0 x1
      go_wp2_with fail
      go_ret
      obtain ⟨rfl, rfl⟩ : X = L ∧ Y = some (l.drop m) := by have h := HT.out; simpa using h
      exact ⟨rfl, HS.out.1.below hbV, ((HK1.out.then HBW.out).trans HS.out.2 (fun _ h _ => h)).then hbV⟩
end Go.Proofs.YtdkhkeffheleeaaDoor
/-
  The document's reader of entries: what stands while an entry is read.
-/
set_option linter.unusedVariables false
set_option linter.unusedSimpArgs false
namespace Go.Pantry
open Go.RowKit
theorem bytesAt.reads {w : World} {g : Nat} {l : List UInt8} (h : bytesAt w g l) (cap : Nat) : Reads w (.slice (some ⟨g, 0, none⟩) l.length cap) (l.map byteV) := by
  refine ⟨some ⟨g, 0, none⟩, cap, by rw [List.length_map], fun j u hj => ?_, fun e => by cases e⟩
  rw [List.getElem?_map, Option.map_eq_some_iff] at hj
  obtain ⟨c, hc, rfl⟩ := hj
  exact ⟨g, 0, rfl, by rw [Nat.zero_add]; exact h.cell j c hc⟩
/-- []byte(s) -/
theorem bytes_made14 {P : Program} (l : List UInt8) (w : World) (src dst e : TypeId) (hs : P.underlying src = some .string) (hd : P.underlying dst = some (.slice e)) (he : P.underlying e = some (.int .u8)) :
    ∃ cap W, (convert src dst (strV l)).run P w = .ok (.slice (some ⟨w.heap.size, 0, none⟩) l.length cap) W ∧ Reads W (.slice (some ⟨w.heap.size, 0, none⟩) l.length cap) (l.map byteV) ∧ Below w.heap.size w W ∧ w.heap.size < W.heap.size := by
  have h := run_bytes_of_string (P := P) w src dst e ⟨l.toArray⟩ hs hd he
  have hb := bytesAt_row w ⟨l.toArray⟩ (grownCap w (⟨l.toArray⟩ : ByteArray).size 0 e) e
  rw [dtL] at hb
  have hz : (⟨l.toArray⟩ : ByteArray).size = l.length := szL l
  refine ⟨grownCap w (⟨l.toArray⟩ : ByteArray).size 0 e, _, h.trans (by rw [hz]), ?_, ((Below.refl _ _).drew.alloc (Nat.le_refl _) _), by simp⟩
  exact hb.reads _
theorem wpList_append_genR {P : Program} {ops : Array Oper} {rest : List Oper} (w : World) {o : Oper} {a : Act} {Q : Exit → Act → World → Prop} (hgd : o.guard = none) (s x : Operand) (t : TypeId)
    (ho : o.op = .call { callee := .builtin .append, args := #[s, x], argTypes := #[t, t] })
    (B : Nat) (e : TypeId) {z : Value} {sz bytes : Nat} (ht : P.underlying t = some (.slice e)) (hi : (P.info? e).map (fun i => (i.zero, i.size, i.bytes)) = some (some z, sz, bytes)) (hzs : z.cells.size = sz) (hsz : 0 < sz) (hby : bytes ≤ 4096)
    {v : Value} {n : Nat} {xs : List Value} (hs : a.eval s = v) (hown : w.ownsRow B e sz v n xs)
    (ad : Addr) (m c : Nat) (news : List Value) (hl : news.length = m * sz) (hnews : ∀ (j : Nat) u, news[j]? = some u → w.cell? (ad.add j) = some u) (h1 : ∀ u ∈ news, u.oneCell' = true)
    (hx : a.eval x = .slice (some ad) m c) (hn : n + m < 4294967296) (hB : B ≤ w.heap.size)
    (h : ∀ v' w', w'.ownsRow B e sz v' (n + m) (xs ++ news) → w.grownBy w' v.ownBlock → In (fun k => v.ownBlock = some k ∨ w.heap.size ≤ k) v' → wpList P ops Q rest (a.put o.dst v') w') :
    wpList P ops Q (o :: rest) a w :=
  wpList_plain hgd fun _ hK => wp_append_gen w s x t ho B e ht hi hzs hsz hby hs hown ad m c news hl hnews h1 hx hn hB (fun v' w' a1 a2 a3 => hK _ _ (h v' w' a1 a2 a3))
theorem fldCells_snocR (D : List Fld) (f : Fld) : fldCells D ++ [strV f.1, strV f.2] = fldCells (D ++ [f]) := by simp [fldCells]
theorem wpList_slice_bothR {P : Program} {ops : Array Oper} {rest : List Oper} {o : Oper} {a : Act} {w : World} {Q : Exit → Act → World → Prop} (hg : o.guard = none) (t : TypeId) (x lo hi : Operand) (ho : o.op = .slice t x (some lo) (some hi) none)
    {vx vo vl vr : Value} (hx : a.eval x = vx) (hlo : a.eval lo = vo) (hl : a.eval hi = vl) (ht : P.underlying t = some (.slice (P.elem t))) (hr : (Instr.slice t vx (some vo) (some vl) none).run P w = .ok vr w)
    (h : wpList P ops Q rest (a.put o.dst vr) w) : wpList P ops Q (o :: rest) a w :=
  wpList_plain hg fun _ hK => by
    unfold Oper.wp execOp
    simp only [ho, hx, hlo, hl, Option.map_some, Option.map_none, Sem.run_bind, run_sliceAt_slice w t vx (some vo) (some vl) none ht, hr, Sem.run_pure, Result.andThen_ok]
    exact hK _ _ h
/-- x[lo:], where its block lies -/
theorem slice_low_in {P : Program} (t : TypeId) (ht : P.underlying t = some (.slice (P.elem t))) (h1 : ∀ W, (sizeOf (P.elem t)).run P W = .ok 1 W) {w : World} {ao : Option Addr} {cap : Nat} {l : List UInt8} (h : Bytes w (.slice ao l.length cap) l) (k : Nat) (hk : k ≤ l.length) :
    ∃ ao' cap', (∀ W, (Instr.slice t (.slice ao l.length cap) (some (.int .i64 (k : Int))) none none).run P W = .ok (.slice ao' (l.length - k) cap') W) ∧ Bytes w (.slice ao' (l.length - k) cap') (l.drop k) ∧ In (fun b => (Value.slice ao l.length cap).ownBlock = some b) (.slice ao' (l.length - k) cap') := by
  obtain ⟨ao0, cap0, hv0, hc, hr⟩ := h
  cases hv0
  refine ⟨(if cap = k then ao else ao.map (·.add (k * 1))), cap - k, fun W => ?_, ?_, ?_⟩
  · rw [run_slice_l W t ao l.length cap ht .i64 (k : Int) (by omega) (by omega), h1]
    simp only [Result.andThen, sliced, Int.toNat_natCast]
  · refine ⟨_, _, by rw [List.length_drop], by rw [List.length_drop]; omega, ?_⟩
    obtain ⟨ao', cap', hv, hcell, hz⟩ := hr
    rw [List.length_map] at hv
    cases hv
    refine ⟨(if cap = k then ao else ao.map (·.add (k * 1))), cap - k, by rw [List.length_map, List.length_drop], fun j u hj => ?_, fun e => ?_⟩
    · rw [List.map_drop, List.getElem?_drop] at hj
      have hjl := (List.getElem?_eq_some_iff.1 hj).1
      rw [List.length_map] at hjl
      obtain ⟨b, off, ha, g1⟩ := hcell (k + j) u hj
      subst ha
      rw [if_neg (by omega)]
      refine ⟨b, off + k, by simp only [Option.map_some]; rw [addAt2]; simp, ?_⟩
      rw [show off + k + j = off + (k + j) by omega]; exact g1
    · split at e
      · rename_i hck
        omega
      · cases ao with
        | none => have := hz rfl; omega
        | some a => cases e
  · intro b hb
    cases ao with
    | none => split at hb <;> cases hb
    | some a =>
      have e : (a.add (k * 1)).block = a.block := by
        unfold Addr.add
        split <;> rfl
      split at hb
      · exact hb
      · have h2 : some (a.add (k * 1)).block = some b := hb
        rw [e] at h2
        exact h2
end Go.Pantry
namespace Go.Proofs.YtdkhkeffheleeaaDoor
open Go.RowKit Go.Pantry

theorem infoFld3S : (Tryd.prog.info? 74).map (·.size) = some 2 := by kernel_rfl
theorem oneEntS (a b : List UInt8) (o : Option Addr) (n c : Nat) (x y z : Int) (o2 : Option Addr) (n2 c2 : Nat) (o3 : Option Addr) (n3 c3 : Nat) (g : Int) : (#[strV a, strV b, .slice o n c, .int .i64 x, .int .i64 y, .int .i64 z, .slice o2 n2 c2, .slice o3 n3 c3, .int .i64 g] : Array Value).all (·.oneCell') = true := by simp [Value.oneCell']
theorem ent_shape (v : Value) (L : List Fld) {w : World} {B n : Nat} {e : TypeId} (h : w.ownsRow B e 2 v n (fldCells L)) : ∃ a c, v = .slice a n c := ownsRow_form2 h
/-- what stands while an entry is read: the reader, the result's box, the entry's box behind it -/
structure EMid (w : World) (g : Nat) (B : List UInt8) (v nv fv bv : Value) (x : EntP) (st : Option (List UInt8)) (w1 : World) : Prop where
  rd : RAt w1 g B v st
  row : rowIs w1 (w.heap.size + 1) (rowE nv fv bv x) 32
  res : rowIs w1 w.heap.size (rowE (.slice none 0 0) (.slice none 0 0) (.slice none 0 0) zeroE) 32
  on : w1.ownsRow (w.heap.size + 2) 9 1 nv x.names.length (x.names.map strV)
  of : w1.ownsRow (w.heap.size + 2) 74 2 fv x.fields.length (fldCells x.fields)
  ap : ∀ k, fv.ownBlock = some k → nv.ownBlock ≠ some k
  kept : Kept (fun k => k = g) w w1
  lt : g < w.heap.size
  inn : In (fun k => k < w.heap.size) v
theorem EMid.read {w w1 w2 : World} {g : Nat} {B : List UInt8} {v nv fv bv : Value} {x : EntP} {st st' : Option (List UInt8)} (h : EMid w g B v nv fv bv x st w1) (hr : RAt w2 g B v st') (hk : Kept (fun k => k = g) w1 w2) : EMid w g B v nv fv bv x st' w2 := by
  have hl := h.lt
  refine ⟨hr, h.row.kept hk (by omega), h.res.kept hk (by omega), ownsRow_kept h.on hk (fun k e => ?_), ownsRow_kept h.of hk (fun k e => ?_), h.ap, h.kept.trans hk (fun k e _ => e), h.lt, h.inn⟩
  · have := (h.on.lt k e).1; omega
  · have := (h.of.lt k e).1; omega
theorem EMid.below {w w1 w2 : World} {g : Nat} {B : List UInt8} {v nv fv bv : Value} {x : EntP} {st : Option (List UInt8)} (h : EMid w g B v nv fv bv x st w1) (hb : Below w1.heap.size w1 w2) : EMid w g B v nv fv bv x st w2 :=
  h.read (h.rd.below hb) (Kept.of_below hb)
theorem EMid.store {w w1 : World} {g : Nat} {B : List UInt8} {v nv fv bv bv' : Value} {x x' : EntP} {st : Option (List UInt8)} (h : EMid w g B v nv fv bv x st w1) (j : Nat) (u : Value)
    (hrow : (rowE nv fv bv x).setIfInBounds j u = rowE nv fv bv' x') (hn : x'.names = x.names) (hf : x'.fields = x.fields) : EMid w g B v nv fv bv' x' st (w1.setCell ⟨w.heap.size + 1, j, none⟩ u) := by
  have hl := h.lt
  have kk := (Kept.refl (fun k => k = w.heap.size + 1) w1).setCell (i := j) (.inl rfl) u
  have h1 := h.row.setCell j u
  rw [hrow] at h1
  refine ⟨h.rd.kept kk (by omega) (fun k e hx => by have := h.inn k e; omega), h1, h.res.kept kk (by omega), ?_, ?_, h.ap, h.kept.setCell (.inr (by omega)) u, h.lt, h.inn⟩
  · rw [hn]; exact ownsRow_kept h.on kk (fun k e hx => by have := (h.on.lt k e).1; omega)
  · rw [hf]; exact ownsRow_kept h.of kk (fun k e hx => by have := (h.of.lt k e).1; omega)
/-- a name more, and its slice stored -/
theorem EMid.name {w w4 w5 : World} {g : Nat} {B : List UInt8} {v nv bv v5 : Value} {x x' : EntP} {st : Option (List UInt8)} (h : EMid w g B v nv (.slice none 0 0) bv x st w4) (s : List UInt8)
    (ho : w5.ownsRow (w.heap.size + 2) 9 1 v5 (x.names.length + 1) (x.names.map strV ++ [strV s])) (hg : w4.grownBy w5 nv.ownBlock) (hx : x' = { x with names := x.names ++ [s] }) :
    rowIs w5 (w.heap.size + 1) (rowE nv (.slice none 0 0) bv x) 32 ∧ EMid w g B v v5 (.slice none 0 0) bv x' st (w5.setCell ⟨w.heap.size + 1, 2, none⟩ v5) := by
  subst hx
  have hl := h.lt
  have hk : Kept (fun k => nv.ownBlock = some k) w4 w5 := (Kept.refl _ w4).grown hg (fun k e _ => e)
  have hge : ∀ k, nv.ownBlock = some k → w.heap.size + 2 ≤ k := fun k e => (h.on.lt k e).1
  have hrow := h.row.kept hk (fun e => by have := hge _ e; omega)
  have kk := (Kept.refl (fun k => k = w.heap.size + 1) w5).setCell (i := 2) (.inl rfl) v5
  have hsz := h.row.lt
  refine ⟨hrow, ⟨(h.rd.kept hk (fun e => by have := hge _ e; omega) (fun k e hx => by have := h.inn k e; have := hge _ hx; omega)).kept kk (by omega) (fun k e hx => by have := h.inn k e; omega), ?_, (h.res.kept hk (fun e => by have := hge _ e; omega)).kept kk (by omega), ?_, ?_, (fun k e => by cases e), ?_, h.lt, h.inn⟩⟩
  · exact hrow.setCell 2 v5
  · have := ownsRow_kept ho kk (fun k e hx => by have := (ho.lt k e).1; omega)
    simpa using this
  · exact ownsRow_kept (ownsRow_kept h.of hk (fun k e => by cases e)) kk (fun k e => by cases e)
  · exact (h.kept.trans (hk.mono (Y := fun k => w.heap.size + 2 ≤ k) (fun k e _ => hge k e)) (fun k e hlt => by omega)).setCell (.inr (by omega)) v5
/-- a field more, and its slice stored -/
theorem EMid.field {w w4 w5 : World} {g : Nat} {B : List UInt8} {v nv fv bv v5 : Value} {x x' : EntP} {st : Option (List UInt8)} (h : EMid w g B v nv fv bv x st w4) (f : Fld)
    (ho : w5.ownsRow (w.heap.size + 2) 74 2 v5 (x.fields.length + 1) (fldCells (x.fields ++ [f]))) (hg : w4.grownBy w5 fv.ownBlock) (hi : In (fun k => fv.ownBlock = some k ∨ w4.heap.size ≤ k) v5) (hx : x' = { x with fields := x.fields ++ [f] }) :
    rowIs w5 (w.heap.size + 1) (rowE nv fv bv x) 32 ∧ EMid w g B v nv v5 bv x' st (w5.setCell ⟨w.heap.size + 1, 6, none⟩ v5) := by
  subst hx
  have hl := h.lt
  have hk : Kept (fun k => fv.ownBlock = some k) w4 w5 := (Kept.refl _ w4).grown hg (fun k e _ => e)
  have hge : ∀ k, fv.ownBlock = some k → w.heap.size + 2 ≤ k := fun k e => (h.of.lt k e).1
  have hrow := h.row.kept hk (fun e => by have := hge _ e; omega)
  have kk := (Kept.refl (fun k => k = w.heap.size + 1) w5).setCell (i := 6) (.inl rfl) v5
  refine ⟨hrow, ⟨(h.rd.kept hk (fun e => by have := hge _ e; omega) (fun k e hx => by have := h.inn k e; have := hge _ hx; omega)).kept kk (by omega) (fun k e hx => by have := h.inn k e; omega), ?_, (h.res.kept hk (fun e => by have := hge _ e; omega)).kept kk (by omega), ?_, ?_, ?_, ?_, h.lt, h.inn⟩⟩
  · exact hrow.setCell 6 v5
  · exact ownsRow_kept (ownsRow_kept h.on hk (fun k e hx => h.ap k hx e)) kk (fun k e hx => by have := (h.on.lt k e).1; omega)
  · have := ownsRow_kept ho kk (fun k e hx => by have := (ho.lt k e).1; omega)
    simpa using this
  · intro k e e2
    rcases hi k e with h1 | h1
    · exact h.ap k h1 e2
    · have := (h.on.lt k e2).2; omega
  · exact (h.kept.trans (hk.mono (Y := fun k => w.heap.size + 2 ≤ k) (fun k e _ => hge k e)) (fun k e hlt => by omega)).setCell (.inr (by omega)) v5
/-- what is stored elsewhere, behind the entry's box -/
theorem EMid.other {X : Nat → Prop} {w w1 w2 : World} {g : Nat} {B : List UInt8} {v nv fv bv : Value} {x : EntP} {st : Option (List UInt8)} (h : EMid w g B v nv fv bv x st w1) (hk : Kept X w1 w2) (hX : ∀ k, X k → w.heap.size + 2 ≤ k) (hn : In (fun k => ¬ X k) nv) (hf : In (fun k => ¬ X k) fv) : EMid w g B v nv fv bv x st w2 := by
  have hl := h.lt
  exact ⟨h.rd.kept hk (fun e => by have := hX _ e; omega) (fun k e hx => by have := h.inn k e; have := hX _ hx; omega), h.row.kept hk (fun e => by have := hX _ e; omega), h.res.kept hk (fun e => by have := hX _ e; omega), ownsRow_kept h.on hk hn, ownsRow_kept h.of hk hf, h.ap, h.kept.trans (hk.mono (Y := fun k => w.heap.size + 2 ≤ k) (fun k e _ => hX k e)) (fun k e hlt => by omega), h.lt, h.inn⟩
theorem EMid.done {w w1 : World} {g : Nat} {B : List UInt8} {v nv fv bv : Value} {x : EntP} {st : Option (List UInt8)} (h : EMid w g B v nv fv bv x st w1) (hb : Reads w1 bv (x.body.map byteV)) (hbi : In (fun k => w.heap.size + 2 ≤ k) bv) :
    EntAt (w1.setRow w.heap.size (rowE nv fv bv x)) nv fv bv x ∧ In (fun k => w.heap.size ≤ k) nv ∧ In (fun k => w.heap.size ≤ k) fv ∧ In (fun k => w.heap.size ≤ k) bv ∧ RAt (w1.setRow w.heap.size (rowE nv fv bv x)) g B v st ∧ Kept (fun k => k = g) w (w1.setRow w.heap.size (rowE nv fv bv x)) := by
  have hl := h.lt
  have kk := (Kept.refl (fun k => k = w.heap.size) w1).setRow (g := w.heap.size) (.inl rfl) (rowE nv fv bv x)
  have hnn : ∀ k, nv.ownBlock = some k → w.heap.size + 2 ≤ k := fun k e => (h.on.lt k e).1
  have hff : ∀ k, fv.ownBlock = some k → w.heap.size + 2 ≤ k := fun k e => (h.of.lt k e).1
  refine ⟨⟨(ownsRow_kept h.on kk (fun k e hx => by have := hnn k e; omega)).reads, (ownsRow_kept h.of kk (fun k e hx => by have := hff k e; omega)).reads2.2, reads_kept hb kk (fun k e hx => by have := hbi k e; omega)⟩, fun k e => by have := hnn k e; omega, fun k e => by have := hff k e; omega, fun k e => by have := hbi k e; omega, h.rd.kept kk (by omega) (fun k e hx => by have := h.inn k e; omega), h.kept.trans (kk.mono (Y := fun k => w.heap.size ≤ k) (fun k e _ => by omega)) (fun k e hlt => by omega)⟩
abbrev HidN : Prop := True
/-- what reading an entry leaves -/
def EntPost (w : World) (g : Nat) (B : List UInt8) (v : Value) (ver : Nat) (l : List UInt8) (e : Ending) (w' : World) : Prop :=
  ∃ nv fv bv x st, e = .returned (.agg (rowE nv fv bv x)) ∧ EntAt w' nv fv bv x ∧ In (fun k => w.heap.size ≤ k) nv ∧ In (fun k => w.heap.size ≤ k) fv ∧ In (fun k => w.heap.size ≤ k) bv ∧ RAt w' g B v st ∧ Kept (fun k => k = g) w w' ∧ entD ver l = st.map (fun r => (x, r))
end Go.Proofs.YtdkhkeffheleeaaDoor
