/-
  Several texts in one: Ref14U, Law14S, EntC.
-/
import Derived.Test.YtdkhkeffheleeaaDoorF1404
import Derived.Test.YtdkhkeffheleeaaDoorF14Ref14H
import Derived.Deep.QuietTactic
import Derived.BigQuiet
import Derived.Test.YtdkhkeffheleeaaDoorF1407
import Derived.Test.YtdkhkeffheleeaaDoorF1405
/-
  The document's Decode of entries.
-/
set_option linter.unusedVariables false
set_option linter.unusedSimpArgs false
namespace Go.Pantry
open Go.RowKit
theorem dec_c1 {D : List UInt8} (h : D.length < 8 ∨ 4000 < D.length ∨ D.getD 0 0 ≠ 69) : decD D = (10, zeroE, 0) := by unfold decD; rw [if_pos h]
theorem dec_c2 {D : List UInt8} (h1 : ¬ (D.length < 8 ∨ 4000 < D.length ∨ D.getD 0 0 ≠ 69)) (h2 : (D.getD 1 0).toNat < 1 ∨ 3 < (D.getD 1 0).toNat) : decD D = (50, zeroE, 0) := by unfold decD; rw [if_neg h1, if_pos h2]
theorem dec_c3 {D : List UInt8} (h1 : ¬ (D.length < 8 ∨ 4000 < D.length ∨ D.getD 0 0 ≠ 69)) (h2 : ¬ ((D.getD 1 0).toNat < 1 ∨ 3 < (D.getD 1 0).toNat)) (h3 : (D.getD 2 0).toNat * 256 + (D.getD 3 0).toNat ≠ D.length - 8) : decD D = (10, zeroE, 0) := by
  unfold decD; rw [if_neg h1, if_neg h2, if_pos h3]
theorem dec_c4 {D : List UInt8} (h1 : ¬ (D.length < 8 ∨ 4000 < D.length ∨ D.getD 0 0 ≠ 69)) (h2 : ¬ ((D.getD 1 0).toNat < 1 ∨ 3 < (D.getD 1 0).toNat)) (h3 : ¬ (D.getD 2 0).toNat * 256 + (D.getD 3 0).toNat ≠ D.length - 8) (h4 : numN ((D.drop 4).take 4) ≠ sumL (D.drop 8)) : decD D = (44, zeroE, 0) := by
  unfold decD; rw [if_neg h1, if_neg h2, if_neg h3, if_pos h4]
theorem dec_c5 {D : List UInt8} (h1 : ¬ (D.length < 8 ∨ 4000 < D.length ∨ D.getD 0 0 ≠ 69)) (h2 : ¬ ((D.getD 1 0).toNat < 1 ∨ 3 < (D.getD 1 0).toNat)) (h3 : ¬ (D.getD 2 0).toNat * 256 + (D.getD 3 0).toNat ≠ D.length - 8) (h4 : ¬ numN ((D.drop 4).take 4) ≠ sumL (D.drop 8)) : decD D = match entD (D.getD 1 0).toNat (D.drop 8) with
    | none => (10, zeroE, 0)
    | some (e, r) => if r = [] ∧ rightE e = true then (0, e, (D.getD 1 0).toNat) else (10, zeroE, 0) := by
  unfold decD; rw [if_neg h1, if_neg h2, if_neg h3, if_neg h4]; rfl
theorem entAt_zero (w : World) : EntAt w (.slice none 0 0) (.slice none 0 0) (.slice none 0 0) zeroE :=
  ⟨⟨none, 0, rfl, (fun j u hj => by cases hj), fun _ => rfl⟩, ⟨none, 0, rfl, (fun j u hj => by cases hj), fun _ => rfl, Nat.le_refl _⟩, ⟨none, 0, rfl, (fun j u hj => by cases hj), fun _ => rfl⟩⟩
theorem EntAt.kept {X : Nat → Prop} {w w' : World} {nv fv bv : Value} {e : EntP} (h : EntAt w nv fv bv e) (hk : Kept X w w') (h1 : In (fun k => ¬ X k) nv) (h2 : In (fun k => ¬ X k) fv) (h3 : In (fun k => ¬ X k) bv) : EntAt w' nv fv bv e :=
  ⟨reads_kept h.names hk h1, reads2_kept h.flds hk h2, reads_kept h.body hk h3⟩
theorem fldsB_bd : ∀ (L : List Fld), L.length ≤ (fldsB L).length ∧ ∀ f ∈ L, f.1.length ≤ (fldsB L).length ∧ f.2.length ≤ (fldsB L).length
  | [] => ⟨Nat.zero_le _, fun f hf => by cases hf⟩
  | f :: L => by
    obtain ⟨h1, h2⟩ := fldsB_bd L
    have e : (fldsB (f :: L)).length = (fldB f).length + (fldsB L).length := by show (fldB f ++ fldsB L).length = _; rw [List.length_append]
    have e2 : (fldB f).length = f.1.length + 2 + (f.2.length + 2) := by unfold fldB; rw [List.length_append, textB_len, textB_len]
    refine ⟨by rw [List.length_cons]; omega, fun x hx => ?_⟩
    rcases List.mem_cons.1 hx with rfl | hx
    · omega
    · have := h2 x hx; omega
theorem textsB_bd : ∀ (L : List (List UInt8)), L.length ≤ (textsB L).length ∧ ∀ s ∈ L, s.length ≤ (textsB L).length
  | [] => ⟨Nat.zero_le _, fun f hf => by cases hf⟩
  | s :: L => by
    obtain ⟨h1, h2⟩ := textsB_bd L
    have e : (textsB (s :: L)).length = (textB s).length + (textsB L).length := by show (textB s ++ textsB L).length = _; rw [List.length_append]
    have e2 := textB_len s
    refine ⟨by rw [List.length_cons]; omega, fun x hx => ?_⟩
    rcases List.mem_cons.1 hx with rfl | hx
    · omega
    · have := h2 x hx; omega
theorem entD_small {v : Nat} {l r : List UInt8} {x : EntP} (h : entD v l = some (x, r)) (hl : l.length ≤ 5000) : SmallE x := by
  obtain ⟨h1, h2, -⟩ := entD_some h
  have h3 : (restB v x).length ≤ 5000 := by have := congrArg List.length h1; rw [List.length_append] at this; omega
  unfold restB headB tailB at h3
  simp only [List.length_append, textB_len, numB_len] at h3
  obtain ⟨f1, f2⟩ := fldsB_bd x.fields
  obtain ⟨t1, t2⟩ := textsB_bd x.names
  have hz : x.second.length ≤ 5000 ∧ x.names.length ≤ 5000 ∧ ∀ n ∈ x.names, n.length ≤ 5000 := by
    rcases h2 with rfl | ⟨h4, h5⟩
    · rw [if_pos rfl] at h3
      simp only [List.length_append, textB_len, numB_len] at h3
      exact ⟨by omega, by omega, fun n hn => by have := t2 n hn; omega⟩
    · rw [h4, h5]; exact ⟨by simp, by simp, fun n hn => by cases hn⟩
  exact ⟨by omega, hz.1, hz.2.1, hz.2.2, by omega, fun f hf => by have := f2 f hf; omega, by omega⟩
theorem bytes_in {w : World} {v : Value} {l : List UInt8} (h : Bytes w v l) (hl : l ≠ []) : In (fun k => k < w.heap.size) v := by
  obtain ⟨ao, cap, rfl, hc, ao', cap', hv, hcell, hz⟩ := h
  cases l with
  | nil => exact absurd rfl hl
  | cons c l =>
    obtain ⟨b, off, ha, hx⟩ := hcell 0 (byteV c) rfl
    have e : ao' = ao := by injection hv with q1 _ _; exact q1.symm
    rw [e] at ha
    subst ha
    intro k e
    have h2 : b = k := Option.some.inj e
    rw [← h2]
    exact World.block_lt_of_cell? w _ hx
/-- what Decode leaves -/
def DecPost (w : World) (D : List UInt8) (e : Ending) (w' : World) : Prop :=
  ∃ nv fv dv, e = .returned (.tuple #[.agg (rowE nv fv dv (decD D).2.1), .int .i64 ((decD D).2.2 : Int), .int .i64 (decD D).1]) ∧ EntAt w' nv fv dv (decD D).2.1 ∧ In (fun k => w.heap.size ≤ k) nv ∧ In (fun k => w.heap.size ≤ k) fv ∧ In (fun k => w.heap.size ≤ k) dv ∧ Below w.heap.size w w'
theorem DecPost.err {w w' : World} {D : List UInt8} {e : Ending} {c : Int} (h : decD D = (c, zeroE, 0)) (hb : Below w.heap.size w w') (he : e = .returned (.tuple #[.agg #[.string ⟨#[]⟩, .string ⟨#[]⟩, .slice none 0 0, .int .i64 0, .int .i64 0, .int .i64 0, .slice none 0 0, .slice none 0 0, .int .i64 0], .int .i64 0, .int .i64 c])) : DecPost w D e w' := by
  refine ⟨.slice none 0 0, .slice none 0 0, .slice none 0 0, ?_, ?_, (fun k e => by cases e), (fun k e => by cases e), (fun k e => by cases e), hb⟩
  · rw [h]; exact he
  · rw [h]; exact entAt_zero w'
end Go.Pantry
namespace Go.Proofs.YtdkhkeffheleeaaDoor
open Go.RowKit Go.Pantry

theorem r14REntry_any (g : Nat) (B : List UInt8) (v : Value) (l : List UInt8) (ver : Nat) (w : World) (hv : 1 ≤ ver ∧ ver ≤ 3) (h : RAt w g B v (some l)) (hB : B.length ≤ 100000) (hin : In (fun k => k < w.heap.size) v) :
    Calls Tryd.prog 42 #[.pointer (some ⟨g, 0, none⟩), .int .i64 (ver : Int)] w (EntPost w g B v ver l) := by
  have : ver = 1 ∨ ver = 2 ∨ ver = 3 := by omega
  rcases this with rfl | rfl | rfl
  · exact r14REntry1_any g B v l w h hB hin
  · exact r14REntry2_any g B v l w h hB hin
  · exact r14REntry3_any g B v l w h hB hin
theorem rAt_new (w : World) (B : List UInt8) (v : Value) (hb : Bytes w v B) (hin : In (fun k => k < w.heap.size) v) : RAt (w.alloc (.cells #[v, .int .i64 0, .bool false] 68)) w.heap.size B v (some B) :=
  ⟨⟨0, false, rowIs_new _ _ _, Nat.zero_le _, rfl, fun l hl => by cases hl; rfl⟩, bytes_below hb (below_alloc _ _), fun k e => by have := hin k e; omega⟩
set_option maxRecDepth 20000 in
set_option maxHeartbeats 16000000 in
theorem r14Decode_any (bv : Value) (D : List UInt8) (w : World) (hb : Bytes w bv D) (hl : D.length ≤ 90000) :
    Calls Tryd.prog 21 #[bv] w (DecPost w D) := by
  obtain ⟨ao, cap, hv, hc⟩ := bytes_form hb
  subst hv
  obtain ⟨n, hn⟩ : ∃ n, D.length = n := ⟨_, rfl⟩
  have HN := hid hn
  rw [hn] at hb hc hl ⊢
  obtain ⟨W0, hW0⟩ : ∃ W, w.alloc (.cells #[.string ⟨#[]⟩, .string ⟨#[]⟩, .slice none 0 0, .int .i64 0, .int .i64 0, .int .i64 0, .slice none 0 0, .slice none 0 0, .int .i64 0] 32) = W := ⟨_, rfl⟩
  have hbW : Below w.heap.size w W0 := by rw [← hW0]; exact below_alloc _ _
  have hres : rowIs W0 w.heap.size #[.string ⟨#[]⟩, .string ⟨#[]⟩, .slice none 0 0, .int .i64 0, .int .i64 0, .int .i64 0, .slice none 0 0, .slice none 0 0, .int .i64 0] 32 := by rw [← hW0]; exact rowIs_new _ _ _
  have HB := hid hb
  have HBW := hid hbW
  have HRES := hid hres
  by_cases h8 : n < 8
  · have d8 : decide ((n : Int) < 8) = true := decide_eq_true (by omega)
    clear hb hbW
    go_enter Tryd.func21, Tryd.ntmps21
    go_wp2_with (refine wpList_store_row rfl 32 _ _ rfl w.heap.size _ rfl rfl 32 #[.string ⟨#[]⟩, .string ⟨#[]⟩, .slice none 0 0, .int .i64 0, .int .i64 0, .int .i64 0, .slice none 0 0, .slice none 0 0, .int .i64 0] hres infoEntD rfl (oneEntS _ _ _ _ _ _ _ _ _ _ _ _ _ _ _) ?_)
    refine bodyPost_ret (results_row3 Tryd.results21 _ _ w.heap.size #[.string ⟨#[]⟩, .string ⟨#[]⟩, .slice none 0 0, .int .i64 0, .int .i64 0, .int .i64 0, .slice none 0 0, .slice none 0 0, .int .i64 0] rfl (hres.setRow _) Tryd.underlying32 rfl infoEntD) rfl ?_
    exact DecPost.err (dec_c1 (by rw [HN.out]; exact .inl h8)) (below_setRow (HBW.out) (Nat.le_refl _) _) rfl
  have d8 : decide ((n : Int) < 8) = false := decide_eq_false (by omega)
  by_cases h40 : 4000 < n
  · have d40 : decide ((4000 : Int) < (n : Int)) = true := decide_eq_true (by omega)
    clear hb hbW
    go_enter Tryd.func21, Tryd.ntmps21
    go_wp2_with (refine wpList_store_row rfl 32 _ _ rfl w.heap.size _ rfl rfl 32 #[.string ⟨#[]⟩, .string ⟨#[]⟩, .slice none 0 0, .int .i64 0, .int .i64 0, .int .i64 0, .slice none 0 0, .slice none 0 0, .int .i64 0] hres infoEntD rfl (oneEntS _ _ _ _ _ _ _ _ _ _ _ _ _ _ _) ?_)
    refine bodyPost_ret (results_row3 Tryd.results21 _ _ w.heap.size #[.string ⟨#[]⟩, .string ⟨#[]⟩, .slice none 0 0, .int .i64 0, .int .i64 0, .int .i64 0, .slice none 0 0, .slice none 0 0, .int .i64 0] rfl (hres.setRow _) Tryd.underlying32 rfl infoEntD) rfl ?_
    exact DecPost.err (dec_c1 (by rw [HN.out]; exact .inr (.inl h40))) (below_setRow (HBW.out) (Nat.le_refl _) _) rfl
  have d40 : decide ((4000 : Int) < (n : Int)) = false := decide_eq_false (by omega)
  obtain ⟨c0, g0⟩ : ∃ c, D[0]? = some c := ⟨_, List.getElem?_eq_getElem (by omega)⟩
  obtain ⟨c1, g1⟩ : ∃ c, D[1]? = some c := ⟨_, List.getElem?_eq_getElem (by omega)⟩
  obtain ⟨c2, g2⟩ : ∃ c, D[2]? = some c := ⟨_, List.getElem?_eq_getElem (by omega)⟩
  obtain ⟨c3, g3⟩ : ∃ c, D[3]? = some c := ⟨_, List.getElem?_eq_getElem (by omega)⟩
  have e0 : D.getD 0 0 = c0 := by rw [List.getD_eq_getElem?_getD, g0]; rfl
  have e1 : D.getD 1 0 = c1 := by rw [List.getD_eq_getElem?_getD, g1]; rfl
  have e2 : D.getD 2 0 = c2 := by rw [List.getD_eq_getElem?_getD, g2]; rfl
  have e3 : D.getD 3 0 = c3 := by rw [List.getD_eq_getElem?_getD, g3]; rfl
  obtain ⟨ao1, cap1, hv1, hcell, -⟩ := bytesRead hb
  have hao1 : ao1 = ao := by injection hv1 with q1 _ _; exact q1.symm
  rw [hao1] at hcell
  obtain ⟨bk, off, hao, -⟩ := hcell 0 (byteV c0) (by rw [List.getElem?_map, g0]; rfl)
  subst hao
  have HC := hid (fun (W : World) (h : Below w.heap.size w W) => (show (∀ (j : Nat) (c : UInt8), D[j]? = some c → W.cell? ⟨bk, off + j, none⟩ = some (.int .u8 (c.toNat : Int))) from fun j c hj => by
    obtain ⟨ao2, cap2, hv2, hcell2, -⟩ := bytesRead (bytes_below HB.out h)
    obtain ⟨b2, o2, ha2, hx⟩ := hcell2 j (byteV c) (by rw [List.getElem?_map, hj]; rfl)
    have : ao2 = some ⟨bk, off, none⟩ := by injection hv2 with q1 _ _; exact q1.symm
    rw [this] at ha2
    injection ha2 with ha3
    injection ha3 with ha4 ha5
    subst ha4 ha5
    exact hx))
  have hbk : bk < w.heap.size := World.block_lt_of_cell? w _ (HC.out w (Below.refl _ _) 0 c0 g0)
  have HG := hid (And.intro g0 (And.intro g1 (And.intro g2 g3)))
  have x0 : W0.cell? ⟨bk, off, none⟩ = some (.int .u8 (c0.toNat : Int)) := HC.out W0 hbW 0 c0 g0
  have x1 : W0.cell? ⟨bk, off + 1, none⟩ = some (.int .u8 (c1.toNat : Int)) := HC.out W0 hbW 1 c1 g1
  have x2 : W0.cell? ⟨bk, off + 2, none⟩ = some (.int .u8 (c2.toNat : Int)) := HC.out W0 hbW 2 c2 g2
  have x3 : W0.cell? ⟨bk, off + 3, none⟩ = some (.int .u8 (c3.toNat : Int)) := HC.out W0 hbW 3 c3 g3
  have hn8 : (8 : Int) ≤ (n : Int) := by omega
  have hn0 : (0 : Int) < (n : Int) := by omega
  have hn1 : (1 : Int) < (n : Int) := by omega
  have hn2 : (2 : Int) < (n : Int) := by omega
  have hn3 : (3 : Int) < (n : Int) := by omega
  clear hcell hv1 hao1 hb hbW g0 g1 g2 g3
  by_cases h69 : c0 ≠ 69
  · have d69 : ((c0.toNat : Int) == 69) = false := by
      rw [beq_eq_false_iff_ne]
      intro h
      exact h69 (UInt8.toNat_inj.1 (by show c0.toNat = 69; omega))
    have d69n : ((c0.toNat : Int) != 69) = true := by rw [bne, d69]; rfl
    go_enter Tryd.func21, Tryd.ntmps21
    go_wp2_with (refine wpList_store_row rfl 32 _ _ rfl w.heap.size _ rfl rfl 32 #[.string ⟨#[]⟩, .string ⟨#[]⟩, .slice none 0 0, .int .i64 0, .int .i64 0, .int .i64 0, .slice none 0 0, .slice none 0 0, .int .i64 0] hres infoEntD rfl (oneEntS _ _ _ _ _ _ _ _ _ _ _ _ _ _ _) ?_)
    refine bodyPost_ret (results_row3 Tryd.results21 _ _ w.heap.size #[.string ⟨#[]⟩, .string ⟨#[]⟩, .slice none 0 0, .int .i64 0, .int .i64 0, .int .i64 0, .slice none 0 0, .slice none 0 0, .int .i64 0] rfl (hres.setRow _) Tryd.underlying32 rfl infoEntD) rfl ?_
    exact DecPost.err (dec_c1 (.inr (.inr (by rw [e0]; exact h69)))) (below_setRow (HBW.out) (Nat.le_refl _) _) rfl
  have h69' : c0 = 69 := by
    by_cases h : c0 = 69
    · exact h
    · exact absurd h h69
  have d69 : ((c0.toNat : Int) == 69) = true := by rw [h69']; rfl
  have d69n : ((c0.toNat : Int) != 69) = false := by rw [bne, d69]; rfl
  have H1 := hid (show ¬ (D.length < 8 ∨ 4000 < D.length ∨ D.getD 0 0 ≠ 69) by rw [HN.out, e0]; rintro (h | h | h); exact h8 h; exact h40 h; exact h h69')
  clear h69 h69' e0
  have hc1 := c1.toNat_lt
  have hwa : wrap64 (c1.toNat : Int) = (c1.toNat : Int) := IntWalk.wrap64_in _ (by omega)
  have hwb : IntKind.i64.wrap (c1.toNat : Int) = (c1.toNat : Int) := IntWalk.i64_in _ (by omega)
  by_cases hv1 : c1.toNat < 1
  · have dv1 : decide ((c1.toNat : Int) < 1) = true := decide_eq_true (by omega)
    go_enter Tryd.func21, Tryd.ntmps21
    go_wp2_with (refine wpList_store_row rfl 32 _ _ rfl w.heap.size _ rfl rfl 32 #[.string ⟨#[]⟩, .string ⟨#[]⟩, .slice none 0 0, .int .i64 0, .int .i64 0, .int .i64 0, .slice none 0 0, .slice none 0 0, .int .i64 0] hres infoEntD rfl (oneEntS _ _ _ _ _ _ _ _ _ _ _ _ _ _ _) ?_)
    refine bodyPost_ret (results_row3 Tryd.results21 _ _ w.heap.size #[.string ⟨#[]⟩, .string ⟨#[]⟩, .slice none 0 0, .int .i64 0, .int .i64 0, .int .i64 0, .slice none 0 0, .slice none 0 0, .int .i64 0] rfl (hres.setRow _) Tryd.underlying32 rfl infoEntD) rfl ?_
    exact DecPost.err (dec_c2 H1.out (by rw [e1]; exact .inl hv1)) (below_setRow (HBW.out) (Nat.le_refl _) _) rfl
  have dv1 : decide ((c1.toNat : Int) < 1) = false := decide_eq_false (by omega)
  by_cases hv3 : 3 < c1.toNat
  · have dv3 : decide ((3 : Int) < (c1.toNat : Int)) = true := decide_eq_true (by omega)
    go_enter Tryd.func21, Tryd.ntmps21
    go_wp2_with (refine wpList_store_row rfl 32 _ _ rfl w.heap.size _ rfl rfl 32 #[.string ⟨#[]⟩, .string ⟨#[]⟩, .slice none 0 0, .int .i64 0, .int .i64 0, .int .i64 0, .slice none 0 0, .slice none 0 0, .int .i64 0] hres infoEntD rfl (oneEntS _ _ _ _ _ _ _ _ _ _ _ _ _ _ _) ?_)
    refine bodyPost_ret (results_row3 Tryd.results21 _ _ w.heap.size #[.string ⟨#[]⟩, .string ⟨#[]⟩, .slice none 0 0, .int .i64 0, .int .i64 0, .int .i64 0, .slice none 0 0, .slice none 0 0, .int .i64 0] rfl (hres.setRow _) Tryd.underlying32 rfl infoEntD) rfl ?_
    exact DecPost.err (dec_c2 H1.out (by rw [e1]; exact .inr hv3)) (below_setRow (HBW.out) (Nat.le_refl _) _) rfl
  have dv3 : decide ((3 : Int) < (c1.toNat : Int)) = false := decide_eq_false (by omega)
  have H2 := hid (show ¬ ((D.getD 1 0).toNat < 1 ∨ 3 < (D.getD 1 0).toNat) by rw [e1]; omega)
  have hc2 := c2.toNat_lt
  have hc3 := c3.toNat_lt
  have hwc : IntKind.i64.wrap (c2.toNat : Int) = (c2.toNat : Int) := IntWalk.i64_in _ (by omega)
  have hwd : IntKind.i64.wrap (c3.toNat : Int) = (c3.toNat : Int) := IntWalk.i64_in _ (by omega)
  have k1 : IntKind.i64.wrap ((c2.toNat : Int) * 256) = (c2.toNat : Int) * 256 := IntWalk.i64_in _ (by omega)
  have k2 : IntKind.i64.wrap ((c2.toNat : Int) * 256 + (c3.toNat : Int)) = (c2.toNat : Int) * 256 + (c3.toNat : Int) := IntWalk.i64_in _ (by omega)
  have k3 : IntKind.i64.wrap ((n : Int) - 8) = (n : Int) - 8 := IntWalk.i64_in _ (by omega)
  by_cases h3 : c2.toNat * 256 + c3.toNat ≠ n - 8
  · have d3 : ((c2.toNat : Int) * 256 + (c3.toNat : Int) == (n : Int) - 8) = false := by rw [beq_eq_false_iff_ne]; omega
    have d3n : ((c2.toNat : Int) * 256 + (c3.toNat : Int) != (n : Int) - 8) = true := by rw [bne, d3]; rfl
    clear hres
    go_enter Tryd.func21, Tryd.ntmps21
    go_wp2_with fail
    try rw [hW0]
    go_quiet (fail)
    have hbq := below_drewN (Below.refl W0.heap.size W0) nq
    generalize W0.drewN nq = W1 at hbq ⊢
    have hb1 := chain2 HBW.out HBW.out.size hbq
    have hres := HRES.out.below hbq
    clear x0 x1 x2 x3 hbq
    go_wp2_with (refine wpList_store_row rfl 32 _ _ rfl w.heap.size _ rfl rfl 32 #[.string ⟨#[]⟩, .string ⟨#[]⟩, .slice none 0 0, .int .i64 0, .int .i64 0, .int .i64 0, .slice none 0 0, .slice none 0 0, .int .i64 0] hres infoEntD rfl (oneEntS _ _ _ _ _ _ _ _ _ _ _ _ _ _ _) ?_)
    refine bodyPost_ret (results_row3 Tryd.results21 _ _ w.heap.size #[.string ⟨#[]⟩, .string ⟨#[]⟩, .slice none 0 0, .int .i64 0, .int .i64 0, .int .i64 0, .slice none 0 0, .slice none 0 0, .int .i64 0] rfl (hres.setRow _) Tryd.underlying32 rfl infoEntD) rfl ?_
    exact DecPost.err (dec_c3 H1.out H2.out (by rw [e2, e3, HN.out]; exact h3)) (below_setRow (hb1) (Nat.le_refl _) _) rfl
  have d3 : ((c2.toNat : Int) * 256 + (c3.toNat : Int) == (n : Int) - 8) = true := by rw [beq_iff_eq]; omega
  have d3n : ((c2.toNat : Int) * 256 + (c3.toNat : Int) != (n : Int) - 8) = false := by rw [bne, d3]; rfl
  have H3 := hid (show ¬ (D.getD 2 0).toNat * 256 + (D.getD 3 0).toNat ≠ D.length - 8 by rw [e2, e3, HN.out]; exact h3)
  have HV := hid (show 1 ≤ c1.toNat ∧ c1.toNat ≤ 3 by omega)
  have HE1 := hid e1
  obtain ⟨so, sc, hsl0, hsb⟩ := slice_both 25 Tryd.underlying25 (fun W => by rfl) HB.out 4 4 (by rw [HN.out]; omega)
  obtain ⟨lo, lc, hll0, hlb, hlin⟩ := slice_low_in 25 Tryd.underlying25 (fun W => by rfl) (show Bytes w (.slice (some ⟨bk, off, none⟩) D.length cap) D by rw [HN.out]; exact HB.out) 8 (by rw [HN.out]; omega)
  rw [HN.out] at hll0 hlb hlin
  have hsl : ∀ W, (Instr.slice 25 (.slice (some ⟨bk, off, none⟩) n cap) (some (.int .i64 4)) (some (.int .i64 8)) none).run Tryd.prog W = .ok (.slice so 4 sc) W := hsl0
  have hll : ∀ W, (Instr.slice 25 (.slice (some ⟨bk, off, none⟩) n cap) (some (.int .i64 8)) none none).run Tryd.prog W = .ok (.slice lo (n - 8) lc) W := hll0
  obtain ⟨T4, hT4⟩ : ∃ T, (D.drop 4).take 4 = T := ⟨_, rfl⟩
  obtain ⟨D8, hD8⟩ : ∃ T, D.drop 8 = T := ⟨_, rfl⟩
  have hT4l : T4.length = 4 := by rw [← hT4, List.length_take, List.length_drop, HN.out]; omega
  have hD8l : D8.length = n - 8 := by rw [← hD8, List.length_drop, HN.out]
  rw [hT4] at hsb
  rw [hD8] at hlb
  have HSB := hid (And.intro hsb (bytes_in hsb (fun h => by rw [h] at hT4l; cases hT4l)))
  have HLB := hid (And.intro hlb (show In (fun k => k < w.heap.size) (.slice lo (n - 8) lc) from fun k e => by have h1 := hlin k e; have h2 : bk = k := Option.some.inj h1; omega))
  have HTD := hid (And.intro hT4 hD8)
  have HT4L := hid (And.intro hT4l hD8l)
  clear hsl0 hll0 hsb hlb hlin hT4 hD8 hT4l hD8l e1 e2 e3 h3 hc1 hc2 hc3 hres hwb
  go_enter Tryd.func21, Tryd.ntmps21
  go_wp2_with fail
  try rw [hW0]
  go_quiet (fail)
  have hbq := below_drewN (Below.refl W0.heap.size W0) nq
  generalize W0.drewN nq = W1 at hbq ⊢
  have HB1 := hid (chain2 HBW.out HBW.out.size hbq)
  have HRES1 := hid (HRES.out.below hbq)
  clear x0 x1 x2 x3 hbq hW0 k1 k2 k3 d3 d3n
  obtain ⟨W2, hW2⟩ : ∃ W, W1.alloc (.cells #[.slice so 4 sc, .int .i64 0, .bool false] 68) = W := ⟨_, rfl⟩
  have hb2 : Below W1.heap.size W1 W2 := by rw [← hW2]; exact below_alloc _ _
  have hR2 : RAt W2 W1.heap.size T4 (.slice so 4 sc) (some T4) := by rw [← hW2]; exact rAt_new W1 T4 _ (bytes_below HSB.out.1 HB1.out) (fun k e => by have := HSB.out.2 k e; have := HB1.out.size; omega)
  have HB2 := hid (chain2 HB1.out HB1.out.size hb2)
  have HRES2 := hid (HRES1.out.below hb2)
  have HR2 := hid hR2
  have HLT := hid (And.intro (show w.heap.size < W1.heap.size from HRES1.out.lt) (show W1.heap.size < W2.heap.size from hR2.lt))
  clear hb2 hR2
  go_wp2_with (refine wpList_slice_bothR rfl 25 _ _ _ rfl rfl rfl rfl Tryd.underlying25 (hsl _) ?_)
  try rw [hW2]
  have hnum : numO 4 (some T4) = (numN T4, some []) := by
    rw [numO_there (by rw [HT4L.out.1]; omega)]
    rw [List.take_of_length_le (by rw [HT4L.out.1]; exact Nat.le_refl _), List.drop_eq_nil_of_le (by rw [HT4L.out.1]; exact Nat.le_refl _)]
  have CN := hid (fun (W : World) (hw : RAt W W1.heap.size T4 (.slice so 4 sc) (some T4)) => (show Calls Tryd.prog 41 #[.pointer (some ⟨W1.heap.size, 0, none⟩), .int .i64 4] W (RPost W W1.heap.size T4 (.slice so 4 sc) (.int .i64 ((numN T4 : Nat) : Int)) (some [])) by
    have h := r14RNum_any W1.heap.size T4 _ (some T4) 4 W hw (by rw [HT4L.out.1]; decide) (by decide)
    rw [hnum] at h
    exact h))
  have CS := hid (fun (W : World) (hk : Kept (fun k => k = W1.heap.size) W2 W) => r14Sum_any (.slice lo (n - 8) lc) D8 W (bytesRead (bytes_kept (bytes_below HLB.out.1 HB2.out) hk (fun k e hx => by have := HLB.out.2 k e; have := HLT.out.1; omega))) (by rw [HT4L.out.2]; omega))
  obtain ⟨q4, hq4⟩ : ∃ q, (((numN T4 : Nat) : Int) == ((sumL D8 : Nat) : Int)) = q := ⟨_, rfl⟩
  have hq4n : (((numN T4 : Nat) : Int) != ((sumL D8 : Nat) : Int)) = !q4 := by rw [bne, hq4]
  have HQ4 := hid (show q4 = decide (numN T4 = sumL D8) by rw [← hq4, Bool.eq_iff_iff, beq_iff_eq, decide_eq_true_eq]; omega)
  generalize hgN : numN T4 = nT at CN HQ4 hq4 hq4n
  generalize hgS : sumL D8 = sD at CS HQ4 hq4 hq4n
  have HGN := hid (And.intro hgN hgS)
  clear hnum hgN hgS hsl hW2
  refine wp_region_held_drew (S := fun W' => Kept (fun k => k = W1.heap.size) W2 W') (by kernel_rfl) ((Kept.refl _ _).drew) (fun hH => ?_)
  refine wpAnyH_take (i := 0) (v := ?_) rfl (by kernel_rfl) (by kernel_rfl) (by kernel_rfl) (fun _ _ _ h => h) (Or.inl ⟨by kernel_rfl, ?_⟩) hH ?_
  rotate_left
  · intro W hS
    go_simp
    first | done | with_reducible rfl
  simp only [Act.put, List.getElem_toArray, List.getElem_cons_succ, List.getElem_cons_zero, List.setIfInBounds_toArray, List.set_cons_zero, List.set_cons_succ]
  refine wpAnyH_take (i := 2) (v := ?_) rfl (by kernel_rfl) (by kernel_rfl) (by kernel_rfl) (fun _ _ _ h => h) (Or.inl ⟨by kernel_rfl, ?_⟩) hH ?_
  rotate_left
  · intro W hS
    go_simp
    first | done | with_reducible rfl
  simp only [Act.put, List.getElem_toArray, List.getElem_cons_succ, List.getElem_cons_zero, List.setIfInBounds_toArray, List.set_cons_zero, List.set_cons_succ]
  refine wpAnyH_take (i := 3) (v := ?_) rfl (by kernel_rfl) (by kernel_rfl) (by kernel_rfl) (fun _ _ _ h => h) (Or.inl ⟨by kernel_rfl, ?_⟩) hH ?_
  rotate_left
  · intro W hS
    go_simp
    first | done | with_reducible rfl
  simp only [Act.put, List.getElem_toArray, List.getElem_cons_succ, List.getElem_cons_zero, List.setIfInBounds_toArray, List.set_cons_zero, List.set_cons_succ]
  refine wpAnyH_ready (rs := [1]) (by kernel_rfl) (by simp) ?_
  refine AllReadyH.cons rfl (fun K hK => ?_) AllReadyH.nil
  go_simp
  refine (CN.out W2.drew (HR2.out.below (Below.refl _ _).drew)).mono ?_
  rintro x3 w3 ⟨rfl, hr3, hk3⟩
  refine hK.out _ _ (((Kept.refl (fun k => k = W1.heap.size) W2).drew).trans hk3 (fun _ h _ => h)) (fun hH => ?_)
  clear hr3 hk3
  clear hK K
  try simp only [Act.put, List.getElem_toArray, List.getElem_cons_succ, List.getElem_cons_zero, List.setIfInBounds_toArray, List.set_cons_zero, List.set_cons_succ]
  refine wpAnyH_ready (rs := [4]) (by kernel_rfl) (by simp) ?_
  refine AllReadyH.cons rfl (fun K hK => ?_) AllReadyH.nil
  go_simp
  refine (CS.out _ hH).mono ?_
  rintro x4 w4 ⟨rfl, hb4⟩
  refine hK.out _ _ (hH.then hb4) (fun hH => ?_)
  clear hb4
  clear hK K
  try simp only [Act.put, List.getElem_toArray, List.getElem_cons_succ, List.getElem_cons_zero, List.setIfInBounds_toArray, List.set_cons_zero, List.set_cons_succ]
  refine wpAnyH_take (i := 5) (v := ?_) rfl (by kernel_rfl) (by kernel_rfl) (by kernel_rfl) (fun _ _ _ h => h) (Or.inl ⟨by kernel_rfl, ?_⟩) hH ?_
  rotate_left
  · intro W hS
    go_simp
    first | done | with_reducible rfl
  simp only [Act.put, List.getElem_toArray, List.getElem_cons_succ, List.getElem_cons_zero, List.setIfInBounds_toArray, List.set_cons_zero, List.set_cons_succ]
  refine wpAnyH_done (by kernel_rfl) ?_ _
  have HK4 := hid hH
  clear hH CN CS hq4
  have HB4 := hid (HB2.out.trans ((HK4.out.below (fun k e _ => Nat.le_of_eq e.symm) (Nat.le_of_lt HLT.out.2)).mono (Nat.le_of_lt HLT.out.1)))
  have HRES4 := hid (HRES2.out.kept HK4.out (fun e => by have := HLT.out.1; omega))
  rename World => W4
  cases q4 with
  | false =>
    simp only [Bool.not_false] at hq4n
    have hres := HRES4.out
    go_wp2_with (refine wpList_store_row rfl 32 _ _ rfl w.heap.size _ rfl rfl 32 #[.string ⟨#[]⟩, .string ⟨#[]⟩, .slice none 0 0, .int .i64 0, .int .i64 0, .int .i64 0, .slice none 0 0, .slice none 0 0, .int .i64 0] hres infoEntD rfl (oneEntS _ _ _ _ _ _ _ _ _ _ _ _ _ _ _) ?_)
    refine bodyPost_ret (results_row3 Tryd.results21 _ _ w.heap.size #[.string ⟨#[]⟩, .string ⟨#[]⟩, .slice none 0 0, .int .i64 0, .int .i64 0, .int .i64 0, .slice none 0 0, .slice none 0 0, .int .i64 0] rfl (hres.setRow _) Tryd.underlying32 rfl infoEntD) rfl ?_
    exact DecPost.err (dec_c4 H1.out H2.out H3.out (by rw [HTD.out.1, HTD.out.2, HGN.out.1, HGN.out.2]; have h := HQ4.out; intro e; rw [e] at h; simp at h)) (below_setRow (HB4.out) (Nat.le_refl _) _) rfl
  | true =>
    simp only [Bool.not_true] at hq4n
    have H4 := hid (show ¬ numN ((D.drop 4).take 4) ≠ sumL (D.drop 8) by rw [HTD.out.1, HTD.out.2, HGN.out.1, HGN.out.2]; have h := HQ4.out; intro e; have h2 := of_decide_eq_true h.symm; exact e h2)
    have hdec := dec_c5 H1.out H2.out H3.out H4.out
    rw [HE1.out, HTD.out.2] at hdec
    have HDEC := hid hdec
    obtain ⟨m, hm⟩ : ∃ m, n - 8 = m := ⟨_, rfl⟩
    rw [hm] at hll HLB HT4L
    have hm4 : m ≤ 3992 := by omega
    obtain ⟨W5, hW5⟩ : ∃ W, W4.alloc (.cells #[.slice lo m lc, .int .i64 0, .bool false] 68) = W := ⟨_, rfl⟩
    have hb5 : Below W4.heap.size W4 W5 := by rw [← hW5]; exact below_alloc _ _
    have hR5 : RAt W5 W4.heap.size D8 (.slice lo m lc) (some D8) := by rw [← hW5]; exact rAt_new W4 D8 _ (bytes_below HLB.out.1 HB4.out) (fun k e => by have := HLB.out.2 k e; have := HB4.out.size; omega)
    have CE := hid (r14REntry_any W4.heap.size D8 (.slice lo m lc) D8 c1.toNat W5 HV.out hR5 (by rw [HT4L.out.2]; omega) (fun k e => by have := HLB.out.2 k e; have := HB4.out.size; have := hb5.size; omega))
    have HB5 := hid (chain2 HB4.out HB4.out.size hb5)
    have HRES5 := hid (HRES4.out.below hb5)
    have HLT5 := hid (And.intro HRES4.out.lt hR5.lt)
    clear hdec hm hb5 hR5 HQ4 HGN HK4 hq4n
    go_wp2_with (refine wpList_slice_low rfl 25 _ _ rfl rfl rfl Tryd.underlying25 (hll _) ?_)
    try rw [hW5]
    clear hW5 hll
    refine CE.out.mono ?_
    rintro x5 w6 ⟨nv, fv, dv, x, st, rfl, hat, i1, i2, i3, hr6, hk6, hent⟩
    obtain ⟨na, nc, hnv⟩ := hat.names.strs
    obtain ⟨fa, fc, hfv⟩ := hat.flds.form
    obtain ⟨da, dc, hdv⟩ : ∃ a c, dv = .slice a x.body.length c := by
      obtain ⟨a, c, h, -⟩ := hat.body
      exact ⟨a, c, by rw [h, List.length_map]⟩
    obtain ⟨nn, hnn⟩ : ∃ k, x.names.length = k := ⟨_, rfl⟩
    obtain ⟨fn, hfn⟩ : ∃ k, x.fields.length = k := ⟨_, rfl⟩
    obtain ⟨dn, hdn⟩ : ∃ k, x.body.length = k := ⟨_, rfl⟩
    rw [hnn] at hnv
    rw [hfn] at hfv
    rw [hdn] at hdv
    subst hnv hfv hdv
    have hz6 : rowIs (w6.alloc (.cells #[.string ⟨#[]⟩, .string ⟨#[]⟩, .slice none 0 0, .int .i64 0, .int .i64 0, .int .i64 0, .slice none 0 0, .slice none 0 0, .int .i64 0] 32)) w6.heap.size #[.string ⟨#[]⟩, .string ⟨#[]⟩, .slice none 0 0, .int .i64 0, .int .i64 0, .int .i64 0, .slice none 0 0, .slice none 0 0, .int .i64 0] 32 := rowIs_new _ _ _
    obtain ⟨W7, hW7⟩ : ∃ W, (w6.alloc (.cells #[.string ⟨#[]⟩, .string ⟨#[]⟩, .slice none 0 0, .int .i64 0, .int .i64 0, .int .i64 0, .slice none 0 0, .slice none 0 0, .int .i64 0] 32)).setRow w6.heap.size (rowE (.slice na nn nc) (.slice fa fn fc) (.slice da dn dc) x) = W := ⟨_, rfl⟩
    have hb7 : Below w6.heap.size w6 W7 := by rw [← hW7]; exact below_setRow (below_alloc _ _) (Nat.le_refl _) _
    have hrow7 : rowIs W7 w6.heap.size (rowE (.slice na nn nc) (.slice fa fn fc) (.slice da dn dc) x) 32 := by rw [← hW7]; exact hz6.setRow _
    have hb6 : Below W4.heap.size W5 w6 := hk6.below (fun k e _ => Nat.le_of_eq e.symm) (Nat.le_of_lt HLT5.out.2)
    have HB6 := hid (HB5.out.trans (hb6.mono (Nat.le_of_lt HLT5.out.1)))
    have HRES6 := hid (HRES5.out.kept hk6 (fun e => by have := HLT5.out.1; omega))
    have HB7 := hid (chain2 HB6.out HB6.out.size hb7)
    have HRES7 := hid (HRES6.out.below hb7)
    have hr7 := hr6.below hb7
    have HAT := hid (hat.below hb7)
    have HIN := hid (And.intro (show In (fun k => w.heap.size < k) (.slice na nn nc) from fun k e => by have := i1 k e; have := HLT5.out.1; have := HLT5.out.2; omega) (And.intro (show In (fun k => w.heap.size < k) (.slice fa fn fc) from fun k e => by have := i2 k e; have := HLT5.out.1; have := HLT5.out.2; omega) (show In (fun k => w.heap.size < k) (.slice da dn dc) from fun k e => by have := i3 k e; have := HLT5.out.1; have := HLT5.out.2; omega)))
    have HLT7 := hid (show w.heap.size < w6.heap.size from HRES6.out.lt)
    have HENT := hid hent
    obtain ⟨a, bad, hrr, ha, hbad, hlr⟩ := hr7.ex
    have HRR := hid hrr
    have HROW := hid hrow7
    have y0 : W7.cell? ⟨W4.heap.size, 0, none⟩ = some (.slice lo m lc) := hrr.cell 0
    have y1 : W7.cell? ⟨W4.heap.size, 1, none⟩ = some (.int .i64 (a : Int)) := hrr.cell 1
    have y2 : W7.cell? ⟨W4.heap.size, 2, none⟩ = some (.bool bad) := hrr.cell 2
    have HA := hid (And.intro ha (And.intro hbad hlr))
    clear hb7 hb6 hk6 hr6 hr7 hat i1 i2 i3 hent hrr hrow7 ha hlr CE HRES4 HRES5 HRES6 HB6 HB5 hnn hfn hdn
    go_wp2_with (refine wpList_store_row rfl 32 _ _ rfl w6.heap.size _ rfl rfl 32 #[.string ⟨#[]⟩, .string ⟨#[]⟩, .slice none 0 0, .int .i64 0, .int .i64 0, .int .i64 0, .slice none 0 0, .slice none 0 0, .int .i64 0] hz6 infoEntD rfl (oneEntS _ _ _ _ _ _ _ _ _ _ _ _ _ _ _) ?_)
    try rw [hW7]
    clear hW7 hz6
    cases st with
    | none =>
      have hb1 : bad = true := hbad
      subst hb1
      clear hbad
      have HRRd := hid (fun (W : World) (h : Below W7.heap.size W7 W) => HRR.out.below h)
      go_wp2_with fail
      clear y0 y1 y2
      refine wp_region_held_drew (S := fun W' => Below W7.heap.size W7 W') (by kernel_rfl) (Below.refl _ _).drew (fun hH => ?_)
      refine wpAnyH_take (i := 0) (v := ?_) rfl (by kernel_rfl) (by kernel_rfl) (by kernel_rfl) (fun _ _ _ h => h) (Or.inl ⟨by kernel_rfl, ?_⟩) hH ?_
      rotate_left
      · intro W hS
        have h0 : W.cell? ⟨W4.heap.size, 0, none⟩ = some (.slice lo m lc) := (HRR.out.below hS).cell 0
        have h1 : W.cell? ⟨W4.heap.size, 1, none⟩ = some (.int .i64 (a : Int)) := (HRR.out.below hS).cell 1
        have h2 : W.cell? ⟨W4.heap.size, 2, none⟩ = some (.bool true) := (HRR.out.below hS).cell 2
        go_simp
        first | done | with_reducible rfl
      simp only [Act.put, List.getElem_toArray, List.getElem_cons_succ, List.getElem_cons_zero, List.setIfInBounds_toArray, List.set_cons_zero, List.set_cons_succ]
      refine wpAnyH_take (i := 1) (v := ?_) rfl (by kernel_rfl) (by kernel_rfl) (by kernel_rfl) (fun _ _ _ h => h) (Or.inl ⟨by kernel_rfl, ?_⟩) hH ?_
      rotate_left
      · intro W hS
        have h0 : W.cell? ⟨W4.heap.size, 0, none⟩ = some (.slice lo m lc) := (HRR.out.below hS).cell 0
        have h1 : W.cell? ⟨W4.heap.size, 1, none⟩ = some (.int .i64 (a : Int)) := (HRR.out.below hS).cell 1
        have h2 : W.cell? ⟨W4.heap.size, 2, none⟩ = some (.bool true) := (HRR.out.below hS).cell 2
        go_simp
        first | done | with_reducible rfl
      simp only [Act.put, List.getElem_toArray, List.getElem_cons_succ, List.getElem_cons_zero, List.setIfInBounds_toArray, List.set_cons_zero, List.set_cons_succ]
      refine wpAnyH_take (i := 2) (v := ?_) rfl (by kernel_rfl) (by kernel_rfl) (by kernel_rfl) (fun _ _ _ h => h) (Or.inl ⟨by kernel_rfl, ?_⟩) hH ?_
      rotate_left
      · intro W hS
        have h0 : W.cell? ⟨W4.heap.size, 0, none⟩ = some (.slice lo m lc) := (HRR.out.below hS).cell 0
        have h1 : W.cell? ⟨W4.heap.size, 1, none⟩ = some (.int .i64 (a : Int)) := (HRR.out.below hS).cell 1
        have h2 : W.cell? ⟨W4.heap.size, 2, none⟩ = some (.bool true) := (HRR.out.below hS).cell 2
        go_simp
        first | done | with_reducible rfl
      simp only [Act.put, List.getElem_toArray, List.getElem_cons_succ, List.getElem_cons_zero, List.setIfInBounds_toArray, List.set_cons_zero, List.set_cons_succ]
      refine wpAnyH_take (i := 3) (v := ?_) rfl (by kernel_rfl) (by kernel_rfl) (by kernel_rfl) (fun _ _ _ h => h) (Or.inl ⟨by kernel_rfl, ?_⟩) hH ?_
      rotate_left
      · intro W hS
        have h0 : W.cell? ⟨W4.heap.size, 0, none⟩ = some (.slice lo m lc) := (HRR.out.below hS).cell 0
        have h1 : W.cell? ⟨W4.heap.size, 1, none⟩ = some (.int .i64 (a : Int)) := (HRR.out.below hS).cell 1
        have h2 : W.cell? ⟨W4.heap.size, 2, none⟩ = some (.bool true) := (HRR.out.below hS).cell 2
        go_simp
        first | done | with_reducible rfl
      simp only [Act.put, List.getElem_toArray, List.getElem_cons_succ, List.getElem_cons_zero, List.setIfInBounds_toArray, List.set_cons_zero, List.set_cons_succ]
      refine wpAnyH_take (i := 4) (v := ?_) rfl (by kernel_rfl) (by kernel_rfl) (by kernel_rfl) (fun _ _ _ h => h) (Or.inl ⟨by kernel_rfl, ?_⟩) hH ?_
      rotate_left
      · intro W hS
        have h0 : W.cell? ⟨W4.heap.size, 0, none⟩ = some (.slice lo m lc) := (HRR.out.below hS).cell 0
        have h1 : W.cell? ⟨W4.heap.size, 1, none⟩ = some (.int .i64 (a : Int)) := (HRR.out.below hS).cell 1
        have h2 : W.cell? ⟨W4.heap.size, 2, none⟩ = some (.bool true) := (HRR.out.below hS).cell 2
        go_simp
        first | done | with_reducible rfl
      simp only [Act.put, List.getElem_toArray, List.getElem_cons_succ, List.getElem_cons_zero, List.setIfInBounds_toArray, List.set_cons_zero, List.set_cons_succ]
      refine wpAnyH_take (i := 5) rfl (by kernel_rfl) (by kernel_rfl) (by kernel_rfl) (fun _ _ _ h => h) (Or.inr ⟨by kernel_rfl, rfl⟩) hH ?_
      simp only [Act.put, List.getElem_toArray, List.getElem_cons_succ, List.getElem_cons_zero, List.setIfInBounds_toArray, List.set_cons_zero, List.set_cons_succ]
      refine wpAnyH_take (i := 6) rfl (by kernel_rfl) (by kernel_rfl) (by kernel_rfl) (fun _ _ _ h => h) (Or.inr ⟨by kernel_rfl, rfl⟩) hH ?_
      simp only [Act.put, List.getElem_toArray, List.getElem_cons_succ, List.getElem_cons_zero, List.setIfInBounds_toArray, List.set_cons_zero, List.set_cons_succ]
      refine wpAnyH_take (i := 7) rfl (by kernel_rfl) (by kernel_rfl) (by kernel_rfl) (fun _ _ _ h => h) (Or.inr ⟨by kernel_rfl, rfl⟩) hH ?_
      simp only [Act.put, List.getElem_toArray, List.getElem_cons_succ, List.getElem_cons_zero, List.setIfInBounds_toArray, List.set_cons_zero, List.set_cons_succ]
      refine wpAnyH_take (i := 8) rfl (by kernel_rfl) (by kernel_rfl) (by kernel_rfl) (fun _ _ _ h => h) (Or.inr ⟨by kernel_rfl, rfl⟩) hH ?_
      simp only [Act.put, List.getElem_toArray, List.getElem_cons_succ, List.getElem_cons_zero, List.setIfInBounds_toArray, List.set_cons_zero, List.set_cons_succ]
      refine wpAnyH_take (i := 9) rfl (by kernel_rfl) (by kernel_rfl) (by kernel_rfl) (fun _ _ _ h => h) (Or.inr ⟨by kernel_rfl, rfl⟩) hH ?_
      simp only [Act.put, List.getElem_toArray, List.getElem_cons_succ, List.getElem_cons_zero, List.setIfInBounds_toArray, List.set_cons_zero, List.set_cons_succ]
      refine wpAnyH_take (i := 10) rfl (by kernel_rfl) (by kernel_rfl) (by kernel_rfl) (fun _ _ _ h => h) (Or.inr ⟨by kernel_rfl, rfl⟩) hH ?_
      simp only [Act.put, List.getElem_toArray, List.getElem_cons_succ, List.getElem_cons_zero, List.setIfInBounds_toArray, List.set_cons_zero, List.set_cons_succ]
      refine wpAnyH_take (i := 11) rfl (by kernel_rfl) (by kernel_rfl) (by kernel_rfl) (fun _ _ _ h => h) (Or.inr ⟨by kernel_rfl, rfl⟩) hH ?_
      simp only [Act.put, List.getElem_toArray, List.getElem_cons_succ, List.getElem_cons_zero, List.setIfInBounds_toArray, List.set_cons_zero, List.set_cons_succ]
      refine wpAnyH_take (i := 12) rfl (by kernel_rfl) (by kernel_rfl) (by kernel_rfl) (fun _ _ _ h => h) (Or.inr ⟨by kernel_rfl, rfl⟩) hH ?_
      simp only [Act.put, List.getElem_toArray, List.getElem_cons_succ, List.getElem_cons_zero, List.setIfInBounds_toArray, List.set_cons_zero, List.set_cons_succ]
      refine wpAnyH_take (i := 13) rfl (by kernel_rfl) (by kernel_rfl) (by kernel_rfl) (fun _ _ _ h => h) (Or.inr ⟨by kernel_rfl, rfl⟩) hH ?_
      simp only [Act.put, List.getElem_toArray, List.getElem_cons_succ, List.getElem_cons_zero, List.setIfInBounds_toArray, List.set_cons_zero, List.set_cons_succ]
      refine wpAnyH_take (i := 14) rfl (by kernel_rfl) (by kernel_rfl) (by kernel_rfl) (fun _ _ _ h => h) (Or.inr ⟨by kernel_rfl, rfl⟩) hH ?_
      simp only [Act.put, List.getElem_toArray, List.getElem_cons_succ, List.getElem_cons_zero, List.setIfInBounds_toArray, List.set_cons_zero, List.set_cons_succ]
      refine wpAnyH_take (i := 15) (v := ?_) rfl (by kernel_rfl) (by kernel_rfl) (by kernel_rfl) (fun _ _ _ h => h) (Or.inl ⟨by kernel_rfl, ?_⟩) hH ?_
      rotate_left
      · intro W hS
        have h0 : W.cell? ⟨W4.heap.size, 0, none⟩ = some (.slice lo m lc) := (HRR.out.below hS).cell 0
        have h1 : W.cell? ⟨W4.heap.size, 1, none⟩ = some (.int .i64 (a : Int)) := (HRR.out.below hS).cell 1
        have h2 : W.cell? ⟨W4.heap.size, 2, none⟩ = some (.bool true) := (HRR.out.below hS).cell 2
        go_simp
        first | done | with_reducible rfl
      simp only [Act.put, List.getElem_toArray, List.getElem_cons_succ, List.getElem_cons_zero, List.setIfInBounds_toArray, List.set_cons_zero, List.set_cons_succ]
      refine wpAnyH_take (i := 16) (v := ?_) rfl (by kernel_rfl) (by kernel_rfl) (by kernel_rfl) (fun _ _ _ h => h) (Or.inl ⟨by kernel_rfl, ?_⟩) hH ?_
      rotate_left
      · intro W hS
        have h0 : W.cell? ⟨W4.heap.size, 0, none⟩ = some (.slice lo m lc) := (HRR.out.below hS).cell 0
        have h1 : W.cell? ⟨W4.heap.size, 1, none⟩ = some (.int .i64 (a : Int)) := (HRR.out.below hS).cell 1
        have h2 : W.cell? ⟨W4.heap.size, 2, none⟩ = some (.bool true) := (HRR.out.below hS).cell 2
        go_simp
        first | done | with_reducible rfl
      simp only [Act.put, List.getElem_toArray, List.getElem_cons_succ, List.getElem_cons_zero, List.setIfInBounds_toArray, List.set_cons_zero, List.set_cons_succ]
      refine wpAnyH_take (i := 17) rfl (by kernel_rfl) (by kernel_rfl) (by kernel_rfl) (fun _ _ _ h => h) (Or.inr ⟨by kernel_rfl, rfl⟩) hH ?_
      simp only [Act.put, List.getElem_toArray, List.getElem_cons_succ, List.getElem_cons_zero, List.setIfInBounds_toArray, List.set_cons_zero, List.set_cons_succ]
      refine wpAnyH_take (i := 18) rfl (by kernel_rfl) (by kernel_rfl) (by kernel_rfl) (fun _ _ _ h => h) (Or.inr ⟨by kernel_rfl, rfl⟩) hH ?_
      simp only [Act.put, List.getElem_toArray, List.getElem_cons_succ, List.getElem_cons_zero, List.setIfInBounds_toArray, List.set_cons_zero, List.set_cons_succ]
      refine wpAnyH_take (i := 19) rfl (by kernel_rfl) (by kernel_rfl) (by kernel_rfl) (fun _ _ _ h => h) (Or.inr ⟨by kernel_rfl, rfl⟩) hH ?_
      simp only [Act.put, List.getElem_toArray, List.getElem_cons_succ, List.getElem_cons_zero, List.setIfInBounds_toArray, List.set_cons_zero, List.set_cons_succ]
      refine wpAnyH_take (i := 20) (v := ?_) rfl (by kernel_rfl) (by kernel_rfl) (by kernel_rfl) (fun _ _ _ h => h) (Or.inl ⟨by kernel_rfl, ?_⟩) hH ?_
      rotate_left
      · intro W hS
        have h0 : W.cell? ⟨W4.heap.size, 0, none⟩ = some (.slice lo m lc) := (HRR.out.below hS).cell 0
        have h1 : W.cell? ⟨W4.heap.size, 1, none⟩ = some (.int .i64 (a : Int)) := (HRR.out.below hS).cell 1
        have h2 : W.cell? ⟨W4.heap.size, 2, none⟩ = some (.bool true) := (HRR.out.below hS).cell 2
        go_simp
        first | done | with_reducible rfl
      simp only [Act.put, List.getElem_toArray, List.getElem_cons_succ, List.getElem_cons_zero, List.setIfInBounds_toArray, List.set_cons_zero, List.set_cons_succ]
      refine wpAnyH_done (by kernel_rfl) ?_ _
      have HH8 := hid hH
      clear hH
      rename World => W8
      have hb8 := chain2 HB7.out HB7.out.size HH8.out
      have hres := HRES7.out.below HH8.out
      go_wp2_with (refine wpList_store_row rfl 32 _ _ rfl w.heap.size _ rfl rfl 32 #[.string ⟨#[]⟩, .string ⟨#[]⟩, .slice none 0 0, .int .i64 0, .int .i64 0, .int .i64 0, .slice none 0 0, .slice none 0 0, .int .i64 0] hres infoEntD rfl (oneEntS _ _ _ _ _ _ _ _ _ _ _ _ _ _ _) ?_)
      refine bodyPost_ret (results_row3 Tryd.results21 _ _ w.heap.size #[.string ⟨#[]⟩, .string ⟨#[]⟩, .slice none 0 0, .int .i64 0, .int .i64 0, .int .i64 0, .slice none 0 0, .slice none 0 0, .int .i64 0] rfl (hres.setRow _) Tryd.underlying32 rfl infoEntD) rfl ?_
      exact DecPost.err (by rw [HDEC.out, HENT.out]; rfl) (below_setRow (hb8) (Nat.le_refl _) _) rfl
    | some r =>
      have hb1 : bad = false := hbad
      subst hb1
      by_cases hr0 : r ≠ []
      · have hne : a ≠ m := by
          intro e
          apply hr0
          rw [HA.out.2.2 r rfl, e, ← HT4L.out.2]
          exact List.drop_length
        have daf : ((a : Int) == (m : Int)) = false := by rw [beq_eq_false_iff_ne]; omega
        have dan : ((a : Int) != (m : Int)) = true := by rw [bne, daf]; rfl
        clear hbad
        have HRRd := hid (fun (W : World) (h : Below W7.heap.size W7 W) => HRR.out.below h)
        go_wp2_with fail
        clear y0 y1 y2
        refine wp_region_held_drew (S := fun W' => Below W7.heap.size W7 W') (by kernel_rfl) (Below.refl _ _).drew (fun hH => ?_)
        refine wpAnyH_take (i := 0) (v := ?_) rfl (by kernel_rfl) (by kernel_rfl) (by kernel_rfl) (fun _ _ _ h => h) (Or.inl ⟨by kernel_rfl, ?_⟩) hH ?_
        rotate_left
        · intro W hS
          have h0 : W.cell? ⟨W4.heap.size, 0, none⟩ = some (.slice lo m lc) := (HRR.out.below hS).cell 0
          have h1 : W.cell? ⟨W4.heap.size, 1, none⟩ = some (.int .i64 (a : Int)) := (HRR.out.below hS).cell 1
          have h2 : W.cell? ⟨W4.heap.size, 2, none⟩ = some (.bool false) := (HRR.out.below hS).cell 2
          go_simp
          first | done | with_reducible rfl
        simp only [Act.put, List.getElem_toArray, List.getElem_cons_succ, List.getElem_cons_zero, List.setIfInBounds_toArray, List.set_cons_zero, List.set_cons_succ]
        refine wpAnyH_take (i := 1) (v := ?_) rfl (by kernel_rfl) (by kernel_rfl) (by kernel_rfl) (fun _ _ _ h => h) (Or.inl ⟨by kernel_rfl, ?_⟩) hH ?_
        rotate_left
        · intro W hS
          have h0 : W.cell? ⟨W4.heap.size, 0, none⟩ = some (.slice lo m lc) := (HRR.out.below hS).cell 0
          have h1 : W.cell? ⟨W4.heap.size, 1, none⟩ = some (.int .i64 (a : Int)) := (HRR.out.below hS).cell 1
          have h2 : W.cell? ⟨W4.heap.size, 2, none⟩ = some (.bool false) := (HRR.out.below hS).cell 2
          go_simp
          first | done | with_reducible rfl
        simp only [Act.put, List.getElem_toArray, List.getElem_cons_succ, List.getElem_cons_zero, List.setIfInBounds_toArray, List.set_cons_zero, List.set_cons_succ]
        refine wpAnyH_take (i := 2) (v := ?_) rfl (by kernel_rfl) (by kernel_rfl) (by kernel_rfl) (fun _ _ _ h => h) (Or.inl ⟨by kernel_rfl, ?_⟩) hH ?_
        rotate_left
        · intro W hS
          have h0 : W.cell? ⟨W4.heap.size, 0, none⟩ = some (.slice lo m lc) := (HRR.out.below hS).cell 0
          have h1 : W.cell? ⟨W4.heap.size, 1, none⟩ = some (.int .i64 (a : Int)) := (HRR.out.below hS).cell 1
          have h2 : W.cell? ⟨W4.heap.size, 2, none⟩ = some (.bool false) := (HRR.out.below hS).cell 2
          go_simp
          first | done | with_reducible rfl
        simp only [Act.put, List.getElem_toArray, List.getElem_cons_succ, List.getElem_cons_zero, List.setIfInBounds_toArray, List.set_cons_zero, List.set_cons_succ]
        refine wpAnyH_take (i := 3) (v := ?_) rfl (by kernel_rfl) (by kernel_rfl) (by kernel_rfl) (fun _ _ _ h => h) (Or.inl ⟨by kernel_rfl, ?_⟩) hH ?_
        rotate_left
        · intro W hS
          have h0 : W.cell? ⟨W4.heap.size, 0, none⟩ = some (.slice lo m lc) := (HRR.out.below hS).cell 0
          have h1 : W.cell? ⟨W4.heap.size, 1, none⟩ = some (.int .i64 (a : Int)) := (HRR.out.below hS).cell 1
          have h2 : W.cell? ⟨W4.heap.size, 2, none⟩ = some (.bool false) := (HRR.out.below hS).cell 2
          go_simp
          first | done | with_reducible rfl
        simp only [Act.put, List.getElem_toArray, List.getElem_cons_succ, List.getElem_cons_zero, List.setIfInBounds_toArray, List.set_cons_zero, List.set_cons_succ]
        refine wpAnyH_take (i := 4) (v := ?_) rfl (by kernel_rfl) (by kernel_rfl) (by kernel_rfl) (fun _ _ _ h => h) (Or.inl ⟨by kernel_rfl, ?_⟩) hH ?_
        rotate_left
        · intro W hS
          have h0 : W.cell? ⟨W4.heap.size, 0, none⟩ = some (.slice lo m lc) := (HRR.out.below hS).cell 0
          have h1 : W.cell? ⟨W4.heap.size, 1, none⟩ = some (.int .i64 (a : Int)) := (HRR.out.below hS).cell 1
          have h2 : W.cell? ⟨W4.heap.size, 2, none⟩ = some (.bool false) := (HRR.out.below hS).cell 2
          go_simp
          first | done | with_reducible rfl
        simp only [Act.put, List.getElem_toArray, List.getElem_cons_succ, List.getElem_cons_zero, List.setIfInBounds_toArray, List.set_cons_zero, List.set_cons_succ]
        refine wpAnyH_take (i := 5) (v := ?_) rfl (by kernel_rfl) (by kernel_rfl) (by kernel_rfl) (fun _ _ _ h => h) (Or.inl ⟨by kernel_rfl, ?_⟩) hH ?_
        rotate_left
        · intro W hS
          have h0 : W.cell? ⟨W4.heap.size, 0, none⟩ = some (.slice lo m lc) := (HRR.out.below hS).cell 0
          have h1 : W.cell? ⟨W4.heap.size, 1, none⟩ = some (.int .i64 (a : Int)) := (HRR.out.below hS).cell 1
          have h2 : W.cell? ⟨W4.heap.size, 2, none⟩ = some (.bool false) := (HRR.out.below hS).cell 2
          go_simp
          first | done | with_reducible rfl
        simp only [Act.put, List.getElem_toArray, List.getElem_cons_succ, List.getElem_cons_zero, List.setIfInBounds_toArray, List.set_cons_zero, List.set_cons_succ]
        refine wpAnyH_take (i := 6) (v := ?_) rfl (by kernel_rfl) (by kernel_rfl) (by kernel_rfl) (fun _ _ _ h => h) (Or.inl ⟨by kernel_rfl, ?_⟩) hH ?_
        rotate_left
        · intro W hS
          have h0 : W.cell? ⟨W4.heap.size, 0, none⟩ = some (.slice lo m lc) := (HRR.out.below hS).cell 0
          have h1 : W.cell? ⟨W4.heap.size, 1, none⟩ = some (.int .i64 (a : Int)) := (HRR.out.below hS).cell 1
          have h2 : W.cell? ⟨W4.heap.size, 2, none⟩ = some (.bool false) := (HRR.out.below hS).cell 2
          go_simp
          first | done | with_reducible rfl
        simp only [Act.put, List.getElem_toArray, List.getElem_cons_succ, List.getElem_cons_zero, List.setIfInBounds_toArray, List.set_cons_zero, List.set_cons_succ]
        refine wpAnyH_take (i := 7) (v := ?_) rfl (by kernel_rfl) (by kernel_rfl) (by kernel_rfl) (fun _ _ _ h => h) (Or.inl ⟨by kernel_rfl, ?_⟩) hH ?_
        rotate_left
        · intro W hS
          have h0 : W.cell? ⟨W4.heap.size, 0, none⟩ = some (.slice lo m lc) := (HRR.out.below hS).cell 0
          have h1 : W.cell? ⟨W4.heap.size, 1, none⟩ = some (.int .i64 (a : Int)) := (HRR.out.below hS).cell 1
          have h2 : W.cell? ⟨W4.heap.size, 2, none⟩ = some (.bool false) := (HRR.out.below hS).cell 2
          go_simp
          first | done | with_reducible rfl
        simp only [Act.put, List.getElem_toArray, List.getElem_cons_succ, List.getElem_cons_zero, List.setIfInBounds_toArray, List.set_cons_zero, List.set_cons_succ]
        refine wpAnyH_take (i := 8) (v := ?_) rfl (by kernel_rfl) (by kernel_rfl) (by kernel_rfl) (fun _ _ _ h => h) (Or.inl ⟨by kernel_rfl, ?_⟩) hH ?_
        rotate_left
        · intro W hS
          have h0 : W.cell? ⟨W4.heap.size, 0, none⟩ = some (.slice lo m lc) := (HRR.out.below hS).cell 0
          have h1 : W.cell? ⟨W4.heap.size, 1, none⟩ = some (.int .i64 (a : Int)) := (HRR.out.below hS).cell 1
          have h2 : W.cell? ⟨W4.heap.size, 2, none⟩ = some (.bool false) := (HRR.out.below hS).cell 2
          go_simp
          first | done | with_reducible rfl
        simp only [Act.put, List.getElem_toArray, List.getElem_cons_succ, List.getElem_cons_zero, List.setIfInBounds_toArray, List.set_cons_zero, List.set_cons_succ]
        refine wpAnyH_take (i := 9) (v := ?_) rfl (by kernel_rfl) (by kernel_rfl) (by kernel_rfl) (fun _ _ _ h => h) (Or.inl ⟨by kernel_rfl, ?_⟩) hH ?_
        rotate_left
        · intro W hS
          have h0 : W.cell? ⟨W4.heap.size, 0, none⟩ = some (.slice lo m lc) := (HRR.out.below hS).cell 0
          have h1 : W.cell? ⟨W4.heap.size, 1, none⟩ = some (.int .i64 (a : Int)) := (HRR.out.below hS).cell 1
          have h2 : W.cell? ⟨W4.heap.size, 2, none⟩ = some (.bool false) := (HRR.out.below hS).cell 2
          go_simp
          first | done | with_reducible rfl
        simp only [Act.put, List.getElem_toArray, List.getElem_cons_succ, List.getElem_cons_zero, List.setIfInBounds_toArray, List.set_cons_zero, List.set_cons_succ]
        refine wpAnyH_take (i := 10) (v := ?_) rfl (by kernel_rfl) (by kernel_rfl) (by kernel_rfl) (fun _ _ _ h => h) (Or.inl ⟨by kernel_rfl, ?_⟩) hH ?_
        rotate_left
        · intro W hS
          have h0 : W.cell? ⟨W4.heap.size, 0, none⟩ = some (.slice lo m lc) := (HRR.out.below hS).cell 0
          have h1 : W.cell? ⟨W4.heap.size, 1, none⟩ = some (.int .i64 (a : Int)) := (HRR.out.below hS).cell 1
          have h2 : W.cell? ⟨W4.heap.size, 2, none⟩ = some (.bool false) := (HRR.out.below hS).cell 2
          go_simp
          first | done | with_reducible rfl
        simp only [Act.put, List.getElem_toArray, List.getElem_cons_succ, List.getElem_cons_zero, List.setIfInBounds_toArray, List.set_cons_zero, List.set_cons_succ]
        refine wpAnyH_take (i := 11) (v := ?_) rfl (by kernel_rfl) (by kernel_rfl) (by kernel_rfl) (fun _ _ _ h => h) (Or.inl ⟨by kernel_rfl, ?_⟩) hH ?_
        rotate_left
        · intro W hS
          have h0 : W.cell? ⟨W4.heap.size, 0, none⟩ = some (.slice lo m lc) := (HRR.out.below hS).cell 0
          have h1 : W.cell? ⟨W4.heap.size, 1, none⟩ = some (.int .i64 (a : Int)) := (HRR.out.below hS).cell 1
          have h2 : W.cell? ⟨W4.heap.size, 2, none⟩ = some (.bool false) := (HRR.out.below hS).cell 2
          go_simp
          first | done | with_reducible rfl
        simp only [Act.put, List.getElem_toArray, List.getElem_cons_succ, List.getElem_cons_zero, List.setIfInBounds_toArray, List.set_cons_zero, List.set_cons_succ]
        refine wpAnyH_take (i := 12) (v := ?_) rfl (by kernel_rfl) (by kernel_rfl) (by kernel_rfl) (fun _ _ _ h => h) (Or.inl ⟨by kernel_rfl, ?_⟩) hH ?_
        rotate_left
        · intro W hS
          have h0 : W.cell? ⟨W4.heap.size, 0, none⟩ = some (.slice lo m lc) := (HRR.out.below hS).cell 0
          have h1 : W.cell? ⟨W4.heap.size, 1, none⟩ = some (.int .i64 (a : Int)) := (HRR.out.below hS).cell 1
          have h2 : W.cell? ⟨W4.heap.size, 2, none⟩ = some (.bool false) := (HRR.out.below hS).cell 2
          go_simp
          first | done | with_reducible rfl
        simp only [Act.put, List.getElem_toArray, List.getElem_cons_succ, List.getElem_cons_zero, List.setIfInBounds_toArray, List.set_cons_zero, List.set_cons_succ]
        refine wpAnyH_take (i := 13) (v := ?_) rfl (by kernel_rfl) (by kernel_rfl) (by kernel_rfl) (fun _ _ _ h => h) (Or.inl ⟨by kernel_rfl, ?_⟩) hH ?_
        rotate_left
        · intro W hS
          have h0 : W.cell? ⟨W4.heap.size, 0, none⟩ = some (.slice lo m lc) := (HRR.out.below hS).cell 0
          have h1 : W.cell? ⟨W4.heap.size, 1, none⟩ = some (.int .i64 (a : Int)) := (HRR.out.below hS).cell 1
          have h2 : W.cell? ⟨W4.heap.size, 2, none⟩ = some (.bool false) := (HRR.out.below hS).cell 2
          go_simp
          first | done | with_reducible rfl
        simp only [Act.put, List.getElem_toArray, List.getElem_cons_succ, List.getElem_cons_zero, List.setIfInBounds_toArray, List.set_cons_zero, List.set_cons_succ]
        refine wpAnyH_take (i := 14) (v := ?_) rfl (by kernel_rfl) (by kernel_rfl) (by kernel_rfl) (fun _ _ _ h => h) (Or.inl ⟨by kernel_rfl, ?_⟩) hH ?_
        rotate_left
        · intro W hS
          have h0 : W.cell? ⟨W4.heap.size, 0, none⟩ = some (.slice lo m lc) := (HRR.out.below hS).cell 0
          have h1 : W.cell? ⟨W4.heap.size, 1, none⟩ = some (.int .i64 (a : Int)) := (HRR.out.below hS).cell 1
          have h2 : W.cell? ⟨W4.heap.size, 2, none⟩ = some (.bool false) := (HRR.out.below hS).cell 2
          go_simp
          first | done | with_reducible rfl
        simp only [Act.put, List.getElem_toArray, List.getElem_cons_succ, List.getElem_cons_zero, List.setIfInBounds_toArray, List.set_cons_zero, List.set_cons_succ]
        refine wpAnyH_take (i := 15) (v := ?_) rfl (by kernel_rfl) (by kernel_rfl) (by kernel_rfl) (fun _ _ _ h => h) (Or.inl ⟨by kernel_rfl, ?_⟩) hH ?_
        rotate_left
        · intro W hS
          have h0 : W.cell? ⟨W4.heap.size, 0, none⟩ = some (.slice lo m lc) := (HRR.out.below hS).cell 0
          have h1 : W.cell? ⟨W4.heap.size, 1, none⟩ = some (.int .i64 (a : Int)) := (HRR.out.below hS).cell 1
          have h2 : W.cell? ⟨W4.heap.size, 2, none⟩ = some (.bool false) := (HRR.out.below hS).cell 2
          go_simp
          first | done | with_reducible rfl
        simp only [Act.put, List.getElem_toArray, List.getElem_cons_succ, List.getElem_cons_zero, List.setIfInBounds_toArray, List.set_cons_zero, List.set_cons_succ]
        refine wpAnyH_take (i := 16) (v := ?_) rfl (by kernel_rfl) (by kernel_rfl) (by kernel_rfl) (fun _ _ _ h => h) (Or.inl ⟨by kernel_rfl, ?_⟩) hH ?_
        rotate_left
        · intro W hS
          have h0 : W.cell? ⟨W4.heap.size, 0, none⟩ = some (.slice lo m lc) := (HRR.out.below hS).cell 0
          have h1 : W.cell? ⟨W4.heap.size, 1, none⟩ = some (.int .i64 (a : Int)) := (HRR.out.below hS).cell 1
          have h2 : W.cell? ⟨W4.heap.size, 2, none⟩ = some (.bool false) := (HRR.out.below hS).cell 2
          go_simp
          first | done | with_reducible rfl
        simp only [Act.put, List.getElem_toArray, List.getElem_cons_succ, List.getElem_cons_zero, List.setIfInBounds_toArray, List.set_cons_zero, List.set_cons_succ]
        refine wpAnyH_take (i := 17) rfl (by kernel_rfl) (by kernel_rfl) (by kernel_rfl) (fun _ _ _ h => h) (Or.inr ⟨by kernel_rfl, rfl⟩) hH ?_
        simp only [Act.put, List.getElem_toArray, List.getElem_cons_succ, List.getElem_cons_zero, List.setIfInBounds_toArray, List.set_cons_zero, List.set_cons_succ]
        refine wpAnyH_take (i := 18) rfl (by kernel_rfl) (by kernel_rfl) (by kernel_rfl) (fun _ _ _ h => h) (Or.inr ⟨by kernel_rfl, rfl⟩) hH ?_
        simp only [Act.put, List.getElem_toArray, List.getElem_cons_succ, List.getElem_cons_zero, List.setIfInBounds_toArray, List.set_cons_zero, List.set_cons_succ]
        refine wpAnyH_take (i := 19) rfl (by kernel_rfl) (by kernel_rfl) (by kernel_rfl) (fun _ _ _ h => h) (Or.inr ⟨by kernel_rfl, rfl⟩) hH ?_
        simp only [Act.put, List.getElem_toArray, List.getElem_cons_succ, List.getElem_cons_zero, List.setIfInBounds_toArray, List.set_cons_zero, List.set_cons_succ]
        refine wpAnyH_take (i := 20) (v := ?_) rfl (by kernel_rfl) (by kernel_rfl) (by kernel_rfl) (fun _ _ _ h => h) (Or.inl ⟨by kernel_rfl, ?_⟩) hH ?_
        rotate_left
        · intro W hS
          have h0 : W.cell? ⟨W4.heap.size, 0, none⟩ = some (.slice lo m lc) := (HRR.out.below hS).cell 0
          have h1 : W.cell? ⟨W4.heap.size, 1, none⟩ = some (.int .i64 (a : Int)) := (HRR.out.below hS).cell 1
          have h2 : W.cell? ⟨W4.heap.size, 2, none⟩ = some (.bool false) := (HRR.out.below hS).cell 2
          go_simp
          first | done | with_reducible rfl
        simp only [Act.put, List.getElem_toArray, List.getElem_cons_succ, List.getElem_cons_zero, List.setIfInBounds_toArray, List.set_cons_zero, List.set_cons_succ]
        refine wpAnyH_done (by kernel_rfl) ?_ _
        have HH8 := hid hH
        clear hH daf dan
        rename World => W8
        have hb8 := chain2 HB7.out HB7.out.size HH8.out
        have hres := HRES7.out.below HH8.out
        go_wp2_with (refine wpList_store_row rfl 32 _ _ rfl w.heap.size _ rfl rfl 32 #[.string ⟨#[]⟩, .string ⟨#[]⟩, .slice none 0 0, .int .i64 0, .int .i64 0, .int .i64 0, .slice none 0 0, .slice none 0 0, .int .i64 0] hres infoEntD rfl (oneEntS _ _ _ _ _ _ _ _ _ _ _ _ _ _ _) ?_)
        refine bodyPost_ret (results_row3 Tryd.results21 _ _ w.heap.size #[.string ⟨#[]⟩, .string ⟨#[]⟩, .slice none 0 0, .int .i64 0, .int .i64 0, .int .i64 0, .slice none 0 0, .slice none 0 0, .int .i64 0] rfl (hres.setRow _) Tryd.underlying32 rfl infoEntD) rfl ?_
        exact DecPost.err (by rw [HDEC.out, HENT.out]; simp only [Option.map_some]; rw [if_neg (fun h => hr0 h.1)]) (below_setRow (hb8) (Nat.le_refl _) _) rfl
      have hr1 : r = [] := by
        by_cases h : r = []
        · exact h
        · exact absurd h hr0
      subst hr1
      have hea : a = m := by
        have h1 := HA.out.2.2 [] rfl
        have h2 := congrArg List.length h1
        rw [List.length_drop, HT4L.out.2] at h2
        have h3 := HA.out.1
        rw [HT4L.out.2] at h3
        simp at h2
        omega
      have daf : ((a : Int) == (m : Int)) = true := by rw [beq_iff_eq]; omega
      have dan : ((a : Int) != (m : Int)) = false := by rw [bne, daf]; rfl
      have hent2 : entD c1.toNat D8 = some (x, []) := HENT.out
      have hsm := entD_small hent2 (by rw [HT4L.out.2]; omega)
      have HRRd := hid (fun (W : World) (h : Below W7.heap.size W7 W) => HRR.out.below h)
      have CR := hid (fun (W : World) (h : Below W7.heap.size W7 W) => r14Right_any r14Names_any x (.slice na nn nc) (.slice fa fn fc) (.slice da dn dc) W hsm (HAT.out.below h))
      have HD2 := hid (show decD D = if rightE x = true then (0, x, c1.toNat) else (10, zeroE, 0) by rw [HDEC.out, hent2]; simp)
      obtain ⟨q, hq⟩ : ∃ q, rightE x = q := ⟨_, rfl⟩
      rw [hq] at CR HD2
      clear hent2 hsm hq hr0 hbad HENT HDEC
      go_wp2_with fail
      clear y0 y1 y2
      refine wp_region_held_drew (S := fun W' => Below W7.heap.size W7 W') (by kernel_rfl) (Below.refl _ _).drew (fun hH => ?_)
      refine wpAnyH_take (i := 0) (v := ?_) rfl (by kernel_rfl) (by kernel_rfl) (by kernel_rfl) (fun _ _ _ h => h) (Or.inl ⟨by kernel_rfl, ?_⟩) hH ?_
      rotate_left
      · intro W hS
        have h0 : W.cell? ⟨W4.heap.size, 0, none⟩ = some (.slice lo m lc) := (HRR.out.below hS).cell 0
        have h1 : W.cell? ⟨W4.heap.size, 1, none⟩ = some (.int .i64 (a : Int)) := (HRR.out.below hS).cell 1
        have h2 : W.cell? ⟨W4.heap.size, 2, none⟩ = some (.bool false) := (HRR.out.below hS).cell 2
        go_simp
        first | done | with_reducible rfl
      simp only [Act.put, List.getElem_toArray, List.getElem_cons_succ, List.getElem_cons_zero, List.setIfInBounds_toArray, List.set_cons_zero, List.set_cons_succ]
      refine wpAnyH_take (i := 1) (v := ?_) rfl (by kernel_rfl) (by kernel_rfl) (by kernel_rfl) (fun _ _ _ h => h) (Or.inl ⟨by kernel_rfl, ?_⟩) hH ?_
      rotate_left
      · intro W hS
        have h0 : W.cell? ⟨W4.heap.size, 0, none⟩ = some (.slice lo m lc) := (HRR.out.below hS).cell 0
        have h1 : W.cell? ⟨W4.heap.size, 1, none⟩ = some (.int .i64 (a : Int)) := (HRR.out.below hS).cell 1
        have h2 : W.cell? ⟨W4.heap.size, 2, none⟩ = some (.bool false) := (HRR.out.below hS).cell 2
        go_simp
        first | done | with_reducible rfl
      simp only [Act.put, List.getElem_toArray, List.getElem_cons_succ, List.getElem_cons_zero, List.setIfInBounds_toArray, List.set_cons_zero, List.set_cons_succ]
      refine wpAnyH_take (i := 2) (v := ?_) rfl (by kernel_rfl) (by kernel_rfl) (by kernel_rfl) (fun _ _ _ h => h) (Or.inl ⟨by kernel_rfl, ?_⟩) hH ?_
      rotate_left
      · intro W hS
        have h0 : W.cell? ⟨W4.heap.size, 0, none⟩ = some (.slice lo m lc) := (HRR.out.below hS).cell 0
        have h1 : W.cell? ⟨W4.heap.size, 1, none⟩ = some (.int .i64 (a : Int)) := (HRR.out.below hS).cell 1
        have h2 : W.cell? ⟨W4.heap.size, 2, none⟩ = some (.bool false) := (HRR.out.below hS).cell 2
        go_simp
        first | done | with_reducible rfl
      simp only [Act.put, List.getElem_toArray, List.getElem_cons_succ, List.getElem_cons_zero, List.setIfInBounds_toArray, List.set_cons_zero, List.set_cons_succ]
      refine wpAnyH_take (i := 3) (v := ?_) rfl (by kernel_rfl) (by kernel_rfl) (by kernel_rfl) (fun _ _ _ h => h) (Or.inl ⟨by kernel_rfl, ?_⟩) hH ?_
      rotate_left
      · intro W hS
        have h0 : W.cell? ⟨W4.heap.size, 0, none⟩ = some (.slice lo m lc) := (HRR.out.below hS).cell 0
        have h1 : W.cell? ⟨W4.heap.size, 1, none⟩ = some (.int .i64 (a : Int)) := (HRR.out.below hS).cell 1
        have h2 : W.cell? ⟨W4.heap.size, 2, none⟩ = some (.bool false) := (HRR.out.below hS).cell 2
        go_simp
        first | done | with_reducible rfl
      simp only [Act.put, List.getElem_toArray, List.getElem_cons_succ, List.getElem_cons_zero, List.setIfInBounds_toArray, List.set_cons_zero, List.set_cons_succ]
      refine wpAnyH_take (i := 4) (v := ?_) rfl (by kernel_rfl) (by kernel_rfl) (by kernel_rfl) (fun _ _ _ h => h) (Or.inl ⟨by kernel_rfl, ?_⟩) hH ?_
      rotate_left
      · intro W hS
        have h0 : W.cell? ⟨W4.heap.size, 0, none⟩ = some (.slice lo m lc) := (HRR.out.below hS).cell 0
        have h1 : W.cell? ⟨W4.heap.size, 1, none⟩ = some (.int .i64 (a : Int)) := (HRR.out.below hS).cell 1
        have h2 : W.cell? ⟨W4.heap.size, 2, none⟩ = some (.bool false) := (HRR.out.below hS).cell 2
        go_simp
        first | done | with_reducible rfl
      simp only [Act.put, List.getElem_toArray, List.getElem_cons_succ, List.getElem_cons_zero, List.setIfInBounds_toArray, List.set_cons_zero, List.set_cons_succ]
      refine wpAnyH_take (i := 5) (v := ?_) rfl (by kernel_rfl) (by kernel_rfl) (by kernel_rfl) (fun _ _ _ h => h) (Or.inl ⟨by kernel_rfl, ?_⟩) hH ?_
      rotate_left
      · intro W hS
        have h0 : W.cell? ⟨W4.heap.size, 0, none⟩ = some (.slice lo m lc) := (HRR.out.below hS).cell 0
        have h1 : W.cell? ⟨W4.heap.size, 1, none⟩ = some (.int .i64 (a : Int)) := (HRR.out.below hS).cell 1
        have h2 : W.cell? ⟨W4.heap.size, 2, none⟩ = some (.bool false) := (HRR.out.below hS).cell 2
        go_simp
        first | done | with_reducible rfl
      simp only [Act.put, List.getElem_toArray, List.getElem_cons_succ, List.getElem_cons_zero, List.setIfInBounds_toArray, List.set_cons_zero, List.set_cons_succ]
      refine wpAnyH_take (i := 6) (v := ?_) rfl (by kernel_rfl) (by kernel_rfl) (by kernel_rfl) (fun _ _ _ h => h) (Or.inl ⟨by kernel_rfl, ?_⟩) hH ?_
      rotate_left
      · intro W hS
        have h0 : W.cell? ⟨W4.heap.size, 0, none⟩ = some (.slice lo m lc) := (HRR.out.below hS).cell 0
        have h1 : W.cell? ⟨W4.heap.size, 1, none⟩ = some (.int .i64 (a : Int)) := (HRR.out.below hS).cell 1
        have h2 : W.cell? ⟨W4.heap.size, 2, none⟩ = some (.bool false) := (HRR.out.below hS).cell 2
        go_simp
        first | done | with_reducible rfl
      simp only [Act.put, List.getElem_toArray, List.getElem_cons_succ, List.getElem_cons_zero, List.setIfInBounds_toArray, List.set_cons_zero, List.set_cons_succ]
      refine wpAnyH_take (i := 7) (v := ?_) rfl (by kernel_rfl) (by kernel_rfl) (by kernel_rfl) (fun _ _ _ h => h) (Or.inl ⟨by kernel_rfl, ?_⟩) hH ?_
      rotate_left
      · intro W hS
        have h0 : W.cell? ⟨W4.heap.size, 0, none⟩ = some (.slice lo m lc) := (HRR.out.below hS).cell 0
        have h1 : W.cell? ⟨W4.heap.size, 1, none⟩ = some (.int .i64 (a : Int)) := (HRR.out.below hS).cell 1
        have h2 : W.cell? ⟨W4.heap.size, 2, none⟩ = some (.bool false) := (HRR.out.below hS).cell 2
        go_simp
        first | done | with_reducible rfl
      simp only [Act.put, List.getElem_toArray, List.getElem_cons_succ, List.getElem_cons_zero, List.setIfInBounds_toArray, List.set_cons_zero, List.set_cons_succ]
      refine wpAnyH_take (i := 8) (v := ?_) rfl (by kernel_rfl) (by kernel_rfl) (by kernel_rfl) (fun _ _ _ h => h) (Or.inl ⟨by kernel_rfl, ?_⟩) hH ?_
      rotate_left
      · intro W hS
        have h0 : W.cell? ⟨W4.heap.size, 0, none⟩ = some (.slice lo m lc) := (HRR.out.below hS).cell 0
        have h1 : W.cell? ⟨W4.heap.size, 1, none⟩ = some (.int .i64 (a : Int)) := (HRR.out.below hS).cell 1
        have h2 : W.cell? ⟨W4.heap.size, 2, none⟩ = some (.bool false) := (HRR.out.below hS).cell 2
        go_simp
        first | done | with_reducible rfl
      simp only [Act.put, List.getElem_toArray, List.getElem_cons_succ, List.getElem_cons_zero, List.setIfInBounds_toArray, List.set_cons_zero, List.set_cons_succ]
      refine wpAnyH_take (i := 9) (v := ?_) rfl (by kernel_rfl) (by kernel_rfl) (by kernel_rfl) (fun _ _ _ h => h) (Or.inl ⟨by kernel_rfl, ?_⟩) hH ?_
      rotate_left
      · intro W hS
        have h0 : W.cell? ⟨W4.heap.size, 0, none⟩ = some (.slice lo m lc) := (HRR.out.below hS).cell 0
        have h1 : W.cell? ⟨W4.heap.size, 1, none⟩ = some (.int .i64 (a : Int)) := (HRR.out.below hS).cell 1
        have h2 : W.cell? ⟨W4.heap.size, 2, none⟩ = some (.bool false) := (HRR.out.below hS).cell 2
        go_simp
        first | done | with_reducible rfl
      simp only [Act.put, List.getElem_toArray, List.getElem_cons_succ, List.getElem_cons_zero, List.setIfInBounds_toArray, List.set_cons_zero, List.set_cons_succ]
      refine wpAnyH_take (i := 10) (v := ?_) rfl (by kernel_rfl) (by kernel_rfl) (by kernel_rfl) (fun _ _ _ h => h) (Or.inl ⟨by kernel_rfl, ?_⟩) hH ?_
      rotate_left
      · intro W hS
        have h0 : W.cell? ⟨W4.heap.size, 0, none⟩ = some (.slice lo m lc) := (HRR.out.below hS).cell 0
        have h1 : W.cell? ⟨W4.heap.size, 1, none⟩ = some (.int .i64 (a : Int)) := (HRR.out.below hS).cell 1
        have h2 : W.cell? ⟨W4.heap.size, 2, none⟩ = some (.bool false) := (HRR.out.below hS).cell 2
        go_simp
        first | done | with_reducible rfl
      simp only [Act.put, List.getElem_toArray, List.getElem_cons_succ, List.getElem_cons_zero, List.setIfInBounds_toArray, List.set_cons_zero, List.set_cons_succ]
      refine wpAnyH_take (i := 11) (v := ?_) rfl (by kernel_rfl) (by kernel_rfl) (by kernel_rfl) (fun _ _ _ h => h) (Or.inl ⟨by kernel_rfl, ?_⟩) hH ?_
      rotate_left
      · intro W hS
        have h0 : W.cell? ⟨W4.heap.size, 0, none⟩ = some (.slice lo m lc) := (HRR.out.below hS).cell 0
        have h1 : W.cell? ⟨W4.heap.size, 1, none⟩ = some (.int .i64 (a : Int)) := (HRR.out.below hS).cell 1
        have h2 : W.cell? ⟨W4.heap.size, 2, none⟩ = some (.bool false) := (HRR.out.below hS).cell 2
        go_simp
        first | done | with_reducible rfl
      simp only [Act.put, List.getElem_toArray, List.getElem_cons_succ, List.getElem_cons_zero, List.setIfInBounds_toArray, List.set_cons_zero, List.set_cons_succ]
      refine wpAnyH_take (i := 12) (v := ?_) rfl (by kernel_rfl) (by kernel_rfl) (by kernel_rfl) (fun _ _ _ h => h) (Or.inl ⟨by kernel_rfl, ?_⟩) hH ?_
      rotate_left
      · intro W hS
        have h0 : W.cell? ⟨W4.heap.size, 0, none⟩ = some (.slice lo m lc) := (HRR.out.below hS).cell 0
        have h1 : W.cell? ⟨W4.heap.size, 1, none⟩ = some (.int .i64 (a : Int)) := (HRR.out.below hS).cell 1
        have h2 : W.cell? ⟨W4.heap.size, 2, none⟩ = some (.bool false) := (HRR.out.below hS).cell 2
        go_simp
        first | done | with_reducible rfl
      simp only [Act.put, List.getElem_toArray, List.getElem_cons_succ, List.getElem_cons_zero, List.setIfInBounds_toArray, List.set_cons_zero, List.set_cons_succ]
      refine wpAnyH_take (i := 13) (v := ?_) rfl (by kernel_rfl) (by kernel_rfl) (by kernel_rfl) (fun _ _ _ h => h) (Or.inl ⟨by kernel_rfl, ?_⟩) hH ?_
      rotate_left
      · intro W hS
        have h0 : W.cell? ⟨W4.heap.size, 0, none⟩ = some (.slice lo m lc) := (HRR.out.below hS).cell 0
        have h1 : W.cell? ⟨W4.heap.size, 1, none⟩ = some (.int .i64 (a : Int)) := (HRR.out.below hS).cell 1
        have h2 : W.cell? ⟨W4.heap.size, 2, none⟩ = some (.bool false) := (HRR.out.below hS).cell 2
        go_simp
        first | done | with_reducible rfl
      simp only [Act.put, List.getElem_toArray, List.getElem_cons_succ, List.getElem_cons_zero, List.setIfInBounds_toArray, List.set_cons_zero, List.set_cons_succ]
      refine wpAnyH_take (i := 14) (v := ?_) rfl (by kernel_rfl) (by kernel_rfl) (by kernel_rfl) (fun _ _ _ h => h) (Or.inl ⟨by kernel_rfl, ?_⟩) hH ?_
      rotate_left
      · intro W hS
        have h0 : W.cell? ⟨W4.heap.size, 0, none⟩ = some (.slice lo m lc) := (HRR.out.below hS).cell 0
        have h1 : W.cell? ⟨W4.heap.size, 1, none⟩ = some (.int .i64 (a : Int)) := (HRR.out.below hS).cell 1
        have h2 : W.cell? ⟨W4.heap.size, 2, none⟩ = some (.bool false) := (HRR.out.below hS).cell 2
        go_simp
        first | done | with_reducible rfl
      simp only [Act.put, List.getElem_toArray, List.getElem_cons_succ, List.getElem_cons_zero, List.setIfInBounds_toArray, List.set_cons_zero, List.set_cons_succ]
      refine wpAnyH_take (i := 15) (v := ?_) rfl (by kernel_rfl) (by kernel_rfl) (by kernel_rfl) (fun _ _ _ h => h) (Or.inl ⟨by kernel_rfl, ?_⟩) hH ?_
      rotate_left
      · intro W hS
        have h0 : W.cell? ⟨W4.heap.size, 0, none⟩ = some (.slice lo m lc) := (HRR.out.below hS).cell 0
        have h1 : W.cell? ⟨W4.heap.size, 1, none⟩ = some (.int .i64 (a : Int)) := (HRR.out.below hS).cell 1
        have h2 : W.cell? ⟨W4.heap.size, 2, none⟩ = some (.bool false) := (HRR.out.below hS).cell 2
        go_simp
        first | done | with_reducible rfl
      simp only [Act.put, List.getElem_toArray, List.getElem_cons_succ, List.getElem_cons_zero, List.setIfInBounds_toArray, List.set_cons_zero, List.set_cons_succ]
      refine wpAnyH_take (i := 16) (v := ?_) rfl (by kernel_rfl) (by kernel_rfl) (by kernel_rfl) (fun _ _ _ h => h) (Or.inl ⟨by kernel_rfl, ?_⟩) hH ?_
      rotate_left
      · intro W hS
        have h0 : W.cell? ⟨W4.heap.size, 0, none⟩ = some (.slice lo m lc) := (HRR.out.below hS).cell 0
        have h1 : W.cell? ⟨W4.heap.size, 1, none⟩ = some (.int .i64 (a : Int)) := (HRR.out.below hS).cell 1
        have h2 : W.cell? ⟨W4.heap.size, 2, none⟩ = some (.bool false) := (HRR.out.below hS).cell 2
        go_simp
        first | done | with_reducible rfl
      simp only [Act.put, List.getElem_toArray, List.getElem_cons_succ, List.getElem_cons_zero, List.setIfInBounds_toArray, List.set_cons_zero, List.set_cons_succ]
      refine wpAnyH_take (i := 17) (v := .agg (rowE (.slice na nn nc) (.slice fa fn fc) (.slice da dn dc) x)) rfl (by kernel_rfl) (by kernel_rfl) (by kernel_rfl) (fun _ _ _ h => h) (Or.inl ⟨by kernel_rfl, ?_⟩) hH ?_
      · intro W hS
        exact load_gives (x := .tmp 8) (by kernel_rfl) w6.heap.size (by kernel_rfl) (HROW.out.below hS) Tryd.underlying32 rfl infoEntD
      simp only [Act.put, List.getElem_toArray, List.getElem_cons_succ, List.getElem_cons_zero, List.setIfInBounds_toArray, List.set_cons_zero, List.set_cons_succ]
      refine wpAnyH_ready (rs := [18]) (by kernel_rfl) (by simp) ?_
      refine AllReadyH.cons rfl (fun K hK => ?_) AllReadyH.nil
      go_simp
      refine (CR.out _ hH).mono ?_
      rintro x8 w8 ⟨rfl, hb8⟩
      refine hK.out _ _ (chain2 hH hH.size hb8) (fun hH => ?_)
      clear hb8
      clear hK K
      try simp only [Act.put, List.getElem_toArray, List.getElem_cons_succ, List.getElem_cons_zero, List.setIfInBounds_toArray, List.set_cons_zero, List.set_cons_succ]
      refine wpAnyH_take (i := 19) (v := ?_) rfl (by kernel_rfl) (by kernel_rfl) (by kernel_rfl) (fun _ _ _ h => h) (Or.inl ⟨by kernel_rfl, ?_⟩) hH ?_
      rotate_left
      · intro W hS
        have h0 : W.cell? ⟨W4.heap.size, 0, none⟩ = some (.slice lo m lc) := (HRR.out.below hS).cell 0
        have h1 : W.cell? ⟨W4.heap.size, 1, none⟩ = some (.int .i64 (a : Int)) := (HRR.out.below hS).cell 1
        have h2 : W.cell? ⟨W4.heap.size, 2, none⟩ = some (.bool false) := (HRR.out.below hS).cell 2
        go_simp
        first | done | with_reducible rfl
      simp only [Act.put, List.getElem_toArray, List.getElem_cons_succ, List.getElem_cons_zero, List.setIfInBounds_toArray, List.set_cons_zero, List.set_cons_succ]
      refine wpAnyH_take (i := 20) (v := ?_) rfl (by kernel_rfl) (by kernel_rfl) (by kernel_rfl) (fun _ _ _ h => h) (Or.inl ⟨by kernel_rfl, ?_⟩) hH ?_
      rotate_left
      · intro W hS
        have h0 : W.cell? ⟨W4.heap.size, 0, none⟩ = some (.slice lo m lc) := (HRR.out.below hS).cell 0
        have h1 : W.cell? ⟨W4.heap.size, 1, none⟩ = some (.int .i64 (a : Int)) := (HRR.out.below hS).cell 1
        have h2 : W.cell? ⟨W4.heap.size, 2, none⟩ = some (.bool false) := (HRR.out.below hS).cell 2
        go_simp
        first | done | with_reducible rfl
      simp only [Act.put, List.getElem_toArray, List.getElem_cons_succ, List.getElem_cons_zero, List.setIfInBounds_toArray, List.set_cons_zero, List.set_cons_succ]
      refine wpAnyH_done (by kernel_rfl) ?_ _
      have HH8 := hid hH
      clear hH CR HRRd
      rename World => W8
      cases q with
      | false =>
        have hb8 := chain2 HB7.out HB7.out.size HH8.out
        have hres := HRES7.out.below HH8.out
        go_wp2_with (refine wpList_store_row rfl 32 _ _ rfl w.heap.size _ rfl rfl 32 #[.string ⟨#[]⟩, .string ⟨#[]⟩, .slice none 0 0, .int .i64 0, .int .i64 0, .int .i64 0, .slice none 0 0, .slice none 0 0, .int .i64 0] hres infoEntD rfl (oneEntS _ _ _ _ _ _ _ _ _ _ _ _ _ _ _) ?_)
        refine bodyPost_ret (results_row3 Tryd.results21 _ _ w.heap.size #[.string ⟨#[]⟩, .string ⟨#[]⟩, .slice none 0 0, .int .i64 0, .int .i64 0, .int .i64 0, .slice none 0 0, .slice none 0 0, .int .i64 0] rfl (hres.setRow _) Tryd.underlying32 rfl infoEntD) rfl ?_
        exact DecPost.err (HD2.out) (below_setRow (hb8) (Nat.le_refl _) _) rfl
      | true =>
        have hb8 := chain2 HB7.out HB7.out.size HH8.out
        have hres := HRES7.out.below HH8.out
        have hrow := HROW.out.below HH8.out
        go_wp2_with (first
          | (refine wpList_load_row rfl 32 _ rfl w6.heap.size rfl 32 _ (0, 0) _ hrow Tryd.underlying32 rfl infoEntD ?_)
          | (refine wpList_store_row rfl 32 _ _ rfl w.heap.size _ rfl rfl 32 #[.string ⟨#[]⟩, .string ⟨#[]⟩, .slice none 0 0, .int .i64 0, .int .i64 0, .int .i64 0, .slice none 0 0, .slice none 0 0, .int .i64 0] hres infoEntD rfl (oneEntS _ _ _ _ _ _ _ _ _ _ _ _ _ _ _) ?_))
        refine bodyPost_ret (results_row3 Tryd.results21 _ _ w.heap.size (rowE (.slice na nn nc) (.slice fa fn fc) (.slice da dn dc) x) rfl (hres.setRow _) Tryd.underlying32 rfl infoEntD) rfl ?_
        have hd : decD D = (0, x, c1.toNat) := by rw [HD2.out]; rfl
        have kk := (Kept.refl (fun k => k = w.heap.size) W8).setRow (g := w.heap.size) (.inl rfl) (rowE (.slice na nn nc) (.slice fa fn fc) (.slice da dn dc) x)
        refine ⟨(.slice na nn nc), (.slice fa fn fc), (.slice da dn dc), by rw [hd]; rfl, ?_, (fun k e => Nat.le_of_lt (HIN.out.1 k e)), (fun k e => Nat.le_of_lt (HIN.out.2.1 k e)), (fun k e => Nat.le_of_lt (HIN.out.2.2 k e)), below_setRow hb8 (Nat.le_refl _) _⟩
        rw [hd]
        exact (HAT.out.below HH8.out).kept kk (fun k e hx => by have := HIN.out.1 k e; omega) (fun k e hx => by have := HIN.out.2.1 k e; omega) (fun k e hx => by have := HIN.out.2.2 k e; omega)
end Go.Proofs.YtdkhkeffheleeaaDoor
/-
  What the walks take of package entry; the document's example.
-/
set_option linter.unusedVariables false
set_option linter.unusedSimpArgs false
namespace Go.Pantry
open Go.RowKit
/-- []byte("..") of a constant: the bytes are marked as a string's -/
theorem run_mark_lit {P : Program} (w : World) (src e : TypeId) (xs : Array Value) (l c : Nat) (hs : P.underlying src = some (.slice e)) (he : P.underlying e = some (.int .u8)) :
    (convert src src (.slice (some ⟨w.heap.size, 0, none⟩) l c)).run P (w.alloc (.cells xs e)) = .ok (.slice (some ⟨w.heap.size, 0, none⟩) l c) (w.alloc (.cells xs e (xs.size, xs.size + 1))) := by
  have hsh : (w.alloc (.cells xs e)).shape? w.heap.size = some (e, xs.size) := by
    have : (w.alloc (.cells xs e)).heap[w.heap.size]? = some (.cells xs e) := by
      show (w.heap.push (.cells xs e))[w.heap.size]? = _
      simp
    unfold World.shape?
    rw [this]
  have hfr : (w.alloc (.cells xs e)).freeze ⟨w.heap.size, xs.size, none⟩ 1 = w.alloc (.cells xs e (xs.size, xs.size + 1)) := by
    have hm : ∀ (a : Array Obj) (x : Obj) (f : Obj → Obj), (a.push x).modify a.size f = a.push (f x) := by
      intro a x f
      apply Array.ext
      · simp
      · intro i h1 h2
        simp only [Array.getElem_modify, Array.getElem_push]
        by_cases h : a.size = i
        · subst h
          simp
        · have hi : i < a.size := by simp at h1; omega
          simp [h, hi]
    unfold World.freeze
    rw [if_neg (by decide)]
    show ({ w.alloc (.cells xs e) with heap := (w.heap.push (.cells xs e)).modify w.heap.size _ } : World) = _
    rw [hm]
    rfl
  simp [convert, run_underlying hs, run_underlying he, markStringish, hsh]
  exact hfr
/-- all below w's end as it was then -/
structure Since (w w' : World) : Prop where
  b : Below w.heap.size w w'
theorem Since.below {w w' w'' : World} (h : Since w w') (hb : Below w'.heap.size w' w'') : Since w w'' := ⟨chain2 h.b h.b.size hb⟩
theorem Since.self (w : World) : Since w w := ⟨Below.refl _ _⟩
structure BytesH (w : World) (v : Value) (l : List UInt8) : Prop where
  b : Bytes w v l
theorem BytesH.below {w w' : World} {v : Value} {l : List UInt8} (h : BytesH w v l) (hb : Below w.heap.size w w') : BytesH w' v l := ⟨bytes_below h.b hb⟩
abbrev In14 (z : Int) : Prop := -9223372036854775808 ≤ z ∧ z ≤ 9223372036854775807
theorem in14 {x : Int} (h : (Lit.int .i64 x).wf = true) : In14 x := by
  simp [Lit.wf, IntKind.min, IntKind.max, IntKind.signed, IntKind.bits] at h
  exact ⟨by omega, by omega⟩
theorem bytes_room {w : World} {v : Value} {l : List UInt8} (h : Reads w v (l.map byteV)) (hc : ∀ ao n cap, v = .slice ao n cap → n ≤ cap) : Bytes w v l := by
  obtain ⟨ao, cap, hv, hr⟩ := id h
  rw [List.length_map] at hv
  subst hv
  exact ⟨ao, cap, rfl, hc ao _ cap rfl, h⟩
abbrev exE : EntP := ⟨[107], [], [], 0, 0, 200, [], [98], 1⟩
theorem exE_rest : restB 1 exE = [0, 1, 107, 0, 0, 0, 0, 0, 0, 0, 0, 0, 0, 0, 0, 0, 0, 0, 0, 0, 200, 0, 0, 0, 1, 98] := by decide +kernel
theorem exE_right : rightE exE = true := by decide +kernel
theorem exE_fits : fitsE 1 exE = true := by decide +kernel
theorem exE_len : (recB (1 : Int).toNat exE).length = 34 := by
  rw [recB_len]
  show (restB 1 exE).length + 8 = 34
  rw [exE_rest]; rfl
theorem exE_enc : encC 1 exE = 0 := by
  unfold encC
  rw [if_neg (by decide), if_neg (by rw [exE_right]; decide), if_neg (by rw [exE_fits]; decide), if_neg (by rw [exE_len]; decide)]
theorem exE_encl : (encB 1 exE).length = 34 := by rw [(enc_rec exE_enc).1]; exact exE_len
theorem exE_dec : decD (encB 1 exE) = (0, exE, 1) := (enc_rec exE_enc).2.1
theorem exE_last : (encB 1 exE)[33]? = some 98 := by
  rw [(enc_rec exE_enc).1]
  have e : recB (1 : Int).toNat exE = (69 :: UInt8.ofNat 1 :: (numB (restB 1 exE).length 2 ++ numB (sumL (restB 1 exE)) 4)) ++ restB 1 exE := by
    show recB 1 exE = _
    unfold recB; simp
  have e2 : (69 :: UInt8.ofNat 1 :: (numB (restB 1 exE).length 2 ++ numB (sumL (restB 1 exE)) 4)).length = 8 := by
    rw [List.length_cons, List.length_cons, List.length_append, numB_len, numB_len]
  rw [e, List.getElem?_append_right (by rw [e2]; decide), e2, exE_rest]
  rfl
theorem exE_bad : decD ((encB 1 exE).set 33 99) = (44, zeroE, 0) := dec_turned exE_enc (by decide) exE_last (by decide)
theorem exE_small : SmallE exE := ⟨by decide, by decide, by decide, (fun n hn => by cases hn), by decide, (fun f hf => by cases hf), by decide⟩
theorem zeroE_small : SmallE zeroE := ⟨by decide, by decide, by decide, (fun n hn => by cases hn), by decide, (fun f hf => by cases hf), by decide⟩
theorem right_small {e : EntP} (h : rightE e = true) : SmallE e := by
  have hr := rightE_parts h
  have h1 := hr.key
  have h2 := hr.second
  have h3 := hr.names
  have h4 := hr.body
  have h5 := hr.flds
  exact ⟨by omega, by omega, by omega, fun n hn => by have := hr.each n hn; omega, by omega, fun f hf => by have := hr.fld f hf; omega, by omega⟩
theorem dec_ver {D : List UInt8} {e : EntP} {v : Nat} (h : decD D = (0, e, v)) : 1 ≤ v ∧ v ≤ 3 := by
  unfold decD at h
  split at h
  · cases h
  · split at h
    · cases h
    · rename_i h2
      split at h
      · cases h
      · split at h
        · cases h
        · split at h
          · cases h
          · split at h
            · simp only [Prod.mk.injEq] at h
              obtain ⟨-, -, rfl⟩ := h
              omega
            · cases h
theorem enc_of_dec {b : List UInt8} {e : EntP} {v : Nat} (h : decD b = (0, e, v)) : encC (v : Int) e = 0 ∧ encB (v : Int) e = b := by
  obtain ⟨h1, h2, h3⟩ := enc_dec h
  have hv := dec_ver h
  have hc : encC (v : Int) e = 0 := by
    unfold encC
    have hr := (fits_parts h2).1
    rw [if_neg (by omega), if_neg (by rw [hr]; decide), if_neg (by rw [h2]; decide), if_neg (by rw [Int.toNat_natCast, h1]; omega)]
  exact ⟨hc, by rw [(enc_rec hc).1, Int.toNat_natCast]; exact h1⟩
theorem dec_small (D : List UInt8) : SmallE (decD D).2.1 := by
  unfold decD
  split
  · exact zeroE_small
  · split
    · exact zeroE_small
    · split
      · exact zeroE_small
      · split
        · exact zeroE_small
        · split
          · exact zeroE_small
          · split
            · rename_i h
              exact right_small h.2
            · exact zeroE_small
end Go.Pantry
namespace Go.Proofs.YtdkhkeffheleeaaDoor
open Go.RowKit Go.Pantry

/-- package entry's contracts, in worlds where Ok holds -/
structure Entries (Ok : World → Prop) : Prop where
  keep : ∀ w w', Ok w → Below w.heap.size w w' → Ok w'
  right : ∀ (e : EntP) (nv fv bv : Value) (w : World), Ok w → SmallE e → EntAt w nv fv bv e → Calls Tryd.prog 14 #[.agg (rowE nv fv bv e)] w fun x w' => x = .returned (.bool (rightE e)) ∧ Below w.heap.size w w'
  fits : ∀ (e : EntP) (v : Int) (nv fv bv : Value) (w : World), Ok w → In14 v → SmallE e → EntAt w nv fv bv e → Calls Tryd.prog 16 #[.agg (rowE nv fv bv e), .int .i64 v] w fun x w' => x = .returned (.bool (fitsE v e)) ∧ Below w.heap.size w w'
  same : ∀ (a b : EntP) (pnv pfv pbv qnv qfv qbv : Value) (w : World), Ok w → SmallE a → SmallE b → EntAt w pnv pfv pbv a → EntAt w qnv qfv qbv b → Calls Tryd.prog 23 #[.agg (rowE pnv pfv pbv a), .agg (rowE qnv qfv qbv b)] w fun x w' => x = .returned (.bool (decide (a = b))) ∧ Below w.heap.size w w'
  encode : ∀ (v : Int) (e : EntP) (nv fv bv : Value) (w : World), Ok w → In14 v → SmallE e → EntAt w nv fv bv e → Calls Tryd.prog 13 #[.int .i64 v, .agg (rowE nv fv bv e)] w fun x w' => (∃ r, x = .returned (.tuple #[r, .int .i64 (encC v e)]) ∧ OwnB 5 w' w.heap.size r (encB v e)) ∧ Below w.heap.size w w'
  decode : ∀ (bv : Value) (D : List UInt8) (w : World), Ok w → Bytes w bv D → D.length ≤ 90000 → Calls Tryd.prog 19 #[bv] w (DecPost w D)
  turn : ∀ (bv : Value) (D : List UInt8) (v : Int) (w : World), Ok w → In14 v → Bytes w bv D → D.length ≤ 90000 → Calls Tryd.prog 22 #[bv, .int .i64 v] w fun x w' => (∃ r, x = .returned (.tuple #[r, .int .i64 (turnC D v)]) ∧ Bytes w' r (turnB D v)) ∧ Below w.heap.size w w'
theorem infoEntP : (Tryd.prog.info? 27).map (·.size) = some 9 := by kernel_rfl
theorem ownsRow_set14 {w : World} {B : Nat} {e : TypeId} {g n cap : Nat} {xs : List Value} (h : w.ownsRow B e 1 (.slice (some ⟨g, 0, none⟩) n cap) n xs) (k : Nat) (hk : k < n) (u : Value) : (w.setCell ⟨g, k, none⟩ u).ownsRow B e 1 (.slice (some ⟨g, 0, none⟩) n cap) n (xs.set k u) := by
  refine ⟨by rw [List.length_set]; exact h.1, ?_⟩
  rcases h.2 with ⟨hv, _⟩ | ⟨g', cap', cur, hv, hb, hg, hnc, hcm, hcs, htake⟩
  · cases hv
  · cases hv
    refine .inr ⟨g, cap, cur.setIfInBounds k u, rfl, hb, ?_, hnc, hcm, by simpa using hcs, ?_⟩
    · rw [setCell_eq_setRow w g k cur e (0, 0) u hg]
      exact setRow_heap w g cur _ e _ hg
    · rw [Array.toList_setIfInBounds, ← htake, List.take_set]
theorem own_slice {w : World} {B : Nat} {e : TypeId} {v : Value} {l : List UInt8} (h : OwnB e w B v l) (hl : l ≠ []) : ∃ g cap, v = .slice (some ⟨g, 0, none⟩) l.length cap := by
  rcases h.2 with ⟨hv, hn⟩ | ⟨g, cap, cur, hv, _⟩
  · exact absurd (List.eq_nil_of_length_eq_zero hn) hl
  · exact ⟨g, cap, hv⟩
theorem own_form14 {w : World} {B : Nat} {e : TypeId} {v : Value} {l : List UInt8} (h : OwnB e w B v l) : ∃ a cap, v = .slice a l.length cap := by
  rcases h.2 with ⟨hv, hn⟩ | ⟨g, cap, cur, hv, _⟩
  · exact ⟨none, 0, by rw [hv, hn]⟩
  · exact ⟨_, cap, hv⟩
theorem own_free {w : World} {B : Nat} {e : TypeId} {g n cap : Nat} {xs : List Value} (h : w.ownsRow B e 1 (.slice (some ⟨g, 0, none⟩) n cap) n xs) (k : Nat) : w.frozen? ⟨g, k, none⟩ = false := by
  rcases h.2 with ⟨hv, _⟩ | ⟨g', cap', cur, hv, hb, hg, _⟩
  · cases hv
  · cases hv
    exact rowIs.free (cs := cur) (t := e) hg k
/-- the cells of a slice of the call's own -/
theorem own_cell {w : World} {B : Nat} {e : TypeId} {g n cap : Nat} {xs : List Value} (h : w.ownsRow B e 1 (.slice (some ⟨g, 0, none⟩) n cap) n xs) {k : Nat} {u : Value} (hk : xs[k]? = some u) : w.cell? ⟨g, k, none⟩ = some u := by
  exact h.row.cell k u hk
end Go.Proofs.YtdkhkeffheleeaaDoor
/-
  Contracts of package entry: within, known, rightName, rightNames, Right, varies, Fits.
-/
set_option linter.unusedVariables false
set_option linter.unusedSimpArgs false
namespace Go.Proofs.YtdkhkeffheleeaaDoor
open Go.RowKit Go.Pantry

theorem infoEntK : (Tryd.prog.info? 27).map (·.size) = some 9 := by kernel_rfl
def withB (n lo hi : Int) : Bool := decide (lo ≤ n) && decide (n ≤ hi)
theorem within_any (n lo hi : Int) (w : World) :
    Calls Tryd.prog 29 #[.int .i64 n, .int .i64 lo, .int .i64 hi] w fun e w' => e = .returned (.bool (withB n lo hi)) ∧ w = w' := by
  unfold withB
  obtain ⟨a, ha⟩ : ∃ b, decide (lo ≤ n) = b := ⟨_, rfl⟩
  obtain ⟨b, hb⟩ : ∃ b, decide (n ≤ hi) = b := ⟨_, rfl⟩
  rw [ha, hb]
  cases a
  all_goals
    go_enter Tryd.func29, Tryd.ntmps29
    go_wp2_with fail
    go_ret
    exact ⟨rfl, rfl⟩
theorem known_any (n : Int) (w : World) :
    Calls Tryd.prog 25 #[.int .i64 n] w fun e w' => e = .returned (.bool (withB n 1 3)) ∧ w = w' := by
  go_enter Tryd.func25, Tryd.ntmps25
  go_wp2_with fail
  refine (within_any n 1 3 w).mono ?_
  rintro e w' ⟨rfl, rfl⟩
  go_wp2_with fail
  go_ret
  exact ⟨rfl, rfl⟩
/-- is a name right? -/
def nameB (s : List UInt8) : Bool := decide (s.length ≤ 64) && (tokenL s && (lowerL s == s))
set_option maxRecDepth 8000 in
theorem rightName_any (s : List UInt8) (w : World) (hs : s.length ≤ 9000000000000000000) :
    Calls Tryd.prog 53 #[strV s] w fun e w' => e = .returned (.bool (nameB s)) ∧ Below w.heap.size w w' := by
  have hz : ((⟨s.toArray⟩ : ByteArray).size : Int) = (s.length : Int) := by rw [szL]
  unfold nameB
  have cT : Calls Tryd.prog 66 #[strV s] w fun e w' => e = .returned (.bool (tokenL s)) ∧ w = w' := Token_any ⟨s.toArray⟩ w (by rw [szL]; unfold maxLen; omega)
  have cL : Calls Tryd.prog 67 #[strV s] w fun e w' => e = .returned (strV (lowerL s)) ∧ Below w.heap.size w w' := Lower_any ⟨s.toArray⟩ w (by rw [szL]; unfold maxLen; omega)
  generalize lowerL s = l at cL ⊢
  obtain ⟨t, ht⟩ : ∃ t, tokenL s = t := ⟨_, rfl⟩
  rw [ht] at cT ⊢
  have CT := hid cT
  have CL := hid cL
  obtain ⟨q, hq⟩ : ∃ q, (l == s) = q := ⟨_, rfl⟩
  rw [hq]
  clear cT cL ht
  by_cases h1 : (s.length : Int) ≤ 64
  · have d1 : decide ((s.length : Int) ≤ 64) = true := decide_eq_true h1
    rw [decide_eq_true (show s.length ≤ 64 by omega)]
    go_enter Tryd.func53, Tryd.ntmps53
    go_wp2_with fail
    refine CT.out.mono ?_
    rintro e w1 ⟨rfl, rfl⟩
    cases t with
    | false =>
      go_wp2_with fail
      go_ret
      exact ⟨rfl, Below.refl _ _⟩
    | true =>
      go_wp2_with fail
      refine CL.out.mono ?_
      rintro e w1 ⟨rfl, hb⟩
      have HB := hid hb
      clear hb
      go_wp2_with fail
      go_ret
      exact ⟨rfl, HB.out⟩
  · have d1 : decide ((s.length : Int) ≤ 64) = false := decide_eq_false h1
    rw [decide_eq_false (show ¬ s.length ≤ 64 by omega)]
    go_enter Tryd.func53, Tryd.ntmps53
    go_wp2_with fail
    go_ret
    exact ⟨rfl, Below.refl _ _⟩
theorem nameAt_B {ns : List (List UInt8)} {k : Nat} {x : List UInt8} (h : ns[k]? = some x) : nameAt ns k = (nameB x && (k == 0 || decide (ns.getD (k - 1) [] < x))) := by
  rw [nameAt_at h]
  unfold nameB
  cases tokenL x <;> cases (lowerL x == x) <;> cases decide (x.length ≤ 64) <;> rfl
theorem geq_less (x y : List UInt8) : (!Op.bytesLess x y) = !decide (x < y) := by rw [Go.Proofs.bytesLess_eq]
set_option maxRecDepth 8000 in
set_option maxHeartbeats 4000000 in
theorem rightNames_any (v : Value) (ns : List (List UInt8)) (w : World) (hr : Reads w v (ns.map strV)) (hl : ns.length ≤ 5000) (hb : ∀ n ∈ ns, n.length ≤ 5000) :
    Calls Tryd.prog 28 #[v] w fun e w' => e = .returned (.bool (namesOk ns)) ∧ Below w.heap.size w w' := by
  obtain ⟨no, nc, rfl⟩ := hr.strs
  obtain ⟨n, hn⟩ : ∃ n, ns.length = n := ⟨_, rfl⟩
  rw [hn] at hr hl ⊢
  have HN := hid hn
  have HR := hid hr
  have HBD := hid hb
  obtain ⟨R, hR⟩ : ∃ R, namesOk ns = R := ⟨_, rfl⟩
  rw [hR]
  have HRR := hid hR
  have HNO := hid (fun (k : Nat) (hk : k < ns.length) (h : nameAt ns k = false) => (hR.symm.trans (names_no hk h) : R = false))
  clear hr hb hn hR
  go_enter Tryd.func28, Tryd.ntmps28
  by_cases h8 : (8 : Int) < (n : Int)
  · have d8 : decide ((8 : Int) < (n : Int)) = true := decide_eq_true h8
    have hr0 : R = false := by
      rw [← HRR.out]
      unfold namesOk
      rw [decide_eq_false (by rw [HN.out]; omega)]; rfl
    subst hr0
    go_wp2_with fail
    go_ret
    exact ⟨rfl, Below.refl _ _⟩
  have d8 : decide ((8 : Int) < (n : Int)) = false := decide_eq_false h8
  have h8n : (n : Int) ≤ 8 := by omega
  go_wp2_with fail
  go_loopw [10] (fun i wr => ∃ k : Nat, k ≤ n ∧ i = .int .i64 (k : Int) ∧ (List.range k).all (nameAt ns) = true ∧ Below w.heap.size w wr) (fun i _ => n - (intOf i).toNat)
  case atStart => exact ⟨0, Nat.zero_le _, rfl, rfl, Below.refl _ _⟩
  case round =>
    obtain ⟨k, hk, rfl, hall, hbr⟩ := hrel
    have HA := hid hall
    have HBR := hid hbr
    clear hall
    by_cases hlt : k < n
    · obtain ⟨x, hx⟩ : ∃ x, ns[k]? = some x := ⟨_, List.getElem?_eq_getElem (by rw [HN.out]; exact hlt)⟩
      obtain ⟨bb, off, hao, d0⟩ := (HR.out.below hbr).str hx
      subst hao
      have hkI : (k : Int) < (n : Int) := by omega
      have hk0 : (0 : Int) ≤ (k : Int) := by omega
      have hkw : IntKind.i64.wrap ((k : Int) + 1) = (k : Int) + 1 := IntWalk.i64_in _ (by omega)
      have cN := rightName_any x wr (by have := HBD.out x (List.mem_of_getElem? hx); omega)
      have hat := nameAt_B hx
      have hno := HNO.out k (by rw [HN.out]; exact hlt)
      have hgo : nameAt ns k = true → (List.range (k + 1)).all (nameAt ns) = true := fun h => by rw [range_all, HA.out, h]; rfl
      obtain ⟨q, hq⟩ : ∃ q, nameB x = q := ⟨_, rfl⟩
      rw [hq] at cN hat
      have HAT := hid hat
      have HNK := hid hno
      have HGO := hid hgo
      have CN := hid cN
      have HX := hid hx
      clear hat hno hgo cN hq hx hbr
      go_wp2_with fail
      refine CN.out.mono ?_
      rintro e w1 ⟨rfl, hb1⟩
      have HB1 := hid (chain2 HBR.out HBR.out.size hb1)
      clear hb1 d0
      cases q with
      | false =>
        have hr0 : R = false := HNK.out (by rw [HAT.out]; rfl)
        subst hr0
        go_wp2_with fail
        go_ret
        exact ⟨rfl, HB1.out⟩
      | true =>
        cases k with
        | zero =>
          have hz : ¬ ((0 : Int) < ((0 : Nat) : Int)) := by decide
          have HN1 := hid (HGO.out (by rw [HAT.out]; rfl))
          go_wp2_with fail
          go_roundw
          case rel => exact ⟨1, hlt, by go_num, HN1.out, HB1.out⟩
          case measure => simp [intOf]; omega
        | succ p =>
          obtain ⟨y, hy⟩ : ∃ y, ns[p]? = some y := ⟨_, List.getElem?_eq_getElem (by rw [HN.out]; omega)⟩
          obtain ⟨bb2, off2, hao2, d1⟩ := (HR.out.below HB1.out).str hy
          cases hao2
          have hpos : (0 : Int) < ((p + 1 : Nat) : Int) := by omega
          have dpos : decide ((0 : Int) < ((p + 1 : Nat) : Int)) = true := decide_eq_true hpos
          have hw1 : IntKind.i64.wrap (((p + 1 : Nat) : Int) - 1) = (p : Int) := by rw [IntWalk.i64_in _ (by omega)]; omega
          have hp0 : (0 : Int) ≤ (p : Int) := by omega
          have hpn : (p : Int) < (n : Int) := by omega
          have hg : ns.getD p [] = y := by rw [List.getD_eq_getElem?_getD, hy]; rfl
          have hat2 := HAT.out
          rw [show p + 1 - 1 = p by omega, hg] at hat2
          obtain ⟨b, hb⟩ : ∃ b, Op.bytesLess y x = b := ⟨_, rfl⟩
          rw [show decide (y < x) = b by rw [← hb, Go.Proofs.bytesLess_eq]] at hat2
          have HAT2 := hid hat2
          clear hat2 hg hy
          cases b with
          | false =>
            have hr0 : R = false := HNK.out (by rw [HAT2.out]; rfl)
            subst hr0
            go_wp2_with fail
            go_ret
            exact ⟨rfl, HB1.out⟩
          | true =>
            have HN1 := hid (HGO.out (by rw [HAT2.out]; simp))
            go_wp2_with fail
            go_roundw
            case rel => exact ⟨p + 1 + 1, hlt, by go_num, HN1.out, HB1.out⟩
            case measure => simp [intOf]; omega
    · have hkn : k = n := by omega
      subst hkn
      have hkd : decide ((k : Int) < (k : Int)) = false := decide_eq_false (by omega)
      have hkx : ¬ ((k : Int) < (k : Int)) := by omega
      have hr1 : R = true := by
        rw [← HRR.out]
        unfold namesOk
        rw [HN.out, HA.out, decide_eq_true (by omega)]; rfl
      subst hr1
      go_wp2_with fail
      go_ret
      exact ⟨rfl, HBR.out⟩

set_option maxRecDepth 8000 in
set_option maxHeartbeats 8000000 in
theorem entRight_any (e : EntP) (nv fv bv : Value) (w : World) (hs : SmallE e) (hat : EntAt w nv fv bv e) :
    Calls Tryd.prog 14 #[.agg (rowE nv fv bv e)] w fun x w' => x = .returned (.bool (rightE e)) ∧ Below w.heap.size w w' := by
  obtain ⟨no, nc, rfl⟩ := hat.names.strs
  obtain ⟨fo, fc, rfl⟩ := hat.flds.form
  obtain ⟨bo, bc, hbv⟩ : ∃ ao cap, bv = .slice ao e.body.length cap := by
    obtain ⟨ao, cap, h, -⟩ := hat.body
    exact ⟨ao, cap, by rw [h, List.length_map]⟩
  subst hbv
  obtain ⟨W0, hW0⟩ : ∃ W, w.alloc (.cells (rowE (.slice no e.names.length nc) (.slice fo e.fields.length fc) (.slice bo e.body.length bc) e) 27) = W := ⟨_, rfl⟩
  have hbW : Below w.heap.size w W0 := by rw [← hW0]; exact below_alloc _ _
  have q1 : rowIs W0 w.heap.size (rowE (.slice no e.names.length nc) (.slice fo e.fields.length fc) (.slice bo e.body.length bc) e) 27 := by rw [← hW0]; exact rowIs_new _ _ _
  have cN := rightNames_any (.slice no e.names.length nc) e.names _ (hat.names.below hbW) hs.names hs.each
  have cF := fun (W : World) (h : Below w.heap.size w W) => lRight_wide (.slice fo e.fields.length fc) e.fields W (hat.flds.below h) (fun f hf => by have := hs.fld f hf; omega)
  have hzk : ((⟨e.key.toArray⟩ : ByteArray).size : Int) = (e.key.length : Int) := by rw [szL]
  have hzs : ((⟨e.second.toArray⟩ : ByteArray).size : Int) = (e.second.length : Int) := by rw [szL]
  have hkl := hs.key
  have hsl := hs.second
  have hbl := hs.body
  obtain ⟨R, hR⟩ : ∃ R, rightE e = R := ⟨_, rfl⟩
  have hRR : R = ((decide (1 ≤ e.key.length) && (decide (e.key.length ≤ 1200) && (decide (e.second.length ≤ 600) && (namesOk e.names && decide (e.body.length ≤ 2048))))) && (withB e.asked 0 253402300799 && (withB e.came 0 253402300799 && (withB e.status 200 599 && (rightFs e.fields && withB e.gen 1 253402300799))))) := hR.symm
  have hk0 : (e.key != ([] : List UInt8)) = decide (1 ≤ e.key.length) := by cases e.key <;> simp
  rw [hR]
  rw [← hk0] at hRR
  obtain ⟨b0, hb0⟩ : ∃ b, (e.key != ([] : List UInt8)) = b := ⟨_, rfl⟩
  obtain ⟨b1, hb1⟩ : ∃ b, decide ((e.key.length : Int) ≤ 1200) = b := ⟨_, rfl⟩
  obtain ⟨b2, hb2⟩ : ∃ b, decide ((e.second.length : Int) ≤ 600) = b := ⟨_, rfl⟩
  obtain ⟨b8, hb8⟩ : ∃ b, decide ((e.body.length : Int) ≤ 2048) = b := ⟨_, rfl⟩
  rw [hb0, show decide (e.key.length ≤ 1200) = b1 by rw [← hb1]; exact decide_eq_decide.2 (by omega), show decide (e.second.length ≤ 600) = b2 by rw [← hb2]; exact decide_eq_decide.2 (by omega), show decide (e.body.length ≤ 2048) = b8 by rw [← hb8]; exact decide_eq_decide.2 (by omega)] at hRR
  have cA := fun W => within_any e.asked 0 253402300799 W
  have cC := fun W => within_any e.came 0 253402300799 W
  have cS := fun W => within_any e.status 200 599 W
  have cG := fun W => within_any e.gen 1 253402300799 W
  generalize namesOk e.names = b3 at hRR cN
  generalize withB e.asked 0 253402300799 = b4 at hRR cA
  generalize withB e.came 0 253402300799 = b5 at hRR cC
  generalize withB e.status 200 599 = b6 at hRR cS
  generalize rightFs e.fields = b7 at hRR cF
  generalize withB e.gen 1 253402300799 = b9 at hRR cG
  have CN := hid cN
  have CF := hid cF
  have CA := hid cA
  have CC := hid cC
  have CS := hid cS
  have CG := hid cG
  have HRR := hid hRR
  have HQ := hid q1
  have HB := hid hbW
  clear cN cF cA cC cS cG hRR hk0 hR hat
  have x0 : W0.cell? ⟨w.heap.size, 0, none⟩ = some (strV e.key) := HQ.out.cell 0
  have x1 : W0.cell? ⟨w.heap.size, 1, none⟩ = some (strV e.second) := HQ.out.cell 1
  have x2 : W0.cell? ⟨w.heap.size, 2, none⟩ = some (.slice no e.names.length nc) := HQ.out.cell 2
  clear q1 hbW
  cases b0 with
  | false =>
    have hke : (e.key == ([] : List UInt8)) = true := by have h := hb0; cases hk : e.key with
      | nil => rfl
      | cons a b => rw [hk] at h; cases h
    go_enter Tryd.func14, Tryd.ntmps14
    go_wp2_with fail
    go_ret
    exact ⟨ret_bool (by rw [HRR.out] <;> rfl), HB.out⟩
  | true =>
    have hke : (e.key == ([] : List UInt8)) = false := by have h := hb0; cases hk : e.key with
      | nil => rw [hk] at h; cases h
      | cons a b => rfl
    cases b1 with
    | false =>
      go_enter Tryd.func14, Tryd.ntmps14
      go_wp2_with fail
      go_ret
      exact ⟨ret_bool (by rw [HRR.out] <;> rfl), HB.out⟩
    | true =>
    cases b2 with
    | false =>
      go_enter Tryd.func14, Tryd.ntmps14
      go_wp2_with fail
      go_ret
      exact ⟨ret_bool (by rw [HRR.out] <;> rfl), HB.out⟩
    | true =>
    go_enter Tryd.func14, Tryd.ntmps14
    go_wp2_with fail
    refine CN.out.mono ?_
    rintro y1 w1 ⟨rfl, hb1⟩
    have HQ1 := hid (HQ.out.below hb1)
    have HB1 := hid (chain2 HB.out HB.out.size hb1)
    clear x0 x1 x2 hb1 CN
    have x3 : w1.cell? ⟨w.heap.size, 3, none⟩ = some (.int .i64 e.asked) := HQ1.out.cell 3
    have x4 : w1.cell? ⟨w.heap.size, 4, none⟩ = some (.int .i64 e.came) := HQ1.out.cell 4
    have x5 : w1.cell? ⟨w.heap.size, 5, none⟩ = some (.int .i64 e.status) := HQ1.out.cell 5
    have x6 : w1.cell? ⟨w.heap.size, 6, none⟩ = some (.slice fo e.fields.length fc) := HQ1.out.cell 6
    cases b3 with
    | false =>
      go_wp2_with fail
      go_ret
      exact ⟨ret_bool (by rw [HRR.out] <;> rfl), HB1.out⟩
    | true =>
    go_wp2_with fail
    refine (CA.out w1).mono ?_
    rintro y2 w2 ⟨rfl, rfl⟩
    cases b4 with
    | false =>
      go_wp2_with fail
      go_ret
      exact ⟨ret_bool (by rw [HRR.out] <;> simp), HB1.out⟩
    | true =>
    go_wp2_with fail
    refine (CC.out w1).mono ?_
    rintro y2 w2 ⟨rfl, rfl⟩
    cases b5 with
    | false =>
      go_wp2_with fail
      go_ret
      exact ⟨ret_bool (by rw [HRR.out] <;> simp), HB1.out⟩
    | true =>
    go_wp2_with fail
    refine (CS.out w1).mono ?_
    rintro y2 w2 ⟨rfl, rfl⟩
    cases b6 with
    | false =>
      go_wp2_with fail
      go_ret
      exact ⟨ret_bool (by rw [HRR.out] <;> simp), HB1.out⟩
    | true =>
    go_wp2_with fail
    refine (CF.out w1 HB1.out).mono ?_
    rintro y2 w2 ⟨rfl, hb2⟩
    have HQ2 := hid (HQ1.out.below hb2)
    have HB2 := hid (chain2 HB1.out HB1.out.size hb2)
    clear x3 x4 x5 x6 hb2 CF
    have x7 : w2.cell? ⟨w.heap.size, 7, none⟩ = some (.slice bo e.body.length bc) := HQ2.out.cell 7
    have x8 : w2.cell? ⟨w.heap.size, 8, none⟩ = some (.int .i64 e.gen) := HQ2.out.cell 8
    cases b7 with
    | false =>
      go_wp2_with fail
      go_ret
      exact ⟨ret_bool (by rw [HRR.out] <;> simp), HB2.out⟩
    | true =>
    cases b8 with
    | false =>
      go_wp2_with fail
      go_ret
      exact ⟨ret_bool (by rw [HRR.out] <;> rfl), HB2.out⟩
    | true =>
    go_wp2_with fail
    refine (CG.out w2).mono ?_
    rintro y2 w3 ⟨rfl, rfl⟩
    go_wp2_with fail
    go_ret
    exact ⟨ret_bool (by rw [HRR.out] <;> simp), HB2.out⟩
end Go.Proofs.YtdkhkeffheleeaaDoor
