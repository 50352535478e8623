/-
  The document's answers of layer 14: Fits, Same, over its names.
-/
import Derived.Test.YtdkhkeffheleeaaDoorF1407
import Derived.Test.YtdkhkeffheleeaaDoorF14RefFieldB

set_option linter.unusedVariables false
set_option linter.unusedSimpArgs false
namespace Go.Proofs.YtdkhkeffheleeaaDoor
open Go.RowKit Go.Pantry

set_option maxRecDepth 8000 in
set_option maxHeartbeats 8000000 in
theorem r14Fits_any (hN : NamesC) (e : EntP) (v : Int) (nv fv bv : Value) (w : World) (hs : SmallE e) (hat : EntAt w nv fv bv e) :
    Calls Tryd.prog 17 #[.agg (rowE nv fv bv e), .int .i64 v] w fun x w' => x = .returned (.bool (fitsE v e)) ∧ Below w.heap.size w w' := by
  obtain ⟨no, nc, rfl⟩ := hat.names.strs
  obtain ⟨fo, fc, rfl⟩ := hat.flds.form
  obtain ⟨bo, bc, hbv⟩ : ∃ ao cap, bv = .slice ao e.body.length cap := by
    obtain ⟨ao, cap, h, -⟩ := hat.body
    exact ⟨ao, cap, by rw [h, List.length_map]⟩
  subst hbv
  obtain ⟨W0, hW0⟩ : ∃ W, w.alloc (.cells (rowE (.slice no e.names.length nc) (.slice fo e.fields.length fc) (.slice bo e.body.length bc) e) 32) = W := ⟨_, rfl⟩
  have hbW : Below w.heap.size w W0 := by rw [← hW0]; exact below_alloc _ _
  have q1 : rowIs W0 w.heap.size (rowE (.slice no e.names.length nc) (.slice fo e.fields.length fc) (.slice bo e.body.length bc) e) 32 := by rw [← hW0]; exact rowIs_new _ _ _
  have C1 := hid (r14Right_any hN e _ _ _ W0 hs (hat.below hbW))
  have hf : fitsE v e = (rightE e && ((decide (1 ≤ v) && decide (v ≤ 3)) && ((v == 3 || (e.second.isEmpty && e.names.isEmpty)) && (decide (1 < v) || e.gen == 1)))) := rfl
  obtain ⟨R, hR⟩ : ∃ R, fitsE v e = R := ⟨_, rfl⟩
  rw [hR] at hf ⊢
  obtain ⟨rt, hrt⟩ : ∃ b, rightE e = b := ⟨_, rfl⟩
  rw [hrt] at C1 hf
  have HF := hid hf
  have HQ := hid q1
  have HB := hid hbW
  have hse : (e.second == ([] : List UInt8)) = e.second.isEmpty := by cases e.second <;> rfl
  clear hf hR hrt hat hbW
  go_enter Tryd.func17, Tryd.ntmps17
  go_wp2_with (refine wpList_load_row rfl 32 _ rfl w.heap.size rfl 32 _ (0, 0) _ q1 Tryd.underlying32 rfl infoEntD ?_)
  clear hW0 q1
  refine C1.out.mono ?_
  rintro y1 w1 ⟨rfl, hb1⟩
  have HQ1 := hid (HQ.out.below hb1)
  have HB1 := hid (chain2 HB.out HB.out.size hb1)
  clear hb1 C1 HQ HB
  have x1 : w1.cell? ⟨w.heap.size, 1, none⟩ = some (strV e.second) := HQ1.out.cell 1
  have x2 : w1.cell? ⟨w.heap.size, 2, none⟩ = some (.slice no e.names.length nc) := HQ1.out.cell 2
  have x8 : w1.cell? ⟨w.heap.size, 8, none⟩ = some (.int .i64 e.gen) := HQ1.out.cell 8
  cases rt with
  | false =>
    go_wp2_with fail
    go_ret
    exact ⟨ret_bool (by rw [HF.out] <;> rfl), HB1.out⟩
  | true =>
  by_cases h1 : v < 1
  · have d1 : decide (v < 1) = true := decide_eq_true h1
    have HF := hid (show R = false by rw [HF.out, decide_eq_false (show ¬ 1 ≤ v by omega)]; rfl)
    go_wp2_with fail
    go_ret
    exact ⟨ret_bool (by rw [HF.out] <;> rfl), HB1.out⟩
  have d1 : decide (v < 1) = false := decide_eq_false h1
  by_cases h3 : (3 : Int) < v
  · have d3 : decide ((3 : Int) < v) = true := decide_eq_true h3
    have HF := hid (show R = false by rw [HF.out, decide_eq_false (show ¬ v ≤ 3 by omega), Bool.and_false]; rfl)
    go_wp2_with fail
    go_ret
    exact ⟨ret_bool (by rw [HF.out] <;> rfl), HB1.out⟩
  have d3 : decide ((3 : Int) < v) = false := decide_eq_false h3
  have hf2 := HF.out
  rw [decide_eq_true (show 1 ≤ v by omega), decide_eq_true (show v ≤ 3 by omega)] at hf2
  simp only [Bool.true_and] at hf2
  by_cases hv : v = 3
  · subst hv
    have HF := hid (show R = true by rw [hf2]; rfl)
    clear hf2
    go_wp2_with fail
    go_ret
    exact ⟨ret_bool (by rw [HF.out] <;> rfl), HB1.out⟩
  have dv : decide (v < 3) = true := decide_eq_true (by omega)
  have hv3 : (v == 3) = false := by simpa using hv
  rw [hv3, Bool.false_or] at hf2
  by_cases hs2 : e.second = []
  · have hse1 : (e.second == ([] : List UInt8)) = true := by rw [hs2]; rfl
    rw [hs2] at hf2
    rw [hs2] at x1
    by_cases hn2 : e.names = []
    · rw [hn2] at hf2
      have hnl : ¬ (0 : Int) < (e.names.length : Int) := by rw [hn2]; decide
      have dn : decide ((0 : Int) < (e.names.length : Int)) = false := decide_eq_false hnl
      have hn0 : e.names.length = 0 := by rw [hn2]; rfl
      rw [hn0] at x2
      by_cases hv1 : (1 : Int) < v
      · have dv1 : decide ((1 : Int) < v) = true := decide_eq_true hv1
        have HF := hid (show R = true by rw [hf2, dv1]; rfl)
        clear hf2
        go_wp2_with fail
        go_ret
        exact ⟨ret_bool (by rw [HF.out] <;> rfl), HB1.out⟩
      · have dv1 : decide ((1 : Int) < v) = false := decide_eq_false hv1
        obtain ⟨g1, hg1⟩ : ∃ b, (e.gen == 1) = b := ⟨_, rfl⟩
        have HF := hid (show R = g1 by rw [hf2, dv1, hg1]; rfl)
        clear hf2
        go_wp2_with fail
        go_ret
        exact ⟨ret_bool (by rw [HF.out] <;> rfl), HB1.out⟩
    · have hnp : (0 : Int) < (e.names.length : Int) := by have := List.length_pos_iff.2 hn2; omega
      have dn : decide ((0 : Int) < (e.names.length : Int)) = true := decide_eq_true hnp
      have HF := hid (show R = false by rw [hf2]; cases h : e.names with | nil => exact absurd h hn2 | cons a b => rfl)
      clear hf2 hn2
      go_wp2_with fail
      go_ret
      exact ⟨ret_bool (by rw [HF.out] <;> rfl), HB1.out⟩
  · have hse1 : (e.second == ([] : List UInt8)) = false := by simpa using hs2
    have hse2 : (!(e.second == ([] : List UInt8))) = true := by rw [hse1]; rfl
    have hse3 : (e.second != ([] : List UInt8)) = true := hse2
    have HF := hid (show R = false by rw [hf2]; cases h : e.second with | nil => exact absurd h hs2 | cons a b => rfl)
    have hse4 : e.second.isEmpty = false := by simpa using hs2
    have hse5 : decide (e.second = ([] : List UInt8)) = false := decide_eq_false hs2
    clear hf2
    go_wp2_with fail
    go_ret
    exact ⟨ret_bool (by rw [HF.out] <;> rfl), HB1.out⟩
end Go.Proofs.YtdkhkeffheleeaaDoor
