/-
  From a walk to a statement: arguments that are fields. No program is imported.
-/
import Derived.Test.YtfoghjhdjmapnaaDoorCard
import Derived.Test.YtfoghjhdjmapnaaDoorBase2
import Derived.Deep.SlicePairs
import Derived.Lib.SmallJoins
namespace Go.Pantry
open Go.RowKit Go.ChangeShapes Go.WideShapes Go.ChangeAt Go.Deep

theorem add_none {b off i : Nat} : (⟨b, off, none⟩ : Addr).add i = ⟨b, off + i, none⟩ := by unfold Addr.add; split <;> simp_all
/-- An argument that is a slice of structs of two texts reads as fields. -/
theorem fields_reads {H : Type} {enc : TypeId × Value → H} {P : Program} {t e : TypeId} {f0 f1 : Field} (ht : P.underlying t = some (.slice e)) (he : P.underlying e = some (.struct #[f0, f1]))
    (ce : P.cellsOf e = 2) (o0 : f0.offset = 0) (o1 : f1.offset = 1) (c0 : P.cellsOf f0.type = 1) (c1 : P.cellsOf f1.type = 1) (s0 : P.underlying f0.type = some .string) (s1 : P.underlying f1.type = some .string)
    {W : World} {base : Nat} {v : Value} {d : DataW H} {ps : List MemPlace} (hok : Value.okWide P W .any base t v) (h : DataW.Trod enc P W 0 (fun _ => true) true t v d ps) :
    ∃ L : List Fld, Reads2 W v L ∧ (∀ f ∈ L, f.1.length ≤ maxLen ∧ f.2.length ≤ maxLen) ∧ L.length ≤ maxLen := by
  obtain ⟨a0, len, cap, rfl⟩ := okWide_slice ht hok
  obtain ⟨fuel, hf⟩ := h
  rcases open_slice_pairs ht he ce o0 o1 c0 c1 hf with ⟨hcs, _⟩ | ⟨a, len', cap', m, n, V0, V1, D0, D1, P0, P1, hcs, _, hl, hm, hmm, _, hall⟩
  · simp [Value.cells] at hcs
    obtain ⟨rfl, rfl, rfl⟩ := hcs
    exact ⟨[], ⟨none, 0, rfl, fun j p hj => by simp at hj, (fun _ => rfl), by simp⟩, by simp, by simp⟩
  · simp [Value.cells] at hcs
    obtain ⟨rfl, rfl, rfl⟩ := hcs
    have hlm : len ≤ m := by rw [hmm]; split <;> omega
    have each : ∀ i, i < len → ∃ p : Fld, W.cell? (a.add (i * 2)) = some (strV p.1) ∧ W.cell? (a.add (i * 2 + 1)) = some (strV p.2) ∧ p.1.length ≤ maxLen ∧ p.2.length ≤ maxLen := by
      intro i hi
      obtain ⟨h1, h2, h3, h4⟩ := hall i (by omega)
      obtain ⟨x, hx, -, hxs⟩ := DataW.trod_string s0 h3
      obtain ⟨y, hy, -, hys⟩ := DataW.trod_string s1 h4
      simp at hx hy
      refine ⟨(x.data.toList, y.data.toList), by rw [h1, hx], by rw [h2, hy], ?_, ?_⟩
      · rw [size_list]; exact hxs
      · rw [size_list]; exact hys
    obtain ⟨q, hq⟩ := choose_lt each
    refine ⟨(List.range len).map q, ?_, ?_, by simp; omega⟩
    · by_cases h0 : 0 < len
      · obtain ⟨b, off, spot⟩ := a
        have hspot : spot = none := by simpa [Addr.add] using World.cell?_spot (hq 0 h0).1
        subst hspot
        refine ⟨some ⟨b, off, none⟩, cap, by simp, fun j p hj => ?_, (fun e => by cases e), by simpa using hl⟩
        have hjl : j < len := by simpa using (List.getElem?_eq_some_iff.1 hj).1
        have hp : q j = p := by simpa [hjl] using hj
        subst hp
        obtain ⟨g1, g2, -, -⟩ := hq j hjl
        rw [add_none] at g1 g2
        exact ⟨b, off, rfl, g1, by rw [Nat.add_assoc]; exact g2⟩
      · have : len = 0 := by omega
        subst this
        exact ⟨some a, cap, rfl, fun j p hj => by simp at hj, (fun e => by cases e), by simp⟩
    · intro f hf
      obtain ⟨i, hi, rfl⟩ := List.mem_map.1 hf
      obtain ⟨-, -, g3, g4⟩ := hq i (List.mem_range.1 hi)
      exact ⟨g3, g4⟩
/-- What the reach says of a slice of structs of two texts: how long it can be. -/
theorem fields_reach {H : Type} {enc : TypeId × Value → H} {P : Program} {t e : TypeId} {f0 f1 : Field} (ht : P.underlying t = some (.slice e)) (he : P.underlying e = some (.struct #[f0, f1]))
    (ce : P.cellsOf e = 2) (o0 : f0.offset = 0) (o1 : f1.offset = 1) (c0 : P.cellsOf f0.type = 1) (c1 : P.cellsOf f1.type = 1)
    {W : World} {v : Value} {d : DataW H} {ps : List MemPlace} (h : DataW.Trod enc P W 0 (fun _ => true) true t v d ps) (hz : ∀ x ∈ d.weights P t, x ≤ reachBytes) {L : List Fld} (hL : Reads2 W v L) :
    L.length * P.bytesOf e ≤ reachBytes := by
  obtain ⟨a0, cap, rfl⟩ := hL.form
  obtain ⟨fuel, hf⟩ := h
  rcases open_slice_pairs ht he ce o0 o1 c0 c1 hf with ⟨hcs, _⟩ | ⟨a, len', cap', m, n, V0, V1, D0, D1, P0, P1, hcs, _, hl, hm, hmm, hx, hall⟩
  · simp [Value.cells] at hcs
    rw [hcs.2.1]
    simp
  · simp [Value.cells] at hcs
    obtain ⟨rfl, h2, rfl⟩ := hcs
    have hd := congrArg Prod.fst hx
    simp only at hd
    subst hd
    have h3 := hz _ (by simp only [DataW.weights, ht]; exact List.mem_cons_self ..)
    simp only [List.length_map, List.length_range] at h3
    rw [h2]
    exact Nat.le_trans (Nat.mul_le_mul_right _ (Nat.le_add_right _ _)) h3
/-- An argument that is a struct of two texts. -/
theorem field_reads {H : Type} {enc : TypeId × Value → H} {P : Program} {t : TypeId} {f0 f1 : Field} (hs : P.underlying t = some (.struct #[f0, f1])) (hone : oneCellFields P #[f0, f1] = true) (hC : P.cellsOf t = 2) (s0 : P.underlying f0.type = some .string) (s1 : P.underlying f1.type = some .string)
    {W : World} {base : Nat} {v : Value} {d : DataW H} {ps : List MemPlace} (hok : Value.okWide P W .any base t v) (h : DataW.Trod enc P W 0 (fun _ => true) true t v d ps) :
    ∃ f : Fld, v = fldV f ∧ f.1.length ≤ maxLen ∧ f.2.length ≤ maxLen := by
  obtain ⟨v0, v1, y0, y1, n, rfl, -, -, h0, h1⟩ := Joins.open_agg2 hs hone hC hok h
  obtain ⟨x, hx, -, hxs⟩ := DataW.trod_string s0 h0
  obtain ⟨y, hy, -, hys⟩ := DataW.trod_string s1 h1
  simp at hx hy
  subst hx hy
  exact ⟨(x.data.toList, y.data.toList), rfl, by rw [size_list]; exact hxs, by rw [size_list]; exact hys⟩
end Go.Pantry
