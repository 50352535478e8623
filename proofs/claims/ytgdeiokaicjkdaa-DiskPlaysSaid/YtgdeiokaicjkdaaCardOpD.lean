/-
  From data to values: slices of steps of a disk's play. No program is imported.
-/
import Derived.Test.YtgdeiokaicjkdaaCardBool
import Derived.Test.YtgdeiokaicjkdaaLaw15G
set_option linter.unusedVariables false
set_option linter.unusedSimpArgs false
namespace Go.Pantry
open Go.RowKit Go.ChangeShapes Go.WideShapes Go.ChangeAt Go.Deep

theorem bools_cell {H : Type} {enc : TypeId × Value → H} {P : Program} {W : World} {base : Nat} {held : Bool} {n : Nat} {e u : TypeId} {V : Value} {x : DataW H × List MemPlace} (he : P.underlying e = some (.slice u)) (hu : P.underlying u = some .bool) (hc : P.cellsOf u = 1)
    (h : DataW.trod enc P W base (fun _ => true) held n e [V] = some x) : ∃ ka kc, ∃ l : List Bool, V = .slice ka l.length kc ∧ Reads W (.slice ka l.length kc) (l.map Value.bool) := by
  rcases open_bools he hu hc h with ⟨hcs, _⟩ | ⟨a, len', cap', B, hcs, _, hl, hm, _, hcell⟩
  · simp at hcs
    subst hcs
    exact ⟨none, 0, [], rfl, none, 0, rfl, fun j u hj => by simp at hj, fun _ => rfl⟩
  · simp at hcs
    subst hcs
    refine ⟨some a, cap', (List.range len').map B, by simp, ?_⟩
    rw [show ((List.range len').map B).length = len' by simp]
    refine reads_of (by simp) ?_
    intro i u hi
    rw [List.map_map, List.getElem?_map] at hi
    obtain ⟨s, hs, rfl⟩ := Option.map_eq_some_iff.1 hi
    have hil : i < len' := by
      have := (List.getElem?_eq_some_iff.1 hs).1
      simpa using this
    rw [List.getElem?_range hil] at hs
    cases hs
    exact hcell i (by omega)
theorem opd_reads {H : Type} {enc : TypeId × Value → H} {P : Program} {t e ub uk : TypeId} {f0 f1 f2 f3 f4 : Field} (ht : P.underlying t = some (.slice e)) (he : P.underlying e = some (.struct #[f0, f1, f2, f3, f4]))
    (ce : P.cellsOf e = 5) (o0 : f0.offset = 0) (o1 : f1.offset = 1) (o2 : f2.offset = 2) (o3 : f3.offset = 3) (o4 : f4.offset = 4) (c0 : P.cellsOf f0.type = 1) (c1 : P.cellsOf f1.type = 1) (c2 : P.cellsOf f2.type = 1) (c3 : P.cellsOf f3.type = 1) (c4 : P.cellsOf f4.type = 1)
    (s0 : P.underlying f0.type = some (.int .i64)) (s1 : P.underlying f1.type = some (.int .i64)) (s2 : P.underlying f2.type = some (.slice ub)) (hub : P.underlying ub = some (.int .u8)) (cub : P.cellsOf ub = 1) (s3 : P.underlying f3.type = some .bool) (s4 : P.underlying f4.type = some (.slice uk)) (huk : P.underlying uk = some .bool) (cuk : P.cellsOf uk = 1)
    {W : World} {base : Nat} {v : Value} {d : DataW H} {ps : List MemPlace} (hok : Value.okWide P W .any base t v) (h : DataW.Trod enc P W 0 (fun _ => true) true t v d ps) :
    ∃ M : List OpD, ReadsOpD W v M ∧ (∀ o ∈ M, (Lit.int .i64 o.kind).wf = true ∧ (Lit.int .i64 o.n).wf = true) ∧ M.length ≤ maxLen := by
  obtain ⟨a0, len, cap, rfl⟩ := okWide_slice ht hok
  obtain ⟨fuel, hf⟩ := h
  rcases open_slice ht hf with ⟨hcs, _⟩ | ⟨a, len', cap', m, n, D, Pl, hcs, hb, hl, hm, hmm, _, hx⟩
  · simp [Value.cells] at hcs
    obtain ⟨rfl, rfl, rfl⟩ := hcs
    exact ⟨[], ⟨none, 0, rfl, fun j o hj => by simp at hj⟩, (fun o ho => by cases ho), by simp⟩
  · simp [Value.cells] at hcs
    obtain ⟨rfl, rfl, rfl⟩ := hcs
    have hlm : len ≤ m := by rw [hmm]; split <;> omega
    have each : ∀ i, i < len → ∃ o : OpD, ((Lit.int .i64 o.kind).wf = true ∧ (Lit.int .i64 o.n).wf = true) ∧ W.cell? (a.add (i * 5)) = some (.int .i64 o.kind) ∧ W.cell? (a.add (i * 5 + 1)) = some (.int .i64 o.n) ∧ W.cell? (a.add (i * 5 + 3)) = some (.bool o.on) ∧ ∃ da dc ka kc, W.cell? (a.add (i * 5 + 2)) = some (.slice da o.data.length dc) ∧ W.cell? (a.add (i * 5 + 4)) = some (.slice ka o.keep.length kc) ∧ Bytes W (.slice da o.data.length dc) o.data ∧ Reads W (.slice ka o.keep.length kc) (o.keep.map .bool) := by
      intro i hi
      obtain ⟨cs', h1, h2⟩ := hx i (by omega)
      rw [ce] at h1
      obtain ⟨_, hlen, hcell⟩ := World.cells?_some h1
      obtain ⟨xs, k, hk, hxy, _, hxl, hff⟩ := DataW.trod_struct he h2
      match xs, hxl, cs', hlen with
      | [y0, y1, y2, y3, y4], _, [v0, v1, v2, v3, v4], _ =>
        have g0 := hff 0 f0 rfl
        have g1 := hff 1 f1 rfl
        have g2 := hff 2 f2 rfl
        have g3 := hff 3 f3 rfl
        have g4 := hff 4 f4 rfl
        simp [o0, o1, o2, o3, o4, c0, c1, c2, c3, c4] at g0 g1 g2 g3 g4
        have e0 := hcell 0 (by omega)
        have e1 := hcell 1 (by omega)
        have e2 := hcell 2 (by omega)
        have e3 := hcell 3 (by omega)
        have e4 := hcell 4 (by omega)
        rw [add_add] at e0 e1 e2 e3 e4
        obtain ⟨x, hx0, -, wx⟩ := DataW.trod_int s0 g0
        obtain ⟨y, hy, -, wy⟩ := DataW.trod_int s1 g1
        obtain ⟨da, dc, l, hl2, hbl, -⟩ := bytes_cell s2 hub cub g2
        obtain ⟨q, hq, -⟩ := DataW.trod_bool s3 g3
        obtain ⟨ka, kc, kl, hkl, hkr⟩ := bools_cell s4 huk cuk g4
        simp at hx0 hy hq
        subst hx0 hy hl2 hq hkl
        exact ⟨⟨x, y, l, q, kl⟩, ⟨wx, wy⟩, by simpa using e0, by simpa using e1, by simpa using e3, da, dc, ka, kc, by simpa using e2, by simpa using e4, hbl, hkr⟩
    obtain ⟨q, hq⟩ := choose_lt each
    refine ⟨(List.range len).map q, ?_, fun o ho => ?_, by simp; omega⟩
    · by_cases h0 : 0 < len
      · obtain ⟨b, off, spot⟩ := a
        have hspot : spot = none := by simpa [Addr.add] using World.cell?_spot (hq 0 h0).2.1
        subst hspot
        refine ⟨some ⟨b, off, none⟩, cap, by simp, fun j o hj => ?_⟩
        have hjl : j < len := by simpa using (List.getElem?_eq_some_iff.1 hj).1
        have hp : q j = o := by simpa [hjl] using hj
        subst hp
        obtain ⟨-, g1, g2, g3, da, dc, ka, kc, g4, g5, g6, g7⟩ := hq j hjl
        rw [add_none] at g1 g2 g3 g4 g5
        exact ⟨b, off, da, dc, ka, kc, rfl, g1, by rw [Nat.add_assoc]; exact g2, by rw [Nat.add_assoc]; exact g4, by rw [Nat.add_assoc]; exact g3, by rw [Nat.add_assoc]; exact g5, g6, g7⟩
      · have : len = 0 := by omega
        subst this
        exact ⟨some a, cap, rfl, fun j o hj => by simp at hj⟩
    · obtain ⟨i, hi, rfl⟩ := List.mem_map.1 ho
      exact (hq i (List.mem_range.1 hi)).1
end Go.Pantry
