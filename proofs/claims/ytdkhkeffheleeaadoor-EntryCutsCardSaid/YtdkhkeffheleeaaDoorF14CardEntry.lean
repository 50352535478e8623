/-
  From data to values: an argument that is an entry. No program is imported.
-/
import Derived.Test.YtdkhkeffheleeaaDoorCardStrs
import Derived.Test.YtdkhkeffheleeaaDoorF1403

set_option linter.unusedVariables false
set_option linter.unusedSimpArgs false
namespace Go.Pantry
open Go.RowKit Go.ChangeShapes Go.WideShapes Go.ChangeAt Go.Deep

structure EntT (P : Program) (e un uf ub : TypeId) (f0 f1 f2 f3 f4 f5 f6 f7 f8 p0 p1 : Field) : Prop where
  st : P.underlying e = some (.struct #[f0, f1, f2, f3, f4, f5, f6, f7, f8])
  ce : P.cellsOf e = 9
  one : oneCellFields P #[f0, f1, f2, f3, f4, f5, f6, f7, f8] = true
  s0 : P.underlying f0.type = some .string
  s1 : P.underlying f1.type = some .string
  s2 : P.underlying f2.type = some (.slice un)
  s3 : P.underlying f3.type = some (.int .i64)
  s4 : P.underlying f4.type = some (.int .i64)
  s5 : P.underlying f5.type = some (.int .i64)
  s6 : P.underlying f6.type = some (.slice uf)
  s7 : P.underlying f7.type = some (.slice ub)
  s8 : P.underlying f8.type = some (.int .i64)
  su : P.underlying un = some .string
  cu : P.cellsOf un = 1
  sf : P.underlying uf = some (.struct #[p0, p1])
  cf : P.cellsOf uf = 2
  o0 : p0.offset = 0
  o1 : p1.offset = 1
  c0 : P.cellsOf p0.type = 1
  c1 : P.cellsOf p1.type = 1
  t0 : P.underlying p0.type = some .string
  t1 : P.underlying p1.type = some .string
  sb : P.underlying ub = some (.int .u8)
  cb : P.cellsOf ub = 1
/-- a cell that is read as a slice of fields -/
theorem flds_cell {H : Type} {enc : TypeId × Value → H} {P : Program} {W : World} {base : Nat} {sp : Nat → Bool} {held : Bool} {n : Nat} {t e : TypeId} {p0 p1 : Field} {V : Value} {x : DataW H × List MemPlace} (ht : P.underlying t = some (.slice e)) (he : P.underlying e = some (.struct #[p0, p1]))
    (ce : P.cellsOf e = 2) (o0 : p0.offset = 0) (o1 : p1.offset = 1) (c0 : P.cellsOf p0.type = 1) (c1 : P.cellsOf p1.type = 1) (s0 : P.underlying p0.type = some .string) (s1 : P.underlying p1.type = some .string)
    (h : DataW.trod enc P W base sp held n t [V] = some x) : ∃ L : List Fld, Reads2 W V L ∧ L.length ≤ maxLen := by
  rcases open_slice_pairs ht he ce o0 o1 c0 c1 h with ⟨hcs, _⟩ | ⟨a, len, cap, m, n, V0, V1, D0, D1, P0, P1, hcs, _, hl, hm, hmm, _, hall⟩
  · simp at hcs
    subst hcs
    exact ⟨[], ⟨none, 0, rfl, fun j p hj => by simp at hj, (fun _ => rfl), by simp⟩, by simp⟩
  · simp at hcs
    subst hcs
    have hlm : len ≤ m := by rw [hmm]; split <;> omega
    have each : ∀ i, i < len → ∃ p : Fld, W.cell? (a.add (i * 2)) = some (strV p.1) ∧ W.cell? (a.add (i * 2 + 1)) = some (strV p.2) := by
      intro i hi
      obtain ⟨h1, h2, h3, h4⟩ := hall i (by omega)
      obtain ⟨x, hx, -, hxs⟩ := DataW.trod_string s0 h3
      obtain ⟨y, hy, -, hys⟩ := DataW.trod_string s1 h4
      simp at hx hy
      exact ⟨(x.data.toList, y.data.toList), by rw [h1, hx], by rw [h2, hy]⟩
    obtain ⟨q, hq⟩ := choose_lt each
    refine ⟨(List.range len).map q, ?_, by simp; omega⟩
    by_cases h0 : 0 < len
    · obtain ⟨b, off, spot⟩ := a
      have hspot : spot = none := by simpa [Addr.add] using World.cell?_spot (hq 0 h0).1
      subst hspot
      refine ⟨some ⟨b, off, none⟩, cap, by simp, fun j p hj => ?_, (fun e => by cases e), by simpa using hl⟩
      have hjl : j < len := by simpa using (List.getElem?_eq_some_iff.1 hj).1
      have hp : q j = p := by simpa [hjl] using hj
      subst hp
      obtain ⟨g1, g2⟩ := hq j hjl
      rw [add_none] at g1 g2
      exact ⟨b, off, rfl, g1, by rw [Nat.add_assoc]; exact g2⟩
    · have : len = 0 := by omega
      subst this
      exact ⟨some a, cap, rfl, fun j p hj => by simp at hj, (fun e => by cases e), by simp⟩
theorem list9 {α : Type} {cs : List α} (h : cs.length = 9) : ∃ a b c d e f g i j, cs = [a, b, c, d, e, f, g, i, j] := by
  match cs, h with
  | [a, b, c, d, e, f, g, i, j], _ => exact ⟨a, b, c, d, e, f, g, i, j, rfl⟩
/-- An argument that is an entry. -/
theorem entry_reads {H : Type} {enc : TypeId × Value → H} {P : Program} {e un uf ub : TypeId} {f0 f1 f2 f3 f4 f5 f6 f7 f8 p0 p1 : Field} (T : EntT P e un uf ub f0 f1 f2 f3 f4 f5 f6 f7 f8 p0 p1)
    {W : World} {base : Nat} {v : Value} {d : DataW H} {ps : List MemPlace} (hok : Value.okWide P W .any base e v) (h : DataW.Trod enc P W 0 (fun _ => true) true e v d ps) :
    ∃ (nv fv bv : Value) (x : EntP), v = .agg (rowE nv fv bv x) ∧ EntAt W nv fv bv x ∧ x.names.length ≤ maxLen ∧ x.fields.length ≤ maxLen := by
  obtain ⟨cs, rfl, hsz⟩ := okWide_struct T.st hok
  obtain ⟨fuel, hf⟩ := h
  obtain ⟨xs, k, hk, hxy, hcl, hxl, hff⟩ := DataW.trod_struct T.st hf
  rw [T.ce] at hcl
  obtain ⟨v0, v1, v2, v3, v4, v5, v6, v7, v8, hcs⟩ := list9 hcl
  obtain ⟨y0, y1, y2, y3, y4, y5, y6, y7, y8, rfl⟩ := list9 hxl
  obtain ⟨o0, c0⟩ := hone_of T.one 0 f0 rfl
  obtain ⟨o1, c1⟩ := hone_of T.one 1 f1 rfl
  obtain ⟨o2, c2⟩ := hone_of T.one 2 f2 rfl
  obtain ⟨o3, c3⟩ := hone_of T.one 3 f3 rfl
  obtain ⟨o4, c4⟩ := hone_of T.one 4 f4 rfl
  obtain ⟨o5, c5⟩ := hone_of T.one 5 f5 rfl
  obtain ⟨o6, c6⟩ := hone_of T.one 6 f6 rfl
  obtain ⟨o7, c7⟩ := hone_of T.one 7 f7 rfl
  obtain ⟨o8, c8⟩ := hone_of T.one 8 f8 rfl
  have g0 := hff 0 f0 rfl
  have g1 := hff 1 f1 rfl
  have g2 := hff 2 f2 rfl
  have g3 := hff 3 f3 rfl
  have g4 := hff 4 f4 rfl
  have g5 := hff 5 f5 rfl
  have g6 := hff 6 f6 rfl
  have g7 := hff 7 f7 rfl
  have g8 := hff 8 f8 rfl
  rw [o0, c0, hcs] at g0
  rw [o1, c1, hcs] at g1
  rw [o2, c2, hcs] at g2
  rw [o3, c3, hcs] at g3
  rw [o4, c4, hcs] at g4
  rw [o5, c5, hcs] at g5
  rw [o6, c6, hcs] at g6
  rw [o7, c7, hcs] at g7
  rw [o8, c8, hcs] at g8
  obtain ⟨t0, h0, -, hs0⟩ := DataW.trod_string T.s0 g0
  obtain ⟨t1, h1, -, hs1⟩ := DataW.trod_string T.s1 g1
  obtain ⟨l2, hr2, -, hl2, -⟩ := strs_cell T.s2 T.su T.cu (by simpa using g2)
  obtain ⟨t3, h3, -, -⟩ := DataW.trod_int T.s3 g3
  obtain ⟨t4, h4, -, -⟩ := DataW.trod_int T.s4 g4
  obtain ⟨t5, h5, -, -⟩ := DataW.trod_int T.s5 g5
  obtain ⟨l6, hr6, hl6⟩ := flds_cell T.s6 T.sf T.cf T.o0 T.o1 T.c0 T.c1 T.t0 T.t1 (by simpa using g6)
  obtain ⟨ao7, cc7, l7, hv7, hr7, -⟩ := bytes_cell T.s7 T.sb T.cb (by simpa using g7)
  obtain ⟨t8, h8, -, -⟩ := DataW.trod_int T.s8 g8
  simp at h0 h1 h3 h4 h5 h8
  subst h0 h1 h3 h4 h5 h8
  refine ⟨v2, v6, v7, ⟨t0.data.toList, t1.data.toList, l2, t3, t4, t5, l6, l7, t8⟩, ?_, ⟨hr2, hr6, bytesRead hr7⟩, hl2, hl6⟩
  have e : cs = rowE v2 v6 v7 ⟨t0.data.toList, t1.data.toList, l2, t3, t4, t5, l6, l7, t8⟩ := Array.toList_inj.1 (by simpa [Value.cells] using hcs)
  rw [e]
end Go.Pantry
