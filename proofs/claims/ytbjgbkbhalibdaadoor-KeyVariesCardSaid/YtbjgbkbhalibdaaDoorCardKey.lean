/-
  From data to values: an argument that is a site; one that is a place. No program is imported.
-/
import Derived.Test.YtbjgbkbhalibdaaDoorCardConf
import Derived.Test.YtbjgbkbhalibdaaDoorPureKey
namespace Go.Pantry
open Go.RowKit Go.ChangeShapes Go.WideShapes Go.ChangeAt Go.Deep

/-- An argument that is a site. -/
theorem site_reads {H : Type} {enc : TypeId × Value → H} {P : Program} {e u : TypeId} {f0 f1 f2 f3 f4 f5 f6 : Field} (T : SiteT P e u f0 f1 f2 f3 f4 f5 f6)
    {W : World} {base : Nat} {v : Value} {d : DataW H} {ps : List MemPlace} (hok : Value.okWide P W .any base e v) (h : DataW.Trod enc P W 0 (fun _ => true) true e v d ps) :
    ∃ (hv : Value) (s : SiteZ), v = .agg (rowZ hv s) ∧ Reads W hv (s.heads.map strV) ∧ SiteFit s hv := by
  obtain ⟨cs, rfl, hsz⟩ := okWide_struct T.st hok
  obtain ⟨fuel, hf⟩ := h
  obtain ⟨y, hy, h1, h2⟩ := site_cells T hf
  refine ⟨y.2, y.1, ?_, h1, h2⟩
  have e : cs = rowZ y.2 y.1 := Array.toList_inj.1 (by simpa [Value.cells] using hy)
  rw [e]
theorem list4 {α : Type} {cs : List α} (h : cs.length = 4) : ∃ a b c d, cs = [a, b, c, d] := by
  match cs, h with
  | [a, b, c, d], _ => exact ⟨a, b, c, d, rfl⟩
/-- An argument that is a place: a struct of three texts and a bool. -/
theorem place_reads {H : Type} {enc : TypeId × Value → H} {P : Program} {e : TypeId} {f0 f1 f2 f3 : Field} (hs : P.underlying e = some (.struct #[f0, f1, f2, f3])) (hone : oneCellFields P #[f0, f1, f2, f3] = true) (hC : P.cellsOf e = 4)
    (s0 : P.underlying f0.type = some .string) (s1 : P.underlying f1.type = some .string) (s2 : P.underlying f2.type = some .string) (s3 : P.underlying f3.type = some .bool)
    {W : World} {base : Nat} {v : Value} {d : DataW H} {ps : List MemPlace} (hok : Value.okWide P W .any base e v) (h : DataW.Trod enc P W 0 (fun _ => true) true e v d ps) :
    ∃ p : PlaceR, v = .agg #[strV p.host, strV p.path, strV p.query, .bool p.has] ∧ p.host.length ≤ maxLen ∧ p.path.length ≤ maxLen ∧ p.query.length ≤ maxLen := by
  obtain ⟨cs, rfl, hsz⟩ := okWide_struct hs hok
  obtain ⟨fuel, hf⟩ := h
  obtain ⟨xs, k, hk, hxy, hcl, hxl, hff⟩ := DataW.trod_struct hs hf
  rw [hC] at hcl
  obtain ⟨v0, v1, v2, v3, hcs⟩ := list4 hcl
  obtain ⟨y0, y1, y2, y3, rfl⟩ := list4 hxl
  obtain ⟨o0, c0⟩ := hone_of hone 0 f0 rfl
  obtain ⟨o1, c1⟩ := hone_of hone 1 f1 rfl
  obtain ⟨o2, c2⟩ := hone_of hone 2 f2 rfl
  obtain ⟨o3, c3⟩ := hone_of hone 3 f3 rfl
  have g0 := hff 0 f0 rfl
  have g1 := hff 1 f1 rfl
  have g2 := hff 2 f2 rfl
  have g3 := hff 3 f3 rfl
  rw [o0, c0, hcs] at g0
  rw [o1, c1, hcs] at g1
  rw [o2, c2, hcs] at g2
  rw [o3, c3, hcs] at g3
  obtain ⟨t0, h0, -, hs0⟩ := DataW.trod_string s0 g0
  obtain ⟨t1, h1, -, hs1⟩ := DataW.trod_string s1 g1
  obtain ⟨t2, h2, -, hs2⟩ := DataW.trod_string s2 g2
  obtain ⟨t3, h3, -⟩ := DataW.trod_bool s3 g3
  simp at h0 h1 h2 h3
  subst h0 h1 h2 h3
  refine ⟨⟨t0.data.toList, t1.data.toList, t2.data.toList, t3⟩, ?_, by show t0.data.toList.length ≤ maxLen; rw [size_list]; exact hs0, by show t1.data.toList.length ≤ maxLen; rw [size_list]; exact hs1, by show t2.data.toList.length ≤ maxLen; rw [size_list]; exact hs2⟩
  have e : cs = #[.string t0, .string t1, .string t2, .bool t3] := Array.toList_inj.1 (by simpa [Value.cells] using hcs)
  rw [e]
end Go.Pantry
