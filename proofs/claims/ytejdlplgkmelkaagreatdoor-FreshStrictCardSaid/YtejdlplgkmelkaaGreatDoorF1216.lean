/-
  Several texts in one: CardConf, CardKey.
-/
import Derived.Test.YtejdlplgkmelkaaGreatDoorCardAll
import Derived.Test.YtejdlplgkmelkaaGreatDoorF12PureR
import Derived.Test.YtejdlplgkmelkaaGreatDoorF1201
set_option linter.unusedVariables false
set_option linter.unusedSimpArgs false
/-
  From data to values: configs of sites, tables of rules, slices of configs. No program is imported.
-/
namespace Go.Pantry
open Go.RowKit Go.ChangeShapes Go.WideShapes Go.ChangeAt Go.Deep

/-- what a type of sites is made of -/
structure SiteT (P : Program) (e u : TypeId) (f0 f1 f2 f3 f4 f5 f6 : Field) : Prop where
  st : P.underlying e = some (.struct #[f0, f1, f2, f3, f4, f5, f6])
  ce : P.cellsOf e = 7
  one : oneCellFields P #[f0, f1, f2, f3, f4, f5, f6] = true
  s0 : P.underlying f0.type = some .string
  s1 : P.underlying f1.type = some (.int .i64)
  s2 : P.underlying f2.type = some (.int .i64)
  s3 : P.underlying f3.type = some (.int .i64)
  s4 : P.underlying f4.type = some .bool
  s5 : P.underlying f5.type = some .bool
  s6 : P.underlying f6.type = some (.slice u)
  su : P.underlying u = some .string
  cu : P.cellsOf u = 1
/-- a cell that is read as a slice of texts -/
theorem strs_cell {H : Type} {enc : TypeId × Value → H} {P : Program} {W : World} {base : Nat} {sp : Nat → Bool} {held : Bool} {n : Nat} {e u : TypeId} {V : Value} {x : DataW H × List MemPlace} (he : P.underlying e = some (.slice u)) (hu : P.underlying u = some .string) (hc : P.cellsOf u = 1)
    (h : DataW.trod enc P W base sp held n e [V] = some x) : ∃ l : List (List UInt8), Reads W V (l.map strV) ∧ (∀ y ∈ l, y.length ≤ maxLen) ∧ l.length ≤ maxLen ∧ Room V := by
  rcases open_strings he hu hc h with ⟨hcs, _⟩ | ⟨a, len, cap, ss, hcs, _, hl, hm, hz, _, hcell, hws⟩
  · simp at hcs
    subst hcs
    exact ⟨[], ⟨none, 0, rfl, fun j u hj => by simp at hj, fun _ => rfl⟩, by simp, by simp, room_of (Nat.le_refl _)⟩
  · simp at hcs
    subst hcs
    have hzl : len ≤ ss.length := by rw [hz]; split <;> omega
    refine ⟨(ss.take len).map (fun s => s.data.toList), reads_of (by simp; omega) ?_, ?_, ?_⟩
    · intro i u hi
      rw [List.map_map, List.getElem?_map] at hi
      obtain ⟨s, hs, rfl⟩ := Option.map_eq_some_iff.1 hi
      have hs' : ss[i]? = some s := by
        rw [List.getElem?_take] at hs
        split at hs
        · exact hs
        · cases hs
      have hil : i < ss.length := (List.getElem?_eq_some_iff.1 hs').1
      rw [hcell i hil]
      simp [List.getD, hs', strV]
    · intro x hx
      obtain ⟨s, hs, rfl⟩ := List.mem_map.1 hx
      rw [size_list]
      exact hws s (List.mem_of_mem_take hs)
    · exact ⟨by simp; omega, room_of hl⟩
theorem list7 {α : Type} {cs : List α} (h : cs.length = 7) : ∃ a b c d e f g, cs = [a, b, c, d, e, f, g] := by
  match cs, h with
  | [a, b, c, d, e, f, g], _ => exact ⟨a, b, c, d, e, f, g, rfl⟩
/-- how much a site may hold -/
def SiteFit (s : SiteZ) (hv : Value) : Prop := Room hv ∧ s.host.length ≤ maxLen ∧ s.heads.length ≤ maxLen ∧ (∀ y ∈ s.heads, y.length ≤ maxLen) ∧ (Lit.int .i64 s.origin).wf = true ∧ (Lit.int .i64 s.min).wf = true ∧ (Lit.int .i64 s.max).wf = true
theorem site_cells {H : Type} {enc : TypeId × Value → H} {P : Program} {W : World} {base : Nat} {sp : Nat → Bool} {held : Bool} {n : Nat} {e u : TypeId} {f0 f1 f2 f3 f4 f5 f6 : Field} {cs : List Value} {x : DataW H × List MemPlace}
    (T : SiteT P e u f0 f1 f2 f3 f4 f5 f6) (h : DataW.trod enc P W base sp held n e cs = some x) : ∃ y : SiteZ × Value, cs = (rowZ y.2 y.1).toList ∧ Reads W y.2 (y.1.heads.map strV) ∧ SiteFit y.1 y.2 := by
  obtain ⟨xs, k, hk, hxy, hcl, hxl, hff⟩ := DataW.trod_struct T.st h
  rw [T.ce] at hcl
  obtain ⟨v0, v1, v2, v3, v4, v5, v6, rfl⟩ := list7 hcl
  obtain ⟨y0, y1, y2, y3, y4, y5, y6, rfl⟩ := list7 hxl
  obtain ⟨o0, c0⟩ := hone_of T.one 0 f0 rfl
  obtain ⟨o1, c1⟩ := hone_of T.one 1 f1 rfl
  obtain ⟨o2, c2⟩ := hone_of T.one 2 f2 rfl
  obtain ⟨o3, c3⟩ := hone_of T.one 3 f3 rfl
  obtain ⟨o4, c4⟩ := hone_of T.one 4 f4 rfl
  obtain ⟨o5, c5⟩ := hone_of T.one 5 f5 rfl
  obtain ⟨o6, c6⟩ := hone_of T.one 6 f6 rfl
  have g0 := hff 0 f0 rfl
  have g1 := hff 1 f1 rfl
  have g2 := hff 2 f2 rfl
  have g3 := hff 3 f3 rfl
  have g4 := hff 4 f4 rfl
  have g5 := hff 5 f5 rfl
  have g6 := hff 6 f6 rfl
  rw [o0, c0] at g0
  rw [o1, c1] at g1
  rw [o2, c2] at g2
  rw [o3, c3] at g3
  rw [o4, c4] at g4
  rw [o5, c5] at g5
  rw [o6, c6] at g6
  obtain ⟨t0, h0, -, hs0⟩ := DataW.trod_string T.s0 g0
  obtain ⟨t1, h1, -, hs1⟩ := DataW.trod_int T.s1 g1
  obtain ⟨t2, h2, -, hs2⟩ := DataW.trod_int T.s2 g2
  obtain ⟨t3, h3, -, hs3⟩ := DataW.trod_int T.s3 g3
  obtain ⟨t4, h4, -⟩ := DataW.trod_bool T.s4 g4
  obtain ⟨t5, h5, -⟩ := DataW.trod_bool T.s5 g5
  obtain ⟨l, hr, hy, hl, hro⟩ := strs_cell T.s6 T.su T.cu (by simpa using g6)
  simp at h0 h1 h2 h3 h4 h5
  subst h0 h1 h2 h3 h4 h5
  exact ⟨(⟨t0.data.toList, t1, t2, t3, t4, t5, l⟩, v6), rfl, hr, hro, by show t0.data.toList.length ≤ maxLen; rw [size_list]; exact hs0, hl, hy, hs1, hs2, hs3⟩
/-- a cell that is read as a slice of sites -/
theorem sites_cell {H : Type} {enc : TypeId × Value → H} {P : Program} {W : World} {base : Nat} {sp : Nat → Bool} {held : Bool} {n : Nat} {t e u : TypeId} {f0 f1 f2 f3 f4 f5 f6 : Field} {V : Value} {x : DataW H × List MemPlace}
    (ht : P.underlying t = some (.slice e)) (T : SiteT P e u f0 f1 f2 f3 f4 f5 f6) (h : DataW.trod enc P W base sp held n t [V] = some x) :
    ∃ L : List (SiteZ × Value), ReadsP W V L ∧ L.length ≤ maxLen ∧ ∀ y ∈ L, SiteFit y.1 y.2 := by
  rcases open_slice ht h with ⟨hcs, _⟩ | ⟨a, len, cap, m, n', D, Pl, hcs, hb, hl, hm, hmm, _, hx⟩
  · simp at hcs
    subst hcs
    exact ⟨[], ReadsP.nil W 0, by simp, fun y hy => absurd hy List.not_mem_nil⟩
  · simp at hcs
    subst hcs
    have hlm : len ≤ m := by rw [hmm]; split <;> omega
    have each : ∀ i, i < len → ∃ y : SiteZ × Value, (∀ (k : Nat) z, (rowZ y.2 y.1)[k]? = some z → W.cell? (a.add (i * 7 + k)) = some z) ∧ Reads W y.2 (y.1.heads.map strV) ∧ SiteFit y.1 y.2 := by
      intro i hi
      obtain ⟨cs', h1, h2⟩ := hx i (by omega)
      obtain ⟨y, rfl, hy2, hy3⟩ := site_cells T h2
      rw [T.ce] at h1
      obtain ⟨_, hlen, hcell⟩ := World.cells?_some h1
      refine ⟨y, fun k z hz => ?_, hy2, hy3⟩
      have hk : k < 7 := by
        obtain ⟨hk, -⟩ := Array.getElem?_eq_some_iff.1 hz
        exact hk
      have e0 := hcell k (by omega)
      rw [add_add] at e0
      rw [e0, Array.getElem?_toList]
      exact hz
    haveI : Inhabited (SiteZ × Value) := ⟨(⟨[], 0, 0, 0, false, false, []⟩, .bool false)⟩
    obtain ⟨q, hq⟩ := choose_lt each
    refine ⟨(List.range len).map q, ⟨?_, ?_⟩, by simp; omega, ?_⟩
    · by_cases h0 : 0 < len
      · obtain ⟨b, off, spot⟩ := a
        have hspot : spot = none := by simpa [Addr.add] using World.cell?_spot ((hq 0 h0).1 0 _ rfl)
        subst hspot
        refine ⟨some ⟨b, off, none⟩, cap, by simp, fun j o hj => ⟨b, off, rfl, fun i u hu => ?_⟩⟩
        have hjl : j < len := by simpa using (List.getElem?_eq_some_iff.1 hj).1
        have hp : q j = o := by simpa [hjl] using hj
        subst hp
        have := (hq j hjl).1 i u hu
        rw [add_none] at this
        rw [Nat.add_assoc]; exact this
      · have : len = 0 := by omega
        subst this
        exact ⟨some a, cap, rfl, fun j o hj => by simp at hj⟩
    · intro y hy
      obtain ⟨i, hi, rfl⟩ := List.mem_map.1 hy
      exact (hq i (List.mem_range.1 hi)).2.1
    · intro y hy
      obtain ⟨i, hi, rfl⟩ := List.mem_map.1 hy
      exact (hq i (List.mem_range.1 hi)).2.2
theorem array1 {α : Type} {cs : Array α} (h : cs.size = 1) : ∃ c0, cs = #[c0] := by
  obtain ⟨l⟩ := cs
  match l, h with
  | [c0], _ => exact ⟨c0, rfl⟩
/-- An argument that is a config. -/
theorem config_reads {H : Type} {enc : TypeId × Value → H} {P : Program} {c e u : TypeId} {g f0 f1 f2 f3 f4 f5 f6 : Field} (hs : P.underlying c = some (.struct #[g])) (hone : oneCellFields P #[g] = true) (hC : P.cellsOf c = 1)
    (ht : P.underlying g.type = some (.slice e)) (T : SiteT P e u f0 f1 f2 f3 f4 f5 f6)
    {W : World} {base : Nat} {v : Value} {d : DataW H} {ps : List MemPlace} (hok : Value.okWide P W .any base c v) (h : DataW.Trod enc P W 0 (fun _ => true) true c v d ps) :
    ∃ (V : Value) (L : List (SiteZ × Value)), v = .agg #[V] ∧ ReadsP W V L ∧ L.length ≤ maxLen ∧ ∀ y ∈ L, SiteFit y.1 y.2 := by
  obtain ⟨cs, rfl, hsz⟩ := okWide_struct hs hok
  obtain ⟨c0, rfl⟩ := array1 (hsz.trans hC)
  obtain ⟨fuel, hf⟩ := h
  obtain ⟨xs, k, hk, hxy, hcl, hxl, hff⟩ := DataW.trod_struct hs hf
  obtain ⟨o0, k0⟩ := hone_of hone 0 g rfl
  have g0 := hff 0 g rfl
  rw [o0, k0] at g0
  have hx0 : ∃ y, xs[0]? = some y := ⟨xs[0]'(by rw [hxl]; exact of_decide_eq_true rfl), List.getElem?_eq_getElem (by rw [hxl]; exact of_decide_eq_true rfl)⟩
  obtain ⟨y, hy⟩ := hx0
  rw [hy] at g0
  obtain ⟨L, h1, h2, h3⟩ := sites_cell ht T (by simpa [Value.cells] using g0)
  exact ⟨c0, L, rfl, h1, h2, h3⟩

/-- a cell that is read as a slice of rules -/
theorem rules_cell {H : Type} {enc : TypeId × Value → H} {P : Program} {W : World} {base : Nat} {sp : Nat → Bool} {held : Bool} {n : Nat} {t r u : TypeId} {g0 g1 f0 f1 f2 f3 f4 f5 f6 : Field} {V : Value} {x : DataW H × List MemPlace}
    (ht : P.underlying t = some (.slice r)) (hr : P.underlying r = some (.struct #[g0, g1])) (cr : P.cellsOf r = 8) (k0 : g0.offset = 0) (k1 : g1.offset = 7) (ck : P.cellsOf g1.type = 1) (sk : P.underlying g1.type = some (.int .i64))
    (T : SiteT P g0.type u f0 f1 f2 f3 f4 f5 f6) (h : DataW.trod enc P W base sp held n t [V] = some x) :
    ∃ L : List RuleZ, ReadsR W V L ∧ L.length ≤ maxLen ∧ ∀ y ∈ L, SiteFit y.1 y.2.1 ∧ (Lit.int .i64 y.2.2).wf = true := by
  rcases open_slice ht h with ⟨hcs, _⟩ | ⟨a, len, cap, m, n', D, Pl, hcs, hb, hl, hm, hmm, _, hx⟩
  · simp at hcs
    subst hcs
    exact ⟨[], ReadsR.nil W 0, by simp, fun y hy => absurd hy List.not_mem_nil⟩
  · simp at hcs
    subst hcs
    have hlm : len ≤ m := by rw [hmm]; split <;> omega
    have each : ∀ i, i < len → ∃ y : RuleZ, (∀ (k : Nat) z, (rowRz y)[k]? = some z → W.cell? (a.add (i * 8 + k)) = some z) ∧ Reads W y.2.1 (y.1.heads.map strV) ∧ SiteFit y.1 y.2.1 ∧ (Lit.int .i64 y.2.2).wf = true := by
      intro i hi
      obtain ⟨cs', h1, h2⟩ := hx i (by omega)
      obtain ⟨xs, k, hk, hxy, hcl, hxl, hff⟩ := DataW.trod_struct hr h2
      have q0 := hff 0 g0 rfl
      have q1 := hff 1 g1 rfl
      have hz0 : ∃ y, xs[0]? = some y := ⟨xs[0]'(by rw [hxl]; exact of_decide_eq_true rfl), List.getElem?_eq_getElem (by rw [hxl]; exact of_decide_eq_true rfl)⟩
      have hz1 : ∃ y, xs[1]? = some y := ⟨xs[1]'(by rw [hxl]; exact of_decide_eq_true rfl), List.getElem?_eq_getElem (by rw [hxl]; exact of_decide_eq_true rfl)⟩
      obtain ⟨z0, hz0⟩ := hz0
      obtain ⟨z1, hz1⟩ := hz1
      rw [hz0, k0, T.ce] at q0
      rw [hz1, k1, ck] at q1
      obtain ⟨y, hy1, hy2, hy3⟩ := site_cells T q0
      obtain ⟨s, hs, -, hw⟩ := DataW.trod_int sk q1
      rw [cr] at h1 hcl
      have hcs' : cs' = (rowZ y.2 y.1).toList ++ [.int .i64 s] := by
        rw [← List.take_append_drop 7 cs', ← hs, show List.take 1 (List.drop 7 cs') = List.drop 7 cs' from List.take_of_length_le (by simp; omega)]
        congr 1
      subst hcs'
      obtain ⟨_, hlen, hcell⟩ := World.cells?_some h1
      refine ⟨(y.1, y.2, s), fun k z hz => ?_, hy2, hy3, hw⟩
      have hk : k < 8 := by
        obtain ⟨hk, -⟩ := Array.getElem?_eq_some_iff.1 hz
        exact hk
      have e0 := hcell k (by omega)
      rw [add_add] at e0
      rw [e0, ← hz, ← Array.getElem?_toList]
      rfl
    haveI : Inhabited RuleZ := ⟨(⟨[], 0, 0, 0, false, false, []⟩, .bool false, 0)⟩
    obtain ⟨q, hq⟩ := choose_lt each
    refine ⟨(List.range len).map q, ⟨?_, ?_⟩, by simp; omega, ?_⟩
    · by_cases h0 : 0 < len
      · obtain ⟨b, off, spot⟩ := a
        have hspot : spot = none := by simpa [Addr.add] using World.cell?_spot ((hq 0 h0).1 0 _ rfl)
        subst hspot
        refine ⟨some ⟨b, off, none⟩, cap, by simp, fun j o hj => ⟨b, off, rfl, fun i u hu => ?_⟩⟩
        have hjl : j < len := by simpa using (List.getElem?_eq_some_iff.1 hj).1
        have hp : q j = o := by simpa [hjl] using hj
        subst hp
        have := (hq j hjl).1 i u hu
        rw [add_none] at this
        rw [Nat.add_assoc]; exact this
      · have : len = 0 := by omega
        subst this
        exact ⟨some a, cap, rfl, fun j o hj => by simp at hj⟩
    · intro y hy
      obtain ⟨i, hi, rfl⟩ := List.mem_map.1 hy
      exact (hq i (List.mem_range.1 hi)).2.1
    · intro y hy
      obtain ⟨i, hi, rfl⟩ := List.mem_map.1 hy
      exact (hq i (List.mem_range.1 hi)).2.2
/-- An argument that is a table. -/
theorem table_reads {H : Type} {enc : TypeId × Value → H} {P : Program} {c r u : TypeId} {k0 k1 g0 g1 f0 f1 f2 f3 f4 f5 f6 : Field} (hs : P.underlying c = some (.struct #[k0, k1])) (hone : oneCellFields P #[k0, k1] = true) (hC : P.cellsOf c = 2)
    (hk : P.underlying k0.type = some (.int .i64)) (ht : P.underlying k1.type = some (.slice r)) (hr : P.underlying r = some (.struct #[g0, g1])) (cr : P.cellsOf r = 8) (o0 : g0.offset = 0) (o1 : g1.offset = 7) (ck : P.cellsOf g1.type = 1) (sk : P.underlying g1.type = some (.int .i64))
    (T : SiteT P g0.type u f0 f1 f2 f3 f4 f5 f6)
    {W : World} {base : Nat} {v : Value} {d : DataW H} {ps : List MemPlace} (hok : Value.okWide P W .any base c v) (h : DataW.Trod enc P W 0 (fun _ => true) true c v d ps) :
    ∃ (g : Int) (V : Value) (L : List RuleZ), v = .agg #[.int .i64 g, V] ∧ ReadsR W V L ∧ L.length ≤ maxLen ∧ (∀ y ∈ L, SiteFit y.1 y.2.1 ∧ (Lit.int .i64 y.2.2).wf = true) ∧ (Lit.int .i64 g).wf = true := by
  obtain ⟨v0, v1, y0, y1, n, rfl, -, -, h0, h1⟩ := Joins.open_agg2 hs hone hC hok h
  obtain ⟨g, hg, -, hw⟩ := DataW.trod_int hk h0
  simp at hg
  subst hg
  obtain ⟨L, h1, h2, h3⟩ := rules_cell ht hr cr o0 o1 ck sk T h1
  exact ⟨g, v1, L, rfl, h1, h2, h3, hw⟩
/-- v is a slice of configs -/
structure ReadsCs (w : World) (v : Value) (M : List (Value × List (SiteZ × Value))) : Prop where
  reads : Reads w v (M.map (·.1))
  each : ∀ x ∈ M, ReadsP w x.1 x.2
theorem ReadsCs.below {w w' : World} {v : Value} {M : List (Value × List (SiteZ × Value))} (h : ReadsCs w v M) (hb : Below w.heap.size w w') : ReadsCs w' v M :=
  ⟨h.reads.below hb, fun x hx => (h.each x hx).below hb⟩
/-- An argument that is a slice of configs. -/
theorem configs_reads {H : Type} {enc : TypeId × Value → H} {P : Program} {t c e u : TypeId} {g f0 f1 f2 f3 f4 f5 f6 : Field} (ht0 : P.underlying t = some (.slice c)) (hs : P.underlying c = some (.struct #[g])) (hone : oneCellFields P #[g] = true) (hC : P.cellsOf c = 1)
    (ht : P.underlying g.type = some (.slice e)) (T : SiteT P e u f0 f1 f2 f3 f4 f5 f6)
    {W : World} {base : Nat} {v : Value} {d : DataW H} {ps : List MemPlace} (hok : Value.okWide P W .any base t v) (h : DataW.Trod enc P W 0 (fun _ => true) true t v d ps) :
    ∃ M : List (Value × List (SiteZ × Value)), ReadsCs W v M ∧ M.length ≤ maxLen ∧ ∀ x ∈ M, x.2.length ≤ maxLen ∧ ∀ y ∈ x.2, SiteFit y.1 y.2 := by
  obtain ⟨a0, len, cap, rfl⟩ := okWide_slice ht0 hok
  obtain ⟨fuel, hf⟩ := h
  rcases open_slice1 ht0 hC hf with ⟨hcs, _⟩ | ⟨a, len', cap', m, n, V, D, Pl, hcs, _, hl, hm, hmm, _, hall⟩
  · simp [Value.cells] at hcs
    obtain ⟨rfl, rfl, rfl⟩ := hcs
    exact ⟨[], ⟨⟨none, 0, rfl, (fun j u hj => by cases hj), fun _ => rfl⟩, fun x hx => absurd hx List.not_mem_nil⟩, by simp, fun x hx => absurd hx List.not_mem_nil⟩
  · simp [Value.cells] at hcs
    obtain ⟨rfl, rfl, rfl⟩ := hcs
    have hlm : len ≤ m := by rw [hmm]; split <;> omega
    have each : ∀ i, i < len → ∃ L : List (SiteZ × Value), ReadsP W (V i) L ∧ L.length ≤ maxLen ∧ ∀ y ∈ L, SiteFit y.1 y.2 := by
      intro i hi
      obtain ⟨h1, h2⟩ := hall i (by omega)
      obtain ⟨xs, k, hk, hxy, hcl, hxl, hff⟩ := DataW.trod_struct hs h2
      obtain ⟨o0, k0⟩ := hone_of hone 0 g rfl
      have g0 := hff 0 g rfl
      rw [o0, k0] at g0
      obtain ⟨y, hy⟩ : ∃ y, xs[0]? = some y := ⟨xs[0]'(by rw [hxl]; exact of_decide_eq_true rfl), List.getElem?_eq_getElem (by rw [hxl]; exact of_decide_eq_true rfl)⟩
      rw [hy] at g0
      exact sites_cell ht T (by simpa using g0)
    obtain ⟨q, hq⟩ := choose_lt each
    refine ⟨(List.range len).map fun i => (V i, q i), ⟨?_, ?_⟩, by simp; omega, ?_⟩
    · refine reads_of (by simp) ?_
      intro i u hi
      rw [List.map_map, List.getElem?_map] at hi
      obtain ⟨s, hs, rfl⟩ := Option.map_eq_some_iff.1 hi
      obtain ⟨hil, hs2⟩ := List.getElem?_eq_some_iff.1 hs
      simp at hil hs2
      subst hs2
      exact (hall i (by omega)).1
    · intro x hx
      obtain ⟨i, hi, rfl⟩ := List.mem_map.1 hx
      exact (hq i (List.mem_range.1 hi)).1
    · intro x hx
      obtain ⟨i, hi, rfl⟩ := List.mem_map.1 hx
      exact (hq i (List.mem_range.1 hi)).2
end Go.Pantry
/-
  From data to values: an argument that is a site; one that is a place. No program is imported.
-/
namespace Go.Pantry
open Go.RowKit Go.ChangeShapes Go.WideShapes Go.ChangeAt Go.Deep

/-- An argument that is a site. -/
theorem site_reads {H : Type} {enc : TypeId × Value → H} {P : Program} {e u : TypeId} {f0 f1 f2 f3 f4 f5 f6 : Field} (T : SiteT P e u f0 f1 f2 f3 f4 f5 f6)
    {W : World} {base : Nat} {v : Value} {d : DataW H} {ps : List MemPlace} (hok : Value.okWide P W .any base e v) (h : DataW.Trod enc P W 0 (fun _ => true) true e v d ps) :
    ∃ (hv : Value) (s : SiteZ), v = .agg (rowZ hv s) ∧ Reads W hv (s.heads.map strV) ∧ SiteFit s hv := by
  obtain ⟨cs, rfl, hsz⟩ := okWide_struct T.st hok
  obtain ⟨fuel, hf⟩ := h
  obtain ⟨y, hy, h1, h2⟩ := site_cells T hf
  refine ⟨y.2, y.1, ?_, h1, h2⟩
  have e : cs = rowZ y.2 y.1 := Array.toList_inj.1 (by simpa [Value.cells] using hy)
  rw [e]
theorem list4 {α : Type} {cs : List α} (h : cs.length = 4) : ∃ a b c d, cs = [a, b, c, d] := by
  match cs, h with
  | [a, b, c, d], _ => exact ⟨a, b, c, d, rfl⟩
/-- An argument that is a place: a struct of three texts and a bool. -/
theorem place_reads {H : Type} {enc : TypeId × Value → H} {P : Program} {e : TypeId} {f0 f1 f2 f3 : Field} (hs : P.underlying e = some (.struct #[f0, f1, f2, f3])) (hone : oneCellFields P #[f0, f1, f2, f3] = true) (hC : P.cellsOf e = 4)
    (s0 : P.underlying f0.type = some .string) (s1 : P.underlying f1.type = some .string) (s2 : P.underlying f2.type = some .string) (s3 : P.underlying f3.type = some .bool)
    {W : World} {base : Nat} {v : Value} {d : DataW H} {ps : List MemPlace} (hok : Value.okWide P W .any base e v) (h : DataW.Trod enc P W 0 (fun _ => true) true e v d ps) :
    ∃ p : PlaceR, v = .agg #[strV p.host, strV p.path, strV p.query, .bool p.has] ∧ p.host.length ≤ maxLen ∧ p.path.length ≤ maxLen ∧ p.query.length ≤ maxLen := by
  obtain ⟨cs, rfl, hsz⟩ := okWide_struct hs hok
  obtain ⟨fuel, hf⟩ := h
  obtain ⟨xs, k, hk, hxy, hcl, hxl, hff⟩ := DataW.trod_struct hs hf
  rw [hC] at hcl
  obtain ⟨v0, v1, v2, v3, hcs⟩ := list4 hcl
  obtain ⟨y0, y1, y2, y3, rfl⟩ := list4 hxl
  obtain ⟨o0, c0⟩ := hone_of hone 0 f0 rfl
  obtain ⟨o1, c1⟩ := hone_of hone 1 f1 rfl
  obtain ⟨o2, c2⟩ := hone_of hone 2 f2 rfl
  obtain ⟨o3, c3⟩ := hone_of hone 3 f3 rfl
  have g0 := hff 0 f0 rfl
  have g1 := hff 1 f1 rfl
  have g2 := hff 2 f2 rfl
  have g3 := hff 3 f3 rfl
  rw [o0, c0, hcs] at g0
  rw [o1, c1, hcs] at g1
  rw [o2, c2, hcs] at g2
  rw [o3, c3, hcs] at g3
  obtain ⟨t0, h0, -, hs0⟩ := DataW.trod_string s0 g0
  obtain ⟨t1, h1, -, hs1⟩ := DataW.trod_string s1 g1
  obtain ⟨t2, h2, -, hs2⟩ := DataW.trod_string s2 g2
  obtain ⟨t3, h3, -⟩ := DataW.trod_bool s3 g3
  simp at h0 h1 h2 h3
  subst h0 h1 h2 h3
  refine ⟨⟨t0.data.toList, t1.data.toList, t2.data.toList, t3⟩, ?_, by show t0.data.toList.length ≤ maxLen; rw [size_list]; exact hs0, by show t1.data.toList.length ≤ maxLen; rw [size_list]; exact hs1, by show t2.data.toList.length ≤ maxLen; rw [size_list]; exact hs2⟩
  have e : cs = #[.string t0, .string t1, .string t2, .bool t3] := Array.toList_inj.1 (by simpa [Value.cells] using hcs)
  rw [e]
end Go.Pantry
