/-
  Several texts in one: Card, Card2, Card3, Card4. No program is imported.
-/
import Derived.Test.YtgdeiokaicjkdaaPureAll1
import Derived.ProofKit
import Derived.OpenShut
import Derived.JoinedCond
import Derived.Deep.DeepHandedRow
import Derived.MakeChecks
import Derived.Lay
import Derived.SevenTiedAt
import Derived.Deep.SlicePairs
import Derived.Lib.SmallJoins
import Derived.Test.YtgdeiokaicjkdaaPureAll2
set_option linter.unusedVariables false
set_option linter.unusedSimpArgs false
/-
  From a walk to a statement: no program is imported.
-/
namespace Go.Pantry
open Go.RowKit Go.ChangeShapes Go.WideShapes Go.ChangeAt

theorem trodAll_below {H : Type} {enc : TypeId × Value → H} {P : Program} (hl : laidOutB P = true) {W W' : World} (hb : Below W.heap.size W W') :
    ∀ (ts : List TypeId) (vs : List Value) (ds : List (DataW H)) (ps : List MemPlace), (∀ t ∈ ts, P.readableRec t = true ∧ t < P.types.size) →
      DataW.TrodAll enc P W 0 (fun _ => true) true ts vs ds ps → (∀ x ∈ ps, x.block < W.heap.size) → DataW.TrodAll enc P W' 0 (fun b => decide (b < W.heap.size)) true ts vs ds ps
  | [], [], [], ps, _, h, _ => h
  | t :: ts, v :: vs, d :: ds, ps, hr, h, hlt => by
    obtain ⟨p, q, h1, h2, rfl⟩ := h
    obtain ⟨r1, r2⟩ := hr t (List.mem_cons_self ..)
    exact ⟨p, q, Below.trod hl r1 r2 h1 hb (fun x hx => hlt x (List.mem_append_left _ hx)),
      trodAll_below hl hb ts vs ds q (fun u hu => hr u (List.mem_cons_of_mem _ hu)) h2 (fun x hx => hlt x (List.mem_append_right _ hx)), rfl⟩
  | [], [], _ :: _, _, _, h, _ => h.elim
  | [], _ :: _, _, _, _, h, _ => h.elim
  | _ :: _, [], _, _, _, h, _ => h.elim
  | _ :: _, _ :: _, [], _, _, h, _ => h.elim

/-- A law: it answers true, and nothing that was there has turned. -/
theorem law_contract {H : Type} {enc : TypeId × Value → H} {P : Program} {f : FuncId} {fn : Func} {s : ChangeSpec} (hl : laidOutB P = true) (hr : fn.params.toList.all (fun t => P.readableRec t && decide (t < P.types.size)) = true) {tb : TypeId}
    (hres : fn.resultTypes = #[tb]) (htb : P.underlying tb = some .bool) (hvars : s.vars = []) {W : World} {args : Array Value} {ds gs : List (DataW H)} {before : List MemPlace}
    (hW : DataW.Whole enc P fn.params.toList s.vars false W args.toList ds gs before) (hs : s.fn H ds = { results := [.lit (.bool true)], args := ds })
    (walk : Calls P f args W fun e W' => e = .returned (.bool true) ∧ Below W.heap.size W W') :
    Calls P f args W fun e W' => ∃ v, e = .returned v ∧ s.post enc P fn false true false false W args v W' := by
  refine walk.mono fun e W' ⟨he, hb⟩ => ?_
  subst he
  have hW' := hW
  obtain ⟨p, q, hA, hV, hbf, _, _⟩ := hW
  have hlt : ∀ x ∈ before, x.block < W.heap.size := fun x hx => hW'.lt x hx
  have hgs : gs = [] ∧ q = [] := by
    rw [hvars] at hV
    cases gs with
    | nil => exact ⟨rfl, hV⟩
    | cons g gs => exact hV.elim
  obtain ⟨rfl, rfl⟩ := hgs
  rw [List.append_nil] at hbf
  subst hbf
  have hs' : s.fn H (ds ++ []) = { results := [.lit (.bool true)], args := ds } := by rw [List.append_nil]; exact hs
  refine ⟨_, rfl, ds, [], before, [], before, [], hW', ?_, ?_, ?_, hb.frame _, fun h => by cases h⟩
  · rw [hs', hres]
    exact trodAll_mk1 (shut_bool htb true)
  · rw [hs']
    refine trodAll_below hl hb _ _ _ _ (fun t ht => ?_) hA hlt
    have := List.all_eq_true.1 hr t ht
    simpa using this
  · rw [hs', hvars]
    rfl
theorem reads_of {w : World} {a : Addr} {len cap : Nat} {xs : List Value} (hl : xs.length = len) (h : ∀ (i : Nat) u, xs[i]? = some u → w.cell? (a.add i) = some u) : Reads w (.slice (some a) len cap) xs := by
  subst hl
  refine ⟨some a, cap, rfl, fun j u hj => ?_, fun e => by cases e⟩
  have hc := h j u hj
  obtain ⟨b, off, spot⟩ := a
  have hspot : spot = none := by
    have h0 : ∃ y, xs[0]? = some y := by
      have : j < xs.length := (List.getElem?_eq_some_iff.1 hj).1
      exact ⟨_, List.getElem?_eq_getElem (by omega)⟩
    obtain ⟨y, hy⟩ := h0
    simpa [Addr.add] using World.cell?_spot (h 0 y hy)
  subst hspot
  exact ⟨b, off, rfl, by rw [← Go.WideShapes.add_plain]; exact hc⟩
theorem strings_reads {H : Type} {enc : TypeId × Value → H} {P : Program} {t e : TypeId} (ht : P.underlying t = some (.slice e)) (he : P.underlying e = some .string) (hc : P.cellsOf e = 1)
    {W : World} {base : Nat} {v : Value} {d : DataW H} {ps : List MemPlace} (hok : Value.okWide P W .any base t v) (h : DataW.Trod enc P W 0 (fun _ => true) true t v d ps) :
    ∃ l : List (List UInt8), Reads W v (l.map strV) ∧ (∀ x ∈ l, x.length ≤ maxLen) ∧ l.length ≤ maxLen := by
  obtain ⟨a0, len, cap, rfl⟩ := okWide_slice ht hok
  obtain ⟨fuel, hf⟩ := h
  rcases open_strings ht he hc hf with ⟨hcs, _⟩ | ⟨a, len', cap', ss, hcs, _, hl, hm, hz, _, hcell, hws⟩
  · simp [Value.cells] at hcs
    obtain ⟨rfl, rfl, rfl⟩ := hcs
    exact ⟨[], ⟨none, 0, rfl, fun j u hj => by simp at hj, fun _ => rfl⟩, by simp, by simp⟩
  · simp [Value.cells] at hcs
    obtain ⟨rfl, rfl, rfl⟩ := hcs
    have hzl : len ≤ ss.length := by rw [hz]; simp; exact hl
    refine ⟨(ss.take len).map (fun s => s.data.toList), reads_of (by simp; omega) ?_, ?_, ?_⟩
    · intro i u hi
      rw [List.map_map, List.getElem?_map] at hi
      obtain ⟨s, hs, rfl⟩ := Option.map_eq_some_iff.1 hi
      have hs' : ss[i]? = some s := by
        rw [List.getElem?_take] at hs
        split at hs
        · exact hs
        · cases hs
      have hil : i < ss.length := (List.getElem?_eq_some_iff.1 hs').1
      rw [hcell i hil]
      simp [List.getD, hs', strV]
    · intro x hx
      obtain ⟨s, hs, rfl⟩ := List.mem_map.1 hx
      rw [size_list]
      exact hws s (List.mem_of_mem_take hs)
    · simp; omega
theorem ints_reads {H : Type} {enc : TypeId × Value → H} {P : Program} {t e : TypeId} {k : IntKind} (ht : P.underlying t = some (.slice e)) (he : P.underlying e = some (.int k)) (hc : P.cellsOf e = 1)
    {W : World} {base : Nat} {v : Value} {d : DataW H} {ps : List MemPlace} (hok : Value.okWide P W .any base t v) (h : DataW.Trod enc P W 0 (fun _ => true) true t v d ps) :
    ∃ l : List Int, Reads W v (l.map (Value.int k)) ∧ (∀ x ∈ l, (Lit.int k x).wf = true) ∧ l.length ≤ maxLen := by
  obtain ⟨a0, len, cap, rfl⟩ := okWide_slice ht hok
  obtain ⟨fuel, hf⟩ := h
  rcases open_ints ht he hc hf with ⟨hcs, _⟩ | ⟨a, len', cap', zs, hcs, _, hl, hm, hz, _, hcell, hws⟩
  · simp [Value.cells] at hcs
    obtain ⟨rfl, rfl, rfl⟩ := hcs
    exact ⟨[], ⟨none, 0, rfl, fun j u hj => by simp at hj, fun _ => rfl⟩, by simp, by simp⟩
  · simp [Value.cells] at hcs
    obtain ⟨rfl, rfl, rfl⟩ := hcs
    have hzl : len ≤ zs.length := by rw [hz]; simp; exact hl
    refine ⟨zs.take len, reads_of (by simp; omega) ?_, ?_, ?_⟩
    · intro i u hi
      rw [List.getElem?_map] at hi
      obtain ⟨s, hs, rfl⟩ := Option.map_eq_some_iff.1 hi
      have hs' : zs[i]? = some s := by
        rw [List.getElem?_take] at hs
        split at hs
        · exact hs
        · cases hs
      have hil : i < zs.length := (List.getElem?_eq_some_iff.1 hs').1
      rw [hcell i hil]
      simp [List.getD, hs']
    · intro x hx
      exact hws x (List.mem_of_mem_take hx)
    · simp; omega
end Go.Pantry
/-
  From a walk to a statement: arguments that are fields. No program is imported.
-/
namespace Go.Pantry
open Go.RowKit Go.ChangeShapes Go.WideShapes Go.ChangeAt Go.Deep

theorem add_none {b off i : Nat} : (⟨b, off, none⟩ : Addr).add i = ⟨b, off + i, none⟩ := by unfold Addr.add; split <;> simp_all
/-- An argument that is a slice of structs of two texts reads as fields. -/
theorem fields_reads {H : Type} {enc : TypeId × Value → H} {P : Program} {t e : TypeId} {f0 f1 : Field} (ht : P.underlying t = some (.slice e)) (he : P.underlying e = some (.struct #[f0, f1]))
    (ce : P.cellsOf e = 2) (o0 : f0.offset = 0) (o1 : f1.offset = 1) (c0 : P.cellsOf f0.type = 1) (c1 : P.cellsOf f1.type = 1) (s0 : P.underlying f0.type = some .string) (s1 : P.underlying f1.type = some .string)
    {W : World} {base : Nat} {v : Value} {d : DataW H} {ps : List MemPlace} (hok : Value.okWide P W .any base t v) (h : DataW.Trod enc P W 0 (fun _ => true) true t v d ps) :
    ∃ L : List Fld, Reads2 W v L ∧ (∀ f ∈ L, f.1.length ≤ maxLen ∧ f.2.length ≤ maxLen) ∧ L.length ≤ maxLen := by
  obtain ⟨a0, len, cap, rfl⟩ := okWide_slice ht hok
  obtain ⟨fuel, hf⟩ := h
  rcases open_slice_pairs ht he ce o0 o1 c0 c1 hf with ⟨hcs, _⟩ | ⟨a, len', cap', m, n, V0, V1, D0, D1, P0, P1, hcs, _, hl, hm, hmm, _, hall⟩
  · simp [Value.cells] at hcs
    obtain ⟨rfl, rfl, rfl⟩ := hcs
    exact ⟨[], ⟨none, 0, rfl, fun j p hj => by simp at hj, (fun _ => rfl), by simp⟩, by simp, by simp⟩
  · simp [Value.cells] at hcs
    obtain ⟨rfl, rfl, rfl⟩ := hcs
    have hlm : len ≤ m := by rw [hmm]; split <;> omega
    have each : ∀ i, i < len → ∃ p : Fld, W.cell? (a.add (i * 2)) = some (strV p.1) ∧ W.cell? (a.add (i * 2 + 1)) = some (strV p.2) ∧ p.1.length ≤ maxLen ∧ p.2.length ≤ maxLen := by
      intro i hi
      obtain ⟨h1, h2, h3, h4⟩ := hall i (by omega)
      obtain ⟨x, hx, -, hxs⟩ := DataW.trod_string s0 h3
      obtain ⟨y, hy, -, hys⟩ := DataW.trod_string s1 h4
      simp at hx hy
      refine ⟨(x.data.toList, y.data.toList), by rw [h1, hx], by rw [h2, hy], ?_, ?_⟩
      · rw [size_list]; exact hxs
      · rw [size_list]; exact hys
    obtain ⟨q, hq⟩ := choose_lt each
    refine ⟨(List.range len).map q, ?_, ?_, by simp; omega⟩
    · by_cases h0 : 0 < len
      · obtain ⟨b, off, spot⟩ := a
        have hspot : spot = none := by simpa [Addr.add] using World.cell?_spot (hq 0 h0).1
        subst hspot
        refine ⟨some ⟨b, off, none⟩, cap, by simp, fun j p hj => ?_, (fun e => by cases e), by simpa using hl⟩
        have hjl : j < len := by simpa using (List.getElem?_eq_some_iff.1 hj).1
        have hp : q j = p := by simpa [hjl] using hj
        subst hp
        obtain ⟨g1, g2, -, -⟩ := hq j hjl
        rw [add_none] at g1 g2
        exact ⟨b, off, rfl, g1, by rw [Nat.add_assoc]; exact g2⟩
      · have : len = 0 := by omega
        subst this
        exact ⟨some a, cap, rfl, fun j p hj => by simp at hj, (fun e => by cases e), by simp⟩
    · intro f hf
      obtain ⟨i, hi, rfl⟩ := List.mem_map.1 hf
      obtain ⟨-, -, g3, g4⟩ := hq i (List.mem_range.1 hi)
      exact ⟨g3, g4⟩
/-- What the reach says of a slice of structs of two texts: how long it can be. -/
theorem fields_reach {H : Type} {enc : TypeId × Value → H} {P : Program} {t e : TypeId} {f0 f1 : Field} (ht : P.underlying t = some (.slice e)) (he : P.underlying e = some (.struct #[f0, f1]))
    (ce : P.cellsOf e = 2) (o0 : f0.offset = 0) (o1 : f1.offset = 1) (c0 : P.cellsOf f0.type = 1) (c1 : P.cellsOf f1.type = 1)
    {W : World} {v : Value} {d : DataW H} {ps : List MemPlace} (h : DataW.Trod enc P W 0 (fun _ => true) true t v d ps) (hz : ∀ x ∈ d.weights P t, x ≤ reachBytes) {L : List Fld} (hL : Reads2 W v L) :
    L.length * P.bytesOf e ≤ reachBytes := by
  obtain ⟨a0, cap, rfl⟩ := hL.form
  obtain ⟨fuel, hf⟩ := h
  rcases open_slice_pairs ht he ce o0 o1 c0 c1 hf with ⟨hcs, _⟩ | ⟨a, len', cap', m, n, V0, V1, D0, D1, P0, P1, hcs, _, hl, hm, hmm, hx, hall⟩
  · simp [Value.cells] at hcs
    rw [hcs.2.1]
    simp
  · simp [Value.cells] at hcs
    obtain ⟨rfl, h2, rfl⟩ := hcs
    have hd := congrArg Prod.fst hx
    simp only at hd
    subst hd
    have h3 := hz _ (by simp only [DataW.weights, ht]; exact List.mem_cons_self ..)
    simp only [List.length_map, List.length_range] at h3
    rw [h2]
    exact Nat.le_trans (Nat.mul_le_mul_right _ (Nat.le_add_right _ _)) h3
/-- An argument that is a struct of two texts. -/
theorem field_reads {H : Type} {enc : TypeId × Value → H} {P : Program} {t : TypeId} {f0 f1 : Field} (hs : P.underlying t = some (.struct #[f0, f1])) (hone : oneCellFields P #[f0, f1] = true) (hC : P.cellsOf t = 2) (s0 : P.underlying f0.type = some .string) (s1 : P.underlying f1.type = some .string)
    {W : World} {base : Nat} {v : Value} {d : DataW H} {ps : List MemPlace} (hok : Value.okWide P W .any base t v) (h : DataW.Trod enc P W 0 (fun _ => true) true t v d ps) :
    ∃ f : Fld, v = fldV f ∧ f.1.length ≤ maxLen ∧ f.2.length ≤ maxLen := by
  obtain ⟨v0, v1, y0, y1, n, rfl, -, -, h0, h1⟩ := Joins.open_agg2 hs hone hC hok h
  obtain ⟨x, hx, -, hxs⟩ := DataW.trod_string s0 h0
  obtain ⟨y, hy, -, hys⟩ := DataW.trod_string s1 h1
  simp at hx hy
  subst hx hy
  exact ⟨(x.data.toList, y.data.toList), rfl, by rw [size_list]; exact hxs, by rw [size_list]; exact hys⟩
end Go.Pantry
/-
  From data to values: a slice of bytes. No program is imported.
-/
namespace Go.Pantry
open Go.RowKit Go.ChangeShapes Go.WideShapes Go.ChangeAt

/-- numbers that fit a byte are bytes -/
theorem ints_bytes (l : List Int) (h : ∀ x ∈ l, (Lit.int .u8 x).wf = true) : ∃ L : List UInt8, l.map (Value.int .u8) = L.map byteV ∧ L.length = l.length := by
  refine ⟨l.map fun x => UInt8.ofNat x.toNat, ?_, by simp⟩
  rw [List.map_map]
  refine List.map_congr_left fun x hx => ?_
  have h1 : (decide (IntKind.u8.min ≤ x) && decide (x ≤ IntKind.u8.max)) = true := h x hx
  rw [Bool.and_eq_true] at h1
  have h2 : (0 : Int) ≤ x := of_decide_eq_true h1.1
  have h3 : x ≤ 255 := of_decide_eq_true h1.2
  show Value.int .u8 x = Value.int .u8 (((UInt8.ofNat x.toNat).toNat : Nat) : Int)
  rw [UInt8.toNat_ofNat']
  congr 1
  omega
/-- An argument that is a slice of bytes reads as bytes, and has their room. -/
theorem bytes_reads {H : Type} {enc : TypeId × Value → H} {P : Program} {t e : TypeId} (ht : P.underlying t = some (.slice e)) (he : P.underlying e = some (.int .u8)) (hc : P.cellsOf e = 1)
    {W : World} {base : Nat} {v : Value} {d : DataW H} {ps : List MemPlace} (hok : Value.okWide P W .any base t v) (h : DataW.Trod enc P W 0 (fun _ => true) true t v d ps) :
    ∃ L : List UInt8, Reads W v (L.map byteV) ∧ (∀ ao n cap, v = .slice ao n cap → n ≤ cap) ∧ L.length ≤ maxLen := by
  obtain ⟨l, h1, h2, h3⟩ := ints_reads ht he hc hok h
  obtain ⟨L, e2, hl⟩ := ints_bytes l h2
  rw [e2] at h1
  refine ⟨L, h1, fun ao n cap hv => ?_, by omega⟩
  obtain ⟨fuel, hf⟩ := h
  subst hv
  rcases open_ints ht he hc hf with ⟨hcs, _⟩ | ⟨a, len', cap', zs, hcs, _, hl2, _⟩
  · simp [Value.cells] at hcs
    omega
  · simp [Value.cells] at hcs
    omega
end Go.Pantry
/-
  From data to values: slices of slices of bytes. No program is imported.
-/
namespace Go.Pantry
open Go.RowKit Go.ChangeShapes Go.WideShapes Go.ChangeAt Go.Deep

theorem add_none4 {b off i : Nat} : (⟨b, off, none⟩ : Addr).add i = ⟨b, off + i, none⟩ := by unfold Addr.add; split <;> simp_all
/-- a cell that is read as a slice of bytes -/
theorem bytes_cell {H : Type} {enc : TypeId × Value → H} {P : Program} {W : World} {base : Nat} {sp : Nat → Bool} {held : Bool} {n : Nat} {e u : TypeId} {V : Value} {x : DataW H × List MemPlace} (he : P.underlying e = some (.slice u)) (hu : P.underlying u = some (.int .u8)) (hc : P.cellsOf u = 1)
    (h : DataW.trod enc P W base sp held n e [V] = some x) : ∃ ao c l, V = .slice ao (List.length l) c ∧ Bytes W V l ∧ l.length ≤ maxLen := by
  rcases open_ints he hu hc h with ⟨hcs, _⟩ | ⟨a, len, cap, zs, hcs, _, hl, hm, hz, _, hcell, hws⟩
  · simp at hcs
    subst hcs
    exact ⟨none, 0, [], rfl, bytes_nil W, by simp⟩
  · simp at hcs
    subst hcs
    have hzl : len ≤ zs.length := by rw [hz]; split <;> omega
    obtain ⟨L, hL, hLl⟩ := ints_bytes (zs.take len) (fun x hx => hws x (List.mem_of_mem_take hx))
    have hlen : L.length = len := by rw [hLl, List.length_take]; omega
    subst hlen
    refine ⟨some a, cap, L, rfl, ⟨some a, cap, rfl, hl, ?_⟩, by omega⟩
    rw [← hL]
    refine reads_of (by simp; omega) ?_
    intro i u hi
    rw [List.getElem?_map] at hi
    obtain ⟨s, hs, rfl⟩ := Option.map_eq_some_iff.1 hi
    have hs' : zs[i]? = some s := by
      rw [List.getElem?_take] at hs
      split at hs
      · exact hs
      · cases hs
    have hil : i < zs.length := (List.getElem?_eq_some_iff.1 hs').1
    rw [hcell i hil]
    simp [List.getD, hs']
theorem bytess_reads {H : Type} {enc : TypeId × Value → H} {P : Program} {t e u : TypeId} (ht : P.underlying t = some (.slice e)) (he : P.underlying e = some (.slice u)) (hu : P.underlying u = some (.int .u8)) (ce : P.cellsOf e = 1) (cu : P.cellsOf u = 1)
    {W : World} {base : Nat} {v : Value} {d : DataW H} {ps : List MemPlace} (hok : Value.okWide P W .any base t v) (h : DataW.Trod enc P W 0 (fun _ => true) true t v d ps) :
    ∃ M : List (List UInt8), ReadsBB W v M ∧ M.length ≤ maxLen := by
  obtain ⟨a0, len, cap, rfl⟩ := okWide_slice ht hok
  obtain ⟨fuel, hf⟩ := h
  rcases open_slice1 ht ce hf with ⟨hcs, _⟩ | ⟨a, len', cap', m, n, V, D, Pl, hcs, _, hl, hm, hmm, _, hall⟩
  · simp [Value.cells] at hcs
    obtain ⟨rfl, rfl, rfl⟩ := hcs
    exact ⟨[], ⟨[], ⟨none, 0, rfl, (fun j u hj => by cases hj), fun _ => rfl⟩, rfl, (fun j l hj => by cases hj)⟩, by simp⟩
  · simp [Value.cells] at hcs
    obtain ⟨rfl, rfl, rfl⟩ := hcs
    have hlm : len ≤ m := by rw [hmm]; split <;> omega
    have each : ∀ i, i < len → ∃ l : List UInt8, (∃ ao c, V i = .slice ao l.length c) ∧ Bytes W (V i) l := by
      intro i hi
      obtain ⟨h1, h2⟩ := hall i (by omega)
      obtain ⟨ao, c, l, h3, h4, -⟩ := bytes_cell he hu cu h2
      exact ⟨l, ⟨ao, c, h3⟩, h4⟩
    obtain ⟨q, hq⟩ := choose_lt each
    refine ⟨(List.range len).map q, ⟨(List.range len).map V, ?_, by simp, ?_⟩, by simp; omega⟩
    · refine reads_of (by simp) ?_
      intro i u hi
      rw [List.getElem?_map] at hi
      obtain ⟨s, hs, rfl⟩ := Option.map_eq_some_iff.1 hi
      obtain ⟨hil, hs2⟩ := List.getElem?_eq_some_iff.1 hs
      simp at hil hs2
      subst hs2
      exact (hall i (by omega)).1
    · intro j l hj
      rw [List.getElem?_map] at hj
      obtain ⟨s, hs, rfl⟩ := Option.map_eq_some_iff.1 hj
      obtain ⟨hil, hs2⟩ := List.getElem?_eq_some_iff.1 hs
      simp at hil hs2
      subst hs2
      obtain ⟨⟨ao, c, h1⟩, h2⟩ := hq j hil
      refine ⟨ao, c, ?_, by rw [← h1]; exact h2⟩
      rw [List.getElem?_map, hs]
      simp [h1]
end Go.Pantry
