/-
  Slices whose elements are two texts (fields): no program is imported.
-/
import Derived.Test.YtfoghjhdjmapnaaDoorBase
import Derived.Test.YtfoghjhdjmapnaaDoorPureField
import Derived.Deep.QuietTactic
namespace Go.Pantry
open Go.RowKit

/-- a field, as a value; fields, as cells -/
abbrev fldV (p : Fld) : Value := .agg #[strV p.1, strV p.2]
def fldCells (L : List Fld) : List Value := L.flatMap fun p => [strV p.1, strV p.2]
theorem fldCells_len (L : List Fld) : (fldCells L).length = L.length * 2 := by
  induction L with
  | nil => rfl
  | cons p r ih => simp only [fldCells, List.flatMap_cons, List.length_append, List.length_cons, List.length_nil] at ih ⊢; omega
theorem fldCells_at (L : List Fld) : ∀ (j : Nat) (p : Fld), L[j]? = some p → (fldCells L)[j * 2]? = some (strV p.1) ∧ (fldCells L)[j * 2 + 1]? = some (strV p.2) := by
  induction L with
  | nil => intro j p h; simp at h
  | cons q r ih =>
    intro j p h
    cases j with
    | zero => simp at h; subst h; exact ⟨rfl, rfl⟩
    | succ j =>
      have h' : r[j]? = some p := by simpa using h
      obtain ⟨a, b⟩ := ih j p h'
      have e1 : (j + 1) * 2 = j * 2 + 2 := by omega
      rw [e1]
      exact ⟨a, b⟩
theorem fldCells_append (A B : List Fld) : fldCells (A ++ B) = fldCells A ++ fldCells B := by simp [fldCells]
theorem fldCells_one (L : List Fld) : ∀ u ∈ fldCells L, u.oneCell' = true := by
  intro u hu
  obtain ⟨p, _, hp⟩ := List.mem_flatMap.1 hu
  rcases List.mem_cons.1 hp with rfl | hp
  · rfl
  · rcases List.mem_cons.1 hp with rfl | hp
    · rfl
    · cases hp
/-- The slice value v reads as the fields L. -/
def Reads2 (w : World) (v : Value) (L : List Fld) : Prop :=
  ∃ ao cap, v = .slice ao L.length cap ∧ (∀ (j : Nat) p, L[j]? = some p → (∃ b off, ao = some ⟨b, off, none⟩ ∧ w.cell? ⟨b, off + j * 2, none⟩ = some (strV p.1) ∧ w.cell? ⟨b, off + j * 2 + 1, none⟩ = some (strV p.2))) ∧ (ao = none → cap = 0) ∧ L.length ≤ cap
theorem Reads2.below {w w' : World} {v : Value} {L : List Fld} (h : Reads2 w v L) (hb : Below w.heap.size w w') : Reads2 w' v L := by
  obtain ⟨ao, cap, hv, hc, hz⟩ := h
  refine ⟨ao, cap, hv, fun j p hj => ?_, hz⟩
  obtain ⟨b, off, ha, h1, h2⟩ := hc j p hj
  have hlt : b < w.heap.size := World.block_lt_of_cell? w _ h1
  exact ⟨b, off, ha, (hb.cell (p := ⟨b, off + j * 2, none⟩) hlt).trans h1, (hb.cell (p := ⟨b, off + j * 2 + 1, none⟩) hlt).trans h2⟩
/-- One element: where it lies. -/
theorem Reads2.fld {w : World} {ao : Option Addr} {n cap : Nat} {L : List Fld} (h : Reads2 w (.slice ao n cap) L) {j : Nat} {p : Fld} (hj : L[j]? = some p) :
    ∃ b off, ao = some ⟨b, off, none⟩ ∧ w.cell? ⟨b, off + j * 2, none⟩ = some (strV p.1) ∧ w.cell? ⟨b, off + j * 2 + 1, none⟩ = some (strV p.2) := by
  obtain ⟨ao', cap', hv, hc, -⟩ := h
  cases hv
  exact hc j p hj
theorem Reads2.cap {w : World} {n c : Nat} {a : Addr} {L : List Fld} (h : Reads2 w (.slice (some a) n c) L) (d : Nat) (hd : L.length ≤ d) : Reads2 w (.slice (some a) n d) L := by
  obtain ⟨ao', cap', hv, hc, -⟩ := h
  cases hv
  exact ⟨_, d, rfl, hc, (fun e => by cases e), hd⟩
theorem Reads2.form {w : World} {v : Value} {L : List Fld} (h : Reads2 w v L) : ∃ ao cap, v = .slice ao L.length cap := let ⟨ao, cap, hv, _⟩ := h; ⟨ao, cap, hv⟩
theorem take_fld {L : List Fld} {k : Nat} {f : Fld} (h : L[k]? = some f) : L.take (k + 1) = L.take k ++ [f] := by
  obtain ⟨hk', rfl⟩ := List.getElem?_eq_some_iff.1 h
  exact List.take_succ_eq_append_getElem hk'
theorem fld_of_take {L : List Fld} {k : Nat} {f : Fld} (hk : k < L.length) (h : L.take (k + 1) = L.take k ++ [f]) : L[k]? = some f := by
  rw [List.take_succ_eq_append_getElem hk] at h
  have := List.append_cancel_left h
  simp at this
  rw [List.getElem?_eq_getElem hk, this]
end Go.Pantry
namespace Go
open Go.RowKit Go.Pantry
theorem World.ownsRow.reads2 {w : World} {B : Nat} {e : TypeId} {v : Value} {n : Nat} {L : List Fld} (h : w.ownsRow B e 2 v n (fldCells L)) : n = L.length ∧ Reads2 w v L := by
  have hl : n = L.length := by have := h.1; rw [fldCells_len] at this; omega
  subst hl
  refine ⟨rfl, ?_⟩
  rcases h.2 with ⟨rfl, hn⟩ | ⟨g, cap, cur, rfl, hb, hg, hnc, hcm, hcs, htake⟩
  · exact ⟨none, 0, by rw [hn], fun j p hj => by have : j < L.length := (List.getElem?_eq_some_iff.1 hj).1; omega, fun _ => rfl, by omega⟩
  · refine ⟨some ⟨g, 0, none⟩, cap, rfl, fun j p hj => ⟨g, 0, rfl, ?_⟩, (fun e => by cases e), hnc⟩
    obtain ⟨a, b⟩ := fldCells_at L j p hj
    have hadd : ∀ i : Nat, (⟨g, 0, none⟩ : Addr).add i = ⟨g, 0 + i, none⟩ := fun i => by unfold Addr.add; split <;> simp_all
    have h1 := h.cells (g := g) rfl _ _ a
    have h2 := h.cells (g := g) rfl _ _ b
    rw [hadd] at h1 h2
    exact ⟨h1, by rw [Nat.add_assoc]; exact h2⟩
end Go
namespace Go.Pantry
open Go.RowKit
/-- A slice of fields that the call made: the fields L. (Behind a word of its own: a walk's end takes an open 'there is' apart.) -/
def MadeFlds (t : TypeId) (B : Nat) (L : List Fld) (e : Ending) (w' : World) : Prop := ∃ v' k, e = .returned v' ∧ w'.ownsRow B t 2 v' k (fldCells L)
theorem drewN_below2 (w : World) (n : Nat) : Below w.heap.size w (w.drewN n) := ⟨rfl, rfl, rfl, Nat.le_refl _, fun _ _ => rfl⟩
/-- A slice of texts that the call made. -/
def MadeStrs (t : TypeId) (B : Nat) (l : List (List UInt8)) (e : Ending) (w' : World) : Prop := ∃ v, e = .returned v ∧ w'.ownsRow B t 1 v l.length (l.map strV)
/-- append(out, f), out nil or the call's own, f a field. -/
theorem wpList_append_fld {P : Program} {ops : Array Oper} {rest : List Oper} {o : Oper} {a : Act} {Q : Exit → Act → World → Prop} (w : World) (hgd : o.guard = none) (s x : Operand) (t : TypeId)
    (ho : o.op = .call { callee := .builtin .append, args := #[s, x], argTypes := #[t, t] })
    (B : Nat) (e : TypeId) {z : Value} {bytes : Nat} (ht : P.underlying t = some (.slice e)) (hi : (P.info? e).map (fun i => (i.zero, i.size, i.bytes)) = some (some z, 2, bytes)) (hzs : z.cells.size = 2) (hby : bytes ≤ 4096)
    {v : Value} {n : Nat} {L : List Fld} (hs : a.eval s = v) (hown : w.ownsRow B e 2 v n (fldCells L)) (p : Fld)
    {g : Nat} (hx : a.eval x = .slice (some ⟨g, 0, none⟩) 1 1) (hgs : g = w.heap.size) (hn : n < 4294967296) (hB : B ≤ w.heap.size)
    (h : ∀ v' w', w'.ownsRow B e 2 v' (n + 1) (fldCells (L ++ [p])) → Below B w w' → wpList P ops Q rest (a.put o.dst v') w') :
    wpList P ops Q (o :: rest) a (w.alloc (.cells #[strV p.1, strV p.2] e)) := by
  subst hgs
  obtain ⟨i0, h1, h2, h3, h4⟩ := info_parts hi
  refine wpList_append_own _ hgd s x t ho B e i0 z 2 bytes ht h1 h2 h3 h4 hzs (by decide) v n _ hs (hown.alloc _) ⟨w.heap.size, 0, none⟩ 1 1 [strV p.1, strV p.2] hx rfl ?_ ?_ ?_ ?_ ?_ ?_
  · intro j y hj
    have e0 : (⟨w.heap.size, 0, none⟩ : Addr).add j = ⟨w.heap.size, j, none⟩ := by unfold Addr.add; split <;> simp_all
    rw [e0, World.cell?_alloc_at _ _ _ _ rfl]
    simpa using hj
  · intro y hy
    rcases List.mem_cons.1 hy with rfl | hy
    · rfl
    · rcases List.mem_cons.1 hy with rfl | hy
      · rfl
      · cases hy
  · unfold maxLen; omega
  · calc (n + 1) * bytes ≤ 4294967296 * 4096 := Nat.mul_le_mul (by omega) hby
      _ ≤ 140737488355328 := by decide
  · simp; omega
  · intro v' w' ho' hg _
    have hg' : w.grownBy w' v.ownBlock := ⟨hg.os, hg.tape, hg.output, Nat.le_trans (by simp) hg.size, fun k hk hne => (hg.block k (by simp; omega) hne).trans (Below.heap_alloc _ _ _ hk)⟩
    refine h v' w' ?_ ((Below.refl B w).grown hg' hB (fun k hk => (hown.lt k hk).1))
    rw [fldCells_append]
    exact ho'
/-- append(out, more...), out nil or the call's own, whatever slice of fields more is: under the platform's bound. -/
theorem wpList_append_fldsz {P : Program} {ops : Array Oper} {rest : List Oper} {o : Oper} {a : Act} {Q : Exit → Act → World → Prop} (w : World) (hgd : o.guard = none) (s x : Operand) (t : TypeId)
    (ho : o.op = .call { callee := .builtin .append, args := #[s, x], argTypes := #[t, t] })
    (B : Nat) (e : TypeId) {z : Value} {bytes : Nat} (ht : P.underlying t = some (.slice e)) (hi : (P.info? e).map (fun i => (i.zero, i.size, i.bytes)) = some (some z, 2, bytes)) (hzs : z.cells.size = 2)     {v : Value} {n : Nat} {L : List Fld} (hs : a.eval s = v) (hown : w.ownsRow B e 2 v n (fldCells L)) {vx : Value} {M : List Fld} (hr : Reads2 w vx M)
    (hx : a.eval x = vx) (hn : n + M.length ≤ maxLen) (hbz : (n + M.length) * bytes ≤ 140737488355328) (hB : B ≤ w.heap.size)
    (h : ∀ v' w', w'.ownsRow B e 2 v' (n + M.length) (fldCells (L ++ M)) → Below B w w' → wpList P ops Q rest (a.put o.dst v') w') :
    wpList P ops Q (o :: rest) a w := by
  obtain ⟨i0, h1, h2, h3, h4⟩ := info_parts hi
  obtain ⟨ao, cap, rfl, hc, hz⟩ := hr
  cases ao with
  | none =>
    have hnil : M = [] := by
      cases M with
      | nil => rfl
      | cons y ys => obtain ⟨b, off, he, _⟩ := hc 0 y rfl; cases he
    subst hnil
    rw [hz.1 rfl] at hx
    refine wpList_append_own_none hgd s x t ho B e i0 2 ht h1 v n (fldCells L) hs hown hx ?_
    exact h v w (by simpa using hown) (Below.refl _ _)
  | some ad =>
    have hspot : ∀ (j : Nat) (u : Value), (fldCells M)[j]? = some u → w.cell? (ad.add j) = some u := by
      intro j u hj
      have hjl : j < M.length * 2 := by have := (List.getElem?_eq_some_iff.1 hj).1; rwa [fldCells_len] at this
      have hq : j / 2 < M.length := by omega
      obtain ⟨p, hp⟩ : ∃ p, M[j / 2]? = some p := ⟨_, List.getElem?_eq_getElem hq⟩
      obtain ⟨b, off, he, g1, g2⟩ := hc (j / 2) p hp
      obtain ⟨f1, f2⟩ := fldCells_at M (j / 2) p hp
      cases he
      have e0 : (⟨b, off, none⟩ : Addr).add j = ⟨b, off + j, none⟩ := by unfold Addr.add; split <;> simp_all
      rw [e0]
      rcases Nat.mod_two_eq_zero_or_one j with h0 | h0
      · have ej : j / 2 * 2 = j := by omega
        rw [ej] at f1 g1
        rw [hj] at f1
        cases f1
        exact g1
      · have ej : j / 2 * 2 + 1 = j := by omega
        rw [ej] at f2
        rw [Nat.add_assoc, ej] at g2
        rw [hj] at f2
        cases f2
        exact g2
    refine wpList_append_own w hgd s x t ho B e i0 z 2 bytes ht h1 h2 h3 h4 hzs (by decide) v n (fldCells L) hs hown ad M.length cap (fldCells M) hx (fldCells_len M) hspot (fldCells_one M) hn hbz hB ?_
    · intro v' w' ho' hg _
      refine h v' w' ?_ ((Below.refl B w).grown hg hB (fun k hk => (hown.lt k hk).1))
      rw [fldCells_append]
      exact ho'
/-- append(out, more...), out nil or the call's own, whatever slice of fields more is. -/
theorem wpList_append_flds {P : Program} {ops : Array Oper} {rest : List Oper} {o : Oper} {a : Act} {Q : Exit → Act → World → Prop} (w : World) (hgd : o.guard = none) (s x : Operand) (t : TypeId)
    (ho : o.op = .call { callee := .builtin .append, args := #[s, x], argTypes := #[t, t] })
    (B : Nat) (e : TypeId) {z : Value} {bytes : Nat} (ht : P.underlying t = some (.slice e)) (hi : (P.info? e).map (fun i => (i.zero, i.size, i.bytes)) = some (some z, 2, bytes)) (hzs : z.cells.size = 2) (hby : bytes ≤ 4096)
    {v : Value} {n : Nat} {L : List Fld} (hs : a.eval s = v) (hown : w.ownsRow B e 2 v n (fldCells L)) {vx : Value} {M : List Fld} (hr : Reads2 w vx M)
    (hx : a.eval x = vx) (hn : n + M.length < 4294967296) (hB : B ≤ w.heap.size)
    (h : ∀ v' w', w'.ownsRow B e 2 v' (n + M.length) (fldCells (L ++ M)) → Below B w w' → wpList P ops Q rest (a.put o.dst v') w') :
    wpList P ops Q (o :: rest) a w :=
  wpList_append_fldsz w hgd s x t ho B e ht hi hzs hs hown hr hx (by unfold maxLen; omega)
    (calc (n + M.length) * bytes ≤ 4294967296 * 4096 := Nat.mul_le_mul (by omega) hby
      _ ≤ 140737488355328 := by decide) hB h
theorem chain2 {b : Nat} {w w1 w2 : World} (h : Below b w w1) (hs : b ≤ w1.heap.size) (h2 : Below w1.heap.size w1 w2) : Below b w w2 := h.trans (h2.mono hs)
theorem szL (l : List UInt8) : (⟨l.toArray⟩ : ByteArray).size = l.length := by simp [ByteArray.size]
theorem dtL (l : List UInt8) : (⟨l.toArray⟩ : ByteArray).data.toList = l := by simp
theorem joinC_len (c : Nat) (l : List (List UInt8)) (h : ∀ x ∈ l, x.length ≤ c) : (joinC l).length ≤ (c + 2) * l.length := by
  induction l with
  | nil => simp [joinC]
  | cons a r ih =>
    have h1 := h a (List.mem_cons_self ..)
    cases r with
    | nil => simp [joinC]; omega
    | cons b r =>
      have h2 := ih (fun x hx => h x (List.mem_cons_of_mem _ hx))
      simp only [joinC, List.length_append, List.length_cons] at h2 ⊢
      rw [Nat.mul_add (c + 2) (r.length + 1) 1, Nat.mul_one]
      omega
theorem allF_mem {L : List Fld} {n : List UInt8} {x : List UInt8} (h : x ∈ allF L n) : ∃ f ∈ L, f.2 = x := by
  simp only [allF, List.mem_map, List.mem_filter] at h
  obtain ⟨f, ⟨h1, _⟩, h2⟩ := h
  exact ⟨f, h1, h2⟩
theorem allF_len (L : List Fld) (n : List UInt8) : (allF L n).length ≤ L.length := by
  simp only [allF, List.length_map]; exact List.length_filter_le _ _
theorem getF_len {L : List Fld} {n : List UInt8} (h : ∀ f ∈ L, f.2.length ≤ 100000) (hn : L.length ≤ 1000) : (getF L n).length ≤ 100002000 := by
  have h1 := joinC_len 100000 (allF L n) (fun x hx => by obtain ⟨f, hf, rfl⟩ := allF_mem hx; exact h f hf)
  have h2 := allF_len L n
  have h3 : (100000 + 2) * (allF L n).length ≤ (100000 + 2) * 1000 := Nat.mul_le_mul_left _ (by omega)
  unfold getF; omega
theorem getF_snoc (l : List Fld) (n : List UInt8) (f : Fld) : getF (l ++ [f]) n = if isF n f then (if allF l n = [] then f.2 else getF l n ++ 44 :: 32 :: f.2) else getF l n := by
  unfold getF
  rw [allF_snoc]
  cases isF n f
  · simp
  · simp only [if_true]
    rw [joinC_snoc]
theorem sum_lists {P : Program} (a b : List UInt8) (ha : a.length ≤ 1000000000) (hb : b.length ≤ 1000000000) :
    ∃ c : List UInt8, c = a ++ b ∧ c.length = a.length + b.length ∧ ∀ W : World, (Op.stringOp .add ⟨a.toArray⟩ ⟨b.toArray⟩).run P W = .ok (strV c) W :=
  ⟨a ++ b, rfl, List.length_append, fun W => by rw [run_string_add_sum W _ _ (by rw [szL, szL]; omega), ByteArray.mk_append_mk]⟩
theorem elementsF_size {L : List Fld} {n : List UInt8} (h : ∀ f ∈ L, f.2.length ≤ 100000) (hn : L.length ≤ 1000) : (elementsF L n).length ≤ 100002000 ∧ ∀ e ∈ elementsF L n, e.length ≤ 100002000 := by
  have hl := getF_len (L := L) (n := n) h hn
  exact ⟨Nat.le_trans (listL_len _) hl, fun e he => Nat.le_trans (listL_size _ e he) hl⟩
theorem okV_int (c : UInt8) : okV c = !((decide ((c.toNat : Int) < 32) && ((c.toNat : Int) != 9)) || ((c.toNat : Int) == 127)) := by
  unfold okV
  congr 2
  · congr 1
    · simp only [decide_eq_decide]; omega
    · rw [Bool.eq_iff_iff]; simp; omega
  · rw [Bool.eq_iff_iff]; simp; omega
theorem Reads.str {w : World} {ao : Option Addr} {n cap : Nat} {A : List (List UInt8)} (h : Reads w (.slice ao n cap) (A.map strV)) {j : Nat} {x : List UInt8} (hj : A[j]? = some x) :
    ∃ b off, ao = some ⟨b, off, none⟩ ∧ w.cell? ⟨b, off + j, none⟩ = some (strV x) := by
  obtain ⟨ao', cap', hv, hc, -⟩ := h
  cases hv
  exact hc j (strV x) (by simp [hj])
theorem Reads.strs {w : World} {v : Value} {A : List (List UInt8)} (h : Reads w v (A.map strV)) : ∃ ao cap, v = .slice ao A.length cap := by
  obtain ⟨ao, cap, hv, -⟩ := h
  exact ⟨ao, cap, by rw [hv, List.length_map]⟩
theorem take_str {A : List (List UInt8)} {k : Nat} {x : List UInt8} (h : A[k]? = some x) : A.take (k + 1) = A.take k ++ [x] := by
  obtain ⟨hk', rfl⟩ := List.getElem?_eq_some_iff.1 h
  exact List.take_succ_eq_append_getElem hk'
/-- a field in a box of its own -/
theorem box2 (w : World) (f : Fld) (e : TypeId) : ∃ W, W = w.alloc (.cells #[strV f.1, strV f.2] e) ∧ Below w.heap.size w W ∧ W.heap.size = w.heap.size + 1 ∧ W.cell? ⟨w.heap.size, 0, none⟩ = some (strV f.1) ∧ W.cell? ⟨w.heap.size, 1, none⟩ = some (strV f.2) :=
  ⟨_, rfl, below_alloc _ _, by simp, by rw [World.cell?_alloc_at _ _ _ _ rfl]; rfl, by rw [World.cell?_alloc_at _ _ _ _ rfl]; rfl⟩
theorem kept {w w' : World} {a : Addr} {v : Value} (hc : w.cell? a = some v) (hb : Below w.heap.size w w') : w'.cell? a = some v := (hb.cell (p := a) (World.block_lt_of_cell? w _ hc)).trans hc
theorem as_list (n : ByteArray) : ∃ N : List UInt8, n = ⟨N.toArray⟩ := ⟨n.data.toList, by apply bytes_ext; simp⟩
theorem reads_one (w : World) (x : List UInt8) (e : TypeId) (cap : Nat) : Reads (w.alloc (.cells #[strV x] e)) (.slice (some ⟨w.heap.size, 0, none⟩) 1 cap) ([x].map strV) := reads_new w ([x].map strV) e cap
theorem any_one (x : List UInt8) (f : Fld) : ([x].any fun n => isF n f) = isF x f := by simp
/-- T{f}: a row of one field, the call's own. -/
theorem ownsRow_one (w : World) (f : Fld) (e : TypeId) : (w.alloc (.cells #[strV f.1, strV f.2] e)).ownsRow w.heap.size e 2 (.slice (some ⟨w.heap.size, 0, none⟩) 1 1) 1 (fldCells [f]) :=
  ⟨rfl, .inr ⟨w.heap.size, 1, #[strV f.1, strV f.2], rfl, Nat.le_refl _, Array.getElem?_push_size, Nat.le_refl _, by decide, rfl, rfl⟩⟩
theorem reads_one_at (w : World) (x : List UInt8) (e : TypeId) (cap g : Nat) (hg : g = w.heap.size) : Reads (w.alloc (.cells #[strV x] e)) (.slice (some ⟨g, 0, none⟩) 1 cap) ([x].map strV) := by subst hg; exact reads_one w x e cap
theorem reads2_new_at (w : World) (f : Fld) (e : TypeId) (cap g : Nat) (hg : g = w.heap.size) (hc : 1 ≤ cap := by decide) : Reads2 (w.alloc (.cells #[strV f.1, strV f.2] e)) (.slice (some ⟨g, 0, none⟩) 1 cap) [f] := by
  subst hg
  exact (ownsRow_one w f e).reads2.2.cap cap hc
theorem Reads2.room {w : World} {ao : Option Addr} {n cap : Nat} {L : List Fld} (h : Reads2 w (.slice ao n cap) L) : n = L.length ∧ L.length ≤ cap := by
  obtain ⟨ao', cap', hv, _, _, hc⟩ := h
  cases hv
  exact ⟨rfl, hc⟩
/-- L[l:] -/
theorem tail_ex (P : Program) (t : TypeId) (ht : P.underlying t = some (.slice (P.elem t))) (h2 : ∀ W, (sizeOf (P.elem t)).run P W = .ok 2 W) (a : Addr) (n cap l : Nat) (hl : l ≤ n) (hn : n ≤ cap) :
    ∃ ao' cap', (∀ W, (Instr.slice t (.slice (some a) n cap) (some (.int .i64 (l : Int))) none none).run P W = .ok (.slice ao' (n - l) cap') W) ∧
      ∀ (W : World) (L : List Fld), Reads2 W (.slice (some a) n cap) L → Reads2 W (.slice ao' (n - l) cap') (L.drop l) := by
  refine ⟨(if cap = l then some a else some (a.add (l * 2))), cap - l, fun W => ?_, fun W L h => ?_⟩
  · rw [run_slice_l W t (some a) n cap ht .i64 (l : Int) (by omega) (by omega), h2]
    simp only [Result.andThen, sliced, Int.toNat_natCast, Option.map_some]
  · obtain ⟨ao', cap', hv, hc, hz, hr⟩ := h
    cases hv
    refine ⟨_, _, by rw [List.length_drop], fun j p hj => ?_, fun e => ?_, by rw [List.length_drop]; omega⟩
    · rw [List.getElem?_drop] at hj
      have hjl := (List.getElem?_eq_some_iff.1 hj).1
      obtain ⟨b, off, ha, g1, g2⟩ := hc (l + j) p hj
      cases ha
      rw [if_neg (by omega)]
      refine ⟨b, off + l * 2, by unfold Addr.add; split <;> simp_all, ?_, ?_⟩
      · rw [show off + l * 2 + j * 2 = off + (l + j) * 2 by omega]; exact g1
      · rw [show off + l * 2 + j * 2 + 1 = off + (l + j) * 2 + 1 by omega]; exact g2
    · split at e <;> cases e
/-- x[lo:] by an equation of what it gives. -/
theorem wpList_slice_low {P : Program} {ops : Array Oper} {rest : List Oper} {o : Oper} {a : Act} {w : World} {Q : Exit → Act → World → Prop} (hg : o.guard = none) (t : TypeId) (x lo : Operand) (ho : o.op = .slice t x (some lo) none none)
    {vx vl vr : Value} (hx : a.eval x = vx) (hl : a.eval lo = vl) (ht : P.underlying t = some (.slice (P.elem t))) (hr : (Instr.slice t vx (some vl) none none).run P w = .ok vr w)
    (h : wpList P ops Q rest (a.put o.dst vr) w) : wpList P ops Q (o :: rest) a w :=
  wpList_plain hg fun _ hK => by
    unfold Oper.wp execOp
    simp only [ho, hx, hl, Option.map_some, Option.map_none, Sem.run_bind, run_sliceAt_slice w t vx (some vl) none none ht, hr, Sem.run_pure, Result.andThen_ok]
    exact hK _ _ h
end Go.Pantry
