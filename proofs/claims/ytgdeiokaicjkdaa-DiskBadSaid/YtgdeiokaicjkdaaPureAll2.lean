/-
  Several texts in one: Base5, Base6, Base7, BaseBB, PureBody, PureFrame, PureHead, PureRune, PureSmug, PureFlag, Drawn, Guards. No program is imported.
-/
import Derived.Test.YtgdeiokaicjkdaaPureAll1
import Derived.Lib.SplitLaws
import Derived.Lib.CutLaws
import Derived.Lib.OthersKept
import Derived.OrdersHeld
import Derived.Deep.RegionHeld3
set_option linter.unusedVariables false
set_option linter.unusedSimpArgs false
/-
  append onto a slice whose block bears a mark behind its end ('[]byte(s)'), the room of what is made told; slices of bytes as strings. No program is imported.
-/
namespace Go.Pantry
open Go.RowKit

theorem addAt2 (g o i : Nat) : (⟨g, o, none⟩ : Addr).add i = ⟨g, o + i, none⟩ := by unfold Addr.add; split <;> simp_all
theorem addAt (g i : Nat) : (⟨g, 0, none⟩ : Addr).add i = ⟨g, i, none⟩ := by unfold Addr.add; split <;> simp_all
/-- cells stored into a row whose mark lies behind its end -/
theorem run_storeCells_beyond (P : Program) (g o : Nat) (t : TypeId) (fz : Nat × Nat) : ∀ (vs : List Value) (i : Nat) (cur : Array Value) (w : World), w.heap[g]? = some (.cells cur t fz) → cur.size ≤ fz.1 → o + i + vs.length ≤ cur.size → (∀ v ∈ vs, v.oneCell' = true) →
    (storeCells ⟨g, o, none⟩ vs i).run P w = .ok () (w.setRow g (cur.toList.take (o + i) ++ vs ++ cur.toList.drop (o + i + vs.length)).toArray)
  | [], i, cur, w, hg, _, _, _ => by
    simp only [storeCells, List.append_nil, List.length_nil, Nat.add_zero, List.take_append_drop, Array.toArray_toList]
    rw [setRow_self w g cur t fz hg]
    rfl
  | v :: rest, i, cur, w, hg, hfz, hl, h1 => by
    have hi : o + i < cur.size := by simp at hl; omega
    have hadd : (⟨g, o, none⟩ : Addr).add i = ⟨g, o + i, none⟩ := by unfold Addr.add; split <;> simp_all
    have hcell : w.cell? ⟨g, o + i, none⟩ = some cur[o + i] := by simp [World.cell?, hg, hi]
    have hfro : w.frozen? ⟨g, o + i, none⟩ = false := by
      obtain ⟨lo, hi'⟩ := fz
      simp only [World.frozen?, hg, Bool.and_eq_false_iff, decide_eq_false_iff_not]
      left
      simp only at hfz
      omega
    have hst : (store ((⟨g, o, none⟩ : Addr).add i) v).run P w = .ok () (w.setRow g (cur.setIfInBounds (o + i) v)) := by
      rw [hadd, run_store P w _ v _ (h1 v (by simp)), hcell]
      simp [hfro, setCell_eq_setRow w g (o + i) cur t fz v hg]
    have ih := run_storeCells_beyond P g o t fz rest (i + 1) (cur.setIfInBounds (o + i) v) (w.setRow g (cur.setIfInBounds (o + i) v)) (setRow_heap w g cur _ t _ hg) (by simpa using hfz) (by simp at hl ⊢; omega) (fun x hx => h1 x (by simp [hx]))
    simp only [storeCells, Sem.run_bind, hst, Result.andThen_ok, ih, setRow_setRow]
    congr 3
    have e := list_seg_step cur.toList (o + i) v rest (by simp at hl ⊢; omega)
    simpa [Array.toList_setIfInBounds, Nat.add_assoc] using e

theorem reads_row {w : World} {g : Nat} {cur : Array Value} {e : TypeId} {fz : Nat × Nat} (hg : w.heap[g]? = some (.cells cur e fz)) (xs : List Value) (cap : Nat) (h : cur.toList.take xs.length = xs) :
    Reads w (.slice (some ⟨g, 0, none⟩) xs.length cap) xs := by
  refine ⟨_, _, rfl, fun j u hj => ⟨g, 0, rfl, ?_⟩, fun e => by cases e⟩
  rw [Nat.zero_add, cell_of_row w g j cur e fz hg]
  rw [← h, List.getElem?_take] at hj
  split at hj
  · simpa using hj
  · cases hj

/-- string(b), whatever slice of bytes b is -/
theorem reads_string {P : Program} {w : World} {v : Value} {l : List UInt8} (h : Reads w v (l.map byteV)) (src dst e : TypeId) (hs : P.underlying src = some (.slice e)) (he : P.underlying e = some (.int .u8)) (hd : P.underlying dst = some .string) :
    (convert src dst v).run P w = .ok (.string ⟨l.toArray⟩) w := by
  obtain ⟨ao, cap, rfl, hc, hz⟩ := h
  rw [List.length_map]
  cases ao with
  | none =>
    have hnil : l = [] := by
      cases l with
      | nil => rfl
      | cons y ys => obtain ⟨b, off, he, _⟩ := hc 0 (byteV y) rfl; cases he
    subst hnil
    exact run_convert_bytes_nil w src e hs he 0 cap dst hd
  | some ad =>
    cases l with
    | nil =>
      refine run_convert_bytes_back w src dst e ad cap [] hs he hd (fun j hj => absurd hj (Nat.not_lt_zero _))
    | cons y ys =>
      obtain ⟨b, off, he', _⟩ := hc 0 (byteV y) rfl
      cases he'
      refine run_convert_bytes_back w src dst e _ cap (y :: ys) hs he hd (fun j hj => ?_)
      obtain ⟨b', off', he', hcell⟩ := hc j (byteV (y :: ys)[j]) (by rw [List.getElem?_map, List.getElem?_eq_getElem hj]; rfl)
      cases he'
      have e0 := addAt2 b off j
      rw [e0]; exact hcell
/-- b[:k] reads as the first k -/
theorem Reads.take {w : World} {ao : Option Addr} {n cap : Nat} {l : List Value} (h : Reads w (.slice ao n cap) l) (k : Nat) (hk : k ≤ l.length) : Reads w (.slice ao k cap) (l.take k) := by
  obtain ⟨ao', cap', hv, hc, hz⟩ := h
  cases hv
  refine ⟨ao, cap, by rw [List.length_take, Nat.min_eq_left hk], fun j u hj => ?_, hz⟩
  rw [List.getElem?_take] at hj
  split at hj
  · exact hc j u hj
  · cases hj
/-- b[1:] reads as the rest -/
theorem reads_tail {w : World} {g n cap : Nat} {x : Value} {l : List Value} (h : Reads w (.slice (some ⟨g, 0, none⟩) n cap) (x :: l)) (c : Nat) : Reads w (.slice (some ⟨g, 1, none⟩) l.length c) l := by
  obtain ⟨ao', cap', hv, hc, hz⟩ := h
  cases hv
  refine ⟨_, c, rfl, fun j u hj => ?_, fun e => by cases e⟩
  obtain ⟨b, off, he, hcell⟩ := hc (j + 1) u (by simpa using hj)
  cases he
  exact ⟨_, _, rfl, by rw [show 1 + j = 0 + (j + 1) by omega]; exact hcell⟩
theorem Reads.form {w : World} {v : Value} {l : List Value} (h : Reads w v l) : ∃ ao cap, v = .slice ao l.length cap := let ⟨ao, cap, hv, _⟩ := h; ⟨ao, cap, hv⟩
end Go.Pantry
namespace Go.Pantry
open Go.RowKit
/-- append(b, more...): b the head of a row of one-cell values, its mark (if any) behind its end; more any slice. What is made reads as both; at most b's own row has changed. -/
theorem wpList_append_marked2 {P : Program} {ops : Array Oper} {rest : List Oper} {o : Oper} {a : Act} {Q : Exit → Act → World → Prop} (w : World) (hgd : o.guard = none) (s x : Operand) (t : TypeId)
    (ho : o.op = .call { callee := .builtin .append, args := #[s, x], argTypes := #[t, t] })
    (B : Nat) (e : TypeId) {z : Value} {bytes : Nat} (ht : P.underlying t = some (.slice e)) (hi : (P.info? e).map (fun i => (i.zero, i.size, i.bytes)) = some (some z, 1, bytes)) (hby : bytes ≤ 4096)
    {g cap : Nat} {cur : Array Value} {fz : Nat × Nat} (xs : List Value) (hs : a.eval s = .slice (some ⟨g, 0, none⟩) xs.length cap) (hg : w.heap[g]? = some (.cells cur e fz)) (hfz : cur.size ≤ fz.1) (hcap : cap ≤ cur.size) (hxs : cur.toList.take xs.length = xs) (hxc : xs.length ≤ cap)
    {vx : Value} {ys : List Value} (hr : Reads w vx ys) (hys : ∀ u ∈ ys, u.oneCell' = true)
    (hx : a.eval x = vx) (hn : xs.length + ys.length < 4294967296) (hB : B ≤ g)
    (h : ∀ v' w', Reads w' v' (xs ++ ys) → (∀ ao n c, v' = .slice ao n c → n ≤ c) → Below B w w' → wpList P ops Q rest (a.put o.dst v') w') :
    wpList P ops Q (o :: rest) a w := by
  obtain ⟨i0, h1, h2, h3, h4⟩ := info_parts hi
  have hgl : g < w.heap.size := (Array.getElem?_eq_some_iff.1 hg).1
  obtain ⟨v', w', hrun, hrd, hrm, hbl⟩ : ∃ v' w', (Builtin.append_ #[t, t] o.type #[.slice (some ⟨g, 0, none⟩) xs.length cap, vx]).run P w = .ok v' w' ∧ Reads w' v' (xs ++ ys) ∧ (∀ ao n c, v' = .slice ao n c → n ≤ c) ∧ Below B w w' := by
    obtain ⟨ao, capy, rfl, hc, hz⟩ := hr
    cases ao with
    | none =>
      have hnil : ys = [] := by
        cases ys with
        | nil => rfl
        | cons y ys => obtain ⟨b, off, he, _⟩ := hc 0 y rfl; cases he
      subst hnil
      refine ⟨.slice (some ⟨g, 0, none⟩) xs.length cap, w, ?_, by rw [List.append_nil]; exact reads_row hg xs cap hxs, (fun _ _ _ e => by cases e; exact hxc), Below.refl _ _⟩
      have hf := run_firstCells_none (P := P) (w := w) 1 0 0 capy
      have hst : (storeCells ⟨g, xs.length, none⟩ [] 0).run P w = .ok () w := rfl
      simp [Builtin.append_, run_underlying ht, sizeOf, typeInfo, h1, h3, Builtin.lenOf, hf, Addr.add_lit, hst, hxc]
    | some ad =>
      have hl : ys.length = ys.length * i0.size := by rw [h3, Nat.mul_one]
      have hnews : ∀ (j : Nat) u, ys[j]? = some u → w.cell? (ad.add j) = some u := fun j u hj => by
        obtain ⟨b, off, he, hcell⟩ := hc j u hj
        cases he
        have e0 := addAt2 b off j
        rw [e0]; exact hcell
      by_cases hroom : xs.length + ys.length ≤ cap
      · have hf := run_firstCells_some (P := P) w i0.size ys.length ad ys.length capy ys hl hnews
        have hst := run_storeCells_beyond P g xs.length e fz ys 0 cur w hg hfz (by omega) hys
        simp only [Nat.add_zero] at hst
        rw [h3] at hf
        refine ⟨.slice (some ⟨g, 0, none⟩) (xs.length + ys.length) cap, w.setRow g (cur.toList.take xs.length ++ ys ++ cur.toList.drop (xs.length + ys.length)).toArray, ?_, ?_, (fun _ _ _ e => by cases e; exact hroom), below_setRow (Below.refl _ _) hB _⟩
        · have e1 : xs.length * i0.size = xs.length := by rw [h3, Nat.mul_one]
          simp [Builtin.append_, run_underlying ht, sizeOf, typeInfo, h1, Builtin.lenOf, hroom, hf, Addr.add_lit, h3, hst]
        · have := reads_row (setRow_heap w g cur (cur.toList.take xs.length ++ ys ++ cur.toList.drop (xs.length + ys.length)).toArray e fz hg) (xs ++ ys) cap (by
            rw [hxs]
            exact List.take_left)
          rw [List.length_append] at this
          exact this
      · have holds : ∀ (j : Nat) u, xs[j]? = some u → w.cell? ((⟨g, 0, none⟩ : Addr).add j) = some u := fun j u hj => by
          rw [addAt, cell_of_row w g j cur e fz hg]
          rw [← hxs, List.getElem?_take] at hj
          split at hj
          · simpa using hj
          · cases hj
        have hb1 : (xs.length + ys.length) * i0.bytes ≤ 140737488355328 := by
          rw [h4]
          calc (xs.length + ys.length) * bytes ≤ 4294967296 * 4096 := Nat.mul_le_mul (by omega) hby
            _ ≤ 140737488355328 := by decide
        have hr := run_append_grow (P := P) w t o.type e i0 z ht h1 h2 ⟨g, 0, none⟩ xs.length cap xs (by rw [h3, Nat.mul_one]) holds ad ys.length capy ys hl hnews (by omega) (by omega) (growslice_fits (by omega) hb1)
        refine ⟨_, _, hr, ?_, (fun _ _ _ e => by cases e; exact grownCap_ge w _ _ _), ?_⟩
        · have := reads_row (w := w.drew.alloc (.cells (xs.toArray ++ ys.toArray ++ Builtin.zeroCells z.cells (grownCap w (xs.length + ys.length) cap e - (xs.length + ys.length))) e)) (g := w.heap.size) (heap_alloc_new w.drew _) (xs ++ ys) (grownCap w (xs.length + ys.length) cap e) (by
            simp only [Array.toList_append, List.append_assoc]
            rw [← List.append_assoc]
            exact List.take_left)
          rw [List.length_append] at this
          exact this
        · exact ((Below.refl B w).drew).alloc (by show B ≤ w.heap.size; omega) _
  refine wpList_plain hgd fun K hK => ?_
  unfold Oper.wp execOp
  simp only [ho, resolve, invoke, builtin, Sem.run_bind, Sem.run_pure, Result.andThen_ok, List.map_toArray, List.map_cons, List.map_nil, hs, hx, hrun]
  exact hK _ _ (h v' w' hrd hrm hbl)

/-- []byte(s): a new block, its bytes, its mark behind its end -/
theorem bytes_conv {P : Program} (w : World) (l : List UInt8) (src dst e : TypeId) (hs : P.underlying src = some .string) (hd : P.underlying dst = some (.slice e)) (he : P.underlying e = some (.int .u8)) :
    ∃ cap W cur fz, (convert src dst (.string ⟨l.toArray⟩)).run P w = .ok (.slice (some ⟨w.heap.size, 0, none⟩) l.length cap) W ∧ W.heap[w.heap.size]? = some (.cells cur e fz) ∧ cur.size ≤ fz.1 ∧ cap ≤ cur.size ∧ cur.toList.take l.length = l.map byteV ∧ l.length ≤ cap ∧ Below w.heap.size w W := by
  have hr := run_bytes_of_string (P := P) w src dst e ⟨l.toArray⟩ hs hd he
  have hsz : (⟨l.toArray⟩ : ByteArray).size = l.length := szL l
  have hge := grownCap_ge w (⟨l.toArray⟩ : ByteArray).size 0 e
  have hbs : ∀ c, (⟨l.toArray⟩ : ByteArray).size ≤ c → (bytesRow ⟨l.toArray⟩ c).size = c := fun c hc => by
    unfold bytesRow
    rw [Array.size_append, Array.size_map, Array.size_replicate]
    have : (⟨l.toArray⟩ : ByteArray).data.size = (⟨l.toArray⟩ : ByteArray).size := rfl
    omega
  have htk : ∀ c, (bytesRow ⟨l.toArray⟩ c).toList.take l.length = l.map byteV := fun c => by
    unfold bytesRow
    rw [Array.toList_append, Array.toList_map]
    have h1 : (List.map (fun b : UInt8 => Value.int .u8 (b.toNat : Int)) l).length = l.length := List.length_map ..
    have := List.take_left (l₁ := List.map (fun b : UInt8 => Value.int .u8 (b.toNat : Int)) l) (l₂ := (Array.replicate (c - (⟨l.toArray⟩ : ByteArray).size) (Value.int .u8 0)).toList)
    rw [h1] at this
    exact this
  rw [hsz] at hr
  refine ⟨_, _, bytesRow ⟨l.toArray⟩ (grownCap w (⟨l.toArray⟩ : ByteArray).size 0 e), ((bytesRow ⟨l.toArray⟩ (grownCap w (⟨l.toArray⟩ : ByteArray).size 0 e)).size, (bytesRow ⟨l.toArray⟩ (grownCap w (⟨l.toArray⟩ : ByteArray).size 0 e)).size + 1), hr, ?_, Nat.le_refl _, ?_, htk _, ?_, ?_⟩
  · show (w.heap.push _)[w.heap.size]? = _
    simp [hsz]
  · rw [hbs _ hge, hsz]; exact Nat.le_refl _
  · rw [hsz] at hge; exact hge
  · exact ((Below.refl _ _).alloc (Nat.le_refl _) _).drew
end Go.Pantry
/-
  Slices of bytes with their room: what stays, what a part of one is. No program is imported.
-/
namespace Go.Pantry
open Go.RowKit

/-- v is a slice that reads as the bytes l, and has room for them -/
def Bytes (w : World) (v : Value) (l : List UInt8) : Prop := ∃ ao cap, v = .slice ao l.length cap ∧ l.length ≤ cap ∧ Reads w v (l.map byteV)
theorem bytesRead {w : World} {v : Value} {l : List UInt8} (h : Bytes w v l) : Reads w v (l.map byteV) := by
  obtain ⟨_, _, _, _, h⟩ := h; exact h
theorem bytes_form {w : World} {v : Value} {l : List UInt8} (h : Bytes w v l) : ∃ ao cap, v = .slice ao l.length cap ∧ l.length ≤ cap := by
  obtain ⟨a, c, h1, h2, _⟩ := h; exact ⟨a, c, h1, h2⟩
theorem bytes_of {w : World} {ao : Option Addr} {cap : Nat} {l : List UInt8} (h : Reads w (.slice ao l.length cap) (l.map byteV)) (hc : l.length ≤ cap) : Bytes w (.slice ao l.length cap) l := ⟨_, _, rfl, hc, h⟩
theorem bytes_below {w w' : World} {v : Value} {l : List UInt8} (h : Bytes w v l) (hb : Below w.heap.size w w') : Bytes w' v l := by
  obtain ⟨a, c, h1, h2, h3⟩ := h; exact ⟨a, c, h1, h2, h3.below hb⟩
theorem bytes_nil (w : World) : Bytes w (.slice none 0 0) [] := ⟨none, 0, rfl, Nat.le_refl _, ⟨none, 0, rfl, (fun j u hj => by cases hj), fun _ => rfl⟩⟩
/-- b[k:] -/
theorem bytes_low {P : Program} (t : TypeId) (ht : P.underlying t = some (.slice (P.elem t))) (h1 : ∀ W, (sizeOf (P.elem t)).run P W = .ok 1 W) {w : World} {v : Value} {l : List UInt8} (h : Bytes w v l) (k : Nat) (hk : k ≤ l.length) :
    ∃ ao' cap', (∀ W, (Instr.slice t v (some (.int .i64 (k : Int))) none none).run P W = .ok (.slice ao' (l.length - k) cap') W) ∧ Bytes w (.slice ao' (l.length - k) cap') (l.drop k) := by
  obtain ⟨ao, cap, rfl, hc, hr⟩ := h
  refine ⟨(if cap = k then ao else ao.map (·.add (k * 1))), cap - k, fun W => ?_, ?_⟩
  · rw [run_slice_l W t ao l.length cap ht .i64 (k : Int) (by omega) (by omega), h1]
    simp only [Result.andThen, sliced, Int.toNat_natCast]
  · refine ⟨_, _, by rw [List.length_drop], by rw [List.length_drop]; omega, ?_⟩
    obtain ⟨ao', cap', hv, hcell, hz⟩ := hr
    rw [List.length_map] at hv
    cases hv
    refine ⟨(if cap = k then ao else ao.map (·.add (k * 1))), cap - k, by rw [List.length_map, List.length_drop], fun j u hj => ?_, fun e => ?_⟩
    · rw [List.map_drop, List.getElem?_drop] at hj
      have hjl := (List.getElem?_eq_some_iff.1 hj).1
      rw [List.length_map] at hjl
      obtain ⟨b, off, ha, g1⟩ := hcell (k + j) u hj
      subst ha
      rw [if_neg (by omega)]
      refine ⟨b, off + k, by simp only [Option.map_some]; rw [addAt2]; simp, ?_⟩
      rw [show off + k + j = off + (k + j) by omega]; exact g1
    · split at e
      · rename_i hck
        omega
      · cases ao with
        | none => have := hz rfl; omega
        | some a => cases e
/-- b[:k] -/
theorem bytes_high {P : Program} (t : TypeId) (ht : P.underlying t = some (.slice (P.elem t))) (h1 : ∀ W, (sizeOf (P.elem t)).run P W = .ok 1 W) {w : World} {v : Value} {l : List UInt8} (h : Bytes w v l) (k : Nat) (hk : k ≤ l.length) :
    ∃ ao cap, (∀ W, (Instr.slice t v none (some (.int .i64 (k : Int))) none).run P W = .ok (.slice ao k cap) W) ∧ Bytes w (.slice ao k cap) (l.take k) := by
  obtain ⟨ao, cap, rfl, hc, hr⟩ := h
  have hl : (l.take k).length = k := by rw [List.length_take]; omega
  refine ⟨ao, cap, fun W => ?_, ?_⟩
  · rw [run_slice_h W t ao l.length cap ht .i64 (k : Int) (by omega) (by omega)]
    try rw [h1]
    simp only [Result.andThen, sliced, Int.toNat_natCast, Nat.sub_zero]
    have e0 : ∀ a : Addr, a.add 0 = a := fun a => by unfold Addr.add; split <;> simp_all
    cases ao with
    | none => simp
    | some a => simp [e0]
  · refine ⟨ao, cap, by rw [hl], by omega, ?_⟩
    have hh := hr.take k (by rw [List.length_map]; exact hk)
    rw [List.map_take]
    exact hh
/-- x[:hi] by an equation of what it gives. -/
theorem wpList_slice_high {P : Program} {ops : Array Oper} {rest : List Oper} {o : Oper} {a : Act} {w : World} {Q : Exit → Act → World → Prop} (hg : o.guard = none) (t : TypeId) (x hi : Operand) (ho : o.op = .slice t x none (some hi) none)
    {vx vl vr : Value} (hx : a.eval x = vx) (hl : a.eval hi = vl) (ht : P.underlying t = some (.slice (P.elem t))) (hr : (Instr.slice t vx none (some vl) none).run P w = .ok vr w)
    (h : wpList P ops Q rest (a.put o.dst vr) w) : wpList P ops Q (o :: rest) a w :=
  wpList_plain hg fun _ hK => by
    unfold Oper.wp execOp
    simp only [ho, hx, hl, Option.map_some, Option.map_none, Sem.run_bind, run_sliceAt_slice w t vx none (some vl) none ht, hr, Sem.run_pure, Result.andThen_ok]
    exact hK _ _ h
theorem ownsRow_bytes_form {w : World} {B : Nat} {e : TypeId} {v : Value} {n : Nat} {l : List UInt8} (h : w.ownsRow B e 1 v n (l.map byteV)) : ∃ ao c, v = .slice ao n c := by
  obtain ⟨ao, c, hv⟩ := h.reads.form
  have hl := h.1
  exact ⟨ao, c, by rw [hv]; simp at hl ⊢; omega⟩
theorem oneCell_bytes (l : List UInt8) : ∀ u ∈ l.map byteV, u.oneCell' = true := by
  intro u hu
  obtain ⟨c, _, rfl⟩ := List.mem_map.1 hu
  rfl
theorem ownsRow_far2 {w w' : World} {B : Nat} {e : TypeId} {size : Nat} {v : Value} {n : Nat} {xs : List Value} (h : w.ownsRow B e size v n xs) (hh : ∀ k, B ≤ k → w'.heap[k]? = w.heap[k]?) : w'.ownsRow B e size v n xs := by
  refine ⟨h.1, ?_⟩
  rcases h.2 with hn | ⟨g, cap, cur, rfl, hbg, hgg, rest⟩
  · exact .inl hn
  · exact .inr ⟨g, cap, cur, rfl, hbg, (hh g hbg).trans hgg, rest⟩
theorem ownsRow_form2 {w : World} {B : Nat} {e : TypeId} {v : Value} {n : Nat} {L : List Fld} (h : w.ownsRow B e 2 v n (fldCells L)) : ∃ ao c, v = .slice ao n c := by
  obtain ⟨e1, h2⟩ := h.reads2
  obtain ⟨ao, c, rfl⟩ := h2.form
  exact ⟨ao, c, by rw [e1]⟩
end Go.Pantry
/-
  What stays but for some blocks; appending bytes to a row of one's own, told by where it lies. No program is imported.
-/
namespace Go.Pantry
open Go.RowKit

/-- All blocks that were there are as they were, but those of X. -/
def Kept (X : Nat → Prop) (w w' : World) : Prop := Below 0 w w' ∧ ∀ k, k < w.heap.size → ¬ X k → w'.heap[k]? = w.heap[k]?
theorem Kept.size {X : Nat → Prop} {w w' : World} (h : Kept X w w') : w.heap.size ≤ w'.heap.size := h.1.size
theorem Kept.refl (X : Nat → Prop) (w : World) : Kept X w w := ⟨Below.refl _ _, fun _ _ _ => rfl⟩
theorem Kept.trans {X Y : Nat → Prop} {w w1 w2 : World} (h : Kept X w w1) (h2 : Kept Y w1 w2) (hY : ∀ k, Y k → k < w.heap.size → X k) : Kept X w w2 :=
  ⟨h.1.trans h2.1, fun k hk hx => (h2.2 k (Nat.lt_of_lt_of_le hk h.size) (fun hy => hx (hY k hy hk))).trans (h.2 k hk hx)⟩
theorem Kept.mono {X Y : Nat → Prop} {w w' : World} (h : Kept X w w') (hX : ∀ k, X k → k < w.heap.size → Y k) : Kept Y w w' := (Kept.refl Y w).trans h hX
theorem Kept.of_below {X : Nat → Prop} {w w' : World} (h : Below w.heap.size w w') : Kept X w w' := ⟨h.mono (Nat.zero_le _), fun k hk _ => h.block k hk⟩
theorem Kept.then {X : Nat → Prop} {w w1 w2 : World} (h : Kept X w w1) (h2 : Below w1.heap.size w1 w2) : Kept X w w2 := h.trans (Kept.of_below (X := fun _ => False) h2) (fun _ h => h.elim)
theorem Kept.below {X : Nat → Prop} {w w' : World} (h : Kept X w w') {B : Nat} (hX : ∀ k, X k → k < w.heap.size → B ≤ k) (hB : B ≤ w.heap.size) : Below B w w' :=
  ⟨h.1.os, h.1.tape, h.1.output, h.1.size, fun k hk => h.2 k (by omega) (fun hx => by have := hX k hx (by omega); omega)⟩
theorem Kept.drew {X : Nat → Prop} {w w' : World} (h : Kept X w w') : Kept X w w'.drew := ⟨h.1.drew, h.2⟩
theorem Kept.drewN {X : Nat → Prop} {w w' : World} (h : Kept X w w') (n : Nat) : Kept X w (w'.drewN n) := ⟨below_drewN h.1 _, h.2⟩
theorem Kept.setRow {X : Nat → Prop} {w w' : World} (h : Kept X w w') {g : Nat} (hg : X g ∨ w.heap.size ≤ g) (cs : Array Value) : Kept X w (w'.setRow g cs) :=
  ⟨below_setRow h.1 (Nat.zero_le _) _, fun k hk hx => (_root_.Go.setRow_other w' g k cs (by
    rintro rfl
    rcases hg with hg | hg
    · exact hx hg
    · omega)).trans (h.2 k hk hx)⟩
theorem Kept.setCell {X : Nat → Prop} {w w' : World} (h : Kept X w w') {g i : Nat} (hg : X g ∨ w.heap.size ≤ g) (v : Value) : Kept X w (w'.setCell ⟨g, i, none⟩ v) :=
  ⟨h.1.setCell (p := ⟨g, i, none⟩) (Nat.zero_le _) v, fun k hk hx => (Below.heap_setCell w' ⟨g, i, none⟩ v k (by
    show k ≠ g
    rintro rfl
    rcases hg with hg | hg
    · exact hx hg
    · omega)).trans (h.2 k hk hx)⟩
theorem Kept.alloc {X : Nat → Prop} {w w' : World} (h : Kept X w w') (o : Obj) : Kept X w (w'.alloc o) :=
  h.then ((Below.refl _ _).alloc (Nat.le_refl _) o)
theorem Kept.grown {X : Nat → Prop} {w w1 w2 : World} (h : Kept X w w1) {r : Option Nat} (hg : w1.grownBy w2 r) (hr : ∀ k, r = some k → k < w.heap.size → X k) : Kept X w w2 :=
  h.trans (Y := fun k => r = some k) ⟨⟨hg.os, hg.tape, hg.output, hg.size, fun k hk => absurd hk (Nat.not_lt_zero _)⟩, fun k hk hne => hg.block k hk (fun e => hne e.symm)⟩ hr
theorem rowIs.kept {X : Nat → Prop} {w w' : World} {g : Nat} {cs : Array Value} {t : TypeId} (h : rowIs w g cs t) (hk : Kept X w w') (hx : ¬ X g) : rowIs w' g cs t := (hk.2 g h.lt hx).trans h
/-- The blocks of v are S's. -/
def In (S : Nat → Prop) (v : Value) : Prop := ∀ k, v.ownBlock = some k → S k
theorem In.mono {S T : Nat → Prop} {v : Value} (h : In S v) (hS : ∀ k, S k → T k) : In T v := fun k hk => hS k (h k hk)
theorem In.nil {S : Nat → Prop} (n c : Nat) : In S (.slice none n c) := fun k hk => by cases hk
theorem ownsRow_kept {X : Nat → Prop} {w w' : World} {B : Nat} {e : TypeId} {size : Nat} {v : Value} {n : Nat} {xs : List Value} (h : w.ownsRow B e size v n xs) (hk : Kept X w w') (hx : In (fun k => ¬ X k) v) : w'.ownsRow B e size v n xs := by
  refine ⟨h.1, ?_⟩
  rcases h.2 with hn | ⟨g', cap, cur, rfl, hbg, hgg, rest⟩
  · exact .inl hn
  · exact .inr ⟨g', cap, cur, rfl, hbg, (hk.2 g' (Array.getElem?_eq_some_iff.1 hgg).1 (hx g' rfl)).trans hgg, rest⟩
theorem reads_kept {X : Nat → Prop} {w w' : World} {v : Value} {xs : List Value} (h : Reads w v xs) (hk : Kept X w w') (hx : In (fun k => ¬ X k) v) : Reads w' v xs := by
  obtain ⟨ao, cap, rfl, hc, hz⟩ := h
  refine ⟨ao, cap, rfl, fun j u hj => ?_, hz⟩
  obtain ⟨b, off, ha, hcell⟩ := hc j u hj
  refine ⟨b, off, ha, ?_⟩
  have hlt : b < w.heap.size := World.block_lt_of_cell? w _ hcell
  subst ha
  exact (World.cell?_of_block (w := w) (w' := w') (a := ⟨b, off + j, none⟩) (hk.2 b hlt (hx b rfl))).trans hcell
theorem bytes_kept {X : Nat → Prop} {w w' : World} {v : Value} {l : List UInt8} (h : Bytes w v l) (hk : Kept X w w') (hx : In (fun k => ¬ X k) v) : Bytes w' v l := by
  obtain ⟨a, c, h1, h2, h3⟩ := h
  exact ⟨a, c, h1, h2, reads_kept h3 hk hx⟩
theorem reads2_kept {X : Nat → Prop} {w w' : World} {v : Value} {L : List Fld} (h : Reads2 w v L) (hk : Kept X w w') (hx : In (fun k => ¬ X k) v) : Reads2 w' v L := by
  obtain ⟨ao, cap, rfl, hc, hz⟩ := h
  refine ⟨ao, cap, rfl, fun j p hj => ?_, hz⟩
  obtain ⟨b, off, ha, h1, h2⟩ := hc j p hj
  have hlt : b < w.heap.size := World.block_lt_of_cell? w _ h1
  subst ha
  have e := hk.2 b hlt (hx b rfl)
  exact ⟨b, off, rfl, (World.cell?_of_block (w := w) (w' := w') (a := ⟨b, off + j * 2, none⟩) e).trans h1, (World.cell?_of_block (w := w) (w' := w') (a := ⟨b, off + j * 2 + 1, none⟩) e).trans h2⟩
theorem ownsRow_in {w : World} {B : Nat} {e : TypeId} {size : Nat} {v : Value} {n : Nat} {xs : List Value} (h : w.ownsRow B e size v n xs) : In (fun k => B ≤ k ∧ k < w.heap.size) v := fun k hk => h.lt k hk
theorem ownsRow_bytes {w : World} {B : Nat} {e : TypeId} {v : Value} {n : Nat} {l : List UInt8} (h : w.ownsRow B e 1 v n (l.map byteV)) : Bytes w v l := by
  have hl : n = l.length := by have := h.1; simp at this; omega
  subst hl
  have hr := h.reads
  rcases h.2 with ⟨rfl, hn⟩ | ⟨g, cap, cur, rfl, hb, hg, hnc, hcm, hcs, htake⟩
  · exact ⟨none, 0, by rw [hn], by omega, hr⟩
  · exact ⟨_, cap, rfl, hnc, hr⟩
/-- Where an append lays what it makes: where its row was, or behind all that was there. -/
theorem append_where {P : Program} {w : World} {base : Nat} {t ty e : TypeId} {i : TypeInfo} {z : Value} {size bytes : Nat} (ht : P.underlying t = some (.slice e)) (hi : P.info? e = some i) (hz : i.zero = some z)
    (hsize : i.size = size) (hby : i.bytes = bytes)
    {v : Value} {n : Nat} {xs : List Value} (hown : w.ownsRow base e size v n xs)
    (a : Addr) (m c : Nat) (news : List Value) (hl : news.length = m * size) (hnews : ∀ (j : Nat) u, news[j]? = some u → w.cell? (a.add j) = some u) (h1 : ∀ u ∈ news, u.oneCell' = true)
    (h63 : n + m ≤ maxLen) (hbytes : (n + m) * bytes ≤ 140737488355328)
    {v' : Value} {w' : World} (hrun : (Builtin.append_ #[t, t] ty #[v, .slice (some a) m c]).run P w = .ok v' w') : In (fun k => v.ownBlock = some k ∨ w.heap.size ≤ k) v' := by
  subst hsize
  subst hby
  have hsmall : n + m ≤ 9223372036854775807 := by simp only [maxLen] at h63; omega
  rcases hown.2 with ⟨rfl, rfl⟩ | ⟨g, cap, cur, rfl, hbg, hg, hnc, hcm, hcs, htake⟩
  · have hx : xs = [] := List.eq_nil_of_length_eq_zero (by simpa using hown.1)
    subst hx
    by_cases hm : m = 0
    · subst hm
      have hn : news = [] := List.eq_nil_of_length_eq_zero (by simpa using hl)
      subst hn
      have hr : (Builtin.append_ #[t, t] ty #[.slice none 0 0, .slice (some a) 0 c]).run P w = .ok (.slice none 0 0) w := by
        simp [Builtin.append_, run_underlying ht, sizeOf, typeInfo, hi, Builtin.lenOf, Builtin.firstCells, loadCells, loadCellsFrom]
      rw [hr] at hrun
      cases hrun
      exact In.nil _ _
    · have hr := run_append_nil (P := P) w t ty e i z ht hi hz a m c news hl hnews (by omega) (by omega) (by have hb := hbytes; simp only [Nat.zero_add] at hb; omega)
      rw [hr] at hrun
      cases hrun
      intro k hk
      cases hk
      exact .inr (Nat.le_refl _)
  · by_cases hroom : n + m ≤ cap
    · have hfit : n * i.size + news.length ≤ cur.size := by rw [hl, hcs, ← Nat.add_mul]; exact Nat.mul_le_mul_right _ hroom
      have hr := run_append_room (P := P) w t ty e i ht hi g n cap cur hg a m c news hl hnews h1 hroom hfit
      rw [hr] at hrun
      cases hrun
      intro k hk
      exact .inl hk
    · have holds : ∀ (j : Nat) u, xs[j]? = some u → w.cell? ((⟨g, 0, none⟩ : Addr).add j) = some u := fun j u hj => hown.cells (g := g) rfl j u hj
      have hr := run_append_grow (P := P) w t ty e i z ht hi hz ⟨g, 0, none⟩ n cap xs hown.1 holds a m c news hl hnews (by omega) (by omega) (growslice_fits (by omega) hbytes)
      rw [hr] at hrun
      cases hrun
      intro k hk
      cases hk
      exact .inr (Nat.le_refl _)
/-- append(out, more...), out nil or the call's own, elements of one cell; more any slice. -/
theorem wpList_append_more {P : Program} {ops : Array Oper} {rest : List Oper} {o : Oper} {a : Act} {Q : Exit → Act → World → Prop} (w : World) (hgd : o.guard = none) (s x : Operand) (t : TypeId)
    (ho : o.op = .call { callee := .builtin .append, args := #[s, x], argTypes := #[t, t] })
    (B : Nat) (e : TypeId) {z : Value} {bytes : Nat} (ht : P.underlying t = some (.slice e)) (hi : (P.info? e).map (fun i => (i.zero, i.size, i.bytes)) = some (some z, 1, bytes)) (hzs : z.cells.size = 1) (hby : bytes ≤ 4096)
    {v : Value} {n : Nat} {xs : List Value} (hs : a.eval s = v) (hown : w.ownsRow B e 1 v n xs) {vx : Value} {ys : List Value} (hr : Reads w vx ys) (h1 : ∀ u ∈ ys, u.oneCell' = true)
    (hx : a.eval x = vx) (hn : n + ys.length < 4294967296) (hB : B ≤ w.heap.size)
    (h : ∀ v' w', w'.ownsRow B e 1 v' (n + ys.length) (xs ++ ys) → w.grownBy w' v.ownBlock → In (fun k => v.ownBlock = some k ∨ w.heap.size ≤ k) v' → wpList P ops Q rest (a.put o.dst v') w') :
    wpList P ops Q (o :: rest) a w := by
  obtain ⟨i0, g1, g2, g3, g4⟩ := info_parts hi
  obtain ⟨ao, cap, rfl, hc, hz⟩ := hr
  cases ao with
  | none =>
    have hnil : ys = [] := by
      cases ys with
      | nil => rfl
      | cons y ys => obtain ⟨b, off, he, _⟩ := hc 0 y rfl; cases he
    subst hnil
    rw [hz rfl] at hx
    refine wpList_append_own_none hgd s x t ho B e i0 1 ht g1 v n xs hs hown hx ?_
    exact h v w (by simpa using hown) ⟨rfl, rfl, rfl, Nat.le_refl _, fun _ _ _ => rfl⟩ (fun k hk => .inl hk)
  | some ad =>
    have hnews : ∀ (j : Nat) u, ys[j]? = some u → w.cell? (ad.add j) = some u := fun j u hj => by
      obtain ⟨b, off, he, hcell⟩ := hc j u hj
      cases he
      have e0 := addAt2 b off j
      rw [e0]; exact hcell
    have h63 : n + ys.length ≤ maxLen := by unfold maxLen; omega
    have hbz : (n + ys.length) * bytes ≤ 140737488355328 :=
      calc (n + ys.length) * bytes ≤ 4294967296 * 4096 := Nat.mul_le_mul (by omega) hby
        _ ≤ 140737488355328 := by decide
    obtain ⟨v', w', hrun, h2, h3, -⟩ := run_append_own (P := P) w B t o.type e i0 z 1 bytes ht g1 g2 g3 g4 hzs (by decide) v n xs hown ad ys.length cap ys (by rw [Nat.mul_one]) hnews h1 h63 hbz hB
    have h4 := append_where ht g1 g2 g3 g4 hown ad ys.length cap ys (by rw [Nat.mul_one]) hnews h1 h63 hbz hrun
    refine wpList_plain hgd fun K hK => ?_
    unfold Oper.wp execOp
    simp only [ho, resolve, invoke, builtin, Sem.run_bind, Sem.run_pure, Result.andThen_ok, List.map_toArray, List.map_cons, List.map_nil, hs, hx, hrun]
    exact hK _ _ (h v' w' h2 h3 h4)
end Go.Pantry
/-
  Slices of slices of bytes that are only read. No program is imported.
-/
namespace Go.Pantry
open Go.RowKit

/-- v is a slice whose elements are slices of bytes, with their room: M -/
def ReadsBB (w : World) (v : Value) (M : List (List UInt8)) : Prop :=
  ∃ us : List Value, Reads w v us ∧ us.length = M.length ∧ ∀ (j : Nat) l, M[j]? = some l → ∃ ao c, us[j]? = some (.slice ao l.length c) ∧ Bytes w (.slice ao l.length c) l
theorem readsBB_below {w w' : World} {v : Value} {M : List (List UInt8)} (h : ReadsBB w v M) (hb : Below w.heap.size w w') : ReadsBB w' v M := by
  obtain ⟨us, h1, h2, h3⟩ := h
  refine ⟨us, h1.below hb, h2, fun j l hj => ?_⟩
  obtain ⟨ao, c, h4, h5⟩ := h3 j l hj
  exact ⟨ao, c, h4, bytes_below h5 hb⟩
theorem readsBB_form {w : World} {v : Value} {M : List (List UInt8)} (h : ReadsBB w v M) : ∃ ao cap, v = .slice ao M.length cap := by
  obtain ⟨us, ⟨ao, cap, hv, -⟩, h2, -⟩ := h
  exact ⟨ao, cap, by rw [hv, h2]⟩
/-- the element k: where it lies, and what it is -/
theorem readsBB_at {w : World} {ao : Option Addr} {n cap : Nat} {M : List (List UInt8)} (h : ReadsBB w (.slice ao n cap) M) {k : Nat} {l : List UInt8} (hk : M[k]? = some l) :
    ∃ b off al c, ao = some ⟨b, off, none⟩ ∧ w.cell? ⟨b, off + k, none⟩ = some (.slice al l.length c) ∧ Bytes w (.slice al l.length c) l := by
  obtain ⟨us, ⟨ao', cap', hv, hc, -⟩, h2, h3⟩ := h
  obtain ⟨al, c, h4, h5⟩ := h3 k l hk
  obtain ⟨b, off, he, hcell⟩ := hc k _ h4
  cases hv
  exact ⟨b, off, al, c, he, hcell, h5⟩
end Go.Pantry
/-
  Bodies: the plain mathematics of layer 6: hexadecimal digits, chunks as they are written and as they are read. No program is imported.
-/
namespace Go.Pantry
open Go.RowKit

def crlfB : List UInt8 := [13, 10]
/-- a digit's value -/
def hexV (c : UInt8) : Option Nat :=
  if 48 ≤ c.toNat ∧ c.toNat ≤ 57 then some (c.toNat - 48)
  else if 97 ≤ c.toNat ∧ c.toNat ≤ 102 then some (c.toNat - 87)
  else if 65 ≤ c.toNat ∧ c.toNat ≤ 70 then some (c.toNat - 55) else none
theorem hexV_le {c : UInt8} {v : Nat} (h : hexV c = some v) : v ≤ 15 := by
  unfold hexV at h
  split at h
  · cases h; omega
  · split at h
    · cases h; omega
    · split at h
      · cases h; omega
      · cases h
/-- the digits ahead, at most so many: what they come to behind n, and how many they are -/
def hexRun : Nat → Nat → List UInt8 → Nat × Nat
  | 0, n, _ => (n, 0)
  | _ + 1, n, [] => (n, 0)
  | m + 1, n, c :: s => match hexV c with
    | none => (n, 0)
    | some v => ((hexRun m (16 * n + v) s).1, (hexRun m (16 * n + v) s).2 + 1)
theorem hexRun_none {m n : Nat} {c : UInt8} {s : List UInt8} (h : hexV c = none) : hexRun m n (c :: s) = (n, 0) := by
  cases m with
  | zero => rfl
  | succ m => rw [hexRun, h]
theorem hexRun_some {m n v : Nat} {c : UInt8} {s : List UInt8} (h : hexV c = some v) : hexRun (m + 1) n (c :: s) = ((hexRun m (16 * n + v) s).1, (hexRun m (16 * n + v) s).2 + 1) := by
  rw [hexRun, h]
theorem hexRun_nil (m n : Nat) : hexRun m n [] = (n, 0) := by cases m <;> rfl
theorem one_pow (m : Nat) : 1 ≤ 16 ^ m := Nat.one_le_pow _ _ (by decide)
theorem hexRun_le : ∀ (m n : Nat) (s : List UInt8), (hexRun m n s).2 ≤ s.length ∧ (hexRun m n s).2 ≤ m ∧ (hexRun m n s).1 < (n + 1) * 16 ^ m
  | 0, n, s => ⟨Nat.zero_le _, Nat.zero_le _, by show n < (n + 1) * 1; omega⟩
  | m + 1, n, [] => ⟨Nat.zero_le _, Nat.zero_le _, Nat.lt_of_lt_of_le (by omega : n < (n + 1) * 1) (Nat.mul_le_mul_left _ (one_pow _))⟩
  | m + 1, n, c :: s => by
    cases h : hexV c with
    | none =>
      rw [hexRun_none h]
      exact ⟨Nat.zero_le _, Nat.zero_le _, Nat.lt_of_lt_of_le (by omega : n < (n + 1) * 1) (Nat.mul_le_mul_left _ (one_pow _))⟩
    | some v =>
      have hv := hexV_le h
      rw [hexRun_some h]
      obtain ⟨h1, h2, h3⟩ := hexRun_le m (16 * n + v) s
      refine ⟨by simp only [List.length_cons]; omega, by simp only; omega, ?_⟩
      show (hexRun m (16 * n + v) s).1 < _
      calc (hexRun m (16 * n + v) s).1 < (16 * n + v + 1) * 16 ^ m := h3
        _ ≤ (16 * (n + 1)) * 16 ^ m := Nat.mul_le_mul_right _ (by omega)
        _ = (n + 1) * 16 ^ (m + 1) := by rw [Nat.pow_succ, Nat.mul_comm 16, Nat.mul_assoc, Nat.mul_comm 16]
/-- a line's end: 0, or the error -/
def lineE (lack : Nat) : List UInt8 → Nat
  | [] => lack
  | [c] => if c = 13 then lack else 21
  | c :: d :: _ => if c = 13 ∧ d = 10 then 0 else 21
theorem lineE_one (lack : Nat) (c : UInt8) : lineE lack [c] = if c = 13 then lack else 21 := rfl
theorem lineE_two (lack : Nat) (c d : UInt8) (s : List UInt8) : lineE lack (c :: d :: s) = if c = 13 ∧ d = 10 then 0 else 21 := rfl
theorem lineE_ok {lack : Nat} {s : List UInt8} (hl : lack ≠ 0) (h : lineE lack s = 0) : ∃ t, s = 13 :: 10 :: t := by
  match s with
  | [] => exact absurd h hl
  | [c] =>
    rw [lineE_one] at h
    by_cases hc : c = 13
    · rw [if_pos hc] at h; exact absurd h hl
    · rw [if_neg hc] at h; cases h
  | c :: d :: t =>
    rw [lineE_two] at h
    by_cases hc : c = 13 ∧ d = 10
    · exact ⟨t, by rw [hc.1, hc.2]⟩
    · rw [if_neg hc] at h; cases h
theorem lineE_crlf (lack : Nat) (t : List UInt8) : lineE lack (13 :: 10 :: t) = 0 := rfl
theorem lineE_cases (lack : Nat) (s : List UInt8) : lineE lack s = 0 ∨ lineE lack s = lack ∨ lineE lack s = 21 := by
  match s with
  | [] => exact .inr (.inl rfl)
  | [c] =>
    rw [lineE_one]
    by_cases hc : c = 13
    · rw [if_pos hc]; exact .inr (.inl rfl)
    · rw [if_neg hc]; exact .inr (.inr rfl)
  | c :: d :: t =>
    rw [lineE_two]
    by_cases hc : c = 13 ∧ d = 10
    · rw [if_pos hc]; exact .inl rfl
    · rw [if_neg hc]; exact .inr (.inr rfl)
/-- a chunk's number, and what is behind its digits -/
def numE (s : List UInt8) : Nat := if (hexRun 8 0 s).2 = 0 ∧ s ≠ [] then 21 else 0
/-- a chunk, and what is behind it -/
def chunkL (lack most : Nat) (s : List UInt8) : Except Nat (List UInt8 × List UInt8) :=
  if numE s ≠ 0 then .error 21
  else if lineE lack (s.drop (hexRun 8 0 s).2) ≠ 0 then .error (lineE lack (s.drop (hexRun 8 0 s).2))
  else if most < (hexRun 8 0 s).1 then .error 23
  else if (s.drop ((hexRun 8 0 s).2 + 2)).length < (hexRun 8 0 s).1 then .error lack
  else if lineE lack ((s.drop ((hexRun 8 0 s).2 + 2)).drop (hexRun 8 0 s).1) ≠ 0 then .error (lineE lack ((s.drop ((hexRun 8 0 s).2 + 2)).drop (hexRun 8 0 s).1))
  else .ok ((s.drop ((hexRun 8 0 s).2 + 2)).take (hexRun 8 0 s).1, (s.drop ((hexRun 8 0 s).2 + 2)).drop ((hexRun 8 0 s).1 + 2))
def chunksL (lack : Nat) : Nat → List UInt8 → List UInt8 → Except Nat (List UInt8 × List UInt8)
  | 0, _, _ => .error 0
  | k + 1, acc, s => match chunkL lack (2048 - acc.length) s with
    | .error e => .error e
    | .ok (c, t) => if c.length = 0 then .ok (acc, t) else chunksL lack k (acc ++ c) t
theorem chunkL_ok {lack most : Nat} {s c t : List UInt8} (hl : lack ≠ 0) (h : chunkL lack most s = .ok (c, t)) : c.length ≤ most ∧ c.length + t.length + 4 ≤ s.length ∧ t = s.drop (s.length - t.length) := by
  unfold chunkL at h
  split at h
  · cases h
  · split at h
    · cases h
    · rename_i h1 h2
      obtain ⟨u, hu⟩ := lineE_ok hl (Decidable.not_not.1 h2)
      rw [← List.drop_drop, hu] at h
      have e2 : List.drop 2 (13 :: 10 :: u) = u := rfl
      rw [e2] at h
      have hul := congrArg List.length hu
      simp only [List.length_drop, List.length_cons] at hul
      split at h
      · cases h
      · split at h
        · cases h
        · split at h
          · cases h
          · rename_i h3 h4 h5
            obtain ⟨x, hx⟩ := lineE_ok hl (Decidable.not_not.1 h5)
            have hxl := congrArg List.length hx
            simp only [List.length_drop, List.length_cons] at hxl
            cases h
            rw [← List.drop_drop, hx]
            have e3 : List.drop 2 (13 :: 10 :: x) = x := rfl
            rw [e3]
            refine ⟨by rw [List.length_take]; omega, by rw [List.length_take]; omega, ?_⟩
            have e4 : x = s.drop ((hexRun 8 0 s).2 + 2 + (hexRun 8 0 s).1 + 2) := by
              rw [← List.drop_drop, ← List.drop_drop, ← List.drop_drop, hu, e2, hx]; rfl
            have e5 := congrArg List.length e4
            rw [List.length_drop] at e5
            rw [show s.length - x.length = (hexRun 8 0 s).2 + 2 + (hexRun 8 0 s).1 + 2 by omega]
            exact e4
theorem chunkL_err {lack most e : Nat} {s : List UInt8} (h : chunkL lack most s = .error e) (hl : lack ≠ 0) : e ≠ 0 := by
  unfold chunkL at h
  split at h
  · cases h; decide
  · split at h
    · rename_i h2; cases h; exact h2
    · split at h
      · cases h; decide
      · split at h
        · cases h; exact hl
        · split at h
          · rename_i h2; cases h; exact h2
          · cases h
/-- any road that is long enough leads there -/
theorem chunksL_fuel {lack : Nat} (hl : lack ≠ 0) : ∀ (k m : Nat) (acc s : List UInt8), s.length < k → s.length < m → chunksL lack k acc s = chunksL lack m acc s
  | 0, _, _, s, h, _ => by omega
  | _ + 1, 0, _, s, _, h => by omega
  | k + 1, m + 1, acc, s, h1, h2 => by
    unfold chunksL
    cases hc : chunkL lack (2048 - acc.length) s with
    | error e => rfl
    | ok p =>
      obtain ⟨c, t⟩ := p
      have := chunkL_ok hl hc
      simp only
      split
      · rfl
      · exact chunksL_fuel hl k m (acc ++ c) t (by omega) (by omega)

/-- a number's digit -/
def hexD (n : Nat) : UInt8 := if n < 10 then (48 + n).toUInt8 else (87 + n).toUInt8
/-- a number, in small letters, without noughts ahead -/
def hexN (n : Nat) : List UInt8 := if n < 16 then [hexD n] else hexN (n / 16) ++ [hexD (n % 16)]
termination_by n
decreasing_by omega
theorem hexD_V : ∀ n : Nat, n < 16 → hexV (hexD n) = some n := by decide
theorem hexN_small {n : Nat} (h : n < 16) : hexN n = [hexD n] := by rw [hexN, if_pos h]
theorem hexN_big {n : Nat} (h : 16 ≤ n) : hexN n = hexN (n / 16) ++ [hexD (n % 16)] := by rw [hexN, if_neg (by omega)]
theorem hexN_len : ∀ (k n : Nat), n < 16 ^ (k + 1) → (hexN n).length ≤ k + 1
  | 0, n, h => by rw [hexN_small (by simpa using h)]; simp
  | k + 1, n, h => by
    by_cases h16 : n < 16
    · rw [hexN_small h16]; simp
    · rw [hexN_big (by omega), List.length_append]
      have := hexN_len k (n / 16) (by rw [Nat.div_lt_iff_lt_mul (by decide)]; rw [Nat.pow_succ] at h; exact h)
      simp; omega
theorem hexN_pos (n : Nat) : 0 < (hexN n).length := by
  rw [hexN]
  split
  · simp
  · simp
/-- digits are read as the number that they show -/
theorem hexRun_N : ∀ (n m : Nat) (s : List UInt8), (hexN n).length ≤ m → hexRun m 0 (hexN n ++ s) = ((hexRun (m - (hexN n).length) n s).1, (hexRun (m - (hexN n).length) n s).2 + (hexN n).length) := by
  intro n
  induction n using Nat.strongRecOn with
  | ind n ih =>
    intro m s hm
    by_cases h16 : n < 16
    · rw [hexN_small h16] at hm ⊢
      obtain ⟨m, rfl⟩ : ∃ k, m = k + 1 := ⟨m - 1, by simp at hm; omega⟩
      show hexRun (m + 1) 0 (hexD n :: s) = _
      rw [hexRun_some (hexD_V n h16)]
      simp
    · have e := hexN_big (n := n) (by omega)
      have hl : (hexN n).length = (hexN (n / 16)).length + 1 := by rw [e]; simp
      rw [e, List.append_assoc, ih (n / 16) (by omega) m _ (by omega), ← e, hl]
      obtain ⟨k, hk⟩ : ∃ k, m - (hexN (n / 16)).length = k + 1 := ⟨m - (hexN (n / 16)).length - 1, by omega⟩
      rw [hk, show m - ((hexN (n / 16)).length + 1) = k by omega]
      show ((hexRun (k + 1) (n / 16) (hexD (n % 16) :: s)).1, (hexRun (k + 1) (n / 16) (hexD (n % 16) :: s)).2 + (hexN (n / 16)).length) = _
      rw [hexRun_some (hexD_V _ (Nat.mod_lt _ (by decide))), show 16 * (n / 16) + n % 16 = n by omega]
      simp; omega
theorem hexRun_line {n : Nat} (h : n < 4294967296) (s : List UInt8) : hexRun 8 0 (hexN n ++ 13 :: s) = (n, (hexN n).length) := by
  rw [hexRun_N n 8 _ (hexN_len 7 n h), hexRun_none (by decide)]
  simp
/-- what is cut off within the digits -/
theorem hexRun_take : ∀ (l : List UInt8) (m n : Nat), (∀ c ∈ l, (hexV c).isSome = true) → l.length ≤ m → (hexRun m n l).2 = l.length
  | [], m, n, _, _ => by rw [hexRun_nil]; rfl
  | c :: l, m, n, hc, hm => by
    obtain ⟨m, rfl⟩ : ∃ k, m = k + 1 := ⟨m - 1, by simp at hm; omega⟩
    obtain ⟨v, hv⟩ := Option.isSome_iff_exists.1 (hc c (by simp))
    rw [hexRun_some hv]
    show (hexRun m (16 * n + v) l).2 + 1 = _
    rw [hexRun_take l m _ (fun d hd => hc d (by simp [hd])) (by simp at hm; omega)]
    rfl
theorem hexN_digits : ∀ (n : Nat), ∀ c ∈ hexN n, (hexV c).isSome = true := by
  intro n
  induction n using Nat.strongRecOn with
  | ind n ih =>
    intro c hc
    by_cases h16 : n < 16
    · rw [hexN_small h16] at hc
      simp at hc
      rw [hc, hexD_V n h16]; rfl
    · rw [hexN_big (by omega)] at hc
      rcases List.mem_append.1 hc with h | h
      · exact ih (n / 16) (by omega) c h
      · simp at h
        rw [h, hexD_V _ (Nat.mod_lt _ (by decide))]; rfl

/-- a chunk's text -/
def chunkT (c : List UInt8) : List UInt8 := hexN c.length ++ crlfB ++ c ++ crlfB
/-- the text of chunks, and the last one -/
def chunksT (cs : List (List UInt8)) : List UInt8 := cs.flatMap chunkT ++ chunkT []
theorem chunkT_eq (c r : List UInt8) : chunkT c ++ r = hexN c.length ++ 13 :: 10 :: (c ++ 13 :: 10 :: r) := by
  unfold chunkT crlfB; simp
theorem chunk_begin {c : List UInt8} (h : c.length < 4294967296) (s : List UInt8) : (hexRun 8 0 (hexN c.length ++ 13 :: 10 :: s)).1 = c.length ∧ (hexRun 8 0 (hexN c.length ++ 13 :: 10 :: s)).2 = (hexN c.length).length ∧ numE (hexN c.length ++ 13 :: 10 :: s) = 0 ∧ (hexN c.length ++ 13 :: 10 :: s).drop (hexN c.length).length = 13 :: 10 :: s ∧ (hexN c.length ++ 13 :: 10 :: s).drop ((hexN c.length).length + 2) = s := by
  have e := hexRun_line h (10 :: s)
  have hp := hexN_pos c.length
  refine ⟨by rw [e], by rw [e], ?_, List.drop_left, ?_⟩
  · unfold numE
    rw [e, if_neg]
    rintro ⟨h1, _⟩
    simp only at h1
    omega
  · rw [← List.drop_drop, List.drop_left]; rfl
theorem chunk_text {lack most : Nat} {c : List UInt8} (hb : c.length < 4294967296) (h : c.length ≤ most) (r : List UInt8) : chunkL lack most (chunkT c ++ r) = .ok (c, r) := by
  rw [chunkT_eq]
  obtain ⟨h1, h2, h3, h4, h5⟩ := chunk_begin hb (c ++ 13 :: 10 :: r)
  unfold chunkL
  rw [h3, h2, h1, h4, h5, lineE_crlf, List.drop_left, lineE_crlf, if_neg (by simp), if_neg (by simp), if_neg (by omega), if_neg (by simp), if_neg (by simp), List.take_left, ← List.drop_drop, List.drop_left]
  rfl
theorem chunk_big {lack most : Nat} {c : List UInt8} (hb : c.length < 4294967296) (h : most < c.length) (r : List UInt8) : chunkL lack most (chunkT c ++ r) = .error 23 := by
  rw [chunkT_eq]
  obtain ⟨h1, h2, h3, h4, h5⟩ := chunk_begin hb (c ++ 13 :: 10 :: r)
  unfold chunkL
  rw [h3, h2, h1, h4, lineE_crlf, if_neg (by simp), if_neg (by simp), if_pos h]
theorem lineE_cut (lack : Nat) {k : Nat} (h : k < 2) : lineE lack (crlfB.take k) = lack := by
  match k, h with
  | 0, _ => rfl
  | 1, _ => rfl
/-- a chunk that is cut off -/
theorem chunk_cut {lack most : Nat} (hl : lack ≠ 0) {c : List UInt8} (hb : c.length < 4294967296) (h : c.length ≤ most) {k : Nat} (hk : k < (chunkT c).length) : chunkL lack most ((chunkT c).take k) = .error lack := by
  have hlen : (chunkT c).length = (hexN c.length).length + 2 + c.length + 2 := by unfold chunkT crlfB; simp; omega
  have h8 := hexN_len 7 c.length hb
  by_cases h1 : k ≤ (hexN c.length).length
  · have e : (chunkT c).take k = (hexN c.length).take k := by
      unfold chunkT
      rw [List.append_assoc, List.append_assoc, List.take_append_of_le_length h1]
    rw [e]
    have hd : ((hexN c.length).take k).length = k := by rw [List.length_take]; omega
    have hr := hexRun_take ((hexN c.length).take k) 8 0 (fun x hx => hexN_digits _ x (List.mem_of_mem_take hx)) (by omega)
    unfold chunkL numE
    rw [hr, List.drop_length]
    have e0 : lineE lack [] = lack := rfl
    rw [e0, if_neg, if_pos hl]
    split
    · rename_i h3
      exact absurd (List.length_eq_zero_iff.1 h3.1) h3.2
    · simp
  · by_cases h2 : k = (hexN c.length).length + 1
    · have e : (chunkT c).take k = hexN c.length ++ [13] := by
        have := chunkT_eq c []
        rw [List.append_nil] at this
        rw [this, h2, List.take_append, List.take_of_length_le (Nat.le_succ _), Nat.add_sub_cancel_left]
        rfl
      rw [e]
      have hr := hexRun_line hb []
      have hp := hexN_pos c.length
      unfold chunkL numE
      rw [hr]
      simp only [List.drop_left]
      have e0 : lineE lack [13] = lack := rfl
      rw [e0, if_neg, if_pos hl]
      rw [if_neg]
      · simp
      · rintro ⟨h3, _⟩; omega
    · obtain ⟨j, rfl⟩ : ∃ j, k = (hexN c.length).length + 2 + j := ⟨k - (hexN c.length).length - 2, by omega⟩
      have e : (chunkT c).take ((hexN c.length).length + 2 + j) = hexN c.length ++ 13 :: 10 :: ((c ++ crlfB).take j) := by
        have := chunkT_eq c []
        rw [List.append_nil] at this
        rw [this, List.take_append, List.take_of_length_le (by omega), show (hexN c.length).length + 2 + j - (hexN c.length).length = j + 2 by omega]
        rfl
      rw [e]
      obtain ⟨a1, a2, a3, a4, a5⟩ := chunk_begin hb ((c ++ crlfB).take j)
      unfold chunkL
      rw [a3, a2, a1, a4, a5, lineE_crlf, if_neg (by simp), if_neg (by simp), if_neg (by omega)]
      by_cases hj : j < c.length
      · rw [if_pos (by rw [List.length_take]; omega)]
      · have e3 : ((c ++ crlfB).take j).drop c.length = crlfB.take (j - c.length) := by
          rw [List.take_append, List.take_of_length_le (by omega), List.drop_left]
        rw [if_neg (by rw [List.length_take, List.length_append]; omega), e3, lineE_cut lack (by omega), if_pos hl]
theorem chunksL_step {lack k : Nat} {acc s c t : List UInt8} (h : chunkL lack (2048 - acc.length) s = .ok (c, t)) (hc : 0 < c.length) : chunksL lack (k + 1) acc s = chunksL lack k (acc ++ c) t := by
  rw [chunksL, h]
  simp only
  rw [if_neg (by omega)]
theorem chunksL_fail {lack k e : Nat} {acc s : List UInt8} (h : chunkL lack (2048 - acc.length) s = .error e) : chunksL lack (k + 1) acc s = .error e := by
  rw [chunksL, h]
theorem chunksT_cons (c : List UInt8) (cs : List (List UInt8)) : chunksT (c :: cs) = chunkT c ++ chunksT cs := by
  unfold chunksT; simp
theorem chunks_text (lack : Nat) : ∀ (cs : List (List UInt8)) (k : Nat) (acc rest : List UInt8), (∀ c ∈ cs, 0 < c.length) → cs.length < k → acc.length + cs.flatten.length ≤ 2048 → chunksL lack k acc (chunksT cs ++ rest) = .ok (acc ++ cs.flatten, rest)
  | _, 0, _, _, _, h, _ => by omega
  | [], k + 1, acc, rest, _, _, hs => by
    have h := chunk_text (lack := lack) (most := 2048 - acc.length) (c := []) (by decide) (by simp) rest
    show chunksL lack (k + 1) acc (chunkT [] ++ rest) = _
    rw [chunksL, h]
    simp
  | c :: cs, k + 1, acc, rest, hc, hk, hs => by
    simp only [List.flatten_cons, List.length_append] at hs
    rw [chunksT_cons, List.append_assoc, chunksL_step (chunk_text (by omega) (by omega) _) (hc c (by simp)), chunks_text lack cs k (acc ++ c) rest (fun x hx => hc x (by simp [hx])) (by simp at hk; omega) (by rw [List.length_append]; omega)]
    simp
theorem chunks_big (lack : Nat) : ∀ (cs : List (List UInt8)) (k : Nat) (acc rest : List UInt8), (∀ c ∈ cs, 0 < c.length ∧ c.length < 4294967296) → cs.length < k → acc.length ≤ 2048 → 2048 < acc.length + cs.flatten.length → chunksL lack k acc (chunksT cs ++ rest) = .error 23
  | _, 0, _, _, _, h, _, _ => by omega
  | [], k + 1, acc, rest, _, _, h1, h2 => by simp at h2; omega
  | c :: cs, k + 1, acc, rest, hc, hk, h1, h2 => by
    simp only [List.flatten_cons, List.length_append] at h2
    rw [chunksT_cons, List.append_assoc]
    by_cases hb : c.length ≤ 2048 - acc.length
    · rw [chunksL_step (chunk_text (hc c (by simp)).2 hb _) (hc c (by simp)).1]
      exact chunks_big lack cs k (acc ++ c) rest (fun x hx => hc x (by simp [hx])) (by simp at hk; omega) (by rw [List.length_append]; omega) (by rw [List.length_append]; omega)
    · exact chunksL_fail (chunk_big (hc c (by simp)).2 (by omega) _)
theorem chunks_cut {lack : Nat} (hl : lack ≠ 0) : ∀ (cs : List (List UInt8)) (k : Nat) (acc : List UInt8) (i : Nat), (∀ c ∈ cs, 0 < c.length) → cs.length < k → acc.length + cs.flatten.length ≤ 2048 → i < (chunksT cs).length → chunksL lack k acc ((chunksT cs).take i) = .error lack
  | _, 0, _, _, _, h, _, _ => by omega
  | [], k + 1, acc, i, _, _, hs, hi => by
    have e : chunksT [] = chunkT [] := rfl
    rw [e] at hi ⊢
    exact chunksL_fail (chunk_cut hl (by decide) (by simp) hi)
  | c :: cs, k + 1, acc, i, hc, hk, hs, hi => by
    simp only [List.flatten_cons, List.length_append] at hs
    rw [chunksT_cons] at hi ⊢
    rw [List.length_append] at hi
    by_cases h : i < (chunkT c).length
    · rw [List.take_append_of_le_length (by omega)]
      exact chunksL_fail (chunk_cut hl (by omega) (by omega) h)
    · rw [List.take_append, List.take_of_length_le (by omega), chunksL_step (chunk_text (by omega) (by omega) _) (hc c (by simp))]
      exact chunks_cut hl cs k (acc ++ c) _ (fun x hx => hc x (by simp [hx])) (by simp at hk; omega) (by rw [List.length_append]; omega) (by omega)
/-- a body, in chunks of these sizes -/
def cutS : List UInt8 → List Int → List (List UInt8)
  | b, [] => if b.length = 0 then [] else [b]
  | b, z :: zs => if 0 < min z (b.length : Int) then b.take (min z (b.length : Int)).toNat :: cutS (b.drop (min z (b.length : Int)).toNat) zs else cutS b zs
theorem cutS_pos : ∀ (zs : List Int) (b : List UInt8), ∀ c ∈ cutS b zs, 0 < c.length ∧ c.length ≤ b.length
  | [], b, c, h => by
    unfold cutS at h
    split at h
    · cases h
    · simp at h; subst h; omega
  | z :: zs, b, c, h => by
    unfold cutS at h
    split at h
    · rcases List.mem_cons.1 h with rfl | h
      · rw [List.length_take]; omega
      · have := cutS_pos zs _ c h
        rw [List.length_drop] at this
        omega
    · exact cutS_pos zs b c h
theorem cutS_flat : ∀ (zs : List Int) (b : List UInt8), (cutS b zs).flatten = b
  | [], b => by
    unfold cutS
    split
    · rename_i h; rw [List.length_eq_zero_iff.1 h]; rfl
    · simp
  | z :: zs, b => by
    unfold cutS
    split
    · rw [List.flatten_cons, cutS_flat zs, List.take_append_drop]
    · exact cutS_flat zs b
theorem cutS_len : ∀ (zs : List Int) (b : List UInt8), (cutS b zs).length ≤ zs.length + 1
  | [], b => by
    unfold cutS
    split <;> simp
  | z :: zs, b => by
    unfold cutS
    split
    · have := cutS_len zs (b.drop (min z (b.length : Int)).toNat)
      simp; omega
    · have := cutS_len zs b
      simp; omega
theorem cutS_text_len : ∀ (cs : List (List UInt8)), (∀ c ∈ cs, c.length < 4294967296) → (chunksT cs).length ≤ cs.flatten.length + 12 * cs.length + 12
  | [], _ => by
    have e : chunksT [] = chunkT [] := rfl
    rw [e]
    have h8 := hexN_len 7 ([] : List UInt8).length (by decide)
    unfold chunkT crlfB
    simp at h8 ⊢; omega
  | c :: cs, h => by
    have := cutS_text_len cs (fun x hx => h x (by simp [hx]))
    have h8 := hexN_len 7 c.length (h c (by simp))
    rw [chunksT_cons, List.length_append, List.flatten_cons, List.length_append, List.length_cons]
    have hc : (chunkT c).length = (hexN c.length).length + 2 + c.length + 2 := by unfold chunkT crlfB; simp; omega
    omega
end Go.Pantry
/-
  Frames: what fields tell of a body's length. No program is imported.
-/
namespace Go.Pantry
open Go.RowKit

def teN : List UInt8 := [84, 114, 97, 110, 115, 102, 101, 114, 45, 69, 110, 99, 111, 100, 105, 110, 103]
def clN : List UInt8 := [67, 111, 110, 116, 101, 110, 116, 45, 76, 101, 110, 103, 116, 104]
def teL : List UInt8 := [116, 114, 97, 110, 115, 102, 101, 114, 45, 101, 110, 99, 111, 100, 105, 110, 103]
def clL : List UInt8 := [99, 111, 110, 116, 101, 110, 116, 45, 108, 101, 110, 103, 116, 104]
def chW : List UInt8 := [99, 104, 117, 110, 107, 101, 100]
theorem all_te (L : List Fld) : allF L teL = allF L teN := by
  unfold allF isF
  rw [show lowerL teL = lowerL teN by decide +kernel]
theorem all_cl (L : List Fld) : allF L clL = allF L clN := by
  unfold allF isF
  rw [show lowerL clL = lowerL clN by decide +kernel]
theorem els_te (L : List Fld) : elementsF L teL = elementsF L teN := by unfold elementsF getF; rw [all_te]
theorem els_cl (L : List Fld) : elementsF L clL = elementsF L clN := by unfold elementsF getF; rw [all_cl]
/-- is that the number? -/
def goodN (f : Nat) (a : List UInt8) : Bool := (numberL a).isSome && (numberL a).getD 0 == f
/-- of lengths -/
def cntX : List (List UInt8) → Except Nat (Nat × Nat)
  | [] => .error 24
  | a :: r => if (a :: r).all (goodN ((numberL a).getD 0)) then (if 2048 < (numberL a).getD 0 then .error 23 else .ok (1, (numberL a).getD 0)) else .error 24
/-- just the one word? -/
def justX (E : List (List UInt8)) : Bool := match E with | [a] => lowerL a == chW | _ => false
def frameX (minor : Int) (other : Nat) (L : List Fld) : Except Nat (Nat × Nat) :=
  if (allF L teN).isEmpty then (if (allF L clN).isEmpty then .ok (other, 0) else cntX (elementsF L clN))
  else if !(allF L clN).isEmpty || !justX (elementsF L teN) || minor == 0 then .error 24 else .ok (2, 0)
/-- of a response -/
def bareX (head : Bool) (st : Int) : Bool := head || (decide (st < 200) || st == 204 || st == 304)
def fK (x : Except Nat (Nat × Nat)) : Int × Int × Int := match x with | .error k => (0, 0, (k : Int)) | .ok p => ((p.1 : Int), (p.2 : Int), 0)
/-- what is told -/
def FrameIs (x : Except Nat (Nat × Nat)) (e : Ending) : Prop := e = .returned (.tuple #[.agg #[.int .i64 (fK x).1, .int .i64 (fK x).2.1], .int .i64 (fK x).2.2])
theorem FrameIs.form {x : Except Nat (Nat × Nat)} {e : Ending} (h : FrameIs x e) : ∃ a b c, fK x = (a, b, c) ∧ e = .returned (.tuple #[.agg #[.int .i64 a, .int .i64 b], .int .i64 c]) := ⟨_, _, _, rfl, h⟩
theorem all_take {f : Nat} {E : List (List UInt8)} {k : Nat} {a : List UInt8} (h : E[k]? = some a) : (E.take (k + 1)).all (goodN f) = ((E.take k).all (goodN f) && goodN f a) := by
  obtain ⟨hk, e⟩ := List.getElem?_eq_some_iff.1 h
  rw [List.take_succ_eq_append_getElem hk, e, List.all_append]
  simp
theorem all_not {f : Nat} {E : List (List UInt8)} {a : List UInt8} (h : a ∈ E) (hg : goodN f a = false) : E.all (goodN f) = false := List.all_eq_false.2 ⟨a, h, by rw [hg]; decide⟩
end Go.Pantry
/-
  Heads: the plain mathematics of layer 5: finding a text in another one, cutting at it, lines; what the statements ask; what is shown is read; the library's searching and cutting; the road that the program takes. No program is imported.
-/
namespace Go.Pantry
open Go.RowKit

/-- the first place of w in s -/
def findL (w : List UInt8) : List UInt8 → Option Nat
  | [] => if w.isEmpty then some 0 else none
  | c :: s => if w.isPrefixOf (c :: s) then some 0 else (findL w s).map (· + 1)
/-- s cut at w, at most so often -/
def piecesL (w : List UInt8) : Nat → List UInt8 → List (List UInt8)
  | 0, s => [s]
  | n + 1, s => match findL w s with
    | none => [s]
    | some i => s.take i :: piecesL w n (s.drop (i + w.length))

theorem findL_some {w : List UInt8} : ∀ {s : List UInt8} {i : Nat}, findL w s = some i → i ≤ s.length ∧ w.isPrefixOf (s.drop i) = true ∧ ∀ j, j < i → w.isPrefixOf (s.drop j) = false
  | [], i, h => by
    unfold findL at h
    split at h
    · rename_i hw
      cases h
      have : w = [] := by simpa using hw
      subst this
      exact ⟨Nat.le_refl _, rfl, fun j hj => by omega⟩
    · cases h
  | c :: s, i, h => by
    unfold findL at h
    split at h
    · rename_i hw
      cases h
      exact ⟨Nat.zero_le _, hw, fun j hj => by omega⟩
    · rename_i hw
      cases hf : findL w s with
      | none => rw [hf] at h; cases h
      | some k =>
        rw [hf] at h
        cases h
        obtain ⟨h1, h2, h3⟩ := findL_some hf
        refine ⟨by simp; omega, h2, fun j hj => ?_⟩
        cases j with
        | zero => exact Bool.eq_false_iff.2 hw
        | succ j => exact h3 j (Nat.lt_of_succ_lt_succ hj)
theorem findL_none {w : List UInt8} (hw : w ≠ []) : ∀ {s : List UInt8}, findL w s = none → ∀ j, w.isPrefixOf (s.drop j) = false
  | [], _, j => by
    rw [List.drop_nil]
    cases w with
    | nil => exact absurd rfl hw
    | cons a w => rfl
  | c :: s, h, j => by
    unfold findL at h
    split at h
    · cases h
    · rename_i hp
      cases hf : findL w s with
      | some k => rw [hf] at h; cases h
      | none =>
        cases j with
        | zero => exact Bool.eq_false_iff.2 hp
        | succ j => exact findL_none hw hf j
theorem findL_first {w : List UInt8} (hw : w ≠ []) {s : List UInt8} {i : Nat} (h : w.isPrefixOf (s.drop i) = true) (hf : ∀ j, j < i → w.isPrefixOf (s.drop j) = false) : findL w s = some i := by
  cases hx : findL w s with
  | none => rw [findL_none hw hx i] at h; cases h
  | some k =>
    obtain ⟨_, h2, h3⟩ := findL_some hx
    rcases Nat.lt_trichotomy k i with hk | hk | hk
    · rw [hf k hk] at h2; cases h2
    · rw [hk]
    · rw [h3 i hk] at h; cases h
/-- behind bytes that are not its first one -/
theorem findL_skip (x : UInt8) (w : List UInt8) : ∀ (a s : List UInt8), x ∉ a → findL (x :: w) (a ++ s) = (findL (x :: w) s).map (a.length + ·)
  | [], s, _ => by simp
  | c :: a, s, h => by
    have hc : (x == c) = false := by
      have : x ≠ c := fun e => h (by rw [e]; exact List.mem_cons_self ..)
      simpa using this
    have ih := findL_skip x w a s (fun hm => h (List.mem_cons_of_mem _ hm))
    rw [List.cons_append, findL, ih]
    rw [show (x :: w).isPrefixOf (c :: (a ++ s)) = (x == c && w.isPrefixOf (a ++ s)) from rfl, hc]
    cases findL (x :: w) s with
    | none => rfl
    | some k => simp; omega
theorem isPrefixOf_self (w s : List UInt8) : w.isPrefixOf (w ++ s) = true := by
  induction w with
  | nil => rfl
  | cons c w ih => simp [ih]
theorem findL_at (x : UInt8) (w a b : List UInt8) (h : x ∉ a) : findL (x :: w) (a ++ (x :: w) ++ b) = some a.length := by
  rw [List.append_assoc, findL_skip x w a _ h]
  have : findL (x :: w) ((x :: w) ++ b) = some 0 := by
    show findL (x :: w) (x :: (w ++ b)) = some 0
    have h1 : (x :: w).isPrefixOf (x :: (w ++ b)) = true := isPrefixOf_self (x :: w) b
    rw [findL, if_pos h1]
  rw [this]; rfl
theorem findL_no (x : UInt8) (w a : List UInt8) (h : x ∉ a) : findL (x :: w) a = none := by
  have := findL_skip x w a [] h
  rw [List.append_nil] at this
  rw [this]; rfl

/-- texts with w between them -/
def joinL (w : List UInt8) : List (List UInt8) → List UInt8
  | [] => []
  | [a] => a
  | a :: b :: r => a ++ w ++ joinL w (b :: r)
theorem pieces_joinL (x : UInt8) (w : List UInt8) : ∀ (n : Nat) (l : List (List UInt8)), l ≠ [] → l.length ≤ n + 1 → (∀ a ∈ l, x ∉ a) → (piecesL (x :: w) n (joinL (x :: w) l) = l)
  | _, [], h, _, _ => absurd rfl h
  | n, [a], _, _, h => by
    have hf : findL (x :: w) a = none := findL_no x w a (h a (List.mem_cons_self ..))
    cases n with
    | zero => rfl
    | succ n => show piecesL (x :: w) (n + 1) a = [a]; rw [piecesL, hf]
  | 0, a :: b :: r, _, hl, _ => by simp at hl
  | n + 1, a :: b :: r, _, hl, h => by
    have ih := pieces_joinL x w n (b :: r) (by simp) (by simp at hl ⊢; omega) (fun c hc => h c (List.mem_cons_of_mem _ hc))
    have hf := findL_at x w a (joinL (x :: w) (b :: r)) (h a (List.mem_cons_self ..))
    have h1 : (a ++ (x :: w) ++ joinL (x :: w) (b :: r)).take a.length = a := by rw [List.append_assoc, List.take_left]
    have h2 : (a ++ (x :: w) ++ joinL (x :: w) (b :: r)).drop (a.length + (x :: w).length) = joinL (x :: w) (b :: r) := by
      rw [← List.length_append, List.drop_left]
    show piecesL (x :: w) (n + 1) (a ++ (x :: w) ++ joinL (x :: w) (b :: r)) = _
    rw [piecesL, hf]
    simp only
    rw [h1, h2, ih]

/-! lines -/
def crlf : List UInt8 := [13, 10]
def crlf2 : List UInt8 := [13, 10, 13, 10]
/-- each with its end -/
def linesT (l : List (List UInt8)) : List UInt8 := l.flatMap (· ++ crlf)
theorem linesT_join : ∀ (l : List (List UInt8)), l ≠ [] → linesT l = joinL crlf l ++ crlf
  | [], h => absurd rfl h
  | [a], _ => by simp [linesT, joinL]
  | a :: b :: r, _ => by
    have ih := linesT_join (b :: r) (by simp)
    have e : linesT (a :: b :: r) = a ++ crlf ++ linesT (b :: r) := by simp [linesT]
    rw [e, ih]
    simp [joinL]
/-- a line's end with no other one behind it -/
theorem find2_step (t : List UInt8) (h : t.head? ≠ some 13) : findL crlf2 (13 :: 10 :: t) = (findL crlf2 t).map (· + 2) := by
  have h1 : crlf2.isPrefixOf (13 :: 10 :: t) = false := by
    cases t with
    | nil => rfl
    | cons c t =>
      have : (13 == c) = false := by
        have hc : c ≠ 13 := fun e => h (by rw [e]; rfl)
        simpa using Ne.symm hc
      show ((13 : UInt8) == 13 && ((10 : UInt8) == 10 && ((13 == c) && [10].isPrefixOf t))) = false
      rw [this]; rfl
  have h2 : crlf2.isPrefixOf (10 :: t) = false := rfl
  rw [findL, h1, findL, h2]
  cases findL crlf2 t with
  | none => rfl
  | some k => simp
/-- the first empty line of lines that are not -/
theorem find2_lines : ∀ (l : List (List UInt8)) (rest : List UInt8), l ≠ [] → (∀ a ∈ l, (13 : UInt8) ∉ a ∧ a ≠ []) → findL crlf2 (linesT l ++ crlf ++ rest) = some (joinL crlf l).length
  | [], _, h, _ => absurd rfl h
  | [a], rest, _, h => by
    have e : linesT [a] ++ crlf ++ rest = a ++ crlf2 ++ rest := by simp [linesT, crlf, crlf2]
    rw [e]
    exact findL_at 13 [10, 13, 10] a rest (h a (List.mem_cons_self ..)).1
  | a :: b :: r, rest, _, h => by
    have ih := find2_lines (b :: r) rest (by simp) (fun c hc => h c (List.mem_cons_of_mem _ hc))
    have hb := h b (List.mem_cons_of_mem _ (List.mem_cons_self ..))
    have e : linesT (a :: b :: r) ++ crlf ++ rest = a ++ (13 :: 10 :: (linesT (b :: r) ++ crlf ++ rest)) := by simp [linesT, crlf]
    have hh : (linesT (b :: r) ++ crlf ++ rest).head? ≠ some 13 := by
      obtain ⟨hb1, hb2⟩ := hb
      cases b with
      | nil => exact absurd rfl hb2
      | cons c b =>
        have hc : c ≠ 13 := fun e => hb1 (by rw [e]; exact List.mem_cons_self ..)
        simp [linesT, hc]
    rw [e, show crlf2 = 13 :: [10, 13, 10] from rfl, findL_skip 13 [10, 13, 10] a _ (h a (List.mem_cons_self ..)).1, show (13 : UInt8) :: [10, 13, 10] = crlf2 from rfl, find2_step _ hh, ih]
    show some (a.length + ((joinL crlf (b :: r)).length + 2)) = some (a ++ crlf ++ joinL crlf (b :: r)).length
    rw [List.length_append, List.length_append]
    simp [crlf]; omega
/-- what stands behind plays no part, and less is not enough -/
theorem find2_cut {s : List UInt8} {i : Nat} (h : findL crlf2 s = some i) (rest : List UInt8) : findL crlf2 (s.take (i + 4) ++ rest) = some i ∧ ∀ k, k < i + 4 → findL crlf2 (s.take k) = none := by
  obtain ⟨h1, h2, h3⟩ := findL_some h
  have hp : ∀ t : List UInt8, crlf2.isPrefixOf t = true ↔ crlf2 <+: t := fun t => List.isPrefixOf_iff_prefix
  obtain ⟨u, hu⟩ := (hp _).1 h2
  have hil : i + 4 ≤ s.length := by
    have := congrArg List.length hu
    rw [List.length_append, List.length_drop] at this
    have h4 : crlf2.length = 4 := rfl
    omega
  have take_pre : ∀ (k j : Nat), crlf2 <+: (s.take k).drop j → crlf2 <+: s.drop j := fun k j hx => by
    obtain ⟨v, hv⟩ := hx
    rw [List.drop_take] at hv
    exact ⟨v ++ (s.drop j).drop (k - j), by rw [← List.append_assoc, hv, List.take_append_drop]⟩
  constructor
  · have hs4 : s.take (i + 4) = s.take i ++ crlf2 := by
      rw [List.take_add, ← hu]
      congr 1
    refine findL_first (by decide) ?_ (fun j hj => ?_)
    · rw [hp, hs4, List.append_assoc]
      have : (s.take i).length = i := by rw [List.length_take]; omega
      have hd : (s.take i ++ (crlf2 ++ rest)).drop i = crlf2 ++ rest := by
        have h0 := List.drop_left (l₁ := s.take i) (l₂ := crlf2 ++ rest)
        rw [this] at h0
        exact h0
      rw [hd]
      exact List.prefix_append _ _
    · have h5 := h3 j hj
      rw [Bool.eq_false_iff] at h5 ⊢
      intro hx
      apply h5
      rw [hp] at hx ⊢
      obtain ⟨v, hv⟩ := hx
      have hlen : (s.take (i + 4)).length = i + 4 := by rw [List.length_take]; omega
      rw [List.drop_append_of_le_length (by rw [hlen]; omega)] at hv
      have : crlf2 <+: (s.take (i + 4)).drop j := by
        refine List.prefix_of_prefix_length_le (l₃ := (s.take (i + 4)).drop j ++ rest) ⟨v, hv⟩ (List.prefix_append _ _) ?_
        rw [List.length_drop, hlen]
        show 4 ≤ _
        omega
      exact take_pre _ _ this
  · intro k hk
    cases hf : findL crlf2 (s.take k) with
    | none => rfl
    | some j =>
      obtain ⟨g1, g2, _⟩ := findL_some hf
      have g4 := (hp _).1 g2
      have g3 : crlf2 <+: s.drop j := take_pre k j g4
      have hj : j + 4 ≤ k := by
        have := g4.length_le
        rw [List.length_drop, List.length_take] at this
        have h4 : crlf2.length = 4 := rfl
        omega
      have := h3 j (by omega)
      rw [(hp _).2 g3] at this
      cases this
end Go.Pantry
namespace Go.Pantry
open Go.RowKit

/-- a head: Method and Target, or Reason and nothing; Status is 0 of a request -/
structure Hd where
  first : List UInt8
  second : List UInt8
  status : Nat
  minor : Nat
  flds : List Fld
deriving DecidableEq
def hd0 : Hd := ⟨[], [], 0, 0, []⟩
def v10 : List UInt8 := [72, 84, 84, 80, 47, 49, 46, 48]
def v11 : List UInt8 := [72, 84, 84, 80, 47, 49, 46, 49]
def verL (n : Nat) : List UInt8 := if n = 0 then v10 else v11
def minorL (s : List UInt8) : Option Nat := if s == v10 then some 0 else if s == v11 then some 1 else none
def seenL (s : List UInt8) : Bool := !s.isEmpty && s.all fun c => decide (33 ≤ c.toNat) && decide (c.toNat ≤ 126)
/-- is a head right? -/
def rightReq (h : Hd) : Bool := decide (h.minor ≤ 1) && rightFs h.flds && (tokenL h.first && decide (h.first.length ≤ 16) && seenL h.second && decide (h.second.length ≤ 1024)) && h.status == 0
def rightRes (h : Hd) : Bool := decide (h.minor ≤ 1) && rightFs h.flds && (decide (100 ≤ h.status) && decide (h.status ≤ 599) && decide (h.first.length ≤ 64) && h.first.all okV && trimL h.first == h.first) && h.second == []
/-- the first lines, and the fields' -/
def reqLine (h : Hd) : List UInt8 := h.first ++ 32 :: (h.second ++ 32 :: verL h.minor)
def dig3 (n : Nat) : List UInt8 := [(48 + n / 100).toUInt8, (48 + n / 10 % 10).toUInt8, (48 + n % 10).toUInt8]
def resLine (h : Hd) : List UInt8 := verL h.minor ++ 32 :: (dig3 h.status ++ 32 :: h.first)
def fldLine (f : Fld) : List UInt8 := f.1 ++ 58 :: 32 :: f.2
def textReq (h : Hd) : List UInt8 := linesT (reqLine h :: h.flds.map fldLine) ++ crlf
def textRes (h : Hd) : List UInt8 := linesT (resLine h :: h.flds.map fldLine) ++ crlf
/-- they read: an error's number, or what they are -/
def reqL (s : List UInt8) : Except Nat Hd := match piecesL [32] s.length s with
  | [m, t, v] => if tokenL m && seenL t && (minorL v).isSome then (if 16 < m.length ∨ 1024 < t.length then .error 22 else .ok ⟨m, t, 0, (minorL v).getD 0, []⟩) else .error 21
  | _ => .error 21
def resL (s : List UInt8) : Except Nat Hd := match piecesL [32] 2 s with
  | [v, d, r] => if (minorL v).isSome && d.length == 3 && (numberL d).isSome && decide (100 ≤ (numberL d).getD 0) && decide ((numberL d).getD 0 ≤ 599) && r.all okV && trimL r == r then (if 64 < r.length then .error 22 else .ok ⟨r, [], (numberL d).getD 0, (minorL v).getD 0, []⟩) else .error 21
  | _ => .error 21
def fldL (i : Nat) (a : List UInt8) : Except Nat Fld := match findL [58] a with
  | none => .error 21
  | some k => if tokenL (a.take k) && (trimL (a.drop (k + 1))).all okV then (if 64 < k ∨ 1024 < (trimL (a.drop (k + 1))).length ∨ 64 ≤ i then .error 22 else .ok (a.take k, trimL (a.drop (k + 1)))) else .error 21
def fldsL : Nat → List (List UInt8) → Except Nat (List Fld)
  | _, [] => .ok []
  | i, a :: r => match fldL i a with
    | .error e => .error e
    | .ok f => match fldsL (i + 1) r with
      | .error e => .error e
      | .ok l => .ok (f :: l)
/-- a head and how many bytes it takes -/
def headL (first : List UInt8 → Except Nat Hd) (l : List (List UInt8)) : Except Nat Hd := match l with
  | [] => .error 21
  | a :: r => match first a with
    | .error e => .error e
    | .ok h => match fldsL 0 r with
      | .error e => .error e
      | .ok f => .ok { h with flds := f }
def readL (first : List UInt8 → Except Nat Hd) (s : List UInt8) : Except Nat (Hd × Nat) := match findL crlf2 s with
  | none => if 4096 ≤ s.length then .error 22 else .error 20
  | some n => if 4096 < n + 4 then .error 22 else match headL first (piecesL crlf n (s.take n)) with
    | .error e => .error e
    | .ok h => .ok (h, n + 4)

theorem mem_tok {l : List UInt8} (h : tokenL l = true) {c : UInt8} (hc : c ∈ l) : isTok c = true := by
  unfold tokenL at h
  rw [Bool.and_eq_true] at h
  exact List.all_eq_true.1 h.1 c hc
theorem tok_not {l : List UInt8} (h : tokenL l = true) (c : UInt8) (hc : isTok c = false) : c ∉ l := fun hm => by rw [mem_tok h hm] at hc; cases hc
theorem tok_ne {l : List UInt8} (h : tokenL l = true) : l ≠ [] := fun e => by rw [e] at h; cases h
theorem seen_not {l : List UInt8} (h : seenL l = true) (c : UInt8) (hc : c.toNat < 33) : c ∉ l := fun hm => by
  unfold seenL at h
  rw [Bool.and_eq_true] at h
  have := List.all_eq_true.1 h.2 c hm
  simp at this
  omega
theorem okV_not {l : List UInt8} (h : l.all okV = true) (c : UInt8) (hc : okV c = false) : c ∉ l := fun hm => by rw [List.all_eq_true.1 h c hm] at hc; cases hc
theorem ver_not (n : Nat) (c : UInt8) (hc : c.toNat < 46) : c ∉ verL n := by
  unfold verL
  intro hm
  split at hm
  · simp only [v10, List.mem_cons, List.not_mem_nil, or_false] at hm
    rcases hm with rfl | rfl | rfl | rfl | rfl | rfl | rfl | rfl <;> revert hc <;> decide
  · simp only [v11, List.mem_cons, List.not_mem_nil, or_false] at hm
    rcases hm with rfl | rfl | rfl | rfl | rfl | rfl | rfl | rfl <;> revert hc <;> decide
theorem minor_ver {n : Nat} (h : n ≤ 1) : minorL (verL n) = some n := by
  rcases Nat.le_one_iff_eq_zero_or_eq_one.1 h with rfl | rfl <;> decide
theorem dig3_ok (n : Nat) (h1 : 100 ≤ n) (h2 : n ≤ 599) : numberL (dig3 n) = some n := by
  have key : ∀ k : Fin 600, 100 ≤ k.val → numberL (dig3 k.val) = some k.val := by decide +kernel
  exact key ⟨n, by omega⟩ h1
theorem dig3_not (n : Nat) (h2 : n ≤ 599) (c : UInt8) (hc : c.toNat < 48) : c ∉ dig3 n := by
  have key : ∀ k : Fin 600, ∀ d ∈ dig3 k.val, 48 ≤ d.toNat := by decide +kernel
  intro hm
  have := key ⟨n, by omega⟩ c hm
  omega

/-! what is shown is read -/
theorem fldL_line {i : Nat} {f : Fld} (h : rightF f = true) (hi : i < 64) : fldL i (fldLine f) = .ok f := by
  obtain ⟨n, v⟩ := f
  unfold rightF at h
  simp only [Bool.and_eq_true, decide_eq_true_eq, beq_iff_eq] at h
  obtain ⟨⟨⟨⟨h1, h2⟩, h3⟩, h4⟩, h5⟩ := h
  have hf : findL [58] (n ++ 58 :: 32 :: v) = some n.length := by
    have := findL_at 58 [] n (32 :: v) (tok_not h1 58 (by decide))
    simpa using this
  have t1 : (n ++ 58 :: 32 :: v).take n.length = n := List.take_left ..
  have t2 : (n ++ 58 :: 32 :: v).drop (n.length + 1) = 32 :: v := by
    rw [show n ++ 58 :: 32 :: v = (n ++ [58]) ++ (32 :: v) by simp, show n.length + 1 = (n ++ [58]).length by simp]
    exact List.drop_left ..
  unfold fldL fldLine
  simp only [hf, t1, t2, trim_blank 32 v (by decide), h4, h1, h5, Bool.and_self, if_true]
  rw [if_neg (by omega)]
theorem fldsL_lines : ∀ (L : List Fld) (i : Nat), (∀ f ∈ L, rightF f = true) → i + L.length ≤ 64 → fldsL i (L.map fldLine) = .ok L
  | [], _, _, _ => rfl
  | f :: L, i, h, hi => by
    simp only [List.length_cons] at hi
    have h1 := fldL_line (i := i) (h f (List.mem_cons_self ..)) (by omega)
    have h2 := fldsL_lines L (i + 1) (fun g hg => h g (List.mem_cons_of_mem _ hg)) (by omega)
    rw [List.map_cons, fldsL, h1]
    simp only [h2]
theorem fldLine_clean {f : Fld} (h : rightF f = true) : (13 : UInt8) ∉ fldLine f ∧ fldLine f ≠ [] := by
  obtain ⟨n, v⟩ := f
  unfold rightF at h
  simp only [Bool.and_eq_true, decide_eq_true_eq, beq_iff_eq] at h
  obtain ⟨⟨⟨⟨h1, _⟩, _⟩, _⟩, h5⟩ := h
  refine ⟨fun hm => ?_, by simp [fldLine]⟩
  unfold fldLine at hm
  rcases List.mem_append.1 hm with hm | hm
  · exact tok_not h1 13 (by decide) hm
  · simp only [List.mem_cons] at hm
    rcases hm with hm | hm | hm
    · revert hm; decide
    · revert hm; decide
    · exact okV_not h5 13 (by decide) hm
theorem read_text (first : List UInt8 → Except Nat Hd) (a : List UInt8) (h : Hd) (L : List Fld) (rest : List UInt8) (ha : first a = .ok h) (h13 : (13 : UInt8) ∉ a) (hne : a ≠ []) (hr : rightFs L = true) (hl : (linesT (a :: L.map fldLine) ++ crlf).length ≤ 4096) :
    readL first (linesT (a :: L.map fldLine) ++ crlf ++ rest) = .ok ({ h with flds := L }, (linesT (a :: L.map fldLine) ++ crlf).length) := by
  unfold rightFs at hr
  simp only [Bool.and_eq_true, decide_eq_true_eq, List.all_eq_true] at hr
  have hcl : ∀ x ∈ a :: L.map fldLine, (13 : UInt8) ∉ x ∧ x ≠ [] := by
    intro x hx
    rcases List.mem_cons.1 hx with rfl | hx
    · exact ⟨h13, hne⟩
    · obtain ⟨f, hf, rfl⟩ := List.mem_map.1 hx
      exact fldLine_clean (hr.2 f hf)
  generalize hls : a :: L.map fldLine = ls at *
  have hlne : ls ≠ [] := by rw [← hls]; simp
  have hfind := find2_lines ls rest hlne hcl
  have hj := linesT_join ls hlne
  have hjl : (linesT ls ++ crlf).length = (joinL crlf ls).length + 4 := by rw [hj]; simp [crlf]
  have ht : (linesT ls ++ crlf ++ rest).take (joinL crlf ls).length = joinL crlf ls := by
    rw [hj, List.append_assoc, List.append_assoc]
    exact List.take_left ..
  have hlen : ls.length ≤ (joinL crlf ls).length + 1 := by
    have key : ∀ l : List (List UInt8), l ≠ [] → l.length ≤ (joinL crlf l).length + 1 := by
      intro l
      induction l with
      | nil => intro h; exact absurd rfl h
      | cons x r ih =>
        intro _
        cases r with
        | nil => simp
        | cons y r =>
          have := ih (by simp)
          simp only [joinL, List.length_append, List.length_cons] at this ⊢
          have h2 : crlf.length = 2 := rfl
          omega
    exact key ls hlne
  have hp := pieces_joinL 13 [10] (joinL crlf ls).length ls hlne hlen (fun x hx => (hcl x hx).1)
  have hflds := fldsL_lines L 0 hr.2 (by omega)
  unfold readL
  rw [hfind]
  simp only [ht]
  rw [if_neg (by omega), show piecesL crlf (joinL crlf ls).length (joinL crlf ls) = ls from hp, ← hls]
  simp only [headL, ha, hflds]
  rw [hls, hjl]
end Go.Pantry
namespace Go.Pantry
open Go.RowKit

theorem req_line {h : Hd} (hr : rightReq h = true) : reqL (reqLine h) = .ok { h with flds := [] } ∧ (13 : UInt8) ∉ reqLine h ∧ reqLine h ≠ [] := by
  obtain ⟨m, t, st, n, L⟩ := h
  unfold rightReq at hr
  simp only [Bool.and_eq_true, decide_eq_true_eq, beq_iff_eq] at hr
  obtain ⟨⟨⟨hn, _⟩, ⟨⟨h1, h2⟩, h3⟩, h4⟩, rfl⟩ := hr
  have hp : piecesL [32] (m ++ 32 :: (t ++ 32 :: verL n)).length (m ++ 32 :: (t ++ 32 :: verL n)) = [m, t, verL n] := by
    have e : m ++ 32 :: (t ++ 32 :: verL n) = joinL [32] [m, t, verL n] := by simp [joinL]
    rw [e]
    refine pieces_joinL 32 [] _ [m, t, verL n] (by simp) ?_ ?_
    · simp [joinL]; omega
    · intro a ha
      simp only [List.mem_cons, List.not_mem_nil, or_false] at ha
      rcases ha with rfl | rfl | rfl
      · exact tok_not h1 32 (by decide)
      · exact seen_not h3 32 (by decide)
      · exact ver_not n 32 (by decide)
  refine ⟨?_, ?_, by simp [reqLine]⟩
  · unfold reqL reqLine
    simp only [hp, h1, h3, minor_ver hn, Option.isSome_some, Bool.and_self, if_true, Option.getD_some]
    rw [if_neg (by omega)]
  · intro hm
    unfold reqLine at hm
    rcases List.mem_append.1 hm with hm | hm
    · exact tok_not h1 13 (by decide) hm
    · rcases List.mem_cons.1 hm with hm | hm
      · revert hm; decide
      · rcases List.mem_append.1 hm with hm | hm
        · exact seen_not h3 13 (by decide) hm
        · rcases List.mem_cons.1 hm with hm | hm
          · revert hm; decide
          · exact ver_not n 13 (by decide) hm
theorem res_line {h : Hd} (hr : rightRes h = true) : resL (resLine h) = .ok { h with flds := [] } ∧ (13 : UInt8) ∉ resLine h ∧ resLine h ≠ [] := by
  obtain ⟨r, x, st, n, L⟩ := h
  unfold rightRes at hr
  simp only [Bool.and_eq_true, decide_eq_true_eq, beq_iff_eq] at hr
  obtain ⟨⟨⟨hn, _⟩, ⟨⟨⟨h1, h2⟩, h3⟩, h4⟩, h5⟩, rfl⟩ := hr
  have f1 : findL [32] (verL n ++ 32 :: (dig3 st ++ 32 :: r)) = some (verL n).length := by
    have := findL_at 32 [] (verL n) (dig3 st ++ 32 :: r) (ver_not n 32 (by decide))
    simpa using this
  have d1 : (verL n ++ 32 :: (dig3 st ++ 32 :: r)).drop ((verL n).length + ([32] : List UInt8).length) = dig3 st ++ 32 :: r := by
    rw [show verL n ++ 32 :: (dig3 st ++ 32 :: r) = (verL n ++ [32]) ++ (dig3 st ++ 32 :: r) by simp, ← List.length_append]
    exact List.drop_left ..
  have t1 : (verL n ++ 32 :: (dig3 st ++ 32 :: r)).take (verL n).length = verL n := List.take_left ..
  have f2 : findL [32] (dig3 st ++ 32 :: r) = some (dig3 st).length := by
    have := findL_at 32 [] (dig3 st) r (dig3_not st h2 32 (by decide))
    simpa using this
  have d2 : (dig3 st ++ 32 :: r).drop ((dig3 st).length + ([32] : List UInt8).length) = r := by
    rw [show dig3 st ++ 32 :: r = (dig3 st ++ [32]) ++ r by simp, ← List.length_append]
    exact List.drop_left ..
  have t2 : (dig3 st ++ 32 :: r).take (dig3 st).length = dig3 st := List.take_left ..
  have hp : piecesL [32] 2 (verL n ++ 32 :: (dig3 st ++ 32 :: r)) = [verL n, dig3 st, r] := by
    rw [piecesL, f1]
    simp only
    rw [t1, d1, piecesL, f2]
    simp only
    rw [t2, d2, piecesL]
  have hd : (dig3 st).length = 3 := rfl
  refine ⟨?_, ?_, by simp [resLine]⟩
  · unfold resL resLine
    simp only [hp, minor_ver hn, dig3_ok st h1 h2, hd, h4, h5, Option.isSome_some, Option.getD_some, decide_eq_true h1, decide_eq_true h2, beq_self_eq_true, Bool.and_self, if_true]
    rw [if_neg (by omega)]
  · intro hm
    unfold resLine at hm
    rcases List.mem_append.1 hm with hm | hm
    · exact ver_not n 13 (by decide) hm
    · rcases List.mem_cons.1 hm with hm | hm
      · revert hm; decide
      · rcases List.mem_append.1 hm with hm | hm
        · exact dig3_not st h2 13 (by decide) hm
        · rcases List.mem_cons.1 hm with hm | hm
          · revert hm; decide
          · exact okV_not h4 13 (by decide) hm
/-- what is shown is read as it is, whatever stands behind it -/
theorem read_req {h : Hd} (hr : rightReq h = true) (hl : (textReq h).length ≤ 4096) (rest : List UInt8) : readL reqL (textReq h ++ rest) = .ok (h, (textReq h).length) := by
  obtain ⟨h1, h2, h3⟩ := req_line hr
  have hf : rightFs h.flds = true := by
    unfold rightReq at hr
    simp only [Bool.and_eq_true] at hr
    exact hr.1.1.2
  exact read_text reqL (reqLine h) { h with flds := [] } h.flds rest h1 h2 h3 hf hl
theorem read_res {h : Hd} (hr : rightRes h = true) (hl : (textRes h).length ≤ 4096) (rest : List UInt8) : readL resL (textRes h ++ rest) = .ok (h, (textRes h).length) := by
  obtain ⟨h1, h2, h3⟩ := res_line hr
  have hf : rightFs h.flds = true := by
    unfold rightRes at hr
    simp only [Bool.and_eq_true] at hr
    exact hr.1.1.2
  exact read_text resL (resLine h) { h with flds := [] } h.flds rest h1 h2 h3 hf hl

/-! what is read is right -/
theorem fldL_right {i : Nat} {a : List UInt8} {f : Fld} (h : fldL i a = .ok f) : rightF f = true ∧ i < 64 := by
  unfold fldL at h
  cases hk : findL [58] a with
  | none => rw [hk] at h; cases h
  | some k =>
    rw [hk] at h
    simp only at h
    split at h
    · rename_i h1
      split at h
      · cases h
      · rename_i h2
        cases h
        rw [Bool.and_eq_true] at h1
        have hkl := (findL_some hk).1
        have hl : (a.take k).length = k := by rw [List.length_take]; omega
        refine ⟨?_, by omega⟩
        unfold rightF
        simp only [Bool.and_eq_true, decide_eq_true_eq, beq_iff_eq]
        exact ⟨⟨⟨⟨h1.1, by rw [hl]; omega⟩, by omega⟩, trimL_idem _⟩, h1.2⟩
    · cases h
theorem fldsL_right : ∀ (l : List (List UInt8)) (i : Nat) (L : List Fld), fldsL i l = .ok L → (∀ f ∈ L, rightF f = true) ∧ L.length = l.length ∧ (L ≠ [] → i + L.length ≤ 64)
  | [], _, L, h => by
    cases h
    exact ⟨by simp, rfl, fun h => absurd rfl h⟩
  | a :: r, i, L, h => by
    rw [fldsL] at h
    cases hf : fldL i a with
    | error e => rw [hf] at h; cases h
    | ok f =>
      rw [hf] at h
      simp only at h
      cases hr : fldsL (i + 1) r with
      | error e => rw [hr] at h; cases h
      | ok l =>
        rw [hr] at h
        cases h
        obtain ⟨g1, g2⟩ := fldL_right hf
        obtain ⟨k1, k2, k3⟩ := fldsL_right r (i + 1) l hr
        refine ⟨fun x hx => ?_, by simp [k2], fun _ => ?_⟩
        · rcases List.mem_cons.1 hx with rfl | hx
          · exact g1
          · exact k1 x hx
        · cases l with
          | nil => simp; omega
          | cons y l =>
            have := k3 (by simp)
            simp only [List.length_cons] at this ⊢
            omega
theorem flds_right {l : List (List UInt8)} {L : List Fld} (h : fldsL 0 l = .ok L) : rightFs L = true := by
  obtain ⟨h1, _, h3⟩ := fldsL_right l 0 L h
  unfold rightFs
  simp only [Bool.and_eq_true, decide_eq_true_eq, List.all_eq_true]
  refine ⟨?_, h1⟩
  cases L with
  | nil => simp
  | cons f L => have := h3 (by simp); omega
theorem minorL_le {s : List UInt8} {n : Nat} (h : minorL s = some n) : n ≤ 1 := by
  unfold minorL at h
  split at h
  · cases h; omega
  · split at h
    · cases h; omega
    · cases h
theorem readL_ok {first : List UInt8 → Except Nat Hd} {s : List UInt8} {h : Hd} {n : Nat} (hr : readL first s = .ok (h, n)) :
    ∃ i a l g, findL crlf2 s = some i ∧ n = i + 4 ∧ n ≤ 4096 ∧ piecesL crlf i (s.take i) = a :: l ∧ first a = .ok g ∧ fldsL 0 l = .ok h.flds ∧ h = { g with flds := h.flds } := by
  unfold readL at hr
  cases hf : findL crlf2 s with
  | none => rw [hf] at hr; simp only at hr; split at hr <;> cases hr
  | some i =>
    rw [hf] at hr
    simp only at hr
    split at hr
    · cases hr
    · rename_i hn
      cases hp : piecesL crlf i (s.take i) with
      | nil => rw [hp] at hr; cases hr
      | cons a l =>
        rw [hp] at hr
        simp only [headL] at hr
        cases ha : first a with
        | error e => rw [ha] at hr; cases hr
        | ok g =>
          rw [ha] at hr
          simp only at hr
          cases hl : fldsL 0 l with
          | error e => rw [hl] at hr; cases hr
          | ok f =>
            rw [hl] at hr
            cases hr
            exact ⟨i, a, l, g, rfl, rfl, by omega, hp, ha, hl, rfl⟩
theorem reqL_right {a : List UInt8} {g : Hd} (h : reqL a = .ok g) : (tokenL g.first && decide (g.first.length ≤ 16) && seenL g.second && decide (g.second.length ≤ 1024)) = true ∧ g.minor ≤ 1 ∧ g.status = 0 := by
  unfold reqL at h
  split at h
  · rename_i m t v hp
    split at h
    · rename_i h1
      split at h
      · cases h
      · rename_i h2
        cases h
        simp only [Bool.and_eq_true] at h1
        obtain ⟨⟨g1, g2⟩, g3⟩ := h1
        refine ⟨?_, ?_, rfl⟩
        · simp only [Bool.and_eq_true, decide_eq_true_eq]
          exact ⟨⟨⟨g1, by omega⟩, g2⟩, by omega⟩
        · cases hv : minorL v with
          | none => rw [hv] at g3; cases g3
          | some k => exact minorL_le hv
    · cases h
  · cases h
theorem resL_right {a : List UInt8} {g : Hd} (h : resL a = .ok g) : (decide (100 ≤ g.status) && decide (g.status ≤ 599) && decide (g.first.length ≤ 64) && g.first.all okV && trimL g.first == g.first) = true ∧ g.minor ≤ 1 ∧ g.second = [] := by
  unfold resL at h
  split at h
  · rename_i v d r hp
    split at h
    · rename_i h1
      split at h
      · cases h
      · rename_i h2
        cases h
        simp only [Bool.and_eq_true, decide_eq_true_eq, beq_iff_eq] at h1
        obtain ⟨⟨⟨⟨⟨⟨g1, g2⟩, g3⟩, g4⟩, g5⟩, g6⟩, g7⟩ := h1
        refine ⟨?_, ?_, rfl⟩
        · simp only [Bool.and_eq_true, decide_eq_true_eq, beq_iff_eq]
          exact ⟨⟨⟨⟨g4, g5⟩, by omega⟩, g6⟩, g7⟩
        · cases hv : minorL v with
          | none => rw [hv] at g1; cases g1
          | some k => exact minorL_le hv
    · cases h
  · cases h
theorem readReq_right {s : List UInt8} {h : Hd} {n : Nat} (hr : readL reqL s = .ok (h, n)) : rightReq h = true := by
  obtain ⟨i, a, l, g, -, -, -, -, h5, h6, h7⟩ := readL_ok hr
  obtain ⟨r1, r2, r3⟩ := reqL_right h5
  have hf := flds_right h6
  rw [h7]
  unfold rightReq
  simp only [hf, r1, r3, Bool.and_true, beq_self_eq_true]
  exact decide_eq_true r2
theorem readRes_right {s : List UInt8} {h : Hd} {n : Nat} (hr : readL resL s = .ok (h, n)) : rightRes h = true := by
  obtain ⟨i, a, l, g, -, -, -, -, h5, h6, h7⟩ := readL_ok hr
  obtain ⟨r1, r2, r3⟩ := resL_right h5
  have hf := flds_right h6
  rw [h7]
  unfold rightRes
  simp only [hf, r1, r3, Bool.and_true, beq_self_eq_true]
  exact decide_eq_true r2
/-! parts -/
theorem read_parts {first : List UInt8 → Except Nat Hd} {s : List UInt8} {h : Hd} {n : Nat} (hr : readL first s = .ok (h, n)) (hs : s.length ≤ 4000) (rest : List UInt8) :
    0 < n ∧ n ≤ s.length ∧ (∀ k, k < n → readL first (s.take k) = .error 20) ∧ readL first (s.take n ++ rest) = .ok (h, n) := by
  obtain ⟨i, a, l, g, h1, rfl, h3, h4, h5, h6, h7⟩ := readL_ok hr
  obtain ⟨c1, c2⟩ := find2_cut h1 rest
  have hil : i + 4 ≤ s.length := by
    obtain ⟨u, hu⟩ := List.isPrefixOf_iff_prefix.1 (findL_some h1).2.1
    have := congrArg List.length hu
    rw [List.length_append, List.length_drop] at this
    have h4 : crlf2.length = 4 := rfl
    omega
  refine ⟨by omega, hil, fun k hk => ?_, ?_⟩
  · unfold readL
    rw [c2 k hk]
    simp only
    rw [if_neg (by rw [List.length_take]; omega)]
  · have ht : (s.take (i + 4) ++ rest).take i = s.take i := by
      rw [List.take_append_of_le_length (by rw [List.length_take]; omega), List.take_take]
      congr 1; omega
    unfold readL
    rw [c1]
    simp only [ht, h4, headL, h5, h6]
    rw [if_neg (by omega), ← h7]
/-! kinds -/
theorem read_kinds (s : List UInt8) (x y : Hd × Nat) (h1 : readL reqL s = .ok x) (h2 : readL resL s = .ok y) : False := by
  obtain ⟨h, n⟩ := x
  obtain ⟨k, m⟩ := y
  obtain ⟨i, a, l, g, f1, -, -, p1, q1, -, -⟩ := readL_ok h1
  obtain ⟨i', a', l', g', f2, -, -, p2, q2, -, -⟩ := readL_ok h2
  rw [f1] at f2
  cases f2
  rw [p1] at p2
  cases p2
  unfold reqL at q1
  unfold resL at q2
  cases hf : findL [32] a with
  | none =>
    have : piecesL [32] 2 a = [a] := by rw [piecesL, hf]
    rw [this] at q2
    cases q2
  | some j =>
    have hal : a.length ≠ 0 := fun e => by
      have : a = [] := List.eq_nil_of_length_eq_zero e
      rw [this] at hf
      cases hf
    obtain ⟨N, hN⟩ : ∃ N, a.length = N + 1 := ⟨a.length - 1, by omega⟩
    rw [hN, piecesL, hf] at q1
    rw [piecesL, hf] at q2
    simp only at q1 q2
    have t1 : tokenL (a.take j) = true := by
      split at q1
      · rename_i m t v hp
        rw [← (List.cons.inj hp).1] at q1
        split at q1
        · rename_i hh
          simp only [Bool.and_eq_true] at hh
          exact hh.1.1
        · cases q1
      · cases q1
    have t2 : (minorL (a.take j)).isSome = true := by
      split at q2
      · rename_i v d r hp
        rw [← (List.cons.inj hp).1] at q2
        split at q2
        · rename_i hh
          simp only [Bool.and_eq_true] at hh
          exact hh.1.1.1.1.1.1
        · cases q2
      · cases q2
    unfold minorL at t2
    split at t2
    · rename_i hh
      rw [beq_iff_eq] at hh
      rw [hh] at t1
      revert t1; decide
    · split at t2
      · rename_i hh
        rw [beq_iff_eq] at hh
        rw [hh] at t1
        revert t1; decide
      · cases t2
end Go.Pantry
namespace Go.Pantry
open Go.RowKit

theorem read_lines (first : List UInt8 → Except Nat Hd) (ls : List (List UInt8)) (rest : List UInt8) (hlne : ls ≠ []) (hcl : ∀ x ∈ ls, (13 : UInt8) ∉ x ∧ x ≠ []) (hl : (linesT ls ++ crlf).length ≤ 4096) :
    readL first (linesT ls ++ crlf ++ rest) = match headL first ls with | .error e => .error e | .ok h => .ok (h, (linesT ls ++ crlf).length) := by
  have hfind := find2_lines ls rest hlne hcl
  have hj := linesT_join ls hlne
  have hjl : (linesT ls ++ crlf).length = (joinL crlf ls).length + 4 := by rw [hj]; simp [crlf]
  have ht : (linesT ls ++ crlf ++ rest).take (joinL crlf ls).length = joinL crlf ls := by
    rw [hj, List.append_assoc, List.append_assoc]
    exact List.take_left ..
  have hlen : ls.length ≤ (joinL crlf ls).length + 1 := by
    have key : ∀ l : List (List UInt8), l ≠ [] → l.length ≤ (joinL crlf l).length + 1 := by
      intro l
      induction l with
      | nil => intro h; exact absurd rfl h
      | cons x r ih =>
        intro _
        cases r with
        | nil => simp
        | cons y r =>
          have := ih (by simp)
          simp only [joinL, List.length_append, List.length_cons] at this ⊢
          have h2 : crlf.length = 2 := rfl
          omega
    exact key ls hlne
  have hp := pieces_joinL 13 [10] (joinL crlf ls).length ls hlne hlen (fun x hx => (hcl x hx).1)
  unfold readL
  rw [hfind]
  simp only [ht]
  rw [if_neg (by omega), show piecesL crlf (joinL crlf ls).length (joinL crlf ls) = ls from hp, hjl]
  all_goals (cases headL first ls <;> rfl)

/-- blanks -/
def blL : Nat → List UInt8
  | 0 => []
  | 1 => [32]
  | 2 => [9]
  | _ => [32, 9, 32]
theorem blL_all (n : Nat) : ∀ c ∈ blL n, isBl c = true := by
  intro c hc
  unfold blL at hc
  split at hc <;> simp at hc
  · subst hc; decide
  · subst hc; decide
  · rcases hc with h | h | h <;> rw [h] <;> decide
/-- a field's line with blanks: ahead of the value, behind it; which: 1: ahead of the colon; 2: at the beginning -/
def blLine (a b w : Nat) (f : Fld) : List UInt8 := (if w = 2 then [32] else []) ++ f.1 ++ (if w = 1 then [32] else []) ++ [58] ++ blL a ++ f.2 ++ blL b
theorem trim_ahead : ∀ (p v : List UInt8), (∀ c ∈ p, isBl c = true) → trimL (p ++ v) = trimL v
  | [], _, _ => rfl
  | c :: p, v, h => by
    rw [List.cons_append, trim_blank c _ (h c (List.mem_cons_self ..))]
    exact trim_ahead p v (fun d hd => h d (List.mem_cons_of_mem _ hd))
theorem trim_behind (v q : List UInt8) (hq : ∀ c ∈ q, isBl c = true) (hv : trimL v = v) : trimL (v ++ q) = v := by
  cases v with
  | nil =>
    rw [List.nil_append]
    have := trim_ahead q [] hq
    rw [List.append_nil] at this
    rw [this, trimL_nil]
  | cons c v =>
    have h1 := trim_head (c :: v) c (by rw [hv]; rfl)
    have h2 : ∀ d, (c :: v).getLast? = some d → isBl d = false := fun d hd => trim_last (c :: v) d (by rw [hv]; exact hd)
    have key := trim_of ((c :: v) ++ q) 0 (c :: v).length (Nat.zero_le _) (by rw [List.length_append]; omega) (fun j x hj => by omega)
      (fun j x h3 hx => by
        rw [List.getElem?_append_right h3] at hx
        exact hq x (List.mem_of_getElem? hx))
      (fun _ x hx => by
        have : c = x := by simpa using hx
        rw [← this]; exact h1)
      (fun _ x hx => by
        rw [List.getElem?_append_left (by simp)] at hx
        exact h2 x (by rw [List.getLast?_eq_getElem?]; exact hx))
    rw [key, List.drop_zero, Nat.sub_zero]
    exact List.take_left ..
theorem blLine_clean {a b w : Nat} {f : Fld} (h : rightF f = true) : (13 : UInt8) ∉ blLine a b w f ∧ blLine a b w f ≠ [] := by
  obtain ⟨n, v⟩ := f
  unfold rightF at h
  simp only [Bool.and_eq_true, decide_eq_true_eq, beq_iff_eq] at h
  obtain ⟨⟨⟨⟨h1, _⟩, _⟩, _⟩, h5⟩ := h
  have hb : ∀ k, (13 : UInt8) ∉ blL k := fun k hm => by
    have := blL_all k 13 hm
    revert this; decide
  refine ⟨fun hm => ?_, by simp [blLine]⟩
  unfold blLine at hm
  simp only [List.mem_append] at hm
  rcases hm with (((((hm | hm) | hm) | hm) | hm) | hm) | hm
  · split at hm
    · revert hm; decide
    · cases hm
  · exact tok_not h1 13 (by decide) hm
  · split at hm
    · revert hm; decide
    · cases hm
  · revert hm; decide
  · exact hb a hm
  · exact okV_not h5 13 (by decide) hm
  · exact hb b hm
theorem fldL_blanks {i a b : Nat} {f : Fld} (h : rightF f = true) (hi : i < 64) : fldL i (blLine a b 0 f) = .ok f := by
  obtain ⟨n, v⟩ := f
  unfold rightF at h
  simp only [Bool.and_eq_true, decide_eq_true_eq, beq_iff_eq] at h
  obtain ⟨⟨⟨⟨h1, h2⟩, h3⟩, h4⟩, h5⟩ := h
  have e : blLine a b 0 (n, v) = n ++ [58] ++ (blL a ++ (v ++ blL b)) := by simp [blLine]
  have hf : findL [58] (n ++ [58] ++ (blL a ++ (v ++ blL b))) = some n.length := findL_at 58 [] n _ (tok_not h1 58 (by decide))
  have t1 : (n ++ [58] ++ (blL a ++ (v ++ blL b))).take n.length = n := by rw [List.append_assoc]; exact List.take_left ..
  have t2 : (n ++ [58] ++ (blL a ++ (v ++ blL b))).drop (n.length + 1) = blL a ++ (v ++ blL b) := by
    have h0 := List.drop_left (l₁ := n ++ [58]) (l₂ := blL a ++ (v ++ blL b))
    rw [List.length_append] at h0
    exact h0
  have ht : trimL (blL a ++ (v ++ blL b)) = v := by rw [trim_ahead _ _ (blL_all a), trim_behind _ _ (blL_all b) h4]
  rw [e]
  unfold fldL
  simp only [hf, t1, t2, ht, h1, h5, Bool.and_self, if_true]
  rw [if_neg (by omega)]
theorem fldL_wrong {i a b w : Nat} {f : Fld} (h : rightF f = true) (hw : w = 1 ∨ w = 2) : fldL i (blLine a b w f) = .error 21 := by
  obtain ⟨n, v⟩ := f
  unfold rightF at h
  simp only [Bool.and_eq_true, decide_eq_true_eq, beq_iff_eq] at h
  obtain ⟨⟨⟨⟨h1, _⟩, _⟩, _⟩, _⟩ := h
  obtain ⟨p, hp, h32, e⟩ : ∃ p : List UInt8, (58 : UInt8) ∉ p ∧ (32 : UInt8) ∈ p ∧ blLine a b w (n, v) = p ++ [58] ++ (blL a ++ (v ++ blL b)) := by
    rcases hw with rfl | rfl
    · refine ⟨n ++ [32], ?_, by simp, by simp [blLine]⟩
      intro hm
      rcases List.mem_append.1 hm with hm | hm
      · exact tok_not h1 58 (by decide) hm
      · revert hm; decide
    · refine ⟨32 :: n, ?_, by simp, by simp [blLine]⟩
      intro hm
      rcases List.mem_cons.1 hm with hm | hm
      · revert hm; decide
      · exact tok_not h1 58 (by decide) hm
  have hf : findL [58] (p ++ [58] ++ (blL a ++ (v ++ blL b))) = some p.length := findL_at 58 [] p _ hp
  have t1 : (p ++ [58] ++ (blL a ++ (v ++ blL b))).take p.length = p := by rw [List.append_assoc]; exact List.take_left ..
  have hno : tokenL p = false := by
    cases ht : tokenL p with
    | false => rfl
    | true => exact absurd h32 (tok_not ht 32 (by decide))
  rw [e]
  unfold fldL
  simp only [hf, t1, hno, Bool.false_and, Bool.false_eq_true, if_false]
theorem fldsL_blanks (a b : Nat) : ∀ (L : List Fld) (i : Nat), (∀ f ∈ L, rightF f = true) → i + L.length ≤ 64 → fldsL i (L.map (blLine a b 0)) = .ok L
  | [], _, _, _ => rfl
  | f :: L, i, h, hi => by
    simp only [List.length_cons] at hi
    have h1 := fldL_blanks (i := i) (a := a) (b := b) (h f (List.mem_cons_self ..)) (by omega)
    have h2 := fldsL_blanks a b L (i + 1) (fun g hg => h g (List.mem_cons_of_mem _ hg)) (by omega)
    rw [List.map_cons, fldsL, h1]
    simp only [h2]
end Go.Pantry
namespace Go.Pantry
open Go.RowKit

/-- GET / HTTP/1.1 -/
def getL : List UInt8 := [71, 69, 84, 32, 47, 32, 72, 84, 84, 80, 47, 49, 46, 49]
def getH : Hd := ⟨[71, 69, 84], [47], 0, 1, []⟩
theorem get_reads : reqL getL = .ok getH ∧ (13 : UInt8) ∉ getL ∧ getL ≠ [] := by
  refine ⟨?_, by decide, by decide⟩
  have h := (req_line (h := getH) (by decide)).1
  exact h
theorem blanks_ok (L : List Fld) (a b : Nat) (h : rightFs L = true) (hl : (linesT (getL :: L.map (blLine a b 0)) ++ crlf).length ≤ 4096) :
    readL reqL (linesT (getL :: L.map (blLine a b 0)) ++ crlf) = .ok ({ getH with flds := L }, (linesT (getL :: L.map (blLine a b 0)) ++ crlf).length) := by
  unfold rightFs at h
  simp only [Bool.and_eq_true, decide_eq_true_eq, List.all_eq_true] at h
  have h1 := read_lines reqL (getL :: L.map (blLine a b 0)) [] (by simp) (fun x hx => by
    rcases List.mem_cons.1 hx with rfl | hx
    · exact get_reads.2
    · obtain ⟨f, hf, rfl⟩ := List.mem_map.1 hx
      exact blLine_clean (h.2 f hf)) hl
  rw [List.append_nil] at h1
  rw [h1]
  simp only [headL, get_reads.1, fldsL_blanks a b L 0 h.2 (by omega)]
theorem blanks_wrong (f : Fld) (L : List Fld) (a b w : Nat) (hw : w = 1 ∨ w = 2) (h : rightFs (f :: L) = true) (hl : (linesT (getL :: (f :: L).map (blLine a b w)) ++ crlf).length ≤ 4096) :
    readL reqL (linesT (getL :: (f :: L).map (blLine a b w)) ++ crlf) = .error 21 := by
  unfold rightFs at h
  simp only [Bool.and_eq_true, decide_eq_true_eq, List.all_eq_true] at h
  have h1 := read_lines reqL (getL :: (f :: L).map (blLine a b w)) [] (by simp) (fun x hx => by
    rcases List.mem_cons.1 hx with rfl | hx
    · exact get_reads.2
    · obtain ⟨g, hg, rfl⟩ := List.mem_map.1 hx
      exact blLine_clean (h.2 g hg)) hl
  rw [List.append_nil] at h1
  rw [h1]
  simp only [headL, get_reads.1, List.map_cons, fldsL, fldL_wrong (h.2 f (List.mem_cons_self ..)) hw]
theorem blanks_none (a b w : Nat) : readL reqL (linesT (getL :: ([] : List Fld).map (blLine a b w)) ++ crlf) = .ok (getH, 18) := by
  have h := blanks_ok [] a b (by decide) (show (linesT [getL] ++ crlf).length ≤ 4096 by decide)
  exact h

/-! cutting as often as it is there -/
theorem findL_lt {w : List UInt8} (hw : w ≠ []) {s : List UInt8} {i : Nat} (h : findL w s = some i) : i + w.length ≤ s.length := by
  obtain ⟨h1, h2, _⟩ := findL_some h
  obtain ⟨u, hu⟩ := List.isPrefixOf_iff_prefix.1 h2
  have := congrArg List.length hu
  rw [List.length_append, List.length_drop] at this
  have : 0 < w.length := List.length_pos_iff.2 hw
  omega
theorem pieces_fuel {w : List UInt8} (hw : w ≠ []) : ∀ (n m : Nat) (s : List UInt8), s.length ≤ n → s.length ≤ m → piecesL w n s = piecesL w m s := by
  intro n
  induction n with
  | zero =>
    intro m s h _
    have hs : s = [] := List.eq_nil_of_length_eq_zero (by omega)
    subst hs
    cases m with
    | zero => rfl
    | succ m =>
      have : findL w [] = none := by
        cases hf : findL w [] with
        | none => rfl
        | some i =>
          have := findL_lt hw hf
          have h2 : 0 < w.length := List.length_pos_iff.2 hw
          simp at this
          exact absurd this.2 hw
      rw [piecesL, piecesL, this]
  | succ n ih =>
    intro m s h1 h2
    have hw1 : 0 < w.length := List.length_pos_iff.2 hw
    cases m with
    | zero =>
      have hs : s = [] := List.eq_nil_of_length_eq_zero (by omega)
      subst hs
      have : findL w [] = none := by
        cases hf : findL w [] with
        | none => rfl
        | some i =>
          have := findL_lt hw hf
          simp at this
          exact absurd this.2 hw
      rw [piecesL, piecesL, this]
    | succ m =>
      rw [piecesL, piecesL]
      cases hf : findL w s with
      | none => rfl
      | some i =>
        have := findL_lt hw hf
        simp only
        rw [ih m (s.drop (i + w.length)) (by rw [List.length_drop]; omega) (by rw [List.length_drop]; omega)]
/-- one step of the cutting, from a place on -/
theorem pieces_step {w : List UInt8} (hw : w ≠ []) (s : List UInt8) : piecesL w s.length s = match findL w s with
    | none => [s]
    | some i => s.take i :: piecesL w (s.drop (i + w.length)).length (s.drop (i + w.length)) := by
  cases hf : findL w s with
  | none =>
    cases h : s.length with
    | zero => rfl
    | succ n => rw [piecesL, hf]
  | some i =>
    have := findL_lt hw hf
    have hw1 : 0 < w.length := List.length_pos_iff.2 hw
    obtain ⟨n, hn⟩ : ∃ n, s.length = n + 1 := ⟨s.length - 1, by omega⟩
    rw [hn, piecesL, hf]
    simp only
    rw [pieces_fuel hw n (s.drop (i + w.length)).length _ (by rw [List.length_drop]; omega) (Nat.le_refl _)]
end Go.Pantry
namespace Go.Pantry
open Go.RowKit

theorem index_find (w : List UInt8) : ∀ s : List UInt8, Lib.index s w = match findL w s with | none => -1 | some i => (i : Int)
  | [] => by
    unfold Lib.index findL
    split <;> rfl
  | c :: s => by
    have ih := index_find w s
    unfold Lib.index findL
    split
    · rfl
    · rw [ih]
      cases findL w s with
      | none => rfl
      | some i =>
        have h1 : ¬ ((i : Int) == -1) = true := by simp
        simp only [Option.map_some]
        rw [if_neg h1]
        exact (Int.natCast_add i 1).symm
theorem index_at {w s : List UInt8} {i : Nat} (h : findL w s = some i) : Lib.index s w = (i : Int) := by rw [index_find, h]
theorem index_no {w s : List UInt8} (h : findL w s = none) : Lib.index s w = -1 := by rw [index_find, h]
theorem splitK_pieces (w : List UInt8) : ∀ (n : Nat) (s : List UInt8), Lib.splitK w 0 n s = piecesL w n s
  | 0, _ => rfl
  | n + 1, s => by
    cases hf : findL w s with
    | none =>
      have hi := index_no hf
      rw [Lib.splitK, piecesL, hf, hi]
      rfl
    | some i =>
      have hi := index_at hf
      have h1 : ¬ ((i : Int) == -1) = true := by simp
      rw [Lib.splitK, piecesL, hf, hi, if_neg h1, splitK_pieces w n]
      simp
theorem pieces_count {w : List UInt8} (hw : w ≠ []) : ∀ (n : Nat) (s : List UInt8), s.length ≤ n → piecesL w (Lib.count s w) s = piecesL w n s := by
  intro n
  induction n with
  | zero =>
    intro s h
    have : s = [] := List.eq_nil_of_length_eq_zero (by omega)
    subst this
    cases hf : findL w [] with
    | none => rw [Lib.count_miss (index_no hf)]
    | some i =>
      have h3 : i + w.length ≤ 0 := findL_lt hw hf
      have h2 : 0 < w.length := List.length_pos_iff.2 hw
      omega
  | succ n ih =>
    intro s h
    cases hf : findL w s with
    | none =>
      rw [Lib.count_miss (index_no hf)]
      rw [piecesL, piecesL, hf]
    | some i =>
      have hlt := findL_lt hw hf
      have h2 : 0 < w.length := List.length_pos_iff.2 hw
      rw [Lib.count_hit hw (index_at hf), Nat.add_comm, piecesL, piecesL, hf]
      simp only
      rw [ih _ (by rw [List.length_drop]; omega)]
theorem pieces_len (w : List UInt8) : ∀ (n : Nat) (s : List UInt8), (piecesL w n s).length ≤ n + 1
  | 0, s => by simp [piecesL]
  | n + 1, s => by
    rw [piecesL]
    cases findL w s with
    | none => simp
    | some i =>
      have := pieces_len w n (s.drop (i + w.length))
      simp only [List.length_cons]
      omega
theorem pieces_pos (w : List UInt8) (n : Nat) (s : List UInt8) : 0 < (piecesL w n s).length := by
  cases n with
  | zero => simp [piecesL]
  | succ n =>
    rw [piecesL]
    cases findL w s with
    | none => simp
    | some i => simp
theorem pieces_size (w : List UInt8) : ∀ (n : Nat) (s : List UInt8), ∀ a ∈ piecesL w n s, a.length ≤ s.length
  | 0, s, a, h => by simp [piecesL] at h; subst h; exact Nat.le_refl _
  | n + 1, s, a, h => by
    rw [piecesL] at h
    cases hf : findL w s with
    | none => rw [hf] at h; simp at h; subst h; exact Nat.le_refl _
    | some i =>
      rw [hf] at h
      simp only [List.mem_cons] at h
      rcases h with rfl | h
      · rw [List.length_take]; omega
      · have := pieces_size w n _ a h
        rw [List.length_drop] at this
        omega
/-- the pieces of all of a text: their number is bounded by its length -/
theorem pieces_num {w : List UInt8} (hw : w ≠ []) : ∀ (n : Nat) (s : List UInt8), s.length ≤ n → (piecesL w n s).length ≤ s.length + 1 := by
  intro n
  induction n with
  | zero => intro s h; simp [piecesL]
  | succ n ih =>
    intro s h
    rw [piecesL]
    cases hf : findL w s with
    | none => simp
    | some i =>
      have hlt := findL_lt hw hf
      have h2 : 0 < w.length := List.length_pos_iff.2 hw
      have := ih (s.drop (i + w.length)) (by rw [List.length_drop]; omega)
      rw [List.length_drop] at this
      simp only [List.length_cons]
      omega

/-! the program's road: the first 4096 bytes alone are looked at -/
def cutL (s : List UInt8) : Except Nat (List (List UInt8) × Nat) := match findL crlf2 (s.take 4096) with
  | none => if (s.take 4096).length = 4096 then .error 22 else .error 20
  | some n => .ok (piecesL crlf n (s.take n), n + 4)
theorem find2_whole {s : List UInt8} {k i : Nat} (h : findL crlf2 (s.take k) = some i) : findL crlf2 s = some i := by
  have h1 := findL_lt (by decide) h
  have h4 : crlf2.length = 4 := rfl
  rw [h4, List.length_take] at h1
  have h2 := (find2_cut h (s.drop (i + 4))).1
  rw [List.take_take, show min (i + 4) k = i + 4 by omega, List.take_append_drop] at h2
  exact h2
theorem readL_cut (first : List UInt8 → Except Nat Hd) (s : List UInt8) : readL first s = match cutL s with
    | .error e => .error e
    | .ok (l, n) => match headL first l with | .error e => .error e | .ok h => .ok (h, n) := by
  unfold readL cutL
  cases hc : findL crlf2 (s.take 4096) with
  | some i =>
    have hf := find2_whole hc
    have h1 := findL_lt (by decide) hc
    have h4 : crlf2.length = 4 := rfl
    rw [h4, List.length_take] at h1
    rw [hf]
    simp only
    rw [if_neg (by omega)]
    all_goals (cases headL first (piecesL crlf i (s.take i)) <;> rfl)
  | none =>
    simp only
    cases hf : findL crlf2 s with
    | none =>
      simp only
      by_cases hl : 4096 ≤ s.length
      · rw [if_pos hl, if_pos (by rw [List.length_take]; omega)]
      · rw [if_neg hl, if_neg (by rw [List.length_take]; omega)]
    | some i =>
      simp only
      have h1 := findL_lt (by decide) hf
      have h4 : crlf2.length = 4 := rfl
      rw [h4] at h1
      have hlt : 4096 < i + 4 := by
        rcases Nat.lt_or_ge 4096 (i + 4) with h | h
        · exact h
        · exfalso
          have h2 := (find2_cut hf ((s.take 4096).drop (i + 4))).1
          have h3 : s.take (i + 4) ++ (s.take 4096).drop (i + 4) = s.take 4096 := by
            have := List.take_append_drop (i + 4) (s.take 4096)
            rw [List.take_take, show min (i + 4) 4096 = i + 4 by omega] at this
            exact this
          rw [h3, hc] at h2
          cases h2
      rw [if_pos hlt, if_pos (by rw [List.length_take]; omega)]
theorem cutL_pos {s : List UInt8} {l : List (List UInt8)} {n : Nat} (h : cutL s = .ok (l, n)) : 0 < l.length ∧ l.length ≤ 4096 ∧ (∀ a ∈ l, a.length ≤ 4096) ∧ n ≤ 4096 ∧ n ≤ s.length := by
  unfold cutL at h
  cases hc : findL crlf2 (s.take 4096) with
  | none => rw [hc] at h; simp only at h; split at h <;> cases h
  | some i =>
    rw [hc] at h
    cases h
    have h1 := findL_lt (by decide) hc
    have h4 : crlf2.length = 4 := rfl
    rw [h4, List.length_take] at h1
    have hl : (s.take i).length = i := by rw [List.length_take]; omega
    have h5 := pieces_num (w := crlf) (by decide) i (s.take i) (by omega)
    refine ⟨pieces_pos _ _ _, by omega, fun a ha => ?_, by omega, by omega⟩
    have := pieces_size _ _ _ a ha
    omega
theorem seen_all (t : List UInt8) : seenL t = (!t.isEmpty && t.all fun c => decide (33 ≤ c.toNat) && decide (c.toNat ≤ 126)) := rfl
end Go.Pantry
/-
  A range over a string: a rune whose first byte is 80 (hexadecimal) or beyond takes such bytes alone. No program is imported.
-/
namespace Go.Pantry
open Go.RowKit

theorem get_bang (s : ByteArray) (k : Nat) (h : k < s.size) : s.get! k = s[k]'h := by
  simp [ByteArray.get!, getElem!_pos, h]
  rfl
theorem decode_wide (s : ByteArray) (pos : Nat) (h : pos < s.size) (ha : 128 ≤ (s[pos]'h).toNat) :
    pos + (Utf8.decode s pos).2 ≤ s.size ∧ ∀ k (hk : k < s.size), pos ≤ k → k < pos + (Utf8.decode s pos).2 → 128 ≤ (s[k]'hk).toNat := by
  have hn : ¬ (s.get! (pos + 0)).toNat < 128 := by rw [Nat.add_zero, get_bang s pos h]; omega
  have one : pos + 1 ≤ s.size ∧ ∀ k (hk : k < s.size), pos ≤ k → k < pos + 1 → 128 ≤ (s[k]'hk).toNat := ⟨by omega, fun k hk h1 h2 => by
    have : k = pos := by omega
    subst this; exact ha⟩
  have cont : ∀ j, (pos + j < s.size ∧ (s.get! (pos + j)).toNat / 64 = 2) → pos + j < s.size ∧ ∀ hk : pos + j < s.size, 128 ≤ (s[pos + j]'hk).toNat := fun j ⟨h1, h2⟩ => ⟨h1, fun hk => by
    rw [get_bang s (pos + j) hk] at h2; omega⟩
  simp only [Utf8.decode, hn, if_false]
  split
  · rename_i h1
    simp only [Bool.and_eq_true, decide_eq_true_eq, beq_iff_eq] at h1
    obtain ⟨l1, c1⟩ := cont 1 h1.2
    split
    · refine ⟨by simp only; omega, fun k hk h2 h3 => ?_⟩
      simp only at h3
      have : k = pos ∨ k = pos + 1 := by omega
      rcases this with rfl | rfl
      · exact ha
      · exact c1 hk
    · exact one
  · split
    · rename_i h1
      simp only [Bool.and_eq_true, decide_eq_true_eq, beq_iff_eq] at h1
      obtain ⟨l1, c1⟩ := cont 1 h1.1.2
      obtain ⟨l2, c2⟩ := cont 2 h1.2
      split
      · refine ⟨by simp only; omega, fun k hk h2 h3 => ?_⟩
        simp only at h3
        have : k = pos ∨ k = pos + 1 ∨ k = pos + 2 := by omega
        rcases this with rfl | rfl | rfl
        · exact ha
        · exact c1 hk
        · exact c2 hk
      · exact one
    · split
      · rename_i h1
        simp only [Bool.and_eq_true, decide_eq_true_eq, beq_iff_eq] at h1
        obtain ⟨l1, c1⟩ := cont 1 h1.1.1.2
        obtain ⟨l2, c2⟩ := cont 2 h1.1.2
        obtain ⟨l3, c3⟩ := cont 3 h1.2
        split
        · refine ⟨by simp only; omega, fun k hk h2 h3 => ?_⟩
          simp only at h3
          have : k = pos ∨ k = pos + 1 ∨ k = pos + 2 ∨ k = pos + 3 := by omega
          rcases this with rfl | rfl | rfl | rfl
          · exact ha
          · exact c1 hk
          · exact c2 hk
          · exact c3 hk
        · exact one
      · exact one
/-- all bytes up to the next rune -/
theorem all_rune (s : ByteArray) (p : UInt8 → Bool) (pos n : Nat) (hn : pos + n ≤ s.size) (h : (s.data.toList.take pos).all p = true) (hk : ∀ k (hk : k < s.size), pos ≤ k → k < pos + n → p (s[k]'hk) = true) : (s.data.toList.take (pos + n)).all p = true := by
  rw [List.all_eq_true] at h ⊢
  intro x hx
  obtain ⟨k, hk1⟩ := List.mem_iff_getElem?.1 hx
  rw [List.getElem?_take] at hk1
  split at hk1
  · rename_i hlt
    have hks : k < s.size := by omega
    by_cases hkp : k < pos
    · refine h x (List.mem_iff_getElem?.2 ⟨k, ?_⟩)
      rw [List.getElem?_take, if_pos hkp]
      exact hk1
    · have := hk k hks (by omega) hlt
      have e : s.data.toList[k]? = some s[k] := by rw [List.getElem?_eq_getElem (by rw [size_list]; exact hks)]; rfl
      rw [e] at hk1
      cases hk1
      exact this
  · cases hk1
theorem all_bad (s : ByteArray) (p : UInt8 → Bool) (k : Nat) (hk : k < s.size) (h : p s[k] = false) : s.data.toList.all p = false :=
  List.all_eq_false.2 ⟨s[k], by have := List.getElem_mem (l := s.data.toList) (n := k) (by rw [size_list]; exact hk); exact this, by rw [h]; simp⟩
end Go.Pantry
/-
  Fields that smuggle: what their frames are. No program is imported.
-/
namespace Go.Pantry
open Go.RowKit

def teM : List UInt8 := [84, 114, 97, 110, 115, 102, 101, 114, 45, 101, 110, 99, 111, 100, 105, 110, 103]
def gzV : List UInt8 := [103, 122, 105, 112, 44, 32, 99, 104, 117, 110, 107, 101, 100]
def codF : Fld := (teM, chW)
def gzF : Fld := (teN, gzV)
def lenF (n : Nat) : Fld := (clL, digF 5 n)
def twoF (a b : Nat) : Fld := (clN, digF 5 a ++ 44 :: 32 :: digF 5 b)
theorem dig_plain (n : Nat) : ∀ c ∈ digF 5 n, c ≠ 44 ∧ c ≠ 34 ∧ isBl c = false := fun c hc => by
  have h := List.all_eq_true.1 (digF_all 5 n) c hc
  unfold isDig at h
  simp only [Bool.and_eq_true, decide_eq_true_eq] at h
  refine ⟨?_, ?_, ?_⟩
  · rintro rfl; exact absurd h.1 (by decide)
  · rintro rfl; exact absurd h.1 (by decide)
  · unfold isBl
    simp only [Bool.or_eq_false_iff, beq_eq_false_iff_ne]
    omega
theorem dig_trim (n : Nat) : trimL (digF 5 n) = digF 5 n :=
  trim_whole _ (fun c h => (dig_plain n c (List.mem_of_mem_head? (by rw [h]; rfl))).2.2) (fun c h => (dig_plain n c (List.mem_of_getLast? h)).2.2)
theorem dig_list (n : Nat) : listL (digF 5 n) = [digF 5 n] := by
  rw [listL_one _ (fun c hc => ⟨(dig_plain n c hc).1, (dig_plain n c hc).2.1⟩), dig_trim, if_neg (digF_ne 4 n)]
theorem pair_list (a b : Nat) : listL (digF 5 a ++ 44 :: 32 :: digF 5 b) = [digF 5 a, digF 5 b] := by
  rw [listL_two _ _ _ (Nat.le_refl _) (fun h => (dig_plain a 34 h).2.1 rfl), dig_list, listL_one, trim_blank _ _ (by decide), dig_trim, if_neg (digF_ne 4 b)]
  · rfl
  · intro c hc
    rcases List.mem_cons.1 hc with rfl | hc
    · exact ⟨by decide, by decide⟩
    · exact ⟨(dig_plain b c hc).1, (dig_plain b c hc).2.1⟩
theorem dig_number (n : Nat) (h : n ≤ 2000) : numberL (digF 5 n) = some n := by
  unfold numberL
  rw [digF_all, digF_val 4 n (by omega)]
  have hne := digF_ne 4 n
  have he : (digF 5 n).isEmpty = false := by cases hd : digF 5 n with | nil => exact absurd hd hne | cons a r => rfl
  rw [he, if_pos (by decide), Nat.min_eq_left (by omega)]
theorem cnt_pair (a b : Nat) (ha : a ≤ 2000) (hb : b ≤ 2000) : cntX [digF 5 a, digF 5 b] = if a = b then .ok (1, a) else .error 24 := by
  have e : cntX [digF 5 a, digF 5 b] = if [digF 5 a, digF 5 b].all (goodN ((numberL (digF 5 a)).getD 0)) then (if 2048 < (numberL (digF 5 a)).getD 0 then .error 23 else .ok (1, (numberL (digF 5 a)).getD 0)) else .error 24 := rfl
  rw [e]
  unfold goodN
  simp only [List.all_cons, List.all_nil, dig_number a ha, dig_number b hb, Option.isSome_some, Option.getD_some, Bool.true_and, Bool.and_true, beq_self_eq_true]
  by_cases h : a = b
  · subst h
    simp
    omega
  · rw [if_neg h, if_neg (by simpa using fun e : b = a => h e.symm)]
theorem is_cod : isF teN codF = true ∧ isF clN codF = false := ⟨by decide +kernel, by decide +kernel⟩
theorem is_gz : isF teN gzF = true ∧ isF clN gzF = false := ⟨by decide +kernel, by decide +kernel⟩
theorem is_len (n : Nat) : isF teN (lenF n) = false ∧ isF clN (lenF n) = true := by
  have e1 : (lowerL clL == lowerL teN) = false := by decide +kernel
  have e2 : (lowerL clL == lowerL clN) = true := by decide +kernel
  exact ⟨e1, e2⟩
theorem is_two (a b : Nat) : isF teN (twoF a b) = false ∧ isF clN (twoF a b) = true := by
  have e1 : (lowerL clN == lowerL teN) = false := by decide +kernel
  have e2 : (lowerL clN == lowerL clN) = true := by decide +kernel
  exact ⟨e1, e2⟩
theorem all_one (f : Fld) (n : List UInt8) : allF [f] n = if isF n f then [f.2] else [] := by
  unfold allF
  cases h : isF n f <;> simp [h]
theorem smug0 (M : List Fld) (a : Nat) (z : Int) (o : Nat) : frameX z o (([codF] ++ M) ++ [lenF a]) = .error 24 := by
  unfold frameX
  simp only [allF_append, all_one, is_cod.1, is_cod.2, (is_len a).1, (is_len a).2, if_true, Bool.false_eq_true, if_false]
  simp
theorem smug1 {M : List Fld} (h1 : allF M teN = []) (h2 : allF M clN = []) (a b : Nat) (ha : a ≤ 2000) (hb : b ≤ 2000) (z : Int) (o : Nat) : frameX z o (([lenF a] ++ M) ++ [lenF b]) = if a = b then .ok (1, a) else .error 24 := by
  unfold frameX elementsF getF
  simp only [allF_append, all_one, (is_len a).1, (is_len a).2, (is_len b).1, (is_len b).2, h1, h2, if_true, Bool.false_eq_true, if_false, List.append_nil, List.nil_append, List.isEmpty_nil]
  show (if false = true then _ else cntX (listL (joinC [digF 5 a, digF 5 b]))) = _
  rw [if_neg (by decide)]
  show cntX (listL (digF 5 a ++ 44 :: 32 :: digF 5 b)) = _
  rw [pair_list, cnt_pair a b ha hb]
theorem smug2 {M : List Fld} (h1 : allF M teN = []) (z : Int) (o : Nat) : frameX z o (M ++ [codF, codF]) = .error 24 := by
  have e : M ++ [codF, codF] = (M ++ [codF]) ++ [codF] := by simp
  have ej : justX (listL (joinC [chW, chW])) = false := by kernel_rfl
  rw [e]
  unfold frameX elementsF getF
  simp only [allF_append, all_one, is_cod.1, is_cod.2, h1, if_true, Bool.false_eq_true, if_false, List.nil_append]
  show (if false = true then _ else if (_ || !justX (listL (joinC [chW, chW])) || _) = true then _ else _) = _
  rw [ej]
  simp
theorem smug3 {M : List Fld} (h1 : allF M teN = []) (z : Int) (o : Nat) : frameX z o (M ++ [gzF]) = .error 24 := by
  have ej : justX (listL (joinC [gzV])) = false := by kernel_rfl
  unfold frameX elementsF getF
  simp only [allF_append, all_one, is_gz.1, is_gz.2, h1, if_true, Bool.false_eq_true, if_false, List.nil_append]
  show (if false = true then _ else if (_ || !justX (listL (joinC [gzV])) || _) = true then _ else _) = _
  rw [ej]
  simp
theorem smug4 {M : List Fld} (h1 : allF M teN = []) (h2 : allF M clN = []) (a b : Nat) (ha : a ≤ 2000) (hb : b ≤ 2000) (z : Int) (o : Nat) : frameX z o (M ++ [twoF a b]) = if a = b then .ok (1, a) else .error 24 := by
  unfold frameX elementsF getF
  simp only [allF_append, all_one, (is_two a b).1, (is_two a b).2, h1, h2, if_true, Bool.false_eq_true, if_false, List.append_nil, List.nil_append, List.isEmpty_nil]
  show (if false = true then _ else cntX (listL (joinC [digF 5 a ++ 44 :: 32 :: digF 5 b]))) = _
  rw [if_neg (by decide)]
  show cntX (listL (digF 5 a ++ 44 :: 32 :: digF 5 b)) = _
  rw [pair_list, cnt_pair a b ha hb]
end Go.Pantry
/-
  Directives that are flags: what ControlFlags asks. No program is imported.
-/
namespace Go.Pantry
open Go.RowKit

def nTrans : List UInt8 := [110, 111, 45, 116, 114, 97, 110, 115, 102, 111, 114, 109]
/-- the names, in order -/
def flN : Nat → List UInt8
  | 0 => nNoStore
  | 1 => nNoCache
  | 2 => nPrivate
  | 3 => nPublic
  | 4 => nMust
  | 5 => nProxy
  | 6 => nOnly
  | _ => nTrans
/-- its first letter made great -/
def flG : Bool → List UInt8 → List UInt8
  | true, c :: r => (c - 32) :: r
  | _, l => l
/-- what each says -/
def flC (k : Nat) : Ctl := { noStore := k == 0, noCache := k == 1, priv := k == 2, pub := k == 3, must := k == 4 || k == 5, only := k == 6, maxAge := none, shared := none, minFresh := none, maxStale := none }
theorem fl_cases {k : Nat} (h : k ≤ 7) : k = 0 ∨ k = 1 ∨ k = 2 ∨ k = 3 ∨ k = 4 ∨ k = 5 ∨ k = 6 ∨ k = 7 := by omega
theorem flag_bare {k : Nat} (h : k ≤ 7) (gr : Bool) : ctlE (listL (flG gr (flN k))) false = flC k := by
  rcases fl_cases h with rfl | rfl | rfl | rfl | rfl | rfl | rfl | rfl <;> cases gr <;> decide +kernel
theorem flag_arg {k : Nat} (h : k ≤ 7) (gr : Bool) (A : List UInt8) (hA : (44 : UInt8) ∉ A) : ctlE (listL (flG gr (flN k) ++ 61 :: A)) false = flC k := by
  have key : ∀ (n : List UInt8) (c : UInt8), n.head? = some c → isBl c = false → (44 : UInt8) ∉ n → (61 : UInt8) ∉ n → lowerL n = flN k → (flN k == nMaxAge) = false → (flN k == nShared) = false → (flN k == nMinFresh) = false → (flN k == nMaxStale) = false →
      ctlE (listL (n ++ 61 :: A)) false = { noStore := flN k == nNoStore, noCache := flN k == nNoCache, priv := flN k == nPrivate, pub := flN k == nPublic, must := flN k == nMust || flN k == nProxy, only := flN k == nOnly, maxAge := none, shared := none, minFresh := none, maxStale := none } := by
    intro n c h1 h2 h3 h4 h5 m1 m2 m3 m4
    obtain ⟨e, he, hn⟩ := listL_named n A c h1 h2 h3 h4 hA
    rw [he, ctlE_flag e (flN k) (by rw [hn, h5]) m1 m2 m3 m4]
  rcases fl_cases h with rfl | rfl | rfl | rfl | rfl | rfl | rfl | rfl <;> cases gr <;>
    exact (key _ _ rfl (by decide) (by decide) (by decide) (by decide) (by decide) (by decide) (by decide) (by decide)).trans (by decide)
theorem fl_first {k : Nat} (h : k ≤ 7) : ∃ c r, flN k = c :: r ∧ 97 ≤ c.toNat ∧ flG true (flN k) = (c - 32) :: r ∧ (flN k).length ≤ 20 := by
  rcases fl_cases h with rfl | rfl | rfl | rfl | rfl | rfl | rfl | rfl <;> exact ⟨_, _, rfl, by decide, rfl, by decide⟩
/-- how much is set behind j of the seven -/
def setF (k j : Nat) : Ctl := if k < j then flC k else ctl0
theorem setF_other {k j : Nat} (h : k ≠ j) : setF k (j + 1) = setF k j := by
  unfold setF
  by_cases h1 : k < j
  · rw [if_pos h1, if_pos (by omega)]
  · rw [if_neg h1, if_neg (by omega)]
theorem setF_all {k : Nat} (h : k ≤ 7) : setF k 7 = flC k := by
  unfold setF
  by_cases h1 : k < 7
  · rw [if_pos h1]
  · obtain rfl : k = 7 := by omega
    rw [if_neg h1]; decide
theorem sub_byte (c : UInt8) (h : 97 ≤ c.toNat) : (((c - 32 : UInt8).toNat : Nat) : Int) = (c.toNat : Int) - 32 := by
  have := c.toNat_lt
  have h32 : (32 : UInt8) ≤ c := by rw [UInt8.le_iff_toNat_le]; show 32 ≤ _; omega
  rw [UInt8.toNat_sub_of_le _ _ h32]
  show ((c.toNat - 32 : Nat) : Int) = _
  omega
end Go.Pantry
/-
  A region that draws its order, walked in the text's order: what each operation yields hangs on a condition S on the world alone, and each leaves S (a call by its contract); but those of a list ks (an alloc, a store): each turns S's mark, where nothing else is left to come. No program is imported.
-/
namespace Go.Pantry
open Go.RowKit

section
variable {P : Program} {ops : Array Oper} {Q : Exit → Act → World → Prop} {md : Region.Mode} {S : List Bool → World → Prop} {ks : List Nat}

/-- what an operation comes to, in a word that names no state: v, and a world that meets R -/
def Gives (P : Program) (r : Result Next) (v : Value) (R : World → Prop) : Prop := match r with
  | .ok (.value u) w' => u = v ∧ R w'
  | .ok .skip w' => undef = v ∧ R w'
  | .ok (.enter f args) w' => Calls P f args w' fun e w'' => e = .returned v ∧ R w''
  | _ => False
/-- An operation is steady: carried out wherever S holds it leaves v, and S; or it isn't wanted. -/
def Steady (P : Program) (ops : Array Oper) (S : List Bool → World → Prop) (o : Oper) (v : Value) (a : Act) : Prop :=
  (Region.wanted o (yielded ops a.tmps) = true ∧ ∀ b w, S b w → Gives P ((execOp a.eval o).run P w) v (S b)) ∨
  (Region.wanted o (yielded ops a.tmps) = false ∧ v = undef)
theorem Steady.same {o : Oper} {v : Value} {a a' : Act} (h : Steady P ops S o v a) (he : execOp a'.eval o = execOp a.eval o) (hw : Region.wanted o (yielded ops a'.tmps) = Region.wanted o (yielded ops a.tmps)) : Steady P ops S o v a' := by
  unfold Steady
  rw [he, hw]
  exact h
theorem Gives.upon {o : Oper} {a : Act} {r : Result Next} {v : Value} {R : World → Prop} {K : Act → World → Prop} (h : Gives P r v R) (hK : ∀ w, R w → K (a.put o.dst v) w) : o.upon P a K Q r := by
  cases r with
  | halt x w' => exact h.elim
  | ok n w' =>
    cases n with
    | value u => obtain ⟨rfl, h2⟩ := h; exact hK _ h2
    | skip => obtain ⟨rfl, h2⟩ := h; exact hK _ h2
    | enter f args => exact Calls.mono h fun e w'' ⟨he, h2⟩ => by subst he; exact hK _ h2
    | _ => exact h.elim
def marked (ks : List Nat) (listed : Array Bool) : List Bool := ks.map fun k => listed.getD k true
theorem marked_other {i : Nat} {listed : Array Bool} (h : i ∉ ks) : marked ks (listed.setIfInBounds i true) = marked ks listed := by
  refine List.map_congr_left fun k hk => getD_set_ne true fun e => h (by rw [e]; exact hk)
/-- Whatever comes up next, in whatever world that meets S: behind it S, and the rest. -/
def wpAnyU (P : Program) (md : Region.Mode) (ops : Array Oper) (Q : Exit → Act → World → Prop) (S : List Bool → World → Prop) (ks : List Nat) : Nat → Array Bool → Act → Prop
  | 0, listed, a => Region.ready md ops listed = [] ∧ ∀ w, S (marked ks listed) w → Q .normal a w
  | fuel + 1, listed, a =>
    (Region.ready md ops listed = [] → ∀ w, S (marked ks listed) w → Q .normal a w) ∧
    ∀ i ∈ Region.ready md ops listed, ∀ w, S (marked ks listed) w → wpOp P ops Q i (fun a' w' => S (marked ks (listed.setIfInBounds i true)) w' ∧ wpAnyU P md ops Q S ks fuel (listed.setIfInBounds i true) a') a w
theorem wpAny_of_U : ∀ (fuel : Nat) (listed : Array Bool) (a : Act) (w : World), S (marked ks listed) w → wpAnyU P md ops Q S ks fuel listed a → wpAny P md ops Q fuel listed a w
  | 0, _, _, w, hS, h => ⟨h.1, h.2 w hS⟩
  | fuel + 1, _, _, w, hS, h => ⟨fun h0 => h.1 h0 w hS, fun i hi => wpOp_mono (fun a' w' h' => wpAny_of_U fuel _ a' w' h'.1 h'.2) (h.2 i hi w hS)⟩

theorem Steady.run {i : Nat} (hik : i ∉ ks) {o : Oper} {v : Value} {a : Act} (hi : ops[i]? = some o) (h : Steady P ops S o v a) {listed : Array Bool} {w : World} (hS : S (marked ks listed) w) {K : Act → World → Prop}
    (hK : ∀ w', S (marked ks (listed.setIfInBounds i true)) w' → K (a.put o.dst v) w') : wpOp P ops Q i K a w := by
  rw [marked_other hik] at hK
  unfold wpOp
  simp only [hi]
  rcases h with ⟨hw, hg⟩ | ⟨hw, rfl⟩
  · rw [hw, if_pos rfl]
    exact .inl (Gives.upon (hg _ w hS) hK)
  · rw [hw, if_neg (by simp)]
    exact hK w hS
/-- Another operation, whether oi has come up before it or not. -/
theorem wpOp_apart {j : Nat} {oi oj : Oper} {v : Value} (hj : ops[j]? = some oj) (hap : oi.apart ops oj = true) (hsi : ∀ cs b, oi.op ≠ .select cs b) (hsj : ∀ cs b, oj.op ≠ .select cs b)
    (hQ : ∀ c a w, Q (.panic c) (a.put oi.dst v) w → Q (.panic c) a w) {K : Act → World → Prop} {a : Act} {w : World} {T : Act → Prop}
    (hT : ∀ a', execOp a'.eval oi = execOp a.eval oi → Region.wanted oi (yielded ops a'.tmps) = Region.wanted oi (yielded ops a.tmps) → T a') (h : wpOp P ops Q j K (a.put oi.dst v) w) :
    wpOp P ops Q j (fun a' w' => T a' ∧ K (a'.put oi.dst v) w') a w := by
  obtain ⟨p1, p2, p3⟩ := Oper.apart_spec hap
  have stay : ∀ u, T (a.put oj.dst u) := fun u => hT _ (execOp_put oi hsi a oj.dst u p3) (wanted_put oi a oj.dst u p3)
  have stayD : ∀ d u, T ({ a with defers := d :: a.defers }.put oj.dst u) := fun d u =>
    hT _ ((execOp_put oi hsi { a with defers := d :: a.defers } oj.dst u p3).trans rfl) ((wanted_put oi { a with defers := d :: a.defers } oj.dst u p3).trans rfl)
  unfold wpOp at h ⊢
  simp only [hj] at h ⊢
  rw [wanted_put oj a oi.dst v p1] at h
  by_cases hw : Region.wanted oj (yielded ops a.tmps) = true
  · rw [if_pos hw] at h ⊢
    rcases h with h | ⟨h1, h2⟩
    · left
      unfold Oper.wp at h ⊢
      rw [execOp_put oj hsj a oi.dst v p1] at h
      cases hr : (execOp a.eval oj).run P w with
      | halt x w' =>
        rw [hr] at h
        cases x with
        | panic u => exact hQ _ _ _ h
        | _ => exact h
      | ok n w' =>
        rw [hr] at h
        cases n with
        | value u => exact ⟨stay u, by rw [← Act.put_comm a v u p2]; exact h⟩
        | skip => exact ⟨stay _, by rw [← Act.put_comm a v undef p2]; exact h⟩
        | defer d =>
          refine ⟨stayD d _, ?_⟩
          rw [← Act.put_comm _ v undef p2, ← Act.put_defers]
          exact h
        | enter f args =>
          refine Calls.mono h fun e w'' he => ?_
          cases e with
          | returned u => exact ⟨stay u, by rw [← Act.put_comm a v u p2]; exact he⟩
          | panicked c => exact hQ _ _ _ he
          | outgrown => exact he
        | row r args => exact Rows.mono h fun u w'' he => ⟨stay u, by rw [← Act.put_comm a v u p2]; exact he⟩
        | _ => exact h
    · exact .inr ⟨by unfold Oper.asks at h1 ⊢; rw [execOp_put oj hsj a oi.dst v p1] at h1; exact h1, h2⟩
  · rw [if_neg hw] at h ⊢
    exact ⟨stay _, by rw [← Act.put_comm a v undef p2]; exact h⟩

theorem wpAnyU_first {i : Nat} (hik : i ∉ ks) {oi : Oper} {v : Value} (hi : ops[i]? = some oi) (hsel : ∀ (j : Nat) (o : Oper) cs b, ops[j]? = some o → o.op ≠ .select cs b) (hQ : ∀ c a w, Q (.panic c) (a.put oi.dst v) w → Q (.panic c) a w) :
    ∀ (fuel : Nat) (listed : Array Bool) (a : Act),
      (∀ j oj, ops[j]? = some oj → j ≠ i → listed.getD j true = false → (∀ e ∈ oj.after, Region.binds md e = true → e.on ≠ i) → oi.apart ops oj = true) →
      i ∈ Region.ready md ops listed → Steady P ops S oi v a →
      wpAnyU P md ops Q S ks fuel (listed.setIfInBounds i true) (a.put oi.dst v) → wpAnyU P md ops Q S ks (fuel + 1) listed a := by
  intro fuel
  induction fuel with
  | zero =>
    intro listed a hfree hr hy H
    refine ⟨fun h0 => (by rw [h0] at hr; cases hr), fun j hj w hS => ?_⟩
    by_cases hji : j = i
    · subst hji
      exact hy.run hik hi hS fun w' hw' => ⟨hw', H⟩
    · have h1 := ready_mono hj hji
      rw [H.1] at h1
      cases h1
  | succ fuel ih =>
    intro listed a hfree hr hy H
    refine ⟨fun h0 => (by rw [h0] at hr; cases hr), fun j hj w hS => ?_⟩
    by_cases hji : j = i
    · subst hji
      exact hy.run hik hi hS fun w' hw' => ⟨hw', H⟩
    · obtain ⟨hjun, oj, hoj, hall⟩ := mem_ready.1 hj
      have hnot : ∀ e ∈ oj.after, Region.binds md e = true → e.on ≠ i := fun e he hb heq => by
        have g1 := hall e he hb
        have g0 := (mem_ready.1 hr).1
        rw [heq] at g1
        rcases Nat.lt_or_ge i listed.size with h' | h'
        · simp [h'] at g0 g1; rw [g0] at g1; cases g1
        · simp [Array.getElem?_eq_none h'] at g1
      have hap := hfree j oj hoj hji hjun hnot
      have h1 := H.2 j (ready_mono hj hji) w (by rw [marked_other hik]; exact hS)
      have h2 := wpOp_apart hoj hap (fun cs b => hsel i oi cs b hi) (fun cs b => hsel j oj cs b hoj) hQ (fun a' e1 e2 => hy.same e1 e2) h1
      refine wpOp_mono (fun a' w' h3 => ?_) h2
      have hfree' : ∀ j2 o2, ops[j2]? = some o2 → j2 ≠ i → (listed.setIfInBounds j true).getD j2 true = false → (∀ e ∈ o2.after, Region.binds md e = true → e.on ≠ i) → oi.apart ops o2 = true := fun j2 o2 h4 h5 h6 h7 => by
        refine hfree j2 o2 h4 h5 ?_ h7
        by_cases hjk : j = j2
        · subst hjk; exact hjun
        · rw [getD_set_ne true hjk] at h6; exact h6
      refine ⟨?_, ih (listed.setIfInBounds j true) a' hfree' (ready_mono hr (Ne.symm hji)) h3.1 ?_⟩
      · have := h3.2.1
        rw [Array.setIfInBounds_comm _ _ (Ne.symm hji), marked_other hik] at this
        exact this
      · rw [Array.setIfInBounds_comm _ _ hji]
        exact h3.2.2
/-- Number i, but the store, taken first. -/
theorem wpAnyU_take {i : Nat} {oi : Oper} {v : Value} {fuel : Nat} {listed : Array Bool} {a : Act} (hik : i ∉ ks) (hi : ops[i]? = some oi) (hs : Region.noSelect ops = true) (hf : Region.free md ops listed i = true) (hr : (Region.ready md ops listed).contains i = true)
    (hQ : ∀ c a w, Q (.panic c) (a.put oi.dst v) w → Q (.panic c) a w) (hy : Steady P ops S oi v a)
    (h : wpAnyU P md ops Q S ks fuel (listed.setIfInBounds i true) (a.put oi.dst v)) : wpAnyU P md ops Q S ks (fuel + 1) listed a :=
  wpAnyU_first hik hi (Region.noSelect_spec hs) hQ fuel listed a (Region.free_spec hi hf) (by simpa using hr) hy h
/-- One of ks, where nothing else is ready. -/
theorem wpAnyU_turn {i : Nat} {oi : Oper} {v : Value} {fuel : Nat} {listed : Array Bool} {a : Act} {b b' : List Bool} (hi : ops[i]? = some oi) (hr : Region.ready md ops listed = [i]) (hb : marked ks listed = b) (hb' : marked ks (listed.setIfInBounds i true) = b') (hw : Region.wanted oi (yielded ops a.tmps) = true)
    (hg : ∀ w, S b w → Gives P ((execOp a.eval oi).run P w) v (S b')) (h : wpAnyU P md ops Q S ks fuel (listed.setIfInBounds i true) (a.put oi.dst v)) : wpAnyU P md ops Q S ks (fuel + 1) listed a :=
  ⟨fun h0 => (by rw [h0] at hr; cases hr), fun j hj w hS => by
    have hj2 := hj
    rw [hr] at hj2
    simp only [List.mem_singleton] at hj2
    subst hj2
    rw [hb] at hS
    rw [hb']
    unfold wpOp
    simp only [hi]
    rw [hw, if_pos rfl]
    exact .inl (Gives.upon (hg w hS) fun w' hw' => ⟨hw', h⟩)⟩
theorem wpAnyU_done {listed : Array Bool} {a : Act} {b : List Bool} (hr : Region.ready md ops listed = []) (hb : marked ks listed = b) (h : ∀ w, S b w → Q .normal a w) : ∀ fuel, wpAnyU P md ops Q S ks fuel listed a
  | 0 => ⟨hr, by rw [hb]; exact h⟩
  | _ + 1 => ⟨fun _ => by rw [hb]; exact h, fun i hi => by rw [hr] at hi; cases hi⟩
theorem wp_region_U {id : Nat} {a : Act} {w : World} (ks : List Nat) (hm : P.follows .mixedOrders = true) (S : List Bool → World → Prop) {b : List Bool} (hb : marked ks (Array.replicate ops.size false) = b) (hS : S b w.drew)
    (h : wpAnyU P .any ops Q S ks ops.size (Array.replicate ops.size false) a) : (Code.region id ops true).wp P Q a w :=
  wp_region_any hm (wpAny_of_U _ _ _ _ (by rw [hb]; exact hS) h)

theorem Steady.off {o : Oper} {a : Act} (hw : Region.wanted o (yielded ops a.tmps) = false) : Steady P ops S o undef a := .inr ⟨hw, rfl⟩
theorem Steady.plain {o : Oper} {v : Value} {a : Act} (hw : Region.wanted o (yielded ops a.tmps) = true) (h : ∀ b w, S b w → (execOp a.eval o).run P w = .ok (.value v) w) : Steady P ops S o v a :=
  .inl ⟨hw, fun b w hS => by rw [h b w hS]; exact ⟨rfl, hS⟩⟩
theorem Steady.call {o : Oper} {v : Value} {a : Act} (hw : Region.wanted o (yielded ops a.tmps) = true) {f : FuncId} {args : Array Value} (hr : ∀ w, (execOp a.eval o).run P w = .ok (.enter f args) w)
    (h : ∀ b w, S b w → Calls P f args w fun e w' => e = .returned v ∧ S b w') : Steady P ops S o v a :=
  .inl ⟨hw, fun b w hS => by rw [hr w]; exact h b w hS⟩
/-- An operation that stores a whole row. -/
theorem store_gives {o : Oper} {ρ : Operand → Value} {ty : TypeId} {x y : Operand} (ho : o.op = .store ty x y) {W : World} (g : Nat) (cells : Array Value) (hx : ρ x = .pointer (some ⟨g, 0, none⟩)) (hy : ρ y = .agg cells)
    {t : TypeId} {old : Array Value} (hg : rowIs W g old t) (hi : (P.info? ty).map (·.size) = some cells.size) (hold : old.size = cells.size) (h1 : cells.all (·.oneCell') = true) {R : World → Prop} (hR : R (W.setRow g cells)) : Gives P ((execOp ρ o).run P W) undef R := by
  have e : (execOp ρ o).run P W = .ok (.value undef) (W.setRow g cells) ∨ (execOp ρ o).run P W = .ok .skip (W.setRow g cells) := by
    unfold execOp
    have hr := run_storeVar_row (P := P) W g t ty old cells hg hi hold h1
    simp [ho, hx, hy, Instr.storeAt, Instr.sureAddr, hr]
  rcases e with e | e
  · rw [e]; exact ⟨rfl, hR⟩
  · rw [e]; exact ⟨rfl, hR⟩
theorem turn_store {o : Oper} {a : Act} {ty : TypeId} {x y : Operand} (ho : o.op = .store ty x y) (g : Nat) (cells : Array Value) (hx : a.eval x = .pointer (some ⟨g, 0, none⟩)) (hy : a.eval y = .agg cells)
    (hi : (P.info? ty).map (·.size) = some cells.size) (h1 : cells.all (·.oneCell') = true) {R R' : World → Prop} (h : ∀ W, R W → ∃ old t, rowIs W g old t ∧ old.size = cells.size ∧ R' (W.setRow g cells)) : ∀ W, R W → Gives P ((execOp a.eval o).run P W) undef R' :=
  fun W hS => by
    obtain ⟨old, t, g1, g2, g3⟩ := h W hS
    exact store_gives ho g cells hx hy g1 hi g2 h1 g3
theorem turn_alloc {o : Oper} {a : Act} {g : Nat} {zs : Array Value} {t : TypeId} (hr : ∀ W, (execOp a.eval o).run P W = .ok (.value (.pointer (some ⟨W.heap.size, 0, none⟩))) (W.alloc (.cells zs t))) {R R' : World → Prop}
    (h : ∀ W, R W → W.heap.size = g ∧ R' (W.alloc (.cells zs t))) : ∀ W, R W → Gives P ((execOp a.eval o).run P W) (.pointer (some ⟨g, 0, none⟩)) R' :=
  fun W hS => by
    obtain ⟨rfl, h2⟩ := h W hS
    rw [hr W]
    exact ⟨rfl, h2⟩
end
/-- Below B from w0 on; the box g; the block r, which the region stores into. -/
def HeldS (w0 : World) (B : Nat) (g : Nat) (cs : Array Value) (t : TypeId) (r : Nat) (zs ds : Array Value) (u : TypeId) : List Bool → World → Prop := fun b W =>
  Below B w0 W ∧ B ≤ W.heap.size ∧ rowIs W g cs t ∧ rowIs W r (if b.headD true then ds else zs) u
theorem HeldS.below {w0 : World} {B g : Nat} {cs : Array Value} {t : TypeId} {r : Nat} {zs ds : Array Value} {u : TypeId} {b : List Bool} {W W' : World} (h : HeldS w0 B g cs t r zs ds u b W) (hb : Below W.heap.size W W') : HeldS w0 B g cs t r zs ds u b W' :=
  ⟨h.1.trans (hb.mono h.2.1), Nat.le_trans h.2.1 hb.size, h.2.2.1.below hb, h.2.2.2.below hb⟩
theorem HeldS.drew {w0 : World} {B g : Nat} {cs : Array Value} {t : TypeId} {r : Nat} {zs ds : Array Value} {u : TypeId} {b : List Bool} {W : World} (h : HeldS w0 B g cs t r zs ds u b W) : HeldS w0 B g cs t r zs ds u b W.drew := ⟨h.1.drew, h.2⟩
theorem HeldS.stored {w0 : World} {B g : Nat} {cs : Array Value} {t : TypeId} {r : Nat} {zs ds : Array Value} {u : TypeId} {W : World} (h : HeldS w0 B g cs t r zs ds u [false] W) (hr : B ≤ r) (hgr : g ≠ r) : HeldS w0 B g cs t r zs ds u [true] (W.setRow r ds) :=
  ⟨below_setRow h.1 hr _, Nat.le_trans h.2.1 (by simp [World.setRow]), h.2.2.1.setRow_other ds hgr, h.2.2.2.setRow ds⟩
/-- Below B from w0 on; the box g. -/
def BoxS (w0 : World) (B : Nat) (g : Nat) (cs : Array Value) (t : TypeId) : List Bool → World → Prop := fun _ W => Below B w0 W ∧ B ≤ W.heap.size ∧ rowIs W g cs t
theorem BoxS.below {w0 : World} {B g : Nat} {cs : Array Value} {t : TypeId} {b : List Bool} {W W' : World} (h : BoxS w0 B g cs t b W) (hb : Below W.heap.size W W') : BoxS w0 B g cs t b W' :=
  ⟨h.1.trans (hb.mono h.2.1), Nat.le_trans h.2.1 hb.size, h.2.2.below hb⟩
theorem BoxS.drew {w0 : World} {B g : Nat} {cs : Array Value} {t : TypeId} {b : List Bool} {W : World} (h : BoxS w0 B g cs t b W) : BoxS w0 B g cs t b W.drew := ⟨h.1.drew, h.2⟩
/-- What stood in W1 stands; a block is made behind it, and stored into. -/
def NewS (W1 : World) (zs cs : Array Value) (t : TypeId) : List Bool → World → Prop := fun b W =>
  Below W1.heap.size W1 W ∧ (match b with | [false, _] => W.heap.size = W1.heap.size | [true, false] => rowIs W W1.heap.size zs t | _ => rowIs W W1.heap.size cs t)
theorem NewS.begin (W1 : World) (zs cs : Array Value) (t : TypeId) : NewS W1 zs cs t [false, false] W1.drew := ⟨(Below.refl _ _).drew, rfl⟩
theorem NewS.made {W1 : World} {zs cs : Array Value} {t : TypeId} {W : World} (h : NewS W1 zs cs t [false, false] W) : W.heap.size = W1.heap.size ∧ NewS W1 zs cs t [true, false] (W.alloc (.cells zs t)) :=
  ⟨h.2, h.1.alloc (Nat.le_of_eq h.2.symm) _, rowIs_new_at _ _ _ _ h.2.symm⟩
theorem NewS.stored {W1 : World} {zs cs : Array Value} {t : TypeId} {W : World} (h : NewS W1 zs cs t [true, false] W) (hz : zs.size = cs.size) : ∃ old t', rowIs W W1.heap.size old t' ∧ old.size = cs.size ∧ NewS W1 zs cs t [true, true] (W.setRow W1.heap.size cs) :=
  ⟨zs, t, h.2, hz, below_setRow h.1 (Nat.le_refl _) _, h.2.setRow cs⟩
/-- A function whose first result lies in a block of its own, the others in slots. -/
theorem results_row2 {P : Program} {fn : Func} {a c : Tmp} {t e : TypeId} {d : TypeDesc} (h : fn.results = #[.cell a t, .tmp c]) (tmps : Array Value) (w : World) (g : Nat) (cs : Array Value)
    (hp : tmps.getD a undef = .pointer (some ⟨g, 0, none⟩)) (hg : rowIs w g cs e) (hu : P.underlying t = some d) (hd : (match d with | .struct _ | .array _ _ => true | _ => false) = true) (hi : (P.info? t).map (·.size) = some cs.size) :
    (results fn tmps).run P w = .ok (.tuple #[.agg cs, tmps.getD c undef]) w := by
  have h1 := run_loadVar_row (P := P) w g e t cs (0, 0) d hg hu hd hi
  have hp' : tmps[a]?.getD undef = .pointer (some ⟨g, 0, none⟩) := by simpa using hp
  simp [results, h, hp', asAddr, h1]
theorem results_row3 {P : Program} {fn : Func} {a c f : Tmp} {t e : TypeId} {d : TypeDesc} (h : fn.results = #[.cell a t, .tmp c, .tmp f]) (tmps : Array Value) (w : World) (g : Nat) (cs : Array Value)
    (hp : tmps.getD a undef = .pointer (some ⟨g, 0, none⟩)) (hg : rowIs w g cs e) (hu : P.underlying t = some d) (hd : (match d with | .struct _ | .array _ _ => true | _ => false) = true) (hi : (P.info? t).map (·.size) = some cs.size) :
    (results fn tmps).run P w = .ok (.tuple #[.agg cs, tmps.getD c undef, tmps.getD f undef]) w := by
  have h1 := run_loadVar_row (P := P) w g e t cs (0, 0) d hg hu hd hi
  have hp' : tmps[a]?.getD undef = .pointer (some ⟨g, 0, none⟩) := by simpa using hp
  simp [results, h, hp', asAddr, h1]
end Go.Pantry
/-
  Guarded operations whose guard is open: 'a || b' that is known to be true, without parting the walk. No program is imported.
-/
namespace Go.Pantry
open Go.RowKit
theorem wpList_maybe {P : Program} {ops : Array Oper} {Q : Exit → Act → World → Prop} {a : Act} {w : World} {rest : List Oper} {o : Oper} (g : Bool) (v : Value) (hw : Region.wanted o (yielded ops a.tmps) = g)
    (hy : g = true → (execOp a.eval o).run P w = .ok (.value v) w) (h : ∀ u, (g = true → u = v) → wpList P ops Q rest (a.put o.dst u) w) : wpList P ops Q (o :: rest) a w := by
  cases g
  · exact wpList_skip hw (h undef (by simp))
  · refine wpList_step fun K hK => ?_
    simp only [hw, if_true]
    unfold Oper.wp
    rw [hy rfl, Oper.upon_value]
    exact hK _ _ (h v (fun _ => rfl))
/-- '!x || y', of which it is known that it is true: the address of y, y, and the sum. -/
theorem wpList_or3 {P : Program} {ops : Array Oper} {Q : Exit → Act → World → Prop} {a : Act} {w : World} {rest : List Oper} {o1 o2 o3 : Oper} (d1 d2 d3 j : Nat) (e1 : o1.dst = some d1) (e2 : o2.dst = some d2) (e3 : o3.dst = some d3)
    (q1 : o1.guard = some (j, false)) (q2 : o2.guard = some (j, false)) (x y : Bool) (hxy : (!x || y) = true) (p : Value)
    (h1 : yielded ops a.tmps j = some (!x)) (h2 : ∀ u1, yielded ops (a.put (some d1) u1).tmps j = some (!x)) (h3 : ∀ u1 u2, Region.wanted o3 (yielded ops ((a.put (some d1) u1).put (some d2) u2).tmps) = true)
    (y1 : (execOp a.eval o1).run P w = .ok (.value p) w) (y2 : (execOp (a.put (some d1) p).eval o2).run P w = .ok (.value (.bool y)) w)
    (y3 : ∀ u1 u2, (x = true → u2 = .bool y) → (execOp ((a.put (some d1) u1).put (some d2) u2).eval o3).run P w = .ok (.value (.bool true)) w)
    (h : ∀ u1 u2, wpList P ops Q rest (((a.put (some d1) u1).put (some d2) u2).put (some d3) (.bool true)) w) : wpList P ops Q (o1 :: o2 :: o3 :: rest) a w := by
  have hg : (some (!x) == some false) = x := by cases x <;> rfl
  refine wpList_maybe x p (by unfold Region.wanted; rw [q1]; show (yielded ops a.tmps j == some false) = x; rw [h1, hg]) (fun _ => y1) (fun u1 hu1 => ?_)
  rw [e1]
  refine wpList_maybe x (.bool y) (by unfold Region.wanted; rw [q2]; show (yielded ops (a.put (some d1) u1).tmps j == some false) = x; rw [h2, hg]) (fun hx => by rw [hu1 hx]; exact y2) (fun u2 hu2 => ?_)
  rw [e2]
  refine wpList_step fun K hK => ?_
  simp only [h3, if_true]
  unfold Oper.wp
  rw [y3 u1 u2 hu2, Oper.upon_value, e3]
  exact hK _ _ (h u1 u2)
end Go.Pantry
