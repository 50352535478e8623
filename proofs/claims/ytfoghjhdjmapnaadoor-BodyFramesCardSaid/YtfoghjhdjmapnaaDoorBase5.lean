/-
  append onto a slice whose block bears a mark behind its end ('[]byte(s)'), the room of what is made told; slices of bytes as strings. No program is imported.
-/
import Derived.Test.YtfoghjhdjmapnaaDoorBase3
import Derived.Test.YtfoghjhdjmapnaaDoorBase2
namespace Go.Pantry
open Go.RowKit

theorem addAt2 (g o i : Nat) : (⟨g, o, none⟩ : Addr).add i = ⟨g, o + i, none⟩ := by unfold Addr.add; split <;> simp_all
theorem addAt (g i : Nat) : (⟨g, 0, none⟩ : Addr).add i = ⟨g, i, none⟩ := by unfold Addr.add; split <;> simp_all
/-- cells stored into a row whose mark lies behind its end -/
theorem run_storeCells_beyond (P : Program) (g o : Nat) (t : TypeId) (fz : Nat × Nat) : ∀ (vs : List Value) (i : Nat) (cur : Array Value) (w : World), w.heap[g]? = some (.cells cur t fz) → cur.size ≤ fz.1 → o + i + vs.length ≤ cur.size → (∀ v ∈ vs, v.oneCell' = true) →
    (storeCells ⟨g, o, none⟩ vs i).run P w = .ok () (w.setRow g (cur.toList.take (o + i) ++ vs ++ cur.toList.drop (o + i + vs.length)).toArray)
  | [], i, cur, w, hg, _, _, _ => by
    simp only [storeCells, List.append_nil, List.length_nil, Nat.add_zero, List.take_append_drop, Array.toArray_toList]
    rw [setRow_self w g cur t fz hg]
    rfl
  | v :: rest, i, cur, w, hg, hfz, hl, h1 => by
    have hi : o + i < cur.size := by simp at hl; omega
    have hadd : (⟨g, o, none⟩ : Addr).add i = ⟨g, o + i, none⟩ := by unfold Addr.add; split <;> simp_all
    have hcell : w.cell? ⟨g, o + i, none⟩ = some cur[o + i] := by simp [World.cell?, hg, hi]
    have hfro : w.frozen? ⟨g, o + i, none⟩ = false := by
      obtain ⟨lo, hi'⟩ := fz
      simp only [World.frozen?, hg, Bool.and_eq_false_iff, decide_eq_false_iff_not]
      left
      simp only at hfz
      omega
    have hst : (store ((⟨g, o, none⟩ : Addr).add i) v).run P w = .ok () (w.setRow g (cur.setIfInBounds (o + i) v)) := by
      rw [hadd, run_store P w _ v _ (h1 v (by simp)), hcell]
      simp [hfro, setCell_eq_setRow w g (o + i) cur t fz v hg]
    have ih := run_storeCells_beyond P g o t fz rest (i + 1) (cur.setIfInBounds (o + i) v) (w.setRow g (cur.setIfInBounds (o + i) v)) (setRow_heap w g cur _ t _ hg) (by simpa using hfz) (by simp at hl ⊢; omega) (fun x hx => h1 x (by simp [hx]))
    simp only [storeCells, Sem.run_bind, hst, Result.andThen_ok, ih, setRow_setRow]
    congr 3
    have e := list_seg_step cur.toList (o + i) v rest (by simp at hl ⊢; omega)
    simpa [Array.toList_setIfInBounds, Nat.add_assoc] using e

theorem reads_row {w : World} {g : Nat} {cur : Array Value} {e : TypeId} {fz : Nat × Nat} (hg : w.heap[g]? = some (.cells cur e fz)) (xs : List Value) (cap : Nat) (h : cur.toList.take xs.length = xs) :
    Reads w (.slice (some ⟨g, 0, none⟩) xs.length cap) xs := by
  refine ⟨_, _, rfl, fun j u hj => ⟨g, 0, rfl, ?_⟩, fun e => by cases e⟩
  rw [Nat.zero_add, cell_of_row w g j cur e fz hg]
  rw [← h, List.getElem?_take] at hj
  split at hj
  · simpa using hj
  · cases hj

/-- string(b), whatever slice of bytes b is -/
theorem reads_string {P : Program} {w : World} {v : Value} {l : List UInt8} (h : Reads w v (l.map byteV)) (src dst e : TypeId) (hs : P.underlying src = some (.slice e)) (he : P.underlying e = some (.int .u8)) (hd : P.underlying dst = some .string) :
    (convert src dst v).run P w = .ok (.string ⟨l.toArray⟩) w := by
  obtain ⟨ao, cap, rfl, hc, hz⟩ := h
  rw [List.length_map]
  cases ao with
  | none =>
    have hnil : l = [] := by
      cases l with
      | nil => rfl
      | cons y ys => obtain ⟨b, off, he, _⟩ := hc 0 (byteV y) rfl; cases he
    subst hnil
    exact run_convert_bytes_nil w src e hs he 0 cap dst hd
  | some ad =>
    cases l with
    | nil =>
      refine run_convert_bytes_back w src dst e ad cap [] hs he hd (fun j hj => absurd hj (Nat.not_lt_zero _))
    | cons y ys =>
      obtain ⟨b, off, he', _⟩ := hc 0 (byteV y) rfl
      cases he'
      refine run_convert_bytes_back w src dst e _ cap (y :: ys) hs he hd (fun j hj => ?_)
      obtain ⟨b', off', he', hcell⟩ := hc j (byteV (y :: ys)[j]) (by rw [List.getElem?_map, List.getElem?_eq_getElem hj]; rfl)
      cases he'
      have e0 := addAt2 b off j
      rw [e0]; exact hcell
/-- b[:k] reads as the first k -/
theorem Reads.take {w : World} {ao : Option Addr} {n cap : Nat} {l : List Value} (h : Reads w (.slice ao n cap) l) (k : Nat) (hk : k ≤ l.length) : Reads w (.slice ao k cap) (l.take k) := by
  obtain ⟨ao', cap', hv, hc, hz⟩ := h
  cases hv
  refine ⟨ao, cap, by rw [List.length_take, Nat.min_eq_left hk], fun j u hj => ?_, hz⟩
  rw [List.getElem?_take] at hj
  split at hj
  · exact hc j u hj
  · cases hj
/-- b[1:] reads as the rest -/
theorem reads_tail {w : World} {g n cap : Nat} {x : Value} {l : List Value} (h : Reads w (.slice (some ⟨g, 0, none⟩) n cap) (x :: l)) (c : Nat) : Reads w (.slice (some ⟨g, 1, none⟩) l.length c) l := by
  obtain ⟨ao', cap', hv, hc, hz⟩ := h
  cases hv
  refine ⟨_, c, rfl, fun j u hj => ?_, fun e => by cases e⟩
  obtain ⟨b, off, he, hcell⟩ := hc (j + 1) u (by simpa using hj)
  cases he
  exact ⟨_, _, rfl, by rw [show 1 + j = 0 + (j + 1) by omega]; exact hcell⟩
theorem Reads.form {w : World} {v : Value} {l : List Value} (h : Reads w v l) : ∃ ao cap, v = .slice ao l.length cap := let ⟨ao, cap, hv, _⟩ := h; ⟨ao, cap, hv⟩
end Go.Pantry
namespace Go.Pantry
open Go.RowKit
/-- append(b, more...): b the head of a row of one-cell values, its mark (if any) behind its end; more any slice. What is made reads as both; at most b's own row has changed. -/
theorem wpList_append_marked2 {P : Program} {ops : Array Oper} {rest : List Oper} {o : Oper} {a : Act} {Q : Exit → Act → World → Prop} (w : World) (hgd : o.guard = none) (s x : Operand) (t : TypeId)
    (ho : o.op = .call { callee := .builtin .append, args := #[s, x], argTypes := #[t, t] })
    (B : Nat) (e : TypeId) {z : Value} {bytes : Nat} (ht : P.underlying t = some (.slice e)) (hi : (P.info? e).map (fun i => (i.zero, i.size, i.bytes)) = some (some z, 1, bytes)) (hby : bytes ≤ 4096)
    {g cap : Nat} {cur : Array Value} {fz : Nat × Nat} (xs : List Value) (hs : a.eval s = .slice (some ⟨g, 0, none⟩) xs.length cap) (hg : w.heap[g]? = some (.cells cur e fz)) (hfz : cur.size ≤ fz.1) (hcap : cap ≤ cur.size) (hxs : cur.toList.take xs.length = xs) (hxc : xs.length ≤ cap)
    {vx : Value} {ys : List Value} (hr : Reads w vx ys) (hys : ∀ u ∈ ys, u.oneCell' = true)
    (hx : a.eval x = vx) (hn : xs.length + ys.length < 4294967296) (hB : B ≤ g)
    (h : ∀ v' w', Reads w' v' (xs ++ ys) → (∀ ao n c, v' = .slice ao n c → n ≤ c) → Below B w w' → wpList P ops Q rest (a.put o.dst v') w') :
    wpList P ops Q (o :: rest) a w := by
  obtain ⟨i0, h1, h2, h3, h4⟩ := info_parts hi
  have hgl : g < w.heap.size := (Array.getElem?_eq_some_iff.1 hg).1
  obtain ⟨v', w', hrun, hrd, hrm, hbl⟩ : ∃ v' w', (Builtin.append_ #[t, t] o.type #[.slice (some ⟨g, 0, none⟩) xs.length cap, vx]).run P w = .ok v' w' ∧ Reads w' v' (xs ++ ys) ∧ (∀ ao n c, v' = .slice ao n c → n ≤ c) ∧ Below B w w' := by
    obtain ⟨ao, capy, rfl, hc, hz⟩ := hr
    cases ao with
    | none =>
      have hnil : ys = [] := by
        cases ys with
        | nil => rfl
        | cons y ys => obtain ⟨b, off, he, _⟩ := hc 0 y rfl; cases he
      subst hnil
      refine ⟨.slice (some ⟨g, 0, none⟩) xs.length cap, w, ?_, by rw [List.append_nil]; exact reads_row hg xs cap hxs, (fun _ _ _ e => by cases e; exact hxc), Below.refl _ _⟩
      have hf := run_firstCells_none (P := P) (w := w) 1 0 0 capy
      have hst : (storeCells ⟨g, xs.length, none⟩ [] 0).run P w = .ok () w := rfl
      simp [Builtin.append_, run_underlying ht, sizeOf, typeInfo, h1, h3, Builtin.lenOf, hf, Addr.add_lit, hst, hxc]
    | some ad =>
      have hl : ys.length = ys.length * i0.size := by rw [h3, Nat.mul_one]
      have hnews : ∀ (j : Nat) u, ys[j]? = some u → w.cell? (ad.add j) = some u := fun j u hj => by
        obtain ⟨b, off, he, hcell⟩ := hc j u hj
        cases he
        have e0 := addAt2 b off j
        rw [e0]; exact hcell
      by_cases hroom : xs.length + ys.length ≤ cap
      · have hf := run_firstCells_some (P := P) w i0.size ys.length ad ys.length capy ys hl hnews
        have hst := run_storeCells_beyond P g xs.length e fz ys 0 cur w hg hfz (by omega) hys
        simp only [Nat.add_zero] at hst
        rw [h3] at hf
        refine ⟨.slice (some ⟨g, 0, none⟩) (xs.length + ys.length) cap, w.setRow g (cur.toList.take xs.length ++ ys ++ cur.toList.drop (xs.length + ys.length)).toArray, ?_, ?_, (fun _ _ _ e => by cases e; exact hroom), below_setRow (Below.refl _ _) hB _⟩
        · have e1 : xs.length * i0.size = xs.length := by rw [h3, Nat.mul_one]
          simp [Builtin.append_, run_underlying ht, sizeOf, typeInfo, h1, Builtin.lenOf, hroom, hf, Addr.add_lit, h3, hst]
        · have := reads_row (setRow_heap w g cur (cur.toList.take xs.length ++ ys ++ cur.toList.drop (xs.length + ys.length)).toArray e fz hg) (xs ++ ys) cap (by
            rw [hxs]
            exact List.take_left)
          rw [List.length_append] at this
          exact this
      · have holds : ∀ (j : Nat) u, xs[j]? = some u → w.cell? ((⟨g, 0, none⟩ : Addr).add j) = some u := fun j u hj => by
          rw [addAt, cell_of_row w g j cur e fz hg]
          rw [← hxs, List.getElem?_take] at hj
          split at hj
          · simpa using hj
          · cases hj
        have hb1 : (xs.length + ys.length) * i0.bytes ≤ 140737488355328 := by
          rw [h4]
          calc (xs.length + ys.length) * bytes ≤ 4294967296 * 4096 := Nat.mul_le_mul (by omega) hby
            _ ≤ 140737488355328 := by decide
        have hr := run_append_grow (P := P) w t o.type e i0 z ht h1 h2 ⟨g, 0, none⟩ xs.length cap xs (by rw [h3, Nat.mul_one]) holds ad ys.length capy ys hl hnews (by omega) (by omega) (growslice_fits (by omega) hb1)
        refine ⟨_, _, hr, ?_, (fun _ _ _ e => by cases e; exact grownCap_ge w _ _ _), ?_⟩
        · have := reads_row (w := w.drew.alloc (.cells (xs.toArray ++ ys.toArray ++ Builtin.zeroCells z.cells (grownCap w (xs.length + ys.length) cap e - (xs.length + ys.length))) e)) (g := w.heap.size) (heap_alloc_new w.drew _) (xs ++ ys) (grownCap w (xs.length + ys.length) cap e) (by
            simp only [Array.toList_append, List.append_assoc]
            rw [← List.append_assoc]
            exact List.take_left)
          rw [List.length_append] at this
          exact this
        · exact ((Below.refl B w).drew).alloc (by show B ≤ w.heap.size; omega) _
  refine wpList_plain hgd fun K hK => ?_
  unfold Oper.wp execOp
  simp only [ho, resolve, invoke, builtin, Sem.run_bind, Sem.run_pure, Result.andThen_ok, List.map_toArray, List.map_cons, List.map_nil, hs, hx, hrun]
  exact hK _ _ (h v' w' hrd hrm hbl)

/-- []byte(s): a new block, its bytes, its mark behind its end -/
theorem bytes_conv {P : Program} (w : World) (l : List UInt8) (src dst e : TypeId) (hs : P.underlying src = some .string) (hd : P.underlying dst = some (.slice e)) (he : P.underlying e = some (.int .u8)) :
    ∃ cap W cur fz, (convert src dst (.string ⟨l.toArray⟩)).run P w = .ok (.slice (some ⟨w.heap.size, 0, none⟩) l.length cap) W ∧ W.heap[w.heap.size]? = some (.cells cur e fz) ∧ cur.size ≤ fz.1 ∧ cap ≤ cur.size ∧ cur.toList.take l.length = l.map byteV ∧ l.length ≤ cap ∧ Below w.heap.size w W := by
  have hr := run_bytes_of_string (P := P) w src dst e ⟨l.toArray⟩ hs hd he
  have hsz : (⟨l.toArray⟩ : ByteArray).size = l.length := szL l
  have hge := grownCap_ge w (⟨l.toArray⟩ : ByteArray).size 0 e
  have hbs : ∀ c, (⟨l.toArray⟩ : ByteArray).size ≤ c → (bytesRow ⟨l.toArray⟩ c).size = c := fun c hc => by
    unfold bytesRow
    rw [Array.size_append, Array.size_map, Array.size_replicate]
    have : (⟨l.toArray⟩ : ByteArray).data.size = (⟨l.toArray⟩ : ByteArray).size := rfl
    omega
  have htk : ∀ c, (bytesRow ⟨l.toArray⟩ c).toList.take l.length = l.map byteV := fun c => by
    unfold bytesRow
    rw [Array.toList_append, Array.toList_map]
    have h1 : (List.map (fun b : UInt8 => Value.int .u8 (b.toNat : Int)) l).length = l.length := List.length_map ..
    have := List.take_left (l₁ := List.map (fun b : UInt8 => Value.int .u8 (b.toNat : Int)) l) (l₂ := (Array.replicate (c - (⟨l.toArray⟩ : ByteArray).size) (Value.int .u8 0)).toList)
    rw [h1] at this
    exact this
  rw [hsz] at hr
  refine ⟨_, _, bytesRow ⟨l.toArray⟩ (grownCap w (⟨l.toArray⟩ : ByteArray).size 0 e), ((bytesRow ⟨l.toArray⟩ (grownCap w (⟨l.toArray⟩ : ByteArray).size 0 e)).size, (bytesRow ⟨l.toArray⟩ (grownCap w (⟨l.toArray⟩ : ByteArray).size 0 e)).size + 1), hr, ?_, Nat.le_refl _, ?_, htk _, ?_, ?_⟩
  · show (w.heap.push _)[w.heap.size]? = _
    simp [hsz]
  · rw [hbs _ hge, hsz]; exact Nat.le_refl _
  · rw [hsz] at hge; exact hge
  · exact ((Below.refl _ _).alloc (Nat.le_refl _) _).drew
end Go.Pantry
