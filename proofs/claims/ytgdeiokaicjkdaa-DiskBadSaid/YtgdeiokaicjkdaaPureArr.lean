/-
  Sectors by value: a box of 64 bytes that is laid, stored into, loaded; a map that is cleared. No program is imported.
-/
import Derived.Test.YtgdeiokaicjkdaaPureMapD
import Derived.StillTailTactics
set_option linter.unusedVariables false
set_option linter.unusedSimpArgs false
namespace Go.Pantry
open Go.RowKit

/-- a sector's box -/
def SecAt (w : World) (g : Nat) (s : List UInt8) (t : TypeId) : Prop := rowIs w g (s.map byteV).toArray t
theorem SecAt.kept {X : Nat → Prop} {w w' : World} {g : Nat} {s : List UInt8} {t : TypeId} (h : SecAt w g s t) (hk : Kept X w w') (hx : ¬ X g) : SecAt w' g s t := rowIs.kept h hk hx
theorem SecAt.below {w w' : World} {g : Nat} {s : List UInt8} {t : TypeId} (h : SecAt w g s t) (hb : Below w.heap.size w w') : SecAt w' g s t := rowIs.below h hb
theorem SecAt.range {w : World} {g : Nat} {s : List UInt8} {t : TypeId} (h : SecAt w g s t) : w.rangeAt g 0 (s.map byteV) := fun j v hv => by
  rw [Nat.zero_add, rowIs.cell h]
  simpa using hv
theorem SecAt.reads {w : World} {g : Nat} {s : List UInt8} {t : TypeId} (h : SecAt w g s t) (hl : s.length = 64) : Reads w (.slice (some ⟨g, 0, none⟩) 64 64) (s.map byteV) := by
  refine ⟨some ⟨g, 0, none⟩, 64, by rw [List.length_map, hl], fun j u hj => ⟨g, 0, rfl, ?_⟩, fun e => by cases e⟩
  exact h.range j u hj
theorem one_sec (s : List UInt8) : (s.map byteV).toArray.all (·.oneCell') = true := all_oneCell_toArray (fun v hv => by
  obtain ⟨c, -, rfl⟩ := List.mem_map.1 hv
  rfl)
theorem load_sec {P : Program} {w : World} {g : Nat} {s : List UInt8} {t e : TypeId} {d : TypeDesc} (h : SecAt w g s e) (hl : s.length = 64) (hu : P.underlying t = some d) (hd : d.isRow = true) (hi : (P.info? t).map (·.size) = some 64) :
    (Instr.loadAt t (.pointer (some ⟨g, 0, none⟩))).run P w = .ok (secV s) w :=
  run_loadAt_mid w g 0 t (s.map byteV) d h.range hu hd (by rw [hi, List.length_map, hl])
section
variable {P : Program} {ops : Array Oper} {rest : List Oper} {op : Oper} {a : Act} {w : World} {Q : Exit → Act → World → Prop}
theorem wpList_alloc_sec (hgd : op.guard = none) (t : TypeId) (ho : op.op = .alloc t) (hz : ∀ w, (zeroValue t).run P w = .ok (secV blankS) w)
    (h : ∀ V : World, SecAt V w.heap.size blankS t → Below w.heap.size w V → V.heap.size = w.heap.size + 1 → wpList P ops Q rest (a.put op.dst (.pointer (some ⟨w.heap.size, 0, none⟩))) V) : wpList P ops Q (op :: rest) a w := by
  refine wpList_plain hgd fun K hK => ?_
  have h0 := hK _ _ (h (w.alloc (.cells (blankS.map byteV).toArray t)) (rowIs_new w _ t) (below_alloc _ _) (by simp))
  unfold Oper.wp execOp
  simp only [ho]
  have hrun : (Instr.alloc t true (.tuple #[])).run P w = .ok (.pointer (some ⟨w.heap.size, 0, none⟩)) (w.alloc (.cells (blankS.map byteV).toArray t)) := by
    unfold Instr.alloc
    rw [Sem.run_bind, hz]
    simp [Result.andThen, newVar, newRow, newObj, secV, Value.cells, Sem.run]
  simp only [Sem.run_bind, hrun, Result.andThen_ok, Sem.run_pure]
  exact h0
theorem wpList_load_sec (hgd : op.guard = none) (t : TypeId) (x : Operand) (ho : op.op = .load t x) (g : Nat) (hx : a.eval x = .pointer (some ⟨g, 0, none⟩)) {s : List UInt8} {e : TypeId} {d : TypeDesc} (hr : SecAt w g s e) (hl : s.length = 64) (hu : P.underlying t = some d) (hd : d.isRow = true) (hi : (P.info? t).map (·.size) = some 64)
    (h : wpList P ops Q rest (a.put op.dst (secV s)) w) : wpList P ops Q (op :: rest) a w :=
  wpList_load_mid hgd t x ho g 0 hx (s.map byteV) d hr.range hu hd (by rw [hi, List.length_map, hl]) h
theorem wpList_store_sec (hgd : op.guard = none) (t : TypeId) (x y : Operand) (ho : op.op = .store t x y) (g : Nat) (hx : a.eval x = .pointer (some ⟨g, 0, none⟩)) {s s' : List UInt8} (hy : a.eval y = secV s') {e : TypeId} (hr : SecAt w g s e) (hl : s.length = 64) (hl' : s'.length = 64) (hi : (P.info? t).map (·.size) = some 64)
    (h : ∀ V : World, SecAt V g s' e → Kept (fun k => k = g) w V → V.heap.size = w.heap.size → wpList P ops Q rest (a.put op.dst undef) V) : wpList P ops Q (op :: rest) a w := by
  have hset : SecAt (w.setRow g (s'.map byteV).toArray) g s' e := rowIs.setRow hr _
  refine wpList_plain hgd fun K hK => ?_
  have h0 := hK _ _ (h _ hset ((Kept.refl (fun k => k = g) w).setRow (.inl rfl) _) (by simp [World.setRow]))
  unfold Oper.wp execOp
  have hrun : (storeVar t ⟨g, 0, none⟩ (.agg (s'.map byteV).toArray)).run P w = .ok () (w.setRow g (s'.map byteV).toArray) :=
    run_storeVar_row w g e t (s.map byteV).toArray (s'.map byteV).toArray hr (by rw [hi]; simp [hl']) (by simp [hl, hl']) (one_sec s')
  simp only [ho, hx, hy, secV, Instr.storeAt, Instr.sureAddr, Sem.run_bind, Sem.run_pure, Result.andThen_ok, hrun]
  exact h0
/-- a store into the middle of the row of what stands -/
theorem wpList_store_stand (hgd : op.guard = none) (t : TypeId) (x y : Operand) (ho : op.op = .store t x y) (g k : Nat) (hx : a.eval x = .pointer (some ⟨g, k * 64, none⟩)) {s : List UInt8} (hy : a.eval y = secV s) {ss : List (List UInt8)} {e : TypeId} (hr : SecRow w g ss e) (hk : k < ss.length) (hl : s.length = 64) (hi : (P.info? t).map (·.size) = some 64)
    (h : ∀ V : World, SecRow V g (ss.set k s) e → Kept (fun k => k = g) w V → V.heap.size = w.heap.size → wpList P ops Q rest (a.put op.dst undef) V) : wpList P ops Q (op :: rest) a w := by
  have h2 := h _ (hr.set hk hl) (setCells_kept g _ _ w) (setCells_size g _ _ w)
  refine wpList_store_mid hgd t x y ho g (k * 64) (s.map byteV).toArray hx hy ?_ (by rw [hi]; simp [hl]) (one_sec s) ?_
  · have := hr.there hk
    simpa [hl] using this
  · simpa using h2
theorem load_stand {P : Program} {w : World} {g : Nat} {ss : List (List UInt8)} {t e : TypeId} {d : TypeDesc} (h : SecRow w g ss e) {k : Nat} (hk : k < ss.length) (hu : P.underlying t = some d) (hd : d.isRow = true) (hi : (P.info? t).map (·.size) = some 64) :
    (Instr.loadAt t (.pointer (some ⟨g, k * 64, none⟩))).run P w = .ok (secV (ss.getD k [])) w := by
  have hl : (ss.getD k []).length = 64 := by
    rw [List.getD_eq_getElem?_getD, List.getElem?_eq_getElem hk]
    exact h.full _ (List.getElem_mem hk)
  exact run_loadAt_mid w g (k * 64) t _ d (h.at_ k hk) hu hd (by rw [hi, List.length_map, hl])
theorem wpList_load_run (hgd : op.guard = none) (t : TypeId) (x : Operand) (ho : op.op = .load t x) {p : Value} (hx : a.eval x = p) {v : Value} (hrun : (Instr.loadAt t p).run P w = .ok v w)
    (h : wpList P ops Q rest (a.put op.dst v) w) : wpList P ops Q (op :: rest) a w := by
  refine wpList_plain hgd fun K hK => ?_
  have h0 := hK _ _ h
  unfold Oper.wp execOp
  simp only [ho, hx, Sem.run_bind, hrun, Result.andThen_ok, Sem.run_pure]
  exact h0
theorem wpList_lookup_run (hgd : op.guard = none) (t : TypeId) (m x : Operand) (c : Bool) (ho : op.op = .lookup t m x c) {p q : Value} (hm : a.eval m = p) (hx : a.eval x = q) {v : Value} (hrun : (Instr.lookup t p q c).run P w = .ok v w)
    (h : wpList P ops Q rest (a.put op.dst v) w) : wpList P ops Q (op :: rest) a w := by
  refine wpList_plain hgd fun K hK => ?_
  have h0 := hK _ _ h
  unfold Oper.wp execOp
  simp only [ho, hm, hx, Sem.run_bind, hrun, Result.andThen_ok, Sem.run_pure]
  exact h0
/-- 'clear' of a map -/
theorem run_clear_own {H : Type} {R : Value → Option (DataW H × List MemPlace)} {w : World} {t k e ty : TypeId} {b n : Nat} {D : DataW H} (ht : P.underlying t = some (.map k e)) (h : w.ownsMap P k R b n D) :
    ∃ W, (Builtin.clear_ #[t] ty #[.map (some b)]).run P w = .ok (.tuple #[]) W ∧ W.ownsMap P k R b 0 (.map []) ∧ Kept (fun j => j = b) w W ∧ W.heap.size = w.heap.size := by
  obtain ⟨es, clock, hb, F, hs, hD⟩ := h
  refine ⟨ChangeMaps.setBlock w b (.map #[] clock), ?_, ⟨#[], clock, ChangeMaps.heap_setBlock_same hb _, ⟨by simp, ?_, by simp⟩, Nat.le_refl _, rfl⟩, ?_, by simp [ChangeMaps.setBlock]⟩
  · simp [Builtin.clear_, run_underlying ht, MapKept.run_getObj_map hb, MapKept.run_setObj_map _ hb, Result.andThen, ChangeMaps.setBlock]
  · exact (MapKept.stamped_iff #[] clock).2 ⟨by simp, by simp, by simp⟩
  · refine ⟨⟨rfl, rfl, rfl, by simp [ChangeMaps.setBlock], fun i hi => absurd hi (Nat.not_lt_zero _)⟩, fun i hi hx => ?_⟩
    exact ChangeMaps.heap_setBlock_other hb _ (fun e => hx e)
theorem wpList_clear_own {H : Type} (hgd : op.guard = none) (m : Operand) (t : TypeId) (hop : op.op = Op.call { callee := Callee.builtin Builtin.clear, args := #[m], argTypes := #[t] })
    (k e : TypeId) (ht : P.underlying t = some (.map k e)) (R : Value → Option (DataW H × List MemPlace)) (b n : Nat) (D : DataW H) (hm : a.eval m = .map (some b)) (hown : w.ownsMap P k R b n D)
    (hK : ∀ W : World, W.ownsMap P k R b 0 (.map []) → Kept (fun j => j = b) w W → W.heap.size = w.heap.size → wpList P ops Q rest (a.put op.dst (.tuple #[])) W) : wpList P ops Q (op :: rest) a w := by
  refine wpList_plain hgd fun K' hK' => ?_
  obtain ⟨W, hrun, h1, h2, h3⟩ := run_clear_own (ty := op.type) ht hown
  have h0 := hK' _ _ (hK W h1 h2 h3)
  unfold Oper.wp
  simp [execOp, hop, resolve, invoke, builtin, hm, hrun, Result.andThen]
  exact h0
end
/-- sector j is pending, as s -/
structure NextS (pp : List (List UInt8)) (j : Nat) (s : List UInt8) : Prop where
  lt : j < pp.length
  eq : s = pp.getD j []
  ne : s ≠ []
/-- the next of those that are pending -/
theorem wpList_next_sec {P : Program} (w : World) {ops : Array Oper} {rest : List Oper} {o : Oper} {a : Act} {Q : Exit → Act → World → Prop} (hg : o.guard = none) (it : Operand) (hop : o.op = Op.next it false) (k : TypeId) (K : Maps.Keyed P k) (hk : P.underlying k = some (.int .i64)) (b r n : Nat) (D : DataW Value) (left : Lit → Bool) (cnt : Nat)
    (hit : a.eval it = .pointer (some ⟨r, 0, none⟩)) (h : w.ranges P k secElem b r n D left cnt) {pp : List (List UInt8)} (hp : PendAt D pp)
    (hDone : (∀ kl, left kl = false) → wpList P ops Q rest (a.put o.dst (.tuple #[.bool false])) w)
    (hMore : ∀ (j : Nat) (s : List UInt8) (w' : World) (cnt' : Nat), NextS pp j s → w'.ranges P k secElem b r n D (fun z => left z && !z.sameKey (keyD j)) cnt' → cnt' < cnt →
      w.grownBy w' (some r) → w'.heap.size = w.heap.size → (Instr.entry (.pointer (some ⟨r, 0, none⟩))).run P w' = .ok (.tuple #[.int .i64 (j : Int), secV s]) w' → wpList P ops Q rest (a.put o.dst (.tuple #[.bool true, .int .i64 (j : Int), secV s])) w') :
    wpList P ops Q (o :: rest) a w :=
  wpList_next_ranges w hg it hop k K secElem (Value.int .i64) id (fun key kl hkey => by obtain ⟨x, rfl, _⟩ := Maps.keyOf_int_inv hk hkey; exact ⟨x, rfl⟩) (fun v y _ => ⟨v, rfl⟩) b r n D left cnt hit h (fun _ hl => hDone hl) (fun x c kl y w' cnt' hkey hlk hv hat hrg hlt hgr hsz hen => by
    obtain ⟨x', ex, rfl, -⟩ := Maps.keyOf_int_inv hk hkey
    cases ex
    obtain ⟨j, e, hj, hne⟩ := hp.only _ (Maps.has_true_of_atKey hat)
    simp only [Lit.int.injEq, true_and] at e
    subst e
    have h2 := (hp.there j hj hne).2 (.nil)
    rw [hat] at h2
    cases hv
    cases h2
    exact hMore j _ w' cnt' ⟨hj, rfl, hne⟩ hrg hlt hgr hsz hen)
theorem kept_grown {w w' : World} {g : Nat} (h : w.grownBy w' (some g)) : Kept (fun k => k = g) w w' := ((Kept.refl (fun j => some g = some j) w).grown h (fun k hk _ => hk)).mono (fun j hj _ => by cases hj; rfl)
theorem kept_grown0 {w w' : World} (h : w.grownBy w' none) : Kept (fun _ => False) w w' := (Kept.refl (fun _ => False) w).grown h (fun k hk _ => by cases hk)
theorem ranges_kept {P : Program} {k : TypeId} {R : Value → Option (DataW Value × List MemPlace)} {w w' : World} {b r n : Nat} {D : DataW Value} {left : Lit → Bool} {cnt : Nat} {X : Nat → Prop} (h : w.ranges P k R b r n D left cnt) (hk : Kept X w w') (hb : ¬ X b) (hr : ¬ X r) : w'.ranges P k R b r n D left cnt := by
  have h1 := h.owns.lt
  have h2 := h.lt
  obtain ⟨es, clock, since, seen, c0, e1, F, hs, hD, e2, rest⟩ := h
  exact ⟨es, clock, since, seen, c0, (hk.2 b h1 hb).trans e1, F, hs, hD, (hk.2 r h2 hr).trans e2, rest⟩
theorem madeCells_rep (z : Value) (m k : Nat) (hm : 0 < m) : madeCells (Array.replicate m z) k = Array.replicate k z := by
  apply Array.ext
  · simp [size_madeCells]
  · intro i h1 h2
    have h3 : i % m < m := Nat.mod_lt _ hm
    simp [madeCells, h3]
/-- make([]T, n) of cells that are all alike -/
theorem make_rep {P : Program} (t e : TypeId) {z z1 : Value} {m bytes : Nat} (ht : P.underlying t = some (.slice e)) (hi : (P.info? e).map (fun i => (i.zero, i.size, i.bytes)) = some (some z, m, bytes)) (hz : z.cells = Array.replicate m z1) (hm : 0 < m) (hby : bytes ≤ 4096) (n : Nat) (hn : n < 4294967296) :
    ∀ w : World, (Instr.makeSlice t (.int .i64 (n : Int)) (.int .i64 (n : Int))).run P w = .ok (.slice (some ⟨w.heap.size, 0, none⟩) n n) (w.alloc (.cells (Array.replicate (n * m) z1) e)) := fun w => by
  obtain ⟨i0, a1, a2, a3, a4⟩ := info_parts hi
  have hbz : (i0.bytes : Int) * (n : Int) ≤ 281474976710656 := by
    rw [a4]
    have : bytes * n ≤ 4096 * 4294967296 := Nat.mul_le_mul hby (by omega)
    have h2 : ((bytes * n : Nat) : Int) ≤ 281474976710656 := by omega
    rwa [Int.natCast_mul] at h2
  have h := run_make (P := P) w t e i0 z ht a1 a2 .i64 .i64 (n : Int) (n : Int) (by omega) (by omega) hbz (by omega)
  rw [h, a3, hz, Int.toNat_natCast, madeCells_rep _ _ _ hm]
theorem heap_alloc_at (w : World) (o : Obj) (k : Nat) : (w.alloc o).heap[k]? = if k = w.heap.size then some o else w.heap[k]? := by
  by_cases h : k = w.heap.size
  · subst h
    rw [if_pos rfl]
    exact Array.getElem?_push_size
  · rw [if_neg h]
    show (w.heap.push o)[k]? = _
    rw [Array.getElem?_push, if_neg h]
section
variable {P : Program} {ops : Array Oper} {w : World} {Q : Act → Prop} {a : Act} {o : Oper} {rest : List Oper}
theorem wpStill_run (hgd : o.guard = none) {v : Value} (hrun : (execOp a.eval o).run P w = .ok (.value v) w) (h : wpStill P ops w Q rest (a.put o.dst v)) : wpStill P ops w Q (o :: rest) a := by
  refine wpStill_step (fun K hK => ?_)
  have hw : Region.wanted o (yielded ops a.tmps) = true := by unfold Region.wanted; rw [hgd]
  rw [if_pos hw]
  unfold Oper.still
  rw [hrun, Oper.stillUpon_value]
  exact hK _ h
theorem wpStill_load (hgd : o.guard = none) (t : TypeId) (x : Operand) (ho : o.op = .load t x) {p : Value} (hx : a.eval x = p) {v : Value} (hrun : (Instr.loadAt t p).run P w = .ok v w) (h : wpStill P ops w Q rest (a.put o.dst v)) : wpStill P ops w Q (o :: rest) a := by
  refine wpStill_run hgd (v := v) ?_ h
  unfold execOp
  simp only [ho, hx, Sem.run_bind, hrun, Result.andThen_ok, Sem.run_pure]
theorem wpStill_lookup (hgd : o.guard = none) (t : TypeId) (m x : Operand) (c : Bool) (ho : o.op = .lookup t m x c) {p q : Value} (hm : a.eval m = p) (hx : a.eval x = q) {v : Value} (hrun : (Instr.lookup t p q c).run P w = .ok v w) (h : wpStill P ops w Q rest (a.put o.dst v)) : wpStill P ops w Q (o :: rest) a := by
  refine wpStill_run hgd (v := v) ?_ h
  unfold execOp
  simp only [ho, hm, hx, Sem.run_bind, hrun, Result.andThen_ok, Sem.run_pure]
end
end Go.Pantry
