/-
  Blocks that hold one struct or array: no program is imported.
-/
import Derived.Test.YtfoghjhdjmapnaaDoorBase
import Derived.Laws.Rows
namespace Go.Pantry
open Go.RowKit

/-- Block g is one row, none of it frozen: the values cs. -/
def rowIs (w : World) (g : Nat) (cs : Array Value) (t : TypeId) : Prop := w.heap[g]? = some (.cells cs t (0, 0))
theorem rowIs_new (w : World) (cs : Array Value) (t : TypeId) : rowIs (w.alloc (.cells cs t)) w.heap.size cs t := Array.getElem?_push_size
theorem rowIs_new_at (w : World) (cs : Array Value) (t : TypeId) (g : Nat) (hg : g = w.heap.size) : rowIs (w.alloc (.cells cs t)) g cs t := by subst hg; exact rowIs_new w cs t
theorem rowIs.lt {w : World} {g : Nat} {cs : Array Value} {t : TypeId} (h : rowIs w g cs t) : g < w.heap.size := (Array.getElem?_eq_some_iff.1 h).1
theorem rowIs.below {w w' : World} {g : Nat} {cs : Array Value} {t : TypeId} (h : rowIs w g cs t) (hb : Below w.heap.size w w') : rowIs w' g cs t := (hb.block g h.lt).trans h
theorem rowIs.cell {w : World} {g : Nat} {cs : Array Value} {t : TypeId} (h : rowIs w g cs t) (j : Nat) : w.cell? ⟨g, j, none⟩ = cs[j]? := cell_of_row w g j cs t (0, 0) h
theorem rowIs.free {w : World} {g : Nat} {cs : Array Value} {t : TypeId} (h : rowIs w g cs t) (j : Nat) : w.frozen? ⟨g, j, none⟩ = false := by
  unfold World.frozen?
  unfold rowIs at h
  rw [h]
  simp
theorem rowIs.setRow {w : World} {g : Nat} {cs : Array Value} {t : TypeId} (h : rowIs w g cs t) (ds : Array Value) : rowIs (w.setRow g ds) g ds t := setRow_heap w g cs ds t (0, 0) h
theorem rowIs.setRow_other {w : World} {g k : Nat} {cs : Array Value} {t : TypeId} (h : rowIs w g cs t) (ds : Array Value) (hk : g ≠ k) : rowIs (w.setRow k ds) g cs t := (_root_.Go.setRow_other w k g ds hk).trans h
theorem rowIs.setCell {w : World} {g : Nat} {cs : Array Value} {t : TypeId} (h : rowIs w g cs t) (i : Nat) (v : Value) : rowIs (w.setCell ⟨g, i, none⟩ v) g (cs.setIfInBounds i v) t := by
  rw [setCell_eq_setRow w g i cs t (0, 0) v h]
  exact h.setRow _
theorem rowIs.setCell_other {w : World} {g k : Nat} {cs ds : Array Value} {t u : TypeId} (h : rowIs w g cs t) (hk : rowIs w k ds u) (hne : g ≠ k) (i : Nat) (v : Value) : rowIs (w.setCell ⟨k, i, none⟩ v) g cs t := by
  rw [setCell_eq_setRow w k i ds u (0, 0) v hk]
  exact h.setRow_other _ hne
theorem rowIs.setCell_block {w : World} {g g' : Nat} {cs : Array Value} {t : TypeId} (h : rowIs w g cs t) (hne : g ≠ g') (i : Nat) (v : Value) : rowIs (w.setCell ⟨g', i, none⟩ v) g cs t := (Below.heap_setCell w ⟨g', i, none⟩ v g hne).trans h
theorem below_setRow {B : Nat} {w w' : World} (h : Below B w w') {g : Nat} (hg : B ≤ g) (cs : Array Value) : Below B w (w'.setRow g cs) :=
  ⟨h.os, h.tape, h.output, by have := h.size; simpa [World.setRow] using this, fun k hk => (_root_.Go.setRow_other w' g k cs (by omega)).trans (h.block k hk)⟩
/-- A function whose result lies in a block of its own. -/
theorem results_row {P : Program} {fn : Func} {a : Tmp} {t e : TypeId} {d : TypeDesc} (h : fn.results = #[.cell a t]) (tmps : Array Value) (w : World) (g : Nat) (cs : Array Value)
    (hp : tmps.getD a undef = .pointer (some ⟨g, 0, none⟩)) (hg : rowIs w g cs e) (hu : P.underlying t = some d) (hd : (match d with | .struct _ | .array _ _ => true | _ => false) = true) (hi : (P.info? t).map (·.size) = some cs.size) :
    (results fn tmps).run P w = .ok (.agg cs) w := by
  have h1 := run_loadVar_row (P := P) w g e t cs (0, 0) d hg hu hd hi
  have hp' : tmps[a]?.getD undef = .pointer (some ⟨g, 0, none⟩) := by simpa using hp
  simp [results, h, hp', asAddr, h1]
/-- An operation that loads a whole row. -/
theorem load_gives {P : Program} {ρ : Operand → Value} {o : Oper} {ty : TypeId} {x : Operand} (ho : o.op = .load ty x) {W : World} (g : Nat) (hx : ρ x = .pointer (some ⟨g, 0, none⟩)) {cs : Array Value} {e : TypeId} {d : TypeDesc} (hg : rowIs W g cs e)
    (hu : P.underlying ty = some d) (hd : (match d with | .struct _ | .array _ _ => true | _ => false) = true) (hi : (P.info? ty).map (·.size) = some cs.size) : (execOp ρ o).run P W = .ok (.value (.agg cs)) W := by
  unfold execOp
  simp only [ho, hx, Instr.loadAt, Instr.sureAddr, Sem.run_bind, Sem.run_pure, Result.andThen_ok, run_loadVar_row W g e ty cs (0, 0) d hg hu hd hi]
end Go.Pantry
