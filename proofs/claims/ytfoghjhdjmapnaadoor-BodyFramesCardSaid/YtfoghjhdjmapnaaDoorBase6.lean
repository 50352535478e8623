/-
  Slices of bytes with their room: what stays, what a part of one is. No program is imported.
-/
import Derived.Test.YtfoghjhdjmapnaaDoorBase5
import Derived.Test.YtfoghjhdjmapnaaDoorPureCtl3
namespace Go.Pantry
open Go.RowKit

/-- v is a slice that reads as the bytes l, and has room for them -/
def Bytes (w : World) (v : Value) (l : List UInt8) : Prop := ∃ ao cap, v = .slice ao l.length cap ∧ l.length ≤ cap ∧ Reads w v (l.map byteV)
theorem bytesRead {w : World} {v : Value} {l : List UInt8} (h : Bytes w v l) : Reads w v (l.map byteV) := by
  obtain ⟨_, _, _, _, h⟩ := h; exact h
theorem bytes_form {w : World} {v : Value} {l : List UInt8} (h : Bytes w v l) : ∃ ao cap, v = .slice ao l.length cap ∧ l.length ≤ cap := by
  obtain ⟨a, c, h1, h2, _⟩ := h; exact ⟨a, c, h1, h2⟩
theorem bytes_of {w : World} {ao : Option Addr} {cap : Nat} {l : List UInt8} (h : Reads w (.slice ao l.length cap) (l.map byteV)) (hc : l.length ≤ cap) : Bytes w (.slice ao l.length cap) l := ⟨_, _, rfl, hc, h⟩
theorem bytes_below {w w' : World} {v : Value} {l : List UInt8} (h : Bytes w v l) (hb : Below w.heap.size w w') : Bytes w' v l := by
  obtain ⟨a, c, h1, h2, h3⟩ := h; exact ⟨a, c, h1, h2, h3.below hb⟩
theorem bytes_nil (w : World) : Bytes w (.slice none 0 0) [] := ⟨none, 0, rfl, Nat.le_refl _, ⟨none, 0, rfl, (fun j u hj => by cases hj), fun _ => rfl⟩⟩
/-- b[k:] -/
theorem bytes_low {P : Program} (t : TypeId) (ht : P.underlying t = some (.slice (P.elem t))) (h1 : ∀ W, (sizeOf (P.elem t)).run P W = .ok 1 W) {w : World} {v : Value} {l : List UInt8} (h : Bytes w v l) (k : Nat) (hk : k ≤ l.length) :
    ∃ ao' cap', (∀ W, (Instr.slice t v (some (.int .i64 (k : Int))) none none).run P W = .ok (.slice ao' (l.length - k) cap') W) ∧ Bytes w (.slice ao' (l.length - k) cap') (l.drop k) := by
  obtain ⟨ao, cap, rfl, hc, hr⟩ := h
  refine ⟨(if cap = k then ao else ao.map (·.add (k * 1))), cap - k, fun W => ?_, ?_⟩
  · rw [run_slice_l W t ao l.length cap ht .i64 (k : Int) (by omega) (by omega), h1]
    simp only [Result.andThen, sliced, Int.toNat_natCast]
  · refine ⟨_, _, by rw [List.length_drop], by rw [List.length_drop]; omega, ?_⟩
    obtain ⟨ao', cap', hv, hcell, hz⟩ := hr
    rw [List.length_map] at hv
    cases hv
    refine ⟨(if cap = k then ao else ao.map (·.add (k * 1))), cap - k, by rw [List.length_map, List.length_drop], fun j u hj => ?_, fun e => ?_⟩
    · rw [List.map_drop, List.getElem?_drop] at hj
      have hjl := (List.getElem?_eq_some_iff.1 hj).1
      rw [List.length_map] at hjl
      obtain ⟨b, off, ha, g1⟩ := hcell (k + j) u hj
      subst ha
      rw [if_neg (by omega)]
      refine ⟨b, off + k, by simp only [Option.map_some]; rw [addAt2]; simp, ?_⟩
      rw [show off + k + j = off + (k + j) by omega]; exact g1
    · split at e
      · rename_i hck
        omega
      · cases ao with
        | none => have := hz rfl; omega
        | some a => cases e
/-- b[:k] -/
theorem bytes_high {P : Program} (t : TypeId) (ht : P.underlying t = some (.slice (P.elem t))) (h1 : ∀ W, (sizeOf (P.elem t)).run P W = .ok 1 W) {w : World} {v : Value} {l : List UInt8} (h : Bytes w v l) (k : Nat) (hk : k ≤ l.length) :
    ∃ ao cap, (∀ W, (Instr.slice t v none (some (.int .i64 (k : Int))) none).run P W = .ok (.slice ao k cap) W) ∧ Bytes w (.slice ao k cap) (l.take k) := by
  obtain ⟨ao, cap, rfl, hc, hr⟩ := h
  have hl : (l.take k).length = k := by rw [List.length_take]; omega
  refine ⟨ao, cap, fun W => ?_, ?_⟩
  · rw [run_slice_h W t ao l.length cap ht .i64 (k : Int) (by omega) (by omega)]
    try rw [h1]
    simp only [Result.andThen, sliced, Int.toNat_natCast, Nat.sub_zero]
    have e0 : ∀ a : Addr, a.add 0 = a := fun a => by unfold Addr.add; split <;> simp_all
    cases ao with
    | none => simp
    | some a => simp [e0]
  · refine ⟨ao, cap, by rw [hl], by omega, ?_⟩
    have hh := hr.take k (by rw [List.length_map]; exact hk)
    rw [List.map_take]
    exact hh
/-- x[:hi] by an equation of what it gives. -/
theorem wpList_slice_high {P : Program} {ops : Array Oper} {rest : List Oper} {o : Oper} {a : Act} {w : World} {Q : Exit → Act → World → Prop} (hg : o.guard = none) (t : TypeId) (x hi : Operand) (ho : o.op = .slice t x none (some hi) none)
    {vx vl vr : Value} (hx : a.eval x = vx) (hl : a.eval hi = vl) (ht : P.underlying t = some (.slice (P.elem t))) (hr : (Instr.slice t vx none (some vl) none).run P w = .ok vr w)
    (h : wpList P ops Q rest (a.put o.dst vr) w) : wpList P ops Q (o :: rest) a w :=
  wpList_plain hg fun _ hK => by
    unfold Oper.wp execOp
    simp only [ho, hx, hl, Option.map_some, Option.map_none, Sem.run_bind, run_sliceAt_slice w t vx none (some vl) none ht, hr, Sem.run_pure, Result.andThen_ok]
    exact hK _ _ h
theorem ownsRow_bytes_form {w : World} {B : Nat} {e : TypeId} {v : Value} {n : Nat} {l : List UInt8} (h : w.ownsRow B e 1 v n (l.map byteV)) : ∃ ao c, v = .slice ao n c := by
  obtain ⟨ao, c, hv⟩ := h.reads.form
  have hl := h.1
  exact ⟨ao, c, by rw [hv]; simp at hl ⊢; omega⟩
theorem oneCell_bytes (l : List UInt8) : ∀ u ∈ l.map byteV, u.oneCell' = true := by
  intro u hu
  obtain ⟨c, _, rfl⟩ := List.mem_map.1 hu
  rfl
theorem ownsRow_far2 {w w' : World} {B : Nat} {e : TypeId} {size : Nat} {v : Value} {n : Nat} {xs : List Value} (h : w.ownsRow B e size v n xs) (hh : ∀ k, B ≤ k → w'.heap[k]? = w.heap[k]?) : w'.ownsRow B e size v n xs := by
  refine ⟨h.1, ?_⟩
  rcases h.2 with hn | ⟨g, cap, cur, rfl, hbg, hgg, rest⟩
  · exact .inl hn
  · exact .inr ⟨g, cap, cur, rfl, hbg, (hh g hbg).trans hgg, rest⟩
theorem ownsRow_form2 {w : World} {B : Nat} {e : TypeId} {v : Value} {n : Nat} {L : List Fld} (h : w.ownsRow B e 2 v n (fldCells L)) : ∃ ao c, v = .slice ao n c := by
  obtain ⟨e1, h2⟩ := h.reads2
  obtain ⟨ao, c, rfl⟩ := h2.form
  exact ⟨ao, c, by rw [e1]⟩
end Go.Pantry
