/-
  append of a whole slice of fields, told by what it changes; an append that is guarded. No program is imported.
-/
import Derived.Test.YtofkiihajhkmdaaDoorBase2
import Derived.Test.YtofkiihajhkmdaaDoorPureCtl3
namespace Go.Pantry
open Go.RowKit
theorem ownsRow_grown2 {w w' : World} {B : Nat} {r : Option Nat} {e : TypeId} {size : Nat} {v : Value} {n : Nat} {xs : List Value} (h : w.ownsRow B e size v n xs) (hg : w.grownBy w' r) (hB : ∀ k, r = some k → k < B) : w'.ownsRow B e size v n xs := by
  refine ⟨h.1, ?_⟩
  rcases h.2 with hn | ⟨g', cap, cur, rfl, hbg, hgg, rest⟩
  · exact .inl hn
  · refine .inr ⟨g', cap, cur, rfl, hbg, ?_, rest⟩
    rw [hg.block g' (Array.getElem?_eq_some_iff.1 hgg).1 (fun e => by have := hB g' e.symm; omega)]
    exact hgg
/-- the same operation, its guard struck -/
theorem wpList_unguard {P : Program} {ops : Array Oper} {rest : List Oper} {o : Oper} {a : Act} {w : World} {Q : Exit → Act → World → Prop} (hw : Region.wanted o (yielded ops a.tmps) = true)
    (h : wpList P ops Q ({ o with guard := none } :: rest) a w) : wpList P ops Q (o :: rest) a w := by
  have h2 : Region.wanted { o with guard := none } (yielded ops a.tmps) = true := rfl
  simp only [wpList, h2, if_true] at h
  simp only [wpList, hw, if_true]
  exact h
/-- append(out, more...), out nil or the call's own, whatever slice of fields more is: what it changes is its own block. -/
theorem wpList_append_fldsg {P : Program} {ops : Array Oper} {rest : List Oper} {o : Oper} {a : Act} {Q : Exit → Act → World → Prop} (w : World) (hgd : o.guard = none) (s x : Operand) (t : TypeId)
    (ho : o.op = .call { callee := .builtin .append, args := #[s, x], argTypes := #[t, t] })
    (B : Nat) (e : TypeId) {z : Value} {bytes : Nat} (ht : P.underlying t = some (.slice e)) (hi : (P.info? e).map (fun i => (i.zero, i.size, i.bytes)) = some (some z, 2, bytes)) (hzs : z.cells.size = 2)     {v : Value} {n : Nat} {L : List Fld} (hs : a.eval s = v) (hown : w.ownsRow B e 2 v n (fldCells L)) {vx : Value} {M : List Fld} (hr : Reads2 w vx M)
    (hx : a.eval x = vx) (hn : n + M.length ≤ maxLen) (hbz : (n + M.length) * bytes ≤ 140737488355328) (hB : B ≤ w.heap.size)
    (h : ∀ v' w', w'.ownsRow B e 2 v' (n + M.length) (fldCells (L ++ M)) → w.grownBy w' v.ownBlock → wpList P ops Q rest (a.put o.dst v') w') :
    wpList P ops Q (o :: rest) a w := by
  obtain ⟨i0, h1, h2, h3, h4⟩ := info_parts hi
  obtain ⟨ao, cap, rfl, hc, hz⟩ := hr
  cases ao with
  | none =>
    have hnil : M = [] := by
      cases M with
      | nil => rfl
      | cons y ys => obtain ⟨b, off, he, _⟩ := hc 0 y rfl; cases he
    subst hnil
    rw [hz.1 rfl] at hx
    refine wpList_append_own_none hgd s x t ho B e i0 2 ht h1 v n (fldCells L) hs hown hx ?_
    exact h v w (by simpa using hown) ⟨rfl, rfl, rfl, Nat.le_refl _, fun _ _ _ => rfl⟩
  | some ad =>
    have hspot : ∀ (j : Nat) (u : Value), (fldCells M)[j]? = some u → w.cell? (ad.add j) = some u := by
      intro j u hj
      have hjl : j < M.length * 2 := by have := (List.getElem?_eq_some_iff.1 hj).1; rwa [fldCells_len] at this
      have hq : j / 2 < M.length := by omega
      obtain ⟨p, hp⟩ : ∃ p, M[j / 2]? = some p := ⟨_, List.getElem?_eq_getElem hq⟩
      obtain ⟨b, off, he, g1, g2⟩ := hc (j / 2) p hp
      obtain ⟨f1, f2⟩ := fldCells_at M (j / 2) p hp
      cases he
      have e0 : (⟨b, off, none⟩ : Addr).add j = ⟨b, off + j, none⟩ := by unfold Addr.add; split <;> simp_all
      rw [e0]
      rcases Nat.mod_two_eq_zero_or_one j with h0 | h0
      · have ej : j / 2 * 2 = j := by omega
        rw [ej] at f1 g1
        rw [hj] at f1
        cases f1
        exact g1
      · have ej : j / 2 * 2 + 1 = j := by omega
        rw [ej] at f2
        rw [Nat.add_assoc, ej] at g2
        rw [hj] at f2
        cases f2
        exact g2
    refine wpList_append_own w hgd s x t ho B e i0 z 2 bytes ht h1 h2 h3 h4 hzs (by decide) v n (fldCells L) hs hown ad M.length cap (fldCells M) hx (fldCells_len M) hspot (fldCells_one M) hn hbz hB ?_
    · intro v' w' ho' hg _
      refine h v' w' ?_ hg
      rw [fldCells_append]
      exact ho'
end Go.Pantry
