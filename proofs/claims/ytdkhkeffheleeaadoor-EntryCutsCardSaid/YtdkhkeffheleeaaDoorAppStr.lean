/-
  append of a string onto a slice of bytes that the call owns. No program is imported.
-/
import Derived.Test.YtdkhkeffheleeaaDoorPureAll1
import Derived.Lib.AppendStr
set_option linter.unusedVariables false
set_option linter.unusedSimpArgs false
namespace Go.Pantry
open Go.RowKit

theorem strCells_map (l : List UInt8) : Lib.strCells ⟨l.toArray⟩ = l.map byteV := by
  simp [Lib.strCells]
/-- append(out, s...), s a string; out nil or the call's own. -/
theorem wpList_append_str {P : Program} {ops : Array Oper} {rest : List Oper} {o : Oper} {a : Act} {Q : Exit → Act → World → Prop} (w : World) (hgd : o.guard = none) (s x : Operand) (t u : TypeId)
    (ho : o.op = .call { callee := .builtin .append, args := #[s, x], argTypes := #[t, u] })
    (B : Nat) (e : TypeId) (ht : P.underlying t = some (.slice e)) (hu : P.underlying u = some .string) (hi : (P.info? e).map (fun i => (i.zero, i.size, i.bytes)) = some (some (.int .u8 0), 1, 1))
    {v : Value} {n : Nat} {xs : List Value} (hs : a.eval s = v) (hown : w.ownsRow B e 1 v n xs) {l : List UInt8} (hx : a.eval x = strV l) (hn : n + l.length < 4294967296) (hB : B ≤ w.heap.size)
    (h : ∀ v' w', w'.ownsRow B e 1 v' (n + l.length) (xs ++ l.map byteV) → Below B w w' → wpList P ops Q rest (a.put o.dst v') w') :
    wpList P ops Q (o :: rest) a w := by
  obtain ⟨i0, h1, h2, h3, h4⟩ := info_parts hi
  have hsz : (⟨l.toArray⟩ : ByteArray).size = l.length := by simp [ByteArray.size]
  refine Lib.wpList_append_own_string w hgd s x t u ho B e i0 ht hu h1 h2 h3 h4 v n xs hs hown ⟨l.toArray⟩ hx (by rw [hsz]; unfold maxLen; omega) (by rw [hsz]; omega) hB ?_
  intro v' w' ho' hg _
  rw [hsz, strCells_map] at ho'
  exact h v' w' ho' ((Below.refl B w).grown hg hB (fun k hk => (hown.lt k hk).1))
theorem row_text {w : World} {B : Nat} {e : TypeId} {v : Value} {L T R : List UInt8} (h : w.ownsRow B e 1 v (L.length + T.length) (L.map byteV ++ T.map byteV)) (hR : R = L ++ T) : w.ownsRow B e 1 v R.length (R.map byteV) := by
  subst hR; simpa using h
end Go.Pantry
