/-
  append within a region that draws its order: elements of any number of cells. No program is imported.
-/
import Derived.Test.YtgdeiokaicjkdaaPureAll2
import Derived.Test.YtgdeiokaicjkdaaHeldK
set_option linter.unusedVariables false
set_option linter.unusedSimpArgs false
namespace Go.Pantry
open Go.RowKit

theorem wp_append_gen {P : Program} (w : World) {o : Oper} {a : Act} {K : Act → World → Prop} {Q : Exit → Act → World → Prop} (s x : Operand) (t : TypeId)
    (ho : o.op = .call { callee := .builtin .append, args := #[s, x], argTypes := #[t, t] })
    (B : Nat) (e : TypeId) {z : Value} {sz bytes : Nat} (ht : P.underlying t = some (.slice e)) (hi : (P.info? e).map (fun i => (i.zero, i.size, i.bytes)) = some (some z, sz, bytes)) (hzs : z.cells.size = sz) (hsz : 0 < sz) (hby : bytes ≤ 4096)
    {v : Value} {n : Nat} {xs : List Value} (hs : a.eval s = v) (hown : w.ownsRow B e sz v n xs)
    (ad : Addr) (m c : Nat) (news : List Value) (hl : news.length = m * sz) (hnews : ∀ (j : Nat) u, news[j]? = some u → w.cell? (ad.add j) = some u) (h1 : ∀ u ∈ news, u.oneCell' = true)
    (hx : a.eval x = .slice (some ad) m c) (hn : n + m < 4294967296) (hB : B ≤ w.heap.size)
    (h : ∀ v' w', w'.ownsRow B e sz v' (n + m) (xs ++ news) → w.grownBy w' v.ownBlock → In (fun k => v.ownBlock = some k ∨ w.heap.size ≤ k) v' → K (a.put o.dst v') w') :
    Oper.wp P o a w K Q := by
  obtain ⟨i0, g1, g2, g3, g4⟩ := info_parts hi
  have h63 : n + m ≤ maxLen := by unfold maxLen; omega
  have hbz : (n + m) * bytes ≤ 140737488355328 :=
    calc (n + m) * bytes ≤ 4294967296 * 4096 := Nat.mul_le_mul (by omega) hby
      _ ≤ 140737488355328 := by decide
  obtain ⟨v', w', hrun, h2, h3, -⟩ := run_append_own (P := P) w B t o.type e i0 z sz bytes ht g1 g2 g3 g4 hzs hsz v n xs hown ad m c news hl hnews h1 h63 hbz hB
  have h4 := append_where ht g1 g2 g3 g4 hown ad m c news hl hnews h1 h63 hbz hrun
  unfold Oper.wp execOp
  simp only [ho, resolve, invoke, builtin, Sem.run_bind, Sem.run_pure, Result.andThen_ok, List.map_toArray, List.map_cons, List.map_nil, hs, hx, hrun]
  exact h v' w' h2 h3 h4
end Go.Pantry
