/-
  append of elements of any cell count within a region; what is appended may be nil. No program is imported.
-/
import Derived.Test.YtbibgnflkgafiaaGreatDoorHeldA
namespace Go.Pantry
open Go.RowKit

theorem wp_append_any {P : Program} (w : World) {o : Oper} {a : Act} {K : Act → World → Prop} {Q : Exit → Act → World → Prop} (s x : Operand) (t : TypeId)
    (ho : o.op = .call { callee := .builtin .append, args := #[s, x], argTypes := #[t, t] })
    (B : Nat) (e : TypeId) {z : Value} {sz bytes : Nat} (ht : P.underlying t = some (.slice e)) (hi : (P.info? e).map (fun i => (i.zero, i.size, i.bytes)) = some (some z, sz, bytes)) (hzs : z.cells.size = sz) (hsz : 0 < sz) (hby : bytes ≤ 4096)
    {v : Value} {n : Nat} {xs : List Value} (hs : a.eval s = v) (hown : w.ownsRow B e sz v n xs)
    (ao : Option Addr) (m c : Nat) (news : List Value) (hl : news.length = m * sz) (hnil : ao = none → m = 0 ∧ c = 0) (hnews : ∀ (j : Nat) u, news[j]? = some u → ∃ b off, ao = some ⟨b, off, none⟩ ∧ w.cell? ⟨b, off + j, none⟩ = some u) (h1 : ∀ u ∈ news, u.oneCell' = true)
    (hx : a.eval x = .slice ao m c) (hn : n + m < 4294967296) (hB : B ≤ w.heap.size)
    (h : ∀ v' w', w'.ownsRow B e sz v' (n + m) (xs ++ news) → w.grownBy w' v.ownBlock → In (fun k => v.ownBlock = some k ∨ w.heap.size ≤ k) v' → K (a.put o.dst v') w') :
    Oper.wp P o a w K Q := by
  cases ao with
  | some ad =>
    refine wp_append_gen w s x t ho B e ht hi hzs hsz hby hs hown ad m c news hl (fun j u hj => ?_) h1 hx hn hB h
    obtain ⟨b, off, he, hc⟩ := hnews j u hj
    cases he
    rw [addAt2]; exact hc
  | none =>
    obtain ⟨rfl, rfl⟩ := hnil rfl
    have hne : news = [] := List.eq_nil_of_length_eq_zero (by simpa using hl)
    subst hne
    obtain ⟨i0, g1, g2, g3, g4⟩ := info_parts hi
    have hrun := run_append_owned_none (P := P) (w := w) B t o.type e i0 sz ht g1 v n xs hown
    unfold Oper.wp execOp
    simp only [ho, resolve, invoke, builtin, Sem.run_bind, Sem.run_pure, Result.andThen_ok, List.map_toArray, List.map_cons, List.map_nil, hs, hx, hrun]
    exact h v w (by simpa using hown) (World.grownBy.refl _ _) (fun k hk => .inl hk)
end Go.Pantry
