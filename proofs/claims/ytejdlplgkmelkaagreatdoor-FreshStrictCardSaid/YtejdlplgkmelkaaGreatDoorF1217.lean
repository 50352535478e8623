/-
  Several texts in one: HeldB, HeldF.
-/
import Derived.Test.YtejdlplgkmelkaaGreatDoorHeldA
import Derived.Test.YtejdlplgkmelkaaGreatDoorPureAll1
set_option linter.unusedVariables false
set_option linter.unusedSimpArgs false
/-
  append of elements of any cell count within a region; what is appended may be nil. No program is imported.
-/
namespace Go.Pantry
open Go.RowKit

theorem wp_append_any {P : Program} (w : World) {o : Oper} {a : Act} {K : Act → World → Prop} {Q : Exit → Act → World → Prop} (s x : Operand) (t : TypeId)
    (ho : o.op = .call { callee := .builtin .append, args := #[s, x], argTypes := #[t, t] })
    (B : Nat) (e : TypeId) {z : Value} {sz bytes : Nat} (ht : P.underlying t = some (.slice e)) (hi : (P.info? e).map (fun i => (i.zero, i.size, i.bytes)) = some (some z, sz, bytes)) (hzs : z.cells.size = sz) (hsz : 0 < sz) (hby : bytes ≤ 4096)
    {v : Value} {n : Nat} {xs : List Value} (hs : a.eval s = v) (hown : w.ownsRow B e sz v n xs)
    (ao : Option Addr) (m c : Nat) (news : List Value) (hl : news.length = m * sz) (hnil : ao = none → m = 0 ∧ c = 0) (hnews : ∀ (j : Nat) u, news[j]? = some u → ∃ b off, ao = some ⟨b, off, none⟩ ∧ w.cell? ⟨b, off + j, none⟩ = some u) (h1 : ∀ u ∈ news, u.oneCell' = true)
    (hx : a.eval x = .slice ao m c) (hn : n + m < 4294967296) (hB : B ≤ w.heap.size)
    (h : ∀ v' w', w'.ownsRow B e sz v' (n + m) (xs ++ news) → w.grownBy w' v.ownBlock → In (fun k => v.ownBlock = some k ∨ w.heap.size ≤ k) v' → K (a.put o.dst v') w') :
    Oper.wp P o a w K Q := by
  cases ao with
  | some ad =>
    refine wp_append_gen w s x t ho B e ht hi hzs hsz hby hs hown ad m c news hl (fun j u hj => ?_) h1 hx hn hB h
    obtain ⟨b, off, he, hc⟩ := hnews j u hj
    cases he
    rw [addAt2]; exact hc
  | none =>
    obtain ⟨rfl, rfl⟩ := hnil rfl
    have hne : news = [] := List.eq_nil_of_length_eq_zero (by simpa using hl)
    subst hne
    obtain ⟨i0, g1, g2, g3, g4⟩ := info_parts hi
    have hrun := run_append_owned_none (P := P) (w := w) B t o.type e i0 sz ht g1 v n xs hown
    unfold Oper.wp execOp
    simp only [ho, resolve, invoke, builtin, Sem.run_bind, Sem.run_pure, Result.andThen_ok, List.map_toArray, List.map_cons, List.map_nil, hs, hx, hrun]
    exact h v w (by simpa using hown) (World.grownBy.refl _ _) (fun k hk => .inl hk)
end Go.Pantry
/-
  append of fields within a region. No program is imported.
-/
namespace Go.Pantry
open Go.RowKit

theorem wp_append_F {P : Program} (w : World) {o : Oper} {a : Act} {K : Act → World → Prop} {Q : Exit → Act → World → Prop} (s x : Operand) (t : TypeId)
    (ho : o.op = .call { callee := .builtin .append, args := #[s, x], argTypes := #[t, t] })
    (B : Nat) (e : TypeId) {z : Value} {bytes : Nat} (ht : P.underlying t = some (.slice e)) (hi : (P.info? e).map (fun i => (i.zero, i.size, i.bytes)) = some (some z, 2, bytes)) (hzs : z.cells.size = 2) (hby : bytes ≤ 4096)
    {v : Value} {n : Nat} {L : List Fld} (hs : a.eval s = v) (hown : w.ownsRow B e 2 v n (fldCells L)) {vx : Value} {M : List Fld} (hr : Reads2 w vx M)
    (hx : a.eval x = vx) (hn : n + M.length < 4294967296) (hB : B ≤ w.heap.size)
    (h : ∀ v' w', w'.ownsRow B e 2 v' (n + M.length) (fldCells (L ++ M)) → Below B w w' → K (a.put o.dst v') w') :
    Oper.wp P o a w K Q := by
  obtain ⟨ao, cap, rfl, hc, hz, hcap⟩ := hr
  refine wp_append_any w s x t ho B e ht hi hzs (by decide) hby hs hown ao M.length cap (fldCells M) (fldCells_len M) ?_ ?_ (fldCells_one M) hx hn hB ?_
  · intro e0
    subst e0
    have hnil : M = [] := by
      cases M with
      | nil => rfl
      | cons y ys => obtain ⟨b, off, he, _⟩ := hc 0 y rfl; cases he
    subst hnil
    exact ⟨rfl, hz rfl⟩
  · intro j u hj
    have hjl : j < M.length * 2 := by have := (List.getElem?_eq_some_iff.1 hj).1; rwa [fldCells_len] at this
    have hq : j / 2 < M.length := by omega
    obtain ⟨p, hp⟩ : ∃ p, M[j / 2]? = some p := ⟨_, List.getElem?_eq_getElem hq⟩
    obtain ⟨b, off, he, g1, g2⟩ := hc (j / 2) p hp
    obtain ⟨f1, f2⟩ := fldCells_at M (j / 2) p hp
    refine ⟨b, off, he, ?_⟩
    rcases Nat.mod_two_eq_zero_or_one j with h0 | h0
    · have ej : j / 2 * 2 = j := by omega
      rw [ej] at f1 g1
      rw [hj] at f1
      cases f1
      exact g1
    · have ej : j / 2 * 2 + 1 = j := by omega
      rw [ej] at f2
      rw [Nat.add_assoc, ej] at g2
      rw [hj] at f2
      cases f2
      exact g2
  · intro v' w' ho' hg _
    refine h v' w' ?_ ((Below.refl B w).grown hg hB (fun k hk => (hown.lt k hk).1))
    rw [fldCells_append]
    exact ho'
end Go.Pantry
