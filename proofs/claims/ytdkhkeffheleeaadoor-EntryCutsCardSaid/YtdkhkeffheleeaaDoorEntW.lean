/-
  Appends that tell where what they make lies; what a call that appends to the caller's own row leaves. No program is imported.
-/
import Derived.Test.YtdkhkeffheleeaaDoorPureAll2
import Derived.Test.YtdkhkeffheleeaaDoorAppStr
import Derived.Test.YtdkhkeffheleeaaDoorHeldA
set_option linter.unusedVariables false
set_option linter.unusedSimpArgs false
namespace Go.Pantry
open Go.RowKit
abbrev OwnL (t : TypeId) (w : World) (B : Nat) (v : Value) (l : List UInt8) : Prop := w.ownsRow B t 1 v l.length (l.map byteV)
/-- the row v of the call's own, with more behind it: v' -/
def MadeK (t : TypeId) (B : Nat) (v : Value) (l : List UInt8) (w : World) (e : Ending) (w' : World) : Prop :=
  ∃ v', e = .returned v' ∧ OwnL t w' B v' l ∧ In (fun k => v.ownBlock = some k ∨ w.heap.size ≤ k) v' ∧ Kept (fun k => v.ownBlock = some k) w w'
theorem MadeK.trans {t : TypeId} {B : Nat} {v v1 : Value} {l : List UInt8} {w w1 w2 : World} {e : Ending} (hi : In (fun k => v.ownBlock = some k ∨ w.heap.size ≤ k) v1) (hk : Kept (fun k => v.ownBlock = some k) w w1) (h : MadeK t B v1 l w1 e w2) : MadeK t B v l w e w2 := by
  obtain ⟨v', he, ho, hi2, hk2⟩ := h
  refine ⟨v', he, ho, fun k hk' => ?_, hk.trans hk2 (fun k e hlt => ?_)⟩
  · rcases hi2 k hk' with h | h
    · exact hi k h
    · have := hk.size; exact .inr (by omega)
  · rcases hi k e with h | h
    · exact h
    · omega
theorem MadeK.below {t : TypeId} {B : Nat} {v : Value} {l0 l : List UInt8} {w w' : World} {e : Ending} (ho : OwnL t w B v l0) (hB : B ≤ w.heap.size) (h : MadeK t B v l w e w') : Below B w w' := by
  obtain ⟨v', -, -, -, hk⟩ := h
  exact hk.below (fun k e _ => (ho.lt k e).1) hB
theorem wpList_append_genE {P : Program} {ops : Array Oper} {rest : List Oper} (w : World) {o : Oper} {a : Act} {Q : Exit → Act → World → Prop} (hgd : o.guard = none) (s x : Operand) (t : TypeId)
    (ho : o.op = .call { callee := .builtin .append, args := #[s, x], argTypes := #[t, t] })
    (B : Nat) (e : TypeId) {z : Value} {sz bytes : Nat} (ht : P.underlying t = some (.slice e)) (hi : (P.info? e).map (fun i => (i.zero, i.size, i.bytes)) = some (some z, sz, bytes)) (hzs : z.cells.size = sz) (hsz : 0 < sz) (hby : bytes ≤ 4096)
    {v : Value} {n : Nat} {xs : List Value} (hs : a.eval s = v) (hown : w.ownsRow B e sz v n xs)
    (ad : Addr) (m c : Nat) (news : List Value) (hl : news.length = m * sz) (hnews : ∀ (j : Nat) u, news[j]? = some u → w.cell? (ad.add j) = some u) (h1 : ∀ u ∈ news, u.oneCell' = true)
    (hx : a.eval x = .slice (some ad) m c) (hn : n + m < 4294967296) (hB : B ≤ w.heap.size)
    (h : ∀ v' w', w'.ownsRow B e sz v' (n + m) (xs ++ news) → w.grownBy w' v.ownBlock → In (fun k => v.ownBlock = some k ∨ w.heap.size ≤ k) v' → wpList P ops Q rest (a.put o.dst v') w') :
    wpList P ops Q (o :: rest) a w :=
  wpList_plain hgd fun _ hK => wp_append_gen w s x t ho B e ht hi hzs hsz hby hs hown ad m c news hl hnews h1 hx hn hB (fun v' w' a1 a2 a3 => hK _ _ (h v' w' a1 a2 a3))
/-- append(out, x) of one cell, where it lies -/
theorem wpList_append_oneE {P : Program} {ops : Array Oper} {rest : List Oper} {o : Oper} {a : Act} {Q : Exit → Act → World → Prop} (w : World) (hgd : o.guard = none) (s x : Operand) (t : TypeId)
    (ho : o.op = .call { callee := .builtin .append, args := #[s, x], argTypes := #[t, t] })
    (B : Nat) (e : TypeId) {z : Value} {bytes : Nat} (ht : P.underlying t = some (.slice e)) (hi : (P.info? e).map (fun i => (i.zero, i.size, i.bytes)) = some (some z, 1, bytes)) (hzs : z.cells.size = 1) (hby : bytes ≤ 4096)
    {v : Value} {n : Nat} {xs : List Value} (hs : a.eval s = v) (hown : w.ownsRow B e 1 v n xs) {u : Value} (hu : u.oneCell' = true)
    (hx : a.eval x = .slice (some ⟨w.heap.size, 0, none⟩) 1 1) (hn : n + 1 < 4294967296) (hB : B ≤ w.heap.size)
    (h : ∀ v' w', w'.ownsRow B e 1 v' (n + 1) (xs ++ [u]) → In (fun k => v.ownBlock = some k ∨ w.heap.size ≤ k) v' → Kept (fun k => v.ownBlock = some k) w w' → wpList P ops Q rest (a.put o.dst v') w') :
    wpList P ops Q (o :: rest) a (w.alloc (.cells #[u] e)) := by
  refine wpList_append_genE _ hgd s x t ho B e ht hi hzs (by decide) hby hs (hown.alloc _) ⟨w.heap.size, 0, none⟩ 1 1 [u] rfl (fun j y hj => ?_) (fun y hy => by simp at hy; subst hy; exact hu) hx hn (by simp; omega) (fun v' w' h1 h2 h3 => h v' w' h1 (fun k hk => ?_) ?_)
  · match j, hj with
    | 0, hj =>
      simp at hj
      subst hj
      have e0 : (⟨w.heap.size, 0, none⟩ : Addr).add 0 = ⟨w.heap.size, 0, none⟩ := rfl
      rw [e0, World.cell?_alloc_at _ _ _ _ rfl]; rfl
  · rcases h3 k hk with h4 | h4
    · exact .inl h4
    · simp at h4; exact .inr (by omega)
  · exact (Kept.of_below (below_alloc w _)).grown h2 (fun k e _ => e)
/-- append(out, f) of a field, where it lies -/
theorem wpList_append_fldE {P : Program} {ops : Array Oper} {rest : List Oper} {o : Oper} {a : Act} {Q : Exit → Act → World → Prop} (w : World) (hgd : o.guard = none) (s x : Operand) (t : TypeId)
    (ho : o.op = .call { callee := .builtin .append, args := #[s, x], argTypes := #[t, t] })
    (B : Nat) (e : TypeId) {z : Value} {bytes : Nat} (ht : P.underlying t = some (.slice e)) (hi : (P.info? e).map (fun i => (i.zero, i.size, i.bytes)) = some (some z, 2, bytes)) (hzs : z.cells.size = 2) (hby : bytes ≤ 4096)
    {v : Value} {n : Nat} {L : List Fld} (hs : a.eval s = v) (hown : w.ownsRow B e 2 v n (fldCells L)) (p : Fld)
    (hx : a.eval x = .slice (some ⟨w.heap.size, 0, none⟩) 1 1) (hn : n + 1 < 4294967296) (hB : B ≤ w.heap.size)
    (h : ∀ v' w', w'.ownsRow B e 2 v' (n + 1) (fldCells (L ++ [p])) → In (fun k => v.ownBlock = some k ∨ w.heap.size ≤ k) v' → Kept (fun k => v.ownBlock = some k) w w' → wpList P ops Q rest (a.put o.dst v') w') :
    wpList P ops Q (o :: rest) a (w.alloc (.cells #[strV p.1, strV p.2] e)) := by
  refine wpList_append_genE _ hgd s x t ho B e ht hi hzs (by decide) hby hs (hown.alloc _) ⟨w.heap.size, 0, none⟩ 1 1 [strV p.1, strV p.2] rfl (fun j y hj => ?_) (fun y hy => ?_) hx hn (by simp; omega) (fun v' w' h1 h2 h3 => h v' w' (by rw [show fldCells (L ++ [p]) = fldCells L ++ [strV p.1, strV p.2] by simp [fldCells]]; exact h1) (fun k hk => ?_) ?_)
  · have e0 : (⟨w.heap.size, 0, none⟩ : Addr).add j = ⟨w.heap.size, j, none⟩ := by unfold Addr.add; split <;> simp_all
    rw [e0, World.cell?_alloc_at _ _ _ _ rfl]
    match j, hj with
    | 0, hj => exact hj
    | 1, hj => exact hj
  · rcases List.mem_cons.1 hy with rfl | hy
    · rfl
    · rw [List.mem_singleton.1 hy]; rfl
  · rcases h3 k hk with h4 | h4
    · exact .inl h4
    · simp at h4; exact .inr (by omega)
  · exact (Kept.of_below (below_alloc w _)).grown h2 (fun k e _ => e)
/-- where an append of a string lays what it makes -/
theorem append_where_str {P : Program} {w : World} {base : Nat} {t u ty e : TypeId} {i : TypeInfo} (ht : P.underlying t = some (.slice e)) (hu : P.underlying u = some .string) (hi : P.info? e = some i) (hz : i.zero = some (.int .u8 0)) (hsize : i.size = 1) (hby : i.bytes = 1)
    {v : Value} {n : Nat} {xs : List Value} (hown : w.ownsRow base e 1 v n xs) (s : ByteArray) (h63 : n + s.size ≤ maxLen) (hbytes : n + s.size ≤ 140737488355328)
    {v' : Value} {w' : World} (hrun : (Builtin.append_ #[t, u] ty #[v, .string s]).run P w = .ok v' w') : In (fun k => v.ownBlock = some k ∨ w.heap.size ≤ k) v' := by
  have hsmall : n + s.size ≤ 9223372036854775807 := by simp only [maxLen] at h63; omega
  have hxl : xs.length = n := by simpa using hown.1
  rcases hown.2 with ⟨rfl, rfl⟩ | ⟨g, cap, cur, rfl, hbg, hg, hnc, hcm, hcs, htake⟩
  · by_cases hm : s.size = 0
    · have hf := Lib.run_firstCells_string (P := P) w 1 s
      rw [hm] at hf
      have hr : (Builtin.append_ #[t, u] ty #[.slice none 0 0, .string s]).run P w = .ok (.slice none 0 0) w := by
        simp [Builtin.append_, run_underlying ht, run_underlying hu, sizeOf, typeInfo, hi, hsize, Builtin.lenOf, hm, hf]
      rw [hr] at hrun
      cases hrun
      exact In.nil _ _
    · have hr := run_append_nil_string (P := P) w t u ty e i (.int .u8 0) ht hu hi hz s (by omega) (by omega) (by rw [hby]; omega)
      rw [hr] at hrun
      cases hrun
      intro k hk
      cases hk
      exact .inr (Nat.le_refl _)
  · by_cases hroom : n + s.size ≤ cap
    · have hcs' : cur.size = cap := by simpa using hcs
      have hr := Lib.run_append_room_string (P := P) w t u ty e i ht hu hi hsize g n cap cur hg s hroom (by omega)
      rw [hr] at hrun
      cases hrun
      intro k hk
      exact .inl hk
    · have holds : ∀ j u, xs[j]? = some u → w.cell? ((⟨g, 0, none⟩ : Addr).add j) = some u := hown.cells (g := g) rfl
      have hr := Lib.run_append_grow_string (P := P) w t u ty e i (.int .u8 0) ht hu hi hz ⟨g, 0, none⟩ n cap xs (by rw [hsize]; simpa using hxl) holds s (by omega) (by omega) (by rw [hby]; exact growslice_fits (by omega) (by omega))
      rw [hr] at hrun
      cases hrun
      intro k hk
      cases hk
      exact .inr (Nat.le_refl _)
theorem wpList_append_strE {P : Program} {ops : Array Oper} {rest : List Oper} {o : Oper} {a : Act} {Q : Exit → Act → World → Prop} (w : World) (hgd : o.guard = none) (sl x : Operand) (t u : TypeId)
    (ho : o.op = .call { callee := .builtin .append, args := #[sl, x], argTypes := #[t, u] })
    (B : Nat) (e : TypeId) (ht : P.underlying t = some (.slice e)) (hu : P.underlying u = some .string) (hi : (P.info? e).map (fun i => (i.zero, i.size, i.bytes)) = some (some (.int .u8 0), 1, 1))
    {v : Value} {n : Nat} {xs : List Value} (hs : a.eval sl = v) (hown : w.ownsRow B e 1 v n xs) {l : List UInt8} (hx : a.eval x = strV l) (hn : n + l.length < 4294967296) (hB : B ≤ w.heap.size)
    (h : ∀ v' w', w'.ownsRow B e 1 v' (n + l.length) (xs ++ l.map byteV) → In (fun k => v.ownBlock = some k ∨ w.heap.size ≤ k) v' → Kept (fun k => v.ownBlock = some k) w w' → wpList P ops Q rest (a.put o.dst v') w') :
    wpList P ops Q (o :: rest) a w := by
  obtain ⟨i0, h1, h2, h3, h4⟩ := info_parts hi
  have hsz : (⟨l.toArray⟩ : ByteArray).size = l.length := by simp [ByteArray.size]
  refine wpList_plain hgd fun K hK => ?_
  obtain ⟨v', w', hr, g2, g3, g4⟩ := Lib.run_append_own_string (P := P) w B t u o.type e i0 ht hu h1 h2 h3 h4 v n xs hown ⟨l.toArray⟩ (by rw [hsz]; unfold maxLen; omega) (by rw [hsz]; omega) hB
  have g5 := append_where_str ht hu h1 h2 h3 h4 hown ⟨l.toArray⟩ (by rw [hsz]; unfold maxLen; omega) (by rw [hsz]; omega) hr
  unfold Oper.wp execOp
  simp only [ho, resolve, invoke, builtin, Sem.run_bind, Sem.run_pure, Result.andThen_ok, List.map_toArray, List.map_cons, List.map_nil, hs, hx, hr]
  rw [hsz, strCells_map] at g2
  exact hK _ _ (h v' w' g2 g5 ((Kept.refl _ w).grown g3 (fun k e _ => e)))
end Go.Pantry
