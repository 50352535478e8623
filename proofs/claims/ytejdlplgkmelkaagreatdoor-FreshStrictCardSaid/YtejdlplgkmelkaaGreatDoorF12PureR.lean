/-
  Rows of rules: sites, each with a number. No program is imported.
-/
import Derived.Test.YtejdlplgkmelkaaGreatDoorF1201
import Derived.Deep.MidRow
import Derived.Test.YtejdlplgkmelkaaGreatDoorHeldA
set_option linter.unusedVariables false
set_option linter.unusedSimpArgs false

namespace Go.Pantry
open Go.RowKit

/-- a site, and a number: since when -/
abbrev RuleZ := SiteZ × Value × Int
abbrev rowRz (r : RuleZ) : Array Value := #[strV r.1.host, .int .i64 r.1.origin, .int .i64 r.1.min, .int .i64 r.1.max, .bool r.1.query, .bool r.1.keep, r.2.1, .int .i64 r.2.2]
def rowsR (L : List RuleZ) : List Value := L.flatMap fun x => (rowRz x).toList
theorem rowsR_len : ∀ L : List RuleZ, (rowsR L).length = 8 * L.length
  | [] => rfl
  | x :: L => by
    have := rowsR_len L
    unfold rowsR at this ⊢
    rw [List.flatMap_cons, List.length_append, this, List.length_cons]
    simp; omega
theorem rowsR_at : ∀ (L : List RuleZ) (j i : Nat) (x : RuleZ), L[j]? = some x → i < 8 → (rowsR L)[j * 8 + i]? = (rowRz x)[i]?
  | [], j, i, x, h, _ => by cases h
  | y :: L, 0, i, x, h, hi => by
    cases h
    unfold rowsR
    rw [List.flatMap_cons, Nat.zero_mul, Nat.zero_add, List.getElem?_append_left (by simpa using hi), Array.getElem?_toList]
  | y :: L, j + 1, i, x, h, hi => by
    have := rowsR_at L j i x (by simpa using h) hi
    unfold rowsR at this ⊢
    rw [List.flatMap_cons, List.getElem?_append_right (by simp; omega), ← this]
    congr 1
    simp; omega
theorem rowsR_snoc (L : List RuleZ) (x : RuleZ) : rowsR (L ++ [x]) = rowsR L ++ (rowRz x).toList := by
  unfold rowsR; rw [List.flatMap_append]; simp
/-- v is a slice whose elements are these rules -/
structure ReadsR (w : World) (v : Value) (L : List RuleZ) : Prop where
  form : ∃ ao cap, v = .slice ao L.length cap ∧ ∀ (j : Nat) x, L[j]? = some x → ∃ b off, ao = some ⟨b, off, none⟩ ∧ ∀ (i : Nat) u, (rowRz x)[i]? = some u → w.cell? ⟨b, off + j * 8 + i, none⟩ = some u
  heads : ∀ x ∈ L, Reads w x.2.1 (x.1.heads.map strV)
theorem ReadsR.below {w w' : World} {v : Value} {L : List RuleZ} (h : ReadsR w v L) (hb : Below w.heap.size w w') : ReadsR w' v L := by
  obtain ⟨ao, cap, hv, hc⟩ := h.form
  refine ⟨⟨ao, cap, hv, fun j x hj => ?_⟩, fun x hx => (h.heads x hx).below hb⟩
  obtain ⟨b, off, ha, hcell⟩ := hc j x hj
  exact ⟨b, off, ha, fun i u hu => kept (hcell i u hu) hb⟩
theorem ReadsR.at_ {w : World} {ao : Option Addr} {n cap : Nat} {L : List RuleZ} (h : ReadsR w (.slice ao n cap) L) {j : Nat} {x : RuleZ} (hj : L[j]? = some x) :
    ∃ b off, ao = some ⟨b, off, none⟩ ∧ ∀ (i : Nat) u, (rowRz x)[i]? = some u → w.cell? ⟨b, off + j * 8 + i, none⟩ = some u := by
  obtain ⟨ao', cap', hv, hc⟩ := h.form
  cases hv
  exact hc j x hj
theorem ReadsR.nil (w : World) (cap : Nat) : ReadsR w (.slice none 0 cap) [] := ⟨⟨none, cap, rfl, fun j x h => by cases h⟩, fun x h => absurd h List.not_mem_nil⟩
theorem readsR_own {w : World} {B : Nat} {e : TypeId} {v : Value} {n : Nat} {L : List RuleZ} (h : w.ownsRow B e 8 v n (rowsR L)) (hh : ∀ x ∈ L, Reads w x.2.1 (x.1.heads.map strV)) : ReadsR w v L := by
  have hl : n = L.length := by have h1 := h.1; rw [rowsR_len] at h1; omega
  refine ⟨?_, hh⟩
  rcases h.2 with ⟨rfl, hn⟩ | ⟨g, cap, cur, rfl, hb, hg, hnc, hcm, hcs, htake⟩
  · refine ⟨none, 0, by rw [← hl, hn], fun j x hj => ?_⟩
    have : j < L.length := (List.getElem?_eq_some_iff.1 hj).1
    omega
  · refine ⟨some ⟨g, 0, none⟩, cap, by rw [hl], fun j x hj => ⟨g, 0, rfl, fun i u hu => ?_⟩⟩
    have hi : i < 8 := by
      by_cases e : i < 8
      · exact e
      · have : (rowRz x)[i]? = none := Array.getElem?_eq_none (by simp; omega)
        rw [this] at hu; cases hu
    have := h.cells (g := g) rfl (j * 8 + i) u (by rw [rowsR_at L j i x hj hi]; exact hu)
    rw [addAt2] at this
    rw [show 0 + j * 8 + i = 0 + (j * 8 + i) by omega]
    exact this
/-- the sites of rules; the sites, and since when each is -/
def zT (L : List RuleZ) : List (SiteZ × Value) := L.map fun x => (x.1, x.2.1)
def tT (L : List RuleZ) : List (SiteZ × Int) := L.map fun x => (x.1, x.2.2)
theorem zT_len (L : List RuleZ) : (zT L).length = L.length := by simp [zT]
theorem tT_len (L : List RuleZ) : (tT L).length = L.length := by simp [tT]
theorem zT_map (L : List RuleZ) : (zT L).map (·.1) = L.map (·.1) := by unfold zT; rw [List.map_map]; rfl
theorem tT_map (L : List RuleZ) : (tT L).map (·.1) = L.map (·.1) := by unfold tT; rw [List.map_map]; rfl
theorem tT_find (L : List RuleZ) (h : List UInt8) : (tT L).find? (fun r => r.1.host == h) = (L.find? (fun x => x.1.host == h)).map fun x => (x.1, x.2.2) := by
  unfold tT
  rw [List.find?_map]
  rfl
/-- how much the sites of a table may hold -/
structure FewR (L : List RuleZ) : Prop where
  len : L.length ≤ 1000000
  room : ∀ x ∈ L, Room x.2.1
  host : ∀ x ∈ L, x.1.host.length ≤ 100000
  heads : ∀ x ∈ L, x.1.heads.length ≤ 1000000
  texts : ∀ x ∈ L, ∀ y ∈ x.1.heads, y.length ≤ 100000
theorem room_ofOwn {w : World} {B : Nat} {e : TypeId} {size : Nat} {v : Value} {n : Nat} {xs : List Value} (h : w.ownsRow B e size v n xs) : Room v := by
  rcases h.2 with ⟨rfl, hn⟩ | ⟨g, cap, cur, rfl, hb, hg, hnc, hcm, hcs, htake⟩
  · exact fun ao n' c e => by cases e; omega
  · exact room_of hnc
/-- a row that the call has made, with slices of texts of its own: all of them above block B -/
structure OwnAt (w : World) (e : TypeId) (size : Nat) (ts : TypeId) (B : Nat) (sv : Value) (n : Nat) (xs : List Value) (hs : List (Value × List (List UInt8))) : Prop where
  own : w.ownsRow 0 e size sv n xs
  heads : ∀ x ∈ hs, w.ownsRow 0 ts 1 x.1 x.2.length (x.2.map strV)
  apart : ∀ x ∈ hs, In (fun k => B < k ∧ sv.ownBlock ≠ some k) x.1
  inn : In (fun k => B < k) sv
theorem OwnAt.kept {X : Nat → Prop} {w w' : World} {e : TypeId} {size : Nat} {ts : TypeId} {B : Nat} {sv : Value} {n : Nat} {xs : List Value} {hs : List (Value × List (List UInt8))} (h : OwnAt w e size ts B sv n xs hs) (hk : Kept X w w') (hx : ∀ k, B < k → k < w.heap.size → ¬ X k) : OwnAt w' e size ts B sv n xs hs :=
  ⟨ownsRow_kept h.own hk (fun k hk => hx k (h.inn k hk) (h.own.lt k hk).2), fun x hm => ownsRow_kept (h.heads x hm) hk (fun k hk => hx k (h.apart x hm k hk).1 ((h.heads x hm).lt k hk).2), h.apart, h.inn⟩
theorem OwnAt.below {w w' : World} {e : TypeId} {size : Nat} {ts : TypeId} {B : Nat} {sv : Value} {n : Nat} {xs : List Value} {hs : List (Value × List (List UInt8))} (h : OwnAt w e size ts B sv n xs hs) (hb : Below w.heap.size w w') : OwnAt w' e size ts B sv n xs hs :=
  h.kept (Kept.of_below (X := fun _ => False) hb) (fun _ _ _ h => h)
theorem OwnAt.nil (w : World) (e : TypeId) (size : Nat) (ts : TypeId) (B : Nat) : OwnAt w e size ts B (.slice none 0 0) 0 [] [] :=
  ⟨World.ownsRow_nil _ _ _ _, (fun _ h => absurd h (List.not_mem_nil)), (fun _ h => absurd h (List.not_mem_nil)), In.nil _ _⟩
theorem OwnAt.more {w w' : World} {e : TypeId} {size : Nat} {ts : TypeId} {B M : Nat} {sv v' hv : Value} {hd : List (List UInt8)} {n : Nat} {xs row : List Value} {hs : List (Value × List (List UInt8))} (h : OwnAt w e size ts B sv n xs hs)
    (ho : w.ownsRow M ts 1 hv hd.length (hd.map strV)) (hM : B < M) (hs0 : ∀ k, sv.ownBlock = some k → k < M)
    (ho6 : w'.ownsRow 0 e size v' (n + 1) (xs ++ row)) (hg6 : w.grownBy w' sv.ownBlock) (hi6 : In (fun k => sv.ownBlock = some k ∨ w.heap.size ≤ k) v') (hB : B < w.heap.size) : OwnAt w' e size ts B v' (n + 1) (xs ++ row) (hs ++ [(hv, hd)]) := by
  have kk : Kept (fun k => sv.ownBlock = some k) w w' := (Kept.refl (fun k => sv.ownBlock = some k) w).grown hg6 (fun k hk _ => hk)
  have hall : ∀ x ∈ hs ++ [(hv, hd)], w.ownsRow 0 ts 1 x.1 x.2.length (x.2.map strV) ∧ In (fun k => B < k ∧ sv.ownBlock ≠ some k) x.1 := by
    intro x hx
    rcases List.mem_append.1 hx with e | e
    · exact ⟨h.heads x e, h.apart x e⟩
    · rw [List.mem_singleton] at e
      subst e
      refine ⟨ho.base (Nat.zero_le _), fun k hk => ?_⟩
      have h1 := (ho.lt k hk).1
      exact ⟨by omega, fun e => by have := hs0 k e; omega⟩
  refine ⟨ho6, fun x hx => ownsRow_kept (hall x hx).1 kk (fun k hk => ((hall x hx).2 k hk).2), fun x hx k hk => ⟨((hall x hx).2 k hk).1, fun e => ?_⟩, fun k hk => ?_⟩
  · rcases hi6 k e with e1 | e1
    · exact ((hall x hx).2 k hk).2 e1
    · have := ((hall x hx).1.lt k hk).2; omega
  · rcases hi6 k hk with e1 | e1
    · exact h.inn k e1
    · omega
/-! the site that lies in a rule's box -/
theorem site_range {w : World} {g : Nat} {r : RuleZ} {t : TypeId} (h : rowIs w g (rowRz r) t) : w.rangeAt g 0 (rowZ r.2.1 r.1).toList := fun j v hv => by
  rw [Nat.zero_add, h.cell j]
  have hj : j < 7 := (List.getElem?_eq_some_iff.1 hv).1
  rw [← hv, Array.getElem?_toList]
  match j, hj with
  | 0, _ | 1, _ | 2, _ | 3, _ | 4, _ | 5, _ | 6, _ => rfl
theorem site_there {w : World} {g : Nat} {r : RuleZ} {t : TypeId} (h : rowIs w g (rowRz r) t) : w.there g 0 7 := fun j hj => by
  rw [Nat.zero_add, h.cell j]
  refine ⟨?_, h.free j⟩
  match j, hj with
  | 0, _ | 1, _ | 2, _ | 3, _ | 4, _ | 5, _ | 6, _ => rfl
theorem setCells_site {w : World} {g : Nat} {r : RuleZ} {t : TypeId} (h : rowIs w g (rowRz r) t) (v : Value) (s : SiteZ) : w.setCells g 0 (rowZ v s).toList = w.setRow g (rowRz (s, v, r.2.2)) := by
  have step : ∀ {W : World} {cs : Array Value} (hW : rowIs W g cs t) (i : Nat) (x : Value), W.setCell ⟨g, i, none⟩ x = W.setRow g (cs.setIfInBounds i x) := fun hW i x => setCell_eq_setRow _ g i _ t (0, 0) x hW
  simp only [World.setCells]
  rw [step h, step (h.setRow _), setRow_setRow, step (h.setRow _), setRow_setRow, step (h.setRow _), setRow_setRow, step (h.setRow _), setRow_setRow, step (h.setRow _), setRow_setRow, step (h.setRow _), setRow_setRow]
  rfl
theorem wpList_load_site {P : Program} {ops : Array Oper} {rest : List Oper} {op : Oper} {a : Act} {w : World} {Q : Exit → Act → World → Prop} (hgd : op.guard = none) (ty : TypeId) (x : Operand) (ho : op.op = .load ty x)
    (g : Nat) (hx : a.eval x = .pointer (some ⟨g, 0, none⟩)) {r : RuleZ} {t : TypeId} (hr : rowIs w g (rowRz r) t) {d : TypeDesc}
    (hu : P.underlying ty = some d) (hd : d.isRow = true) (hi : (P.info? ty).map (·.size) = some 7)
    (h : wpList P ops Q rest (a.put op.dst (.agg (rowZ r.2.1 r.1))) w) : wpList P ops Q (op :: rest) a w :=
  wpList_load_mid hgd ty x ho g 0 hx (rowZ r.2.1 r.1).toList d (site_range hr) hu hd hi h
theorem wpList_store_site {P : Program} {ops : Array Oper} {rest : List Oper} {op : Oper} {a : Act} {w : World} {Q : Exit → Act → World → Prop} (hgd : op.guard = none) (ty : TypeId) (x y : Operand) (ho : op.op = .store ty x y)
    (g : Nat) (v : Value) (s : SiteZ) (hx : a.eval x = .pointer (some ⟨g, 0, none⟩)) (hy : a.eval y = .agg (rowZ v s)) {r : RuleZ} {t : TypeId} (hr : rowIs w g (rowRz r) t) (hi : (P.info? ty).map (·.size) = some 7) (h1 : (rowZ v s).all (·.oneCell') = true)
    (h : wpList P ops Q rest (a.put op.dst undef) (w.setRow g (rowRz (s, v, r.2.2)))) : wpList P ops Q (op :: rest) a w :=
  wpList_store_mid hgd ty x y ho g 0 (rowZ v s) hx hy (site_there hr) hi h1 (by rw [setCells_site hr]; exact h)
theorem load_site {P : Program} {ρ : Operand → Value} {o : Oper} {ty : TypeId} {x : Operand} (ho : o.op = .load ty x) {W : World} (g : Nat) (hx : ρ x = .pointer (some ⟨g, 0, none⟩)) {r : RuleZ} {e : TypeId} {d : TypeDesc} (hg : rowIs W g (rowRz r) e)
    (hu : P.underlying ty = some d) (hd : d.isRow = true) (hi : (P.info? ty).map (·.size) = some 7) : (execOp ρ o).run P W = .ok (.value (.agg (rowZ r.2.1 r.1))) W := by
  unfold execOp
  simp only [ho, hx, Instr.loadAt, Instr.sureAddr, Sem.run_bind, Sem.run_pure, Result.andThen_ok, run_loadVar_mid W g 0 ty (rowZ r.2.1 r.1).toList d (site_range hg) hu hd hi]
/-! append, as far as the reach goes -/
theorem wpList_append_allZ {P : Program} {ops : Array Oper} {rest : List Oper} {o : Oper} {a : Act} {Q : Exit → Act → World → Prop} (w : World) (hgd : o.guard = none) (s x : Operand) (t : TypeId)
    (ho : o.op = .call { callee := .builtin .append, args := #[s, x], argTypes := #[t, t] })
    (B : Nat) (e : TypeId) {z : Value} {bytes : Nat} (ht : P.underlying t = some (.slice e)) (hi : (P.info? e).map (fun i => (i.zero, i.size, i.bytes)) = some (some z, 1, bytes)) (hzs : z.cells.size = 1)
    {v : Value} {n : Nat} {xs : List Value} (hs : a.eval s = v) (hown : w.ownsRow B e 1 v n xs) {vx : Value} {ys : List Value} (hr : Reads w vx ys) (hys : ∀ u ∈ ys, u.oneCell' = true)
    (hx : a.eval x = vx) (hn : n + ys.length ≤ maxLen) (hbz : (n + ys.length) * bytes ≤ 140737488355328) (hB : B ≤ w.heap.size)
    (h : ∀ v' w', w'.ownsRow B e 1 v' (n + ys.length) (xs ++ ys) → w.grownBy w' v.ownBlock → Below B w w' → wpList P ops Q rest (a.put o.dst v') w') :
    wpList P ops Q (o :: rest) a w := by
  obtain ⟨i0, h1, h2, h3, h4⟩ := info_parts hi
  obtain ⟨ao, cap, rfl, hc, hz⟩ := hr
  cases ao with
  | none =>
    have hnil : ys = [] := by
      cases ys with
      | nil => rfl
      | cons y ys => obtain ⟨b, off, he, _⟩ := hc 0 y rfl; cases he
    subst hnil
    rw [hz rfl] at hx
    refine wpList_append_own_none hgd s x t ho B e i0 1 ht h1 v n xs hs hown hx ?_
    have hw := h v w (by simpa using hown) (World.grownBy.refl _ _) (Below.refl _ _)
    exact hw
  | some ad =>
    refine wpList_append_own w hgd s x t ho B e i0 z 1 bytes ht h1 h2 h3 h4 hzs (by decide) v n xs hs hown ad ys.length cap ys hx (by simp) ?_ hys hn hbz hB ?_
    · intro j u hj
      obtain ⟨b, off, he, hcell⟩ := hc j u hj
      cases he
      have e0 : (⟨b, off, none⟩ : Addr).add j = ⟨b, off + j, none⟩ := by unfold Addr.add; split <;> simp_all
      rw [e0]; exact hcell
    · intro v' w' ho' hg _
      exact h v' w' ho' hg ((Below.refl B w).grown hg hB (fun k hk => (hown.lt k hk).1))
theorem wp_append_genZ {P : Program} (w : World) {o : Oper} {a : Act} {K : Act → World → Prop} {Q : Exit → Act → World → Prop} (s x : Operand) (t : TypeId)
    (ho : o.op = .call { callee := .builtin .append, args := #[s, x], argTypes := #[t, t] })
    (B : Nat) (e : TypeId) {z : Value} {sz bytes : Nat} (ht : P.underlying t = some (.slice e)) (hi : (P.info? e).map (fun i => (i.zero, i.size, i.bytes)) = some (some z, sz, bytes)) (hzs : z.cells.size = sz) (hsz : 0 < sz)
    {v : Value} {n : Nat} {xs : List Value} (hs : a.eval s = v) (hown : w.ownsRow B e sz v n xs)
    (ad : Addr) (m c : Nat) (news : List Value) (hl : news.length = m * sz) (hnews : ∀ (j : Nat) u, news[j]? = some u → w.cell? (ad.add j) = some u) (h1 : ∀ u ∈ news, u.oneCell' = true)
    (hx : a.eval x = .slice (some ad) m c) (h63 : n + m ≤ maxLen) (hbz : (n + m) * bytes ≤ 140737488355328) (hB : B ≤ w.heap.size)
    (h : ∀ v' w', w'.ownsRow B e sz v' (n + m) (xs ++ news) → w.grownBy w' v.ownBlock → In (fun k => v.ownBlock = some k ∨ w.heap.size ≤ k) v' → K (a.put o.dst v') w') :
    Oper.wp P o a w K Q := by
  obtain ⟨i0, g1, g2, g3, g4⟩ := info_parts hi
  obtain ⟨v', w', hrun, h2, h3, -⟩ := run_append_own (P := P) w B t o.type e i0 z sz bytes ht g1 g2 g3 g4 hzs hsz v n xs hown ad m c news hl hnews h1 h63 hbz hB
  have h4 := append_where ht g1 g2 g3 g4 hown ad m c news hl hnews h1 h63 hbz hrun
  unfold Oper.wp execOp
  simp only [ho, resolve, invoke, builtin, Sem.run_bind, Sem.run_pure, Result.andThen_ok, List.map_toArray, List.map_cons, List.map_nil, hs, hx, hrun]
  exact h v' w' h2 h3 h4
end Go.Pantry
