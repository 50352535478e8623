/-
  The document's disk: its box, what stands, what is pending; there, Arm, falls.
-/
import Derived.Test.YtgdeiokaicjkdaaInfo
import Derived.Test.YtgdeiokaicjkdaaPureAll2
import Derived.Test.YtgdeiokaicjkdaaPureAll3
import Derived.Test.YtgdeiokaicjkdaaPureDisk
set_option linter.unusedVariables false
set_option linter.unusedSimpArgs false
namespace Go.Pantry
open Go.RowKit
/-- cells that are slices of bytes, M, each in a block of S -/
structure RowsB (w : World) (S : Nat → Prop) (cs : List Value) (M : List (List UInt8)) : Prop where
  len : cs.length = M.length
  get : ∀ (k : Nat) (c : Value) (s : List UInt8), cs[k]? = some c → M[k]? = some s → Bytes w c s ∧ In S c
theorem RowsB.kept {X S : Nat → Prop} {w w' : World} {cs : List Value} {M : List (List UInt8)} (h : RowsB w S cs M) (hk : Kept X w w') (hx : ∀ k, S k → ¬ X k) : RowsB w' S cs M :=
  ⟨h.len, fun k c s hc hs => ⟨bytes_kept (h.get k c s hc hs).1 hk ((h.get k c s hc hs).2.mono hx), (h.get k c s hc hs).2⟩⟩
theorem RowsB.mono {S T : Nat → Prop} {w : World} {cs : List Value} {M : List (List UInt8)} (h : RowsB w S cs M) (hx : ∀ k, S k → T k) : RowsB w T cs M :=
  ⟨h.len, fun k c s hc hs => ⟨(h.get k c s hc hs).1, (h.get k c s hc hs).2.mono hx⟩⟩
theorem RowsB.set {S : Nat → Prop} {w : World} {cs : List Value} {M : List (List UInt8)} (h : RowsB w S cs M) (k : Nat) {c : Value} {s : List UInt8} (hb : Bytes w c s) (hi : In S c) : RowsB w S (cs.set k c) (M.set k s) := by
  refine ⟨by rw [List.length_set, List.length_set]; exact h.len, fun j c' s' hc hs => ?_⟩
  by_cases hj : k = j
  · subst hj
    rw [List.getElem?_set_self' ] at hc hs
    cases h1 : cs[k]? with
    | none => rw [h1] at hc; cases hc
    | some c1 =>
      cases h2 : M[k]? with
      | none => rw [h2] at hs; cases hs
      | some s1 =>
        rw [h1] at hc
        rw [h2] at hs
        cases hc
        cases hs
        exact ⟨hb, hi⟩
  · rw [List.getElem?_set_ne hj] at hc hs
    exact h.get j c' s' hc hs
theorem RowsB.snoc {S : Nat → Prop} {w : World} {cs : List Value} {M : List (List UInt8)} (h : RowsB w S cs M) {c : Value} {s : List UInt8} (hb : Bytes w c s) (hi : In S c) : RowsB w S (cs ++ [c]) (M ++ [s]) := by
  refine ⟨by rw [List.length_append, List.length_append, h.len]; rfl, fun j c' s' hc hs => ?_⟩
  by_cases hj : j < cs.length
  · rw [List.getElem?_append_left hj] at hc
    rw [List.getElem?_append_left (by rw [← h.len]; exact hj)] at hs
    exact h.get j c' s' hc hs
  · rw [List.getElem?_append_right (by omega)] at hc
    rw [List.getElem?_append_right (by rw [← h.len]; omega)] at hs
    by_cases h0 : j - cs.length = 0
    · rw [h0] at hc
      rw [← h.len, h0] at hs
      cases hc
      cases hs
      exact ⟨hb, hi⟩
    · obtain ⟨i, hi'⟩ : ∃ i, j - cs.length = i + 1 := ⟨j - cs.length - 1, by omega⟩
      rw [hi'] at hc
      cases hc
theorem RowsB.at {S : Nat → Prop} {w : World} {cs : List Value} {M : List (List UInt8)} (h : RowsB w S cs M) {k : Nat} (hk : k < M.length) : ∃ ao cap, cs[k]? = some (.slice ao (M.getD k []).length cap) ∧ Bytes w (.slice ao (M.getD k []).length cap) (M.getD k []) ∧ In S (.slice ao (M.getD k []).length cap) := by
  have h1 : k < cs.length := by rw [h.len]; exact hk
  have e1 := List.getElem?_eq_getElem h1
  have e2 := List.getElem?_eq_getElem hk
  have e3 : M.getD k [] = M[k] := by rw [List.getD_eq_getElem?_getD, e2]; rfl
  obtain ⟨g1, g2⟩ := h.get k _ _ e1 e2
  obtain ⟨ao, cap, hf, -⟩ := bytes_form g1
  rw [e3]
  rw [hf] at e1 g1 g2
  exact ⟨ao, cap, e1, g1, g2⟩
/-- a row of the call's own whose elements are of one cell: where it lies, and its cells -/
theorem ownsRow_cells {w : World} {B : Nat} {e : TypeId} {v : Value} {n : Nat} {xs : List Value} (h : w.ownsRow B e 1 v n xs) (hn : 0 < n) :
    ∃ g cap, v = .slice (some ⟨g, 0, none⟩) n cap ∧ xs.length = n ∧ (∀ (j : Nat) (u : Value), xs[j]? = some u → w.cell? ⟨g, j, none⟩ = some u) ∧ (∀ j, w.frozen? ⟨g, j, none⟩ = false) := by
  rcases h.2 with ⟨hv, rfl⟩ | ⟨g', cap', cur, hv, hb, hg, hnc, hcm, hcs, htake⟩
  · omega
  · refine ⟨g', cap', hv, by rw [h.1, Nat.mul_one], fun j u hj => ?_, fun j => ?_⟩
    · have hr : rowIs w g' cur e := hg
      rw [hr.cell]
      have hj2 : (cur.toList.take (n * 1))[j]? = some u := by rw [htake]; exact hj
      rw [List.getElem?_take] at hj2
      split at hj2
      · simpa using hj2
      · cases hj2
    · have hr : rowIs w g' cur e := hg
      exact hr.free j
/-- what is read stays, if its block does, or if it is empty -/
theorem reads_stay15 {X : Nat → Prop} {w w' : World} {v : Value} {xs : List Value} (h : Reads w v xs) (hk : Kept X w w') (hx : xs ≠ [] → In (fun k => ¬ X k) v) : Reads w' v xs := by
  by_cases he : xs = []
  · subst he
    obtain ⟨ao, cap, hv, -, hz⟩ := h
    exact ⟨ao, cap, hv, (fun j u hj => by cases hj), hz⟩
  · exact reads_kept h hk (hx he)
/-- a block that is read lies there -/
theorem reads_lt15 {w : World} {v : Value} {xs : List Value} (h : Reads w v xs) (hx : xs ≠ []) : In (fun k => k < w.heap.size) v := fun k hk => by
  obtain ⟨ao, cap, rfl, hc, -⟩ := h
  cases xs with
  | nil => exact absurd rfl hx
  | cons x xs =>
    obtain ⟨b, off, rfl, hcell⟩ := hc 0 x rfl
    cases hk
    exact World.block_lt_of_cell? w _ hcell
theorem row_form15 {w : World} {B : Nat} {e : TypeId} {size : Nat} {v : Value} {n : Nat} {xs : List Value} (h : w.ownsRow B e size v n xs) : ∃ ao c, v = .slice ao n c := by
  rcases h.2 with ⟨hv, rfl⟩ | ⟨g', cap', cur, hv, _⟩
  · exact ⟨none, 0, hv⟩
  · exact ⟨_, _, hv⟩
theorem ownsRow_set1 {w : World} {B : Nat} {e : TypeId} {g n cap : Nat} {xs : List Value} (h : w.ownsRow B e 1 (.slice (some ⟨g, 0, none⟩) n cap) n xs) (k : Nat) (u : Value) : (w.setCell ⟨g, k, none⟩ u).ownsRow B e 1 (.slice (some ⟨g, 0, none⟩) n cap) n (xs.set k u) := by
  refine ⟨by rw [List.length_set]; exact h.1, ?_⟩
  rcases h.2 with ⟨hv, _⟩ | ⟨g', cap', cur, hv, hb, hg, hnc, hcm, hcs, htake⟩
  · cases hv
  · cases hv
    refine .inr ⟨g, cap, cur.setIfInBounds k u, rfl, hb, ?_, hnc, hcm, by simpa using hcs, ?_⟩
    · rw [setCell_eq_setRow w g k cur e (0, 0) u hg]
      exact setRow_heap w g cur _ e _ hg
    · rw [Array.toList_setIfInBounds, ← htake, List.take_set]
end Go.Pantry
namespace Go.Proofs.Ytgdeiokaicjkdaa
open Go.RowKit Go.Pantry

/-- the document's disk in its box g: its rows' blocks vs, vp, vb, their cells ks, kp; the sectors' blocks are in S -/
structure DAt (w : World) (g : Nat) (vs vp vb : Value) (ks kp : List Value) (left : Int) (arm : Bool) (S : Nat → Prop) (m : DiskM) : Prop where
  row : rowIs w g #[vs, vp, vb, .int .i64 left, .bool arm, .bool m.down] 44
  os : w.ownsRow 0 29 1 vs m.stands.length ks
  op : w.ownsRow 0 29 1 vp m.pend.length kp
  ob : w.ownsRow 0 4 1 vb m.bad.length (m.bad.map .bool)
  rs : RowsB w S ks m.stands
  rp : RowsB w S kp m.pend
  off : m.arm = none → arm = false
  on : ∀ k : Nat, m.arm = some k → arm = true ∧ left = (k : Int) ∧ k ≤ 9223372036854775807
  inS : In (fun k => k ≠ g ∧ ¬ S k) vs
  inP : In (fun k => k ≠ g ∧ ¬ S k ∧ vs.ownBlock ≠ some k) vp
  inB : In (fun k => k ≠ g ∧ ¬ S k ∧ vs.ownBlock ≠ some k ∧ vp.ownBlock ≠ some k) vb
  sg : ¬ S g
  sl : ∀ k, S k → k < w.heap.size
/-- its blocks -/
def FD (g : Nat) (vs vp vb : Value) (S : Nat → Prop) (k : Nat) : Prop := k = g ∨ vs.ownBlock = some k ∨ vp.ownBlock = some k ∨ vb.ownBlock = some k ∨ S k
theorem DAt.kept {X S : Nat → Prop} {w w' : World} {g : Nat} {vs vp vb : Value} {ks kp : List Value} {left : Int} {arm : Bool} {m : DiskM} (h : DAt w g vs vp vb ks kp left arm S m) (hk : Kept X w w') (hx : ∀ k, FD g vs vp vb S k → ¬ X k) : DAt w' g vs vp vb ks kp left arm S m :=
  ⟨h.row.kept hk (hx g (.inl rfl)), ownsRow_kept h.os hk (fun k hk => hx k (.inr (.inl hk))), ownsRow_kept h.op hk (fun k hk => hx k (.inr (.inr (.inl hk)))), ownsRow_kept h.ob hk (fun k hk => hx k (.inr (.inr (.inr (.inl hk))))), h.rs.kept hk (fun k hk => hx k (.inr (.inr (.inr (.inr hk))))), h.rp.kept hk (fun k hk => hx k (.inr (.inr (.inr (.inr hk))))), h.off, h.on, h.inS, h.inP, h.inB, h.sg, fun k hk' => Nat.lt_of_lt_of_le (h.sl k hk') hk.size⟩
theorem DAt.lt {S : Nat → Prop} {w : World} {g : Nat} {vs vp vb : Value} {ks kp : List Value} {left : Int} {arm : Bool} {m : DiskM} (h : DAt w g vs vp vb ks kp left arm S m) {k : Nat} (hk : FD g vs vp vb S k) : k < w.heap.size := by
  rcases hk with rfl | hk | hk | hk | hk
  · exact h.row.lt
  · exact (h.os.lt k hk).2
  · exact (h.op.lt k hk).2
  · exact (h.ob.lt k hk).2
  · exact h.sl k hk
/-- the box alone is written -/
theorem DAt.box {S : Nat → Prop} {w w' : World} {g : Nat} {vs vp vb : Value} {ks kp : List Value} {left left' : Int} {arm arm' : Bool} {m : DiskM} (h : DAt w g vs vp vb ks kp left arm S m) (hk : Kept (fun k => k = g) w w') (a : Option Nat) (dn : Bool) (hr : rowIs w' g #[vs, vp, vb, .int .i64 left', .bool arm', .bool dn] 44) (hoff : a = none → arm' = false) (hon : ∀ k : Nat, a = some k → arm' = true ∧ left' = (k : Int) ∧ k ≤ 9223372036854775807) : DAt w' g vs vp vb ks kp left' arm' S { m with arm := a, down := dn } :=
  ⟨hr, ownsRow_kept h.os hk (fun k hk => (h.inS k hk).1), ownsRow_kept h.op hk (fun k hk => (h.inP k hk).1), ownsRow_kept h.ob hk (fun k hk => (h.inB k hk).1), h.rs.kept hk (fun k hk e => h.sg (e ▸ hk)), h.rp.kept hk (fun k hk e => h.sg (e ▸ hk)), hoff, hon, h.inS, h.inP, h.inB, h.sg, fun k hk' => Nat.lt_of_lt_of_le (h.sl k hk') hk.size⟩

theorem dThere_any (g : Nat) (vs vp vb : Value) (ks kp : List Value) (left : Int) (arm : Bool) (S : Nat → Prop) (m : DiskM) (i : Int) (w : World) (h : DAt w g vs vp vb ks kp left arm S m) :
    Calls Try.prog 30 #[.pointer (some ⟨g, 0, none⟩), .int .i64 i] w fun e w' => e = .returned (.bool (decide (ThereDk m i))) ∧ w = w' := by
  obtain ⟨ao, c, rfl⟩ := row_form15 h.os
  have h0 := h.row.cell 0
  have h1 := h.row.free 0
  have hd : decide (ThereDk m i) = (decide (0 ≤ i) && decide (i < (m.stands.length : Int))) := by unfold ThereDk; exact Bool.decide_and ..
  rw [hd]
  clear h hd
  by_cases hi : 0 ≤ i
  · go_enter Try.func30, Try.ntmps30
    go_wp2
    go_ret
    simp_all
  · go_enter Try.func30, Try.ntmps30
    go_wp2
    go_ret
    refine ⟨?_, rfl⟩
    simp only [hi, decide_false, Bool.false_and]
    simp
    intro h
    omega
/-- what falls leaves: the disk, where it lay -/
theorem dFalls_any (g : Nat) (vs vp vb : Value) (ks kp : List Value) (left : Int) (arm : Bool) (S : Nat → Prop) (m : DiskM) (w : World) (h : DAt w g vs vp vb ks kp left arm S m) (hd : m.down = false) :
    Calls Try.prog 32 #[.pointer (some ⟨g, 0, none⟩)] w fun e w' => e = .returned (.bool (decide (m.arm = some 0))) ∧ Kept (fun k => k = g) w w' ∧ w'.heap.size = w.heap.size ∧ ∃ left' arm', DAt w' g vs vp vb ks kp left' arm' S (if m.arm = some 0 then fellDk m else lessDk m) := by
  have h3 := h.row.cell 3
  have h4 := h.row.cell 4
  have h5 := h.row.cell 5
  have f3 := h.row.free 3
  have f4 := h.row.free 4
  have f5 := h.row.free 5
  cases ha : m.arm with
  | none =>
    obtain rfl := h.off ha
    have e : lessDk m = m := by unfold lessDk; rw [ha]; cases m; simp_all
    rw [if_neg (by simp), e]
    have HF := hid h
    clear h e ha
    go_enter Try.func32, Try.ntmps32
    go_wp2
    go_ret
    exact ⟨rfl, Kept.refl _ _, rfl, _, _, HF.out⟩
  | some k =>
    obtain ⟨rfl, rfl, hk⟩ := h.on k ha
    cases k with
    | zero =>
      rw [if_pos rfl]
      have r2 := (h.row.setCell 4 (.bool false)).setCell 5 (.bool true)
      have kk := ((Kept.refl (fun k => k = g) w).setCell (i := 4) (.inl rfl) (.bool false)).setCell (i := 5) (.inl rfl) (.bool true)
      have HF := hid (And.intro (h.box (left' := 0) (arm' := false) kk none true r2 (fun _ => rfl) (fun _ h => by cases h)) kk)
      clear h ha r2 kk
      go_enter Try.func32, Try.ntmps32
      go_wp2
      go_ret
      exact ⟨rfl, HF.out.2, by simp, _, _, HF.out.1⟩
    | succ k =>
      rw [if_neg (by simp)]
      have r2 := h.row.setCell 3 (.int .i64 (k : Int))
      have kk := (Kept.refl (fun k => k = g) w).setCell (i := 3) (.inl rfl) (.int .i64 (k : Int))
      have e : lessDk m = { m with arm := some k, down := m.down } := by unfold lessDk; rw [ha]; rfl
      have HF := hid (And.intro (h.box (left' := (k : Int)) (arm' := true) kk (some k) m.down r2 (fun h => by cases h) (fun j hj => by cases hj; exact ⟨rfl, rfl, by omega⟩)) kk)
      rw [← e] at HF
      clear h ha r2 kk e
      go_enter Try.func32, Try.ntmps32
      go_wp2
      go_ret
      exact ⟨rfl, HF.out.2, by simp, _, _, HF.out.1⟩
theorem dArm_any (g : Nat) (vs vp vb : Value) (ks kp : List Value) (left : Int) (arm : Bool) (S : Nat → Prop) (m : DiskM) (n : Int) (w : World) (h : DAt w g vs vp vb ks kp left arm S m) (hn : n ≤ 9223372036854775807) :
    Calls Try.prog 21 #[.pointer (some ⟨g, 0, none⟩), .int .i64 n] w fun e w' => (∃ u, e = .returned u) ∧ Kept (fun k => k = g) w w' ∧ w'.heap.size = w.heap.size ∧ DAt w' g vs vp vb ks kp n (decide (0 ≤ n)) S (armDk m n) := by
  have f3 := h.row.free 3
  have f4 := h.row.free 4
  have h3 := h.row.cell 3
  have h4 := h.row.cell 4
  have r2 := (h.row.setCell 4 (.bool (decide (0 ≤ n)))).setCell 3 (.int .i64 n)
  have kk := ((Kept.refl (fun k => k = g) w).setCell (i := 4) (.inl rfl) (.bool (decide (0 ≤ n)))).setCell (i := 3) (.inl rfl) (.int .i64 n)
  have HF := hid (And.intro (h.box (left' := n) (arm' := decide (0 ≤ n)) kk (if n < 0 then none else some n.toNat) m.down r2 (fun h => by
    split at h
    · exact decide_eq_false (by omega)
    · cases h) (fun k hk => by
    split at hk
    · cases hk
    · cases hk; exact ⟨decide_eq_true (by omega), by omega, by omega⟩)) kk)
  clear h r2 kk
  go_enter Try.func21, Try.ntmps21
  go_wp2
  go_end0
  exact ⟨⟨_, rfl⟩, HF.out.2, by simp, HF.out.1⟩
end Go.Proofs.Ytgdeiokaicjkdaa
