/-
  Package disk: a disk in its box, what stands, what is pending; has, lasts, Len, Down, Arm.
-/
import Derived.Test.YtgdeiokaicjkdaaLaw15R
import Derived.Test.YtgdeiokaicjkdaaPureMapD
set_option linter.unusedVariables false
set_option linter.unusedSimpArgs false
namespace Go.Proofs.Ytgdeiokaicjkdaa
open Go.RowKit Go.Pantry

theorem lawI : Maps.Keyed Try.prog 3 := Maps.int_keyed Try.underlying3
/-- a disk of N sectors in its box g; gs: what stands; gm: what is pending; gb: what is bad -/
structure LAt (w : World) (g gs gm gb N : Nat) (left : Int) (D : DataW Value) (m : DiskM) : Prop where
  row : rowIs w g #[.slice (some ⟨gs, 0, none⟩) N N, .map (some gm), .slice (some ⟨gb, 0, none⟩) N N, .int .i64 left, .bool m.down] 61
  os : SecRow w gs m.stands 64
  om : w.ownsMap Try.prog 3 secElem gm (Maps.size D) D
  ob : rowIs w gb (m.bad.map .bool).toArray 4
  pd : PendAt D m.pend
  ok : DiskOk N m
  n0 : 0 < N
  n1 : N ≤ 4096
  lo : -1 ≤ left
  hi : left ≤ 9223372036854775807
  lf : m.down = false → left = match m.arm with | none => -1 | some k => (k : Int)
  ne : g ≠ gs ∧ g ≠ gm ∧ g ≠ gb ∧ gs ≠ gm ∧ gs ≠ gb ∧ gm ≠ gb
/-- its blocks -/
def FL (g gs gm gb : Nat) (k : Nat) : Prop := k = g ∨ k = gs ∨ k = gm ∨ k = gb
theorem map_kept {X : Nat → Prop} {w w' : World} {P : Program} {t : TypeId} {R : Value → Option (DataW Value × List MemPlace)} {b n : Nat} {D : DataW Value} (h : w.ownsMap P t R b n D) (hk : Kept X w w') (hx : ¬ X b) : w'.ownsMap P t R b n D := by
  have hl := h.lt
  obtain ⟨es, clock, hb, F, hs, hD⟩ := h
  exact ⟨es, clock, (hk.2 b hl hx).trans hb, F, hs, hD⟩
theorem LAt.kept {X : Nat → Prop} {w w' : World} {g gs gm gb N : Nat} {left : Int} {D : DataW Value} {m : DiskM} (h : LAt w g gs gm gb N left D m) (hk : Kept X w w') (hx : ∀ k, FL g gs gm gb k → ¬ X k) : LAt w' g gs gm gb N left D m :=
  ⟨h.row.kept hk (hx g (.inl rfl)), h.os.kept hk (hx gs (.inr (.inl rfl))), map_kept h.om hk (hx gm (.inr (.inr (.inl rfl)))), h.ob.kept hk (hx gb (.inr (.inr (.inr rfl)))), h.pd, h.ok, h.n0, h.n1, h.lo, h.hi, h.lf, h.ne⟩
theorem LAt.lt {w : World} {g gs gm gb N : Nat} {left : Int} {D : DataW Value} {m : DiskM} (h : LAt w g gs gm gb N left D m) {k : Nat} (hk : FL g gs gm gb k) : k < w.heap.size := by
  rcases hk with rfl | rfl | rfl | rfl
  · exact h.row.lt
  · exact h.os.lt
  · exact h.om.lt
  · exact h.ob.lt
theorem LAt.size {w : World} {g gs gm gb N : Nat} {left : Int} {D : DataW Value} {m : DiskM} (h : LAt w g gs gm gb N left D m) : Maps.size D ≤ 4096 := by
  obtain ⟨es, hD, hp, hk⟩ := h.om.entries lawI
  have := h.pd.size hD hp hk
  have h2 := h.ok.lenP
  have h3 := h.n1
  omega
/-- a map, its bound made small again -/
theorem map_small {w : World} {P : Program} {t : TypeId} {R : Value → Option (DataW Value × List MemPlace)} {b n : Nat} {D : DataW Value} (h : w.ownsMap P t R b n D) : w.ownsMap P t R b (Maps.size D) D := by
  obtain ⟨es, clock, hb, F, hs, rfl⟩ := h
  exact ⟨es, clock, hb, F, by simp [Maps.size, length_sorted], rfl⟩
/-- the box alone is written -/
theorem LAt.box {w w' : World} {g gs gm gb N : Nat} {left left' : Int} {D : DataW Value} {m : DiskM} (h : LAt w g gs gm gb N left D m) (hk : Kept (fun k => k = g) w w') (a : Option Nat) (dn : Bool)
    (hr : rowIs w' g #[.slice (some ⟨gs, 0, none⟩) N N, .map (some gm), .slice (some ⟨gb, 0, none⟩) N N, .int .i64 left', .bool dn] 61) (hlo : -1 ≤ left') (hhi : left' ≤ 9223372036854775807)
    (hlf : dn = false → left' = match a with | none => -1 | some k => (k : Int)) : LAt w' g gs gm gb N left' D { m with arm := a, down := dn } :=
  ⟨hr, h.os.kept hk (fun e => h.ne.1 e.symm), map_kept h.om hk (fun e => h.ne.2.1 e.symm), h.ob.kept hk (fun e => h.ne.2.2.1 e.symm), h.pd, ⟨h.ok.len, h.ok.lenP, h.ok.lenB, h.ok.full, h.ok.fullP⟩, h.n0, h.n1, hlo, hhi, hlf, h.ne⟩

theorem lHas_any (g gs gm gb N : Nat) (left : Int) (D : DataW Value) (m : DiskM) (i : Int) (w : World) (h : LAt w g gs gm gb N left D m) :
    Calls Try.prog 28 #[.pointer (some ⟨g, 0, none⟩), .int .i64 i] w fun e w' => e = .returned (.bool (decide (ThereDk m i))) ∧ w = w' := by
  have h0 := h.row.cell 0
  have h1 := h.row.free 0
  have hd : decide (ThereDk m i) = (decide (0 ≤ i) && decide (i < (m.stands.length : Int))) := by unfold ThereDk; exact Bool.decide_and ..
  rw [h.ok.len] at hd
  rw [hd]
  clear h hd
  by_cases hi : 0 ≤ i
  · go_enter Try.func28, Try.ntmps28
    go_wp2
    go_ret
    simp_all
  · go_enter Try.func28, Try.ntmps28
    go_wp2
    go_ret
    refine ⟨?_, rfl⟩
    simp only [hi, decide_false, Bool.false_and]
    simp
    intro h
    omega
theorem lLen_any (g gs gm gb N : Nat) (left : Int) (D : DataW Value) (m : DiskM) (w : World) (h : LAt w g gs gm gb N left D m) :
    Calls Try.prog 11 #[.pointer (some ⟨g, 0, none⟩)] w fun e w' => e = .returned (.int .i64 (m.stands.length : Int)) ∧ Below w.heap.size w w' := by
  have h0 := h.row.cell 0
  have h1 := h.row.free 0
  rw [h.ok.len]
  clear h
  go_enter Try.func11, Try.ntmps11
  go_wp2
  go_ret
  exact ⟨rfl, Below.refl _ _⟩
theorem lDown_any (g gs gm gb N : Nat) (left : Int) (D : DataW Value) (m : DiskM) (w : World) (h : LAt w g gs gm gb N left D m) :
    Calls Try.prog 25 #[.pointer (some ⟨g, 0, none⟩)] w fun e w' => e = .returned (.bool m.down) ∧ Below w.heap.size w w' := by
  have h0 := h.row.cell 4
  have h1 := h.row.free 4
  clear h
  go_enter Try.func25, Try.ntmps25
  go_wp2
  go_ret
  exact ⟨rfl, Below.refl _ _⟩
set_option maxRecDepth 8000 in
/-- what lasts leaves: the disk, where it lay -/
theorem lLasts_any (g gs gm gb N : Nat) (left : Int) (D : DataW Value) (m : DiskM) (w : World) (h : LAt w g gs gm gb N left D m) (hd : m.down = false) :
    Calls Try.prog 31 #[.pointer (some ⟨g, 0, none⟩)] w fun e w' => e = .returned (.bool (!decide (m.arm = some 0))) ∧ Kept (fun k => k = g) w w' ∧ w'.heap.size = w.heap.size ∧ ∃ left', LAt w' g gs gm gb N left' D (if m.arm = some 0 then fellDk m else lessDk m) := by
  have h3 := h.row.cell 3
  have h4 := h.row.cell 4
  have f3 := h.row.free 3
  have f4 := h.row.free 4
  have hlf := h.lf hd
  cases ha : m.arm with
  | none =>
    rw [ha] at hlf
    replace hlf : left = -1 := hlf
    subst hlf
    have e : lessDk m = m := by unfold lessDk; rw [ha]; cases m; simp_all
    rw [if_neg (by simp), e]
    have HF := hid h
    rw [hd] at h4
    clear h e ha hd
    go_enter Try.func31, Try.ntmps31
    go_wp2
    go_ret
    exact ⟨rfl, Kept.refl _ _, rfl, _, HF.out⟩
  | some k =>
    rw [ha] at hlf
    replace hlf : left = (k : Int) := hlf
    subst hlf
    have hk := h.hi
    cases k with
    | zero =>
      rw [if_pos rfl]
      have r2 := h.row.setCell 4 (.bool true)
      have kk := (Kept.refl (fun k => k = g) w).setCell (i := 4) (.inl rfl) (.bool true)
      have HF := hid (And.intro (h.box (left' := 0) kk none true r2 (by omega) (by omega) (fun h => by cases h)) kk)
      clear h ha r2 kk hd
      go_enter Try.func31, Try.ntmps31
      go_wp2
      go_ret
      exact ⟨rfl, HF.out.2, by simp, _, HF.out.1⟩
    | succ k =>
      rw [if_neg (by simp)]
      have r2 := h.row.setCell 3 (.int .i64 (k : Int))
      have kk := (Kept.refl (fun k => k = g) w).setCell (i := 3) (.inl rfl) (.int .i64 (k : Int))
      have e : lessDk m = { m with arm := some k, down := m.down } := by unfold lessDk; rw [ha]; rfl
      have HF := hid (And.intro (h.box (left' := (k : Int)) kk (some k) m.down r2 (by omega) (by omega) (fun _ => rfl)) kk)
      rw [← e] at HF
      rw [hd] at h4
      obtain ⟨z, hz⟩ : ∃ z : Int, z = ((k + 1 : Nat) : Int) := ⟨_, rfl⟩
      have z0 : (z == 0) = false := by rw [beq_eq_false_iff_ne]; omega
      have z1 : decide (0 < z) = true := decide_eq_true (by omega)
      have z2 : IntKind.i64.wrap (z - 1) = (k : Int) := by rw [IntWalk.i64_in _ (by omega)]; omega
      rw [← hz] at h3
      clear h ha r2 kk e hd hk hz
      go_enter Try.func31, Try.ntmps31
      go_wp2
      go_ret
      exact ⟨rfl, HF.out.2, by simp, _, HF.out.1⟩
theorem lArm_any (g gs gm gb N : Nat) (left : Int) (D : DataW Value) (m : DiskM) (n : Int) (w : World) (h : LAt w g gs gm gb N left D m) (hn : n ≤ 9223372036854775807) :
    Calls Try.prog 20 #[.pointer (some ⟨g, 0, none⟩), .int .i64 n] w fun e w' => (∃ u, e = .returned u) ∧ Kept (fun k => k = g) w w' ∧ w'.heap.size = w.heap.size ∧ ∃ left', LAt w' g gs gm gb N left' D (armDk m n) := by
  have f3 := h.row.free 3
  have h3 := h.row.cell 3
  obtain ⟨z, hz, hz2⟩ : ∃ z : Int, (n < -1 ∧ z = -1 ∨ -1 ≤ n ∧ z = n) ∧ -1 ≤ z := by
    by_cases e : n < -1
    · exact ⟨-1, .inl ⟨e, rfl⟩, by omega⟩
    · exact ⟨n, .inr ⟨by omega, rfl⟩, by omega⟩
  have r2 := h.row.setCell 3 (.int .i64 z)
  have kk := (Kept.refl (fun k => k = g) w).setCell (i := 3) (.inl rfl) (.int .i64 z)
  have HF := hid (And.intro (h.box (left' := z) kk (if n < 0 then none else some n.toNat) m.down r2 (by omega) (by omega) (fun _ => by
    split
    · rename_i a ha
      split at ha
      · omega
      · cases ha
    · rename_i a ha
      split at ha
      · cases ha
      · cases ha; omega)) kk)
  clear h r2 kk
  rcases hz with ⟨e, rfl⟩ | ⟨e, rfl⟩
  all_goals
    go_enter Try.func20, Try.ntmps20
    go_wp2
  all_goals try omega
  all_goals
    go_end0
    exact ⟨⟨_, rfl⟩, HF.out.2, by simp, _, HF.out.1⟩
end Go.Proofs.Ytgdeiokaicjkdaa
