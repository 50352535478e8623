/-
  Contracts of package conf: the reader's step, expect.
-/
import Derived.Test.YtffenndchmcncaaGreatDoorConfC
namespace Go.Proofs.YtffenndchmcncaaGreatDoor
open Go.RowKit Go.Pantry

theorem RcPost.form {w : World} {g : Nat} {T : List UInt8} {q : Ps} {e : Ending} {w' : World} (h : RcPost w g T q e w') : ∃ u, e = .returned u ∧ RcOk w' g T q ∧ Kept (fun k => k = g) w w' :=
  let ⟨⟨u, hu⟩, h1, h2⟩ := h; ⟨u, hu, h1, h2⟩
/-- a callee that makes memory, in the middle of a region that reads a box -/
theorem behind_keep (g n : Nat) (t : Value) (L : Int) (wd : Value) (l : List UInt8) (w0 W : World) (hl : l.length ≤ 100000) (hm : MaxOk w0)
    (hS : W.cell? ⟨g, 2, none⟩ = some t ∧ W.cell? ⟨g, 3, none⟩ = some (.int .i64 L) ∧ W.cell? ⟨g, 4, none⟩ = some wd ∧ Below w0.heap.size w0 W) :
    Calls Tryz.prog 60 #[strV l] W fun e w' => e = .returned (strV (skipL false l)) ∧ (w'.cell? ⟨g, 2, none⟩ = some t ∧ w'.cell? ⟨g, 3, none⟩ = some (.int .i64 L) ∧ w'.cell? ⟨g, 4, none⟩ = some wd ∧ Below w0.heap.size w0 w') :=
  (behindGap_any l W hl (hm.below hS.2.2.2)).mono fun e w' h => ⟨h.1, kept hS.1 h.2, kept hS.2.1 h.2, kept hS.2.2.1 h.2, chainP hS.2.2.2 h.2⟩
/-- what step leaves of a box -/
def StepPost (w : World) (g : Nat) (T Z : List UInt8) (c0 c1 : Value) (e : Ending) (w' : World) : Prop :=
  (∃ u, e = .returned u) ∧ rowIs w' g #[c0, c1, strV T, .int .i64 ((T.length - Z.length : Nat) : Int), strV (wordL Z)] 90 ∧ Kept (fun k => k = g) w w'
set_option maxRecDepth 4000 in
theorem step_core (g n : Nat) (T u : List UInt8) (c0 c1 : Value) (w : World) (hrow : rowIs w g #[c0, c1, strV T, .int .i64 (n : Int), strV u] 90) (hl : T.length ≤ 4096) (hnu : n + u.length ≤ T.length) (hm : MaxOk w) :
    Calls Tryz.prog 43 #[.pointer (some ⟨g, 0, none⟩)] w (StepPost w g T (skipL false (T.drop (n + u.length))) c0 c1) := by
  obtain ⟨k, hk⟩ : ∃ k, u.length = k := ⟨_, rfl⟩
  obtain ⟨m, hmm⟩ : ∃ m, n + k = m := ⟨_, rfl⟩
  rw [hk, hmm] at hnu
  rw [hk, hmm]
  obtain ⟨Z, hZ⟩ : ∃ Z, skipL false (T.drop m) = Z := ⟨_, rfl⟩
  have hst : Z.length ≤ T.length := by
    rw [← hZ]
    have := skipL_le (T.drop m) false
    rw [List.length_drop] at this; omega
  obtain ⟨t, ht⟩ : ∃ t : ByteArray, (⟨T.toArray⟩ : ByteArray) = t := ⟨_, rfl⟩
  have htl : t.data.toList = T := by rw [← ht]
  have hts : t.size = T.length := by rw [← size_list, htl]
  obtain ⟨wd, hwd⟩ : ∃ wd : ByteArray, (⟨u.toArray⟩ : ByteArray) = wd := ⟨_, rfl⟩
  have hws : wd.size = k := by rw [← hwd, szL, hk]
  obtain ⟨D, hD⟩ : ∃ D, t.extract m t.size = D := ⟨_, rfl⟩
  have hDl : (strV (T.drop m) : Value) = .string D := by
    have : D.data.toList = T.drop m := by
      rw [← hD, Lib.extract_eq, htl, hts]
      exact List.take_of_length_le (by rw [List.length_drop]; exact Nat.le_refl _)
    rw [← this]
  obtain ⟨z, hz⟩ : ∃ z, Z.length = z := ⟨_, rfl⟩
  have hc2 : w.cell? ⟨g, 2, none⟩ = some (.string t) := by rw [← ht]; exact hrow.cell 2
  have hc3 : w.cell? ⟨g, 3, none⟩ = some (.int .i64 (n : Int)) := hrow.cell 3
  have hc4 : w.cell? ⟨g, 4, none⟩ = some (.string wd) := by rw [← hwd]; exact hrow.cell 4
  have cb := fun W hS => behind_keep g n (.string t) (n : Int) (.string wd) (T.drop m) w W (by rw [List.length_drop]; omega) hm hS
  rw [hDl, hZ] at cb
  rw [hZ]
  obtain ⟨R, hR⟩ : ∃ R : ByteArray, (⟨Z.toArray⟩ : ByteArray) = R := ⟨_, rfl⟩
  have hRl : R.data.toList = Z := by rw [← hR]
  have hRs : R.size = z := by rw [← size_list, hRl, hz]
  have cf := fun W => firstWord_any R W (by omega)
  rw [hRl] at cf
  have hRv : (strV Z : Value) = .string R := by rw [← hRl]
  rw [hRv] at cb
  have HF : Hid (∀ w1 w2, Below w.heap.size w w1 → Below (w1.setCell ⟨g, 3, none⟩ (.int .i64 ((T.length - z : Nat) : Int))).heap.size (w1.setCell ⟨g, 3, none⟩ (.int .i64 ((T.length - z : Nat) : Int))) w2 →
      (rowIs (w2.setCell ⟨g, 4, none⟩ (strV (wordL Z))) g #[c0, c1, strV T, .int .i64 ((T.length - z : Nat) : Int), strV (wordL Z)] 90 ∧ Kept (fun k => k = g) w (w2.setCell ⟨g, 4, none⟩ (strV (wordL Z))) ∧ w2.cell? ⟨g, 4, none⟩ = some (.string wd) ∧ w2.frozen? ⟨g, 4, none⟩ = false)) := by
    intro w1 w2 hb1 hb2
    have r1 := (hrow.below hb1).setCell 3 (.int .i64 ((T.length - z : Nat) : Int))
    have r2 := r1.below hb2
    have r3 := r2.setCell 4 (strV (wordL Z))
    have k3 := ((((Kept.of_below (X := fun k => k = g) hb1).setCell (i := 3) (.inl rfl) (.int .i64 ((T.length - z : Nat) : Int))).then hb2).setCell (i := 4) (.inl rfl) (strV (wordL Z)))
    refine ⟨r3, k3, ?_, r2.free 4⟩
    rw [← hwd]; exact r2.cell 4
  have HG : Hid (∀ w1, Below w.heap.size w w1 → w1.cell? ⟨g, 2, none⟩ = some (.string t) ∧ w1.cell? ⟨g, 3, none⟩ = some (.int .i64 (n : Int)) ∧ w1.frozen? ⟨g, 3, none⟩ = false) := by
    intro w1 hb1
    have r1 := hrow.below hb1
    refine ⟨?_, r1.cell 3, r1.free 3⟩
    rw [← ht]; exact r1.cell 2
  have CB := hid cb
  have CF := hid cf
  have HZZ := hid hz
  have hnk : (m : Int) ≤ (t.size : Int) := by omega
  have hnk0 : (0 : Int) ≤ (m : Int) := by omega
  have hnk1 : ((m : Int)).toNat = m := by simp
  have hw1 : IntKind.i64.wrap ((n : Int) + (k : Int)) = (m : Int) := by rw [IntWalk.i64_in _ (by omega)]; omega
  have hw2 : IntKind.i64.wrap ((t.size : Int) - (z : Int)) = ((T.length - z : Nat) : Int) := by rw [IntWalk.i64_in _ (by omega)]; omega
  clear cb cf hl hnu hst hk hts hmm hrow ht htl hwd hDl hz hZ hR hRl hRv
  go_enter Tryz.func43, Tryz.ntmps43
  go_wp2_with fail
  refine wp_region_held_drew (S := (fun w' => w'.cell? ⟨g, 2, none⟩ = some (.string t) ∧ w'.cell? ⟨g, 3, none⟩ = some (.int .i64 (n : Int)) ∧ w'.cell? ⟨g, 4, none⟩ = some (.string wd) ∧ Below w.heap.size w w')) (by kernel_rfl) ⟨hc2, hc3, hc4, (Below.refl _ _).drew⟩ (fun hH => ?_)
  refine wpAnyH_take (i := 0) (v := ?_) rfl (by kernel_rfl) (by kernel_rfl) (by kernel_rfl) (fun _ _ _ h => h) (Or.inl ⟨by kernel_rfl, ?_⟩) hH ?_
  rotate_left
  · intro W hS
    obtain ⟨q2, q3, q4, _⟩ := hS
    go_simp
    first | done | with_reducible rfl
  simp only [Act.put, List.getElem_toArray, List.getElem_cons_succ, List.getElem_cons_zero, List.setIfInBounds_toArray, List.set_cons_zero, List.set_cons_succ]
  refine wpAnyH_take (i := 1) (v := ?_) rfl (by kernel_rfl) (by kernel_rfl) (by kernel_rfl) (fun _ _ _ h => h) (Or.inl ⟨by kernel_rfl, ?_⟩) hH ?_
  rotate_left
  · intro W hS
    obtain ⟨q2, q3, q4, _⟩ := hS
    go_simp
    first | done | with_reducible rfl
  simp only [Act.put, List.getElem_toArray, List.getElem_cons_succ, List.getElem_cons_zero, List.setIfInBounds_toArray, List.set_cons_zero, List.set_cons_succ]
  refine wpAnyH_take (i := 2) (v := ?_) rfl (by kernel_rfl) (by kernel_rfl) (by kernel_rfl) (fun _ _ _ h => h) (Or.inl ⟨by kernel_rfl, ?_⟩) hH ?_
  rotate_left
  · intro W hS
    obtain ⟨q2, q3, q4, _⟩ := hS
    go_simp
    first | done | with_reducible rfl
  simp only [Act.put, List.getElem_toArray, List.getElem_cons_succ, List.getElem_cons_zero, List.setIfInBounds_toArray, List.set_cons_zero, List.set_cons_succ]
  refine wpAnyH_take (i := 3) (v := ?_) rfl (by kernel_rfl) (by kernel_rfl) (by kernel_rfl) (fun _ _ _ h => h) (Or.inl ⟨by kernel_rfl, ?_⟩) hH ?_
  rotate_left
  · intro W hS
    obtain ⟨q2, q3, q4, _⟩ := hS
    go_simp
    first | done | with_reducible rfl
  simp only [Act.put, List.getElem_toArray, List.getElem_cons_succ, List.getElem_cons_zero, List.setIfInBounds_toArray, List.set_cons_zero, List.set_cons_succ]
  refine wpAnyH_take (i := 4) (v := ?_) rfl (by kernel_rfl) (by kernel_rfl) (by kernel_rfl) (fun _ _ _ h => h) (Or.inl ⟨by kernel_rfl, ?_⟩) hH ?_
  rotate_left
  · intro W hS
    obtain ⟨q2, q3, q4, _⟩ := hS
    go_simp
    first | done | with_reducible rfl
  simp only [Act.put, List.getElem_toArray, List.getElem_cons_succ, List.getElem_cons_zero, List.setIfInBounds_toArray, List.set_cons_zero, List.set_cons_succ]
  refine wpAnyH_take (i := 5) (v := ?_) rfl (by kernel_rfl) (by kernel_rfl) (by kernel_rfl) (fun _ _ _ h => h) (Or.inl ⟨by kernel_rfl, ?_⟩) hH ?_
  rotate_left
  · intro W hS
    obtain ⟨q2, q3, q4, _⟩ := hS
    go_simp
    first | done | with_reducible rfl
  simp only [Act.put, List.getElem_toArray, List.getElem_cons_succ, List.getElem_cons_zero, List.setIfInBounds_toArray, List.set_cons_zero, List.set_cons_succ]
  refine wpAnyH_take (i := 6) (v := ?_) rfl (by kernel_rfl) (by kernel_rfl) (by kernel_rfl) (fun _ _ _ h => h) (Or.inl ⟨by kernel_rfl, ?_⟩) hH ?_
  rotate_left
  · intro W hS
    obtain ⟨q2, q3, q4, _⟩ := hS
    go_simp
    first | done | with_reducible rfl
  simp only [Act.put, List.getElem_toArray, List.getElem_cons_succ, List.getElem_cons_zero, List.setIfInBounds_toArray, List.set_cons_zero, List.set_cons_succ]
  refine wpAnyH_take (i := 7) (v := ?_) rfl (by kernel_rfl) (by kernel_rfl) (by kernel_rfl) (fun _ _ _ h => h) (Or.inl ⟨by kernel_rfl, ?_⟩) hH ?_
  rotate_left
  · intro W hS
    obtain ⟨q2, q3, q4, _⟩ := hS
    go_simp
    first | done | with_reducible rfl
  simp only [Act.put, List.getElem_toArray, List.getElem_cons_succ, List.getElem_cons_zero, List.setIfInBounds_toArray, List.set_cons_zero, List.set_cons_succ]
  refine wpAnyH_take (i := 8) (v := ?_) rfl (by kernel_rfl) (by kernel_rfl) (by kernel_rfl) (fun _ _ _ h => h) (Or.inl ⟨by kernel_rfl, ?_⟩) hH ?_
  rotate_left
  · intro W hS
    obtain ⟨q2, q3, q4, _⟩ := hS
    go_simp
    first | done | with_reducible rfl
  simp only [Act.put, List.getElem_toArray, List.getElem_cons_succ, List.getElem_cons_zero, List.setIfInBounds_toArray, List.set_cons_zero, List.set_cons_succ]
  refine wpAnyH_take (i := 9) (v := ?_) rfl (by kernel_rfl) (by kernel_rfl) (by kernel_rfl) (fun _ _ _ h => h) (Or.inl ⟨by kernel_rfl, ?_⟩) hH ?_
  rotate_left
  · intro W hS
    obtain ⟨q2, q3, q4, _⟩ := hS
    go_simp
    first | done | with_reducible rfl
  simp only [Act.put, List.getElem_toArray, List.getElem_cons_succ, List.getElem_cons_zero, List.setIfInBounds_toArray, List.set_cons_zero, List.set_cons_succ]
  refine wpAnyH_take (i := 10) (v := ?_) rfl (by kernel_rfl) (by kernel_rfl) (by kernel_rfl) (fun _ _ _ h => h) (Or.inl ⟨by kernel_rfl, ?_⟩) hH ?_
  rotate_left
  · intro W hS
    obtain ⟨q2, q3, q4, _⟩ := hS
    go_simp
    first | done | with_reducible rfl
  simp only [Act.put, List.getElem_toArray, List.getElem_cons_succ, List.getElem_cons_zero, List.setIfInBounds_toArray, List.set_cons_zero, List.set_cons_succ]
  refine wpAnyH_take (i := 11) (v := ?_) rfl (by kernel_rfl) (by kernel_rfl) (by kernel_rfl) (fun _ _ _ h => h) (Or.inl ⟨by kernel_rfl, ?_⟩) hH ?_
  rotate_left
  · intro W hS
    obtain ⟨q2, q3, q4, _⟩ := hS
    go_simp
    first | done | with_reducible rfl
  simp only [Act.put, List.getElem_toArray, List.getElem_cons_succ, List.getElem_cons_zero, List.setIfInBounds_toArray, List.set_cons_zero, List.set_cons_succ]
  refine wpAnyH_take (i := 12) (v := ?_) rfl (by kernel_rfl) (by kernel_rfl) (by kernel_rfl) (fun _ _ _ h => h) (Or.inl ⟨by kernel_rfl, ?_⟩) hH ?_
  rotate_left
  · intro W hS
    obtain ⟨q2, q3, q4, _⟩ := hS
    go_simp
    first | done | with_reducible rfl
  simp only [Act.put, List.getElem_toArray, List.getElem_cons_succ, List.getElem_cons_zero, List.setIfInBounds_toArray, List.set_cons_zero, List.set_cons_succ]
  refine wpAnyH_take (i := 13) (v := ?_) rfl (by kernel_rfl) (by kernel_rfl) (by kernel_rfl) (fun _ _ _ h => h) (Or.inl ⟨by kernel_rfl, ?_⟩) hH ?_
  rotate_left
  · intro W hS
    obtain ⟨q2, q3, q4, _⟩ := hS
    go_simp
    first | done | with_reducible rfl
  simp only [Act.put, List.getElem_toArray, List.getElem_cons_succ, List.getElem_cons_zero, List.setIfInBounds_toArray, List.set_cons_zero, List.set_cons_succ]
  refine wpAnyH_take (i := 14) (v := ?_) rfl (by kernel_rfl) (by kernel_rfl) (by kernel_rfl) (fun _ _ _ h => h) (Or.inl ⟨by kernel_rfl, ?_⟩) hH ?_
  rotate_left
  · intro W hS
    obtain ⟨q2, q3, q4, _⟩ := hS
    go_simp
    first | done | with_reducible rfl
  simp only [Act.put, List.getElem_toArray, List.getElem_cons_succ, List.getElem_cons_zero, List.setIfInBounds_toArray, List.set_cons_zero, List.set_cons_succ]
  refine wpAnyH_ready (rs := [15]) (by kernel_rfl) (by simp) ?_
  refine AllReadyH.cons rfl (fun K hK => ?_) AllReadyH.nil
  go_simp
  refine (CB.out _ hH).mono ?_
  rintro e w' ⟨rfl, hS1⟩
  refine hK.out _ _ hS1 (fun hH => ?_)
  clear hK K
  try simp only [Act.put, List.getElem_toArray, List.getElem_cons_succ, List.getElem_cons_zero, List.setIfInBounds_toArray, List.set_cons_zero, List.set_cons_succ]
  refine wpAnyH_take (i := 16) (v := ?_) rfl (by kernel_rfl) (by kernel_rfl) (by kernel_rfl) (fun _ _ _ h => h) (Or.inl ⟨by kernel_rfl, ?_⟩) hH ?_
  rotate_left
  · intro W hS
    obtain ⟨q2, q3, q4, _⟩ := hS
    go_simp
    first | done | with_reducible rfl
  simp only [Act.put, List.getElem_toArray, List.getElem_cons_succ, List.getElem_cons_zero, List.setIfInBounds_toArray, List.set_cons_zero, List.set_cons_succ]
  refine wpAnyH_done (by kernel_rfl) ?_ _
  obtain ⟨-, -, -, hb1⟩ := hH
  obtain ⟨g2, g3, g4⟩ := HG.out _ hb1
  have HB1 := hid hb1
  clear hb1 hc2 hc3 hc4 hnk hnk0 hnk1 hw1
  go_wp2_with (go_at_call 61; refine (CF.out _).mono ?_; rintro e w2 ⟨rfl, hb2⟩; obtain ⟨F1, F2, F3, F4⟩ := HF.out _ _ HB1.out hb2)
  go_end0
  rw [← HZZ.out] at F1
  exact ⟨⟨_, rfl⟩, F1, F2⟩
theorem step_any (g : Nat) (T : List UInt8) (p : Ps) (w : World) (h : RcOk w g T p) :
    Calls Tryz.prog 43 #[.pointer (some ⟨g, 0, none⟩)] w (RcPost w g T (stp p)) := by
  obtain ⟨s, hs⟩ := h.at_
  have hsu := hs.place.suffix
  have hsl := hsu.length_le
  have hwl := wordL_len s
  have hdr := (suffix_take hsu).2
  refine (step_core g (T.length - s.length) T (wordL s) _ _ w hs.row h.len (by omega) h.env.max).mono ?_
  rintro e w' ⟨hu, hr, hk⟩
  rw [← List.drop_drop, hdr] at hr
  refine ⟨hu, h.move hk ⟨stepL s, hs.place.step, ?_, hr⟩, hk⟩
  show p.ws.tail = _
  rw [wordsL_step hs.place.norm, hs.words]
theorem step_first (g : Nat) (T : List UInt8) (w : World) (hrow : rowIs w g #[.int .i64 0, .int .i64 0, strV T, .int .i64 0, strV []] 90) (hl : T.length ≤ 4096) (he : Env g w) :
    Calls Tryz.prog 43 #[.pointer (some ⟨g, 0, none⟩)] w (RcPost w g T (ps0 T)) := by
  refine (step_core g 0 T [] _ _ w hrow hl (by simp) he.max).mono ?_
  rintro e w' ⟨hu, hr, hk⟩
  rw [show T.drop (0 + ([] : List UInt8).length) = T from rfl] at hr
  exact ⟨hu, ⟨⟨skipL false T, place_start T, rfl, hr⟩, hl, he.kept hk (fun k hX => Nat.le_of_eq hX.symm)⟩, hk⟩
/-- two calls of a reader's methods, one behind the other -/
theorem RcPost.then {w w1 w2 : World} {g : Nat} {T : List UInt8} {p q : Ps} {e f : Ending} (h : RcPost w g T p e w1) (k : RcPost w1 g T q f w2) : RcPost w g T q f w2 :=
  ⟨k.1, k.2.1, h.2.2.trans k.2.2 (fun _ hY _ => hY)⟩
theorem expect_any (g : Nat) (T : List UInt8) (p : Ps) (u : List UInt8) (w : World) (h : RcOk w g T p) :
    Calls Tryz.prog 90 #[.pointer (some ⟨g, 0, none⟩), strV u] w (RcPost w g T (expM u p)) := by
  have h4 := h.word
  have cc := check_any g T p (hdW p == u) 30 w h (by decide)
  have CC := hid cc
  obtain ⟨x, hx⟩ : ∃ x, hdW p = x := ⟨_, rfl⟩
  rw [hx] at h4 CC
  have HE : Hid (stp (chk (x == u) 30 p) = expM u p) := by rw [← hx]; exact rfl
  clear h cc hx
  go_enter Tryz.func90, Tryz.ntmps90
  go_wp2_with fail
  refine CC.out.mono ?_
  intro e w1 hp1
  obtain ⟨v, rfl, ho1, hk1⟩ := hp1.form
  have HP1 := hid hp1
  clear hp1 hk1 h4
  go_wp2_with fail
  refine (step_any g T _ w1 ho1).mono ?_
  intro e w2 hp2
  obtain ⟨v2, rfl, ho2, hk2⟩ := hp2.form
  have HP2 := hid hp2
  clear hp2 ho2 hk2 ho1
  go_wp2_with fail
  go_end0
  have := HP1.out.then HP2.out
  rw [HE.out] at this
  exact ⟨⟨_, rfl⟩, this.2⟩
end Go.Proofs.YtffenndchmcncaaGreatDoor
