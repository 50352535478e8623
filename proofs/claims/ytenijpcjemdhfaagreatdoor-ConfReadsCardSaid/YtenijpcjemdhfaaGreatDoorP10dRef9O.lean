/-
  The document's reader: a site's box; keep.
-/
import Derived.Test.YtenijpcjemdhfaaGreatDoorP10dRef9N
import Derived.Test.YtenijpcjemdhfaaGreatDoorP10d03
namespace Go.Proofs.YtenijpcjemdhfaaGreatDoor
open Go.RowKit Go.Pantry

/-- a site's box of the document's, and the heads that it owns -/
structure Ds (w : World) (b : Nat) (hv : Value) (s : SiteM) : Prop where
  row : rowIs w b (siteRow hv s) 70
  own : w.ownsRow 0 9 1 hv s.heads.length (s.heads.map strV)
  apart : In (fun k => b < k) hv
theorem Ds.kept {X : Nat → Prop} {w w' : World} {b : Nat} {hv : Value} {s : SiteM} (h : Ds w b hv s) (hk : Kept X w w') (hx : ∀ k, Fb b hv k → ¬ X k) : Ds w' b hv s :=
  ⟨h.row.kept hk (hx b (.inl rfl)), ownsRow_kept h.own hk (fun k hk => hx k (.inr hk)), h.apart⟩
theorem Ds.below {w w' : World} {b : Nat} {hv : Value} {s : SiteM} (h : Ds w b hv s) (hb : Below w.heap.size w w') : Ds w' b hv s := h.kept (Kept.of_below (X := fun _ => False) hb) (fun _ _ h => h)
theorem Ds.ge {w : World} {b : Nat} {hv : Value} {s : SiteM} (h : Ds w b hv s) {k : Nat} (hk : Fb b hv k) : b ≤ k := by
  rcases hk with rfl | hk
  · exact Nat.le_refl _
  · exact Nat.le_of_lt (h.apart k hk)
theorem Ds.lt {w : World} {b : Nat} {hv : Value} {s : SiteM} (h : Ds w b hv s) {k : Nat} (hk : Fb b hv k) : k < w.heap.size := by
  rcases hk with rfl | hk
  · exact h.row.lt
  · exact (h.own.lt k hk).2
/-- the reader has moved -/
theorem Ds.other {w w' : World} {b g : Nat} {hv : Value} {s : SiteM} (h : Ds w b hv s) (hk : Kept (fun k => k = g) w w') (hgb : g < b) : Ds w' b hv s :=
  h.kept hk (fun k hf e => by have := h.ge hf; omega)
/-- a cell of the site's box but that of its heads -/
theorem Ds.set {w : World} {b g D : Nat} {hv : Value} {s s' : SiteM} {T : List UInt8} {q : Ps} (hs : Ds w b hv s) (ho : Dc w g D T q) (hDb : D ≤ b) (i : Nat) (v : Value) (hrow : (siteRow hv s).setIfInBounds i v = siteRow hv s') (hh : s'.heads = s.heads) :
    Dc (w.setCell ⟨b, i, none⟩ v) g D T q ∧ Ds (w.setCell ⟨b, i, none⟩ v) b hv s' ∧ Kept (fun k => k = b) w (w.setCell ⟨b, i, none⟩ v) := by
  have kk := (Kept.refl (fun k => k = b) w).setCell (i := i) (.inl rfl) v
  refine ⟨ho.kept kk (fun k hk => by omega), ⟨?_, ?_, hs.apart⟩, kk⟩
  · have := hs.row.setCell i v
    rw [hrow] at this
    exact this
  · rw [hh]
    exact ownsRow_kept hs.own kk (fun k hk e => by have := hs.apart k hk; omega)
/-- what a method on a site leaves -/
def DsPost (w : World) (g D b : Nat) (T : List UInt8) (hv : Value) (r : SiteM × Ps) (e : Ending) (w' : World) : Prop :=
  (∃ u, e = .returned u) ∧ Dc w' g D T r.2 ∧ ∃ hv' s', Ds w' b hv' s' ∧ (r.2.code = 0 → s' = r.1) ∧ Moves w hv hv' ∧ Kept (fun k => k = g ∨ Fb b hv k) w w'
theorem keep_no {s : SiteM} {p : Ps} (h0 : p.code = 0) (h1 : ¬ hdW p = wOn) (h2 : ¬ hdW p = wOff) : (keepM s p).2 = stp (chk false 30 p) := by
  unfold keepM
  have : (hdW p == wOn || hdW p == wOff) = false := by
    rw [Bool.or_eq_false_iff]; exact ⟨by simpa using h1, by simpa using h2⟩
  show stp (chk (hdW p == wOn || hdW p == wOff) 30 p) = _
  rw [this]
theorem keep_yes {s : SiteM} {p : Ps} (h : hdW p = wOn ∨ hdW p = wOff) : keepM s p = ({ s with keep := hdW p == wOn }, stp p) := by
  unfold keepM
  have : (hdW p == wOn || hdW p == wOff) = true := by
    rcases h with h | h
    · rw [h]; rfl
    · rw [h]; decide
  rw [this, chk_true]
theorem keep_off {s : SiteM} {p : Ps} (h : p.code ≠ 0) : (keepM s p).2 = stp p := by
  show stp (chk _ 30 p) = _
  rw [chk_off h]
/-- the tail of keep: the box, then the step -/
def TailPost (w : World) (g D b : Nat) (T : List UInt8) (hv : Value) (s : SiteM) (q : Ps) (w' : World) : Prop :=
  Dc w' g D T (stp q) ∧ ∃ k : Bool, Ds w' b hv { s with keep := k } ∧ (q.code = 0 → k = (hdW q == wOn)) ∧ Kept (fun k => k = g ∨ k = b) w w'
set_option maxRecDepth 8000 in
theorem docKeep_any (g D b : Nat) (T : List UInt8) (p : Ps) (hv : Value) (s : SiteM) (w : World) (h : Dc w g D T p) (hs : Ds w b hv s) (hDb : D ≤ b) :
    Calls Tryz.prog 84 #[.pointer (some ⟨g, 0, none⟩), .pointer (some ⟨b, 0, none⟩)] w (DsPost w g D b T hv (keepM s p)) := by
  have HD := hid h
  have HS := hid hs
  have HDB := hid (show g < b ∧ D ≤ b from ⟨Nat.lt_of_lt_of_le h.lt hDb, hDb⟩)
  obtain ⟨c, hc⟩ : ∃ c, p.code = c := ⟨_, rfl⟩
  have c3 : w.cell? ⟨g, 3, none⟩ = some (.int .i64 (c : Int)) := by rw [← hc]; exact h.code
  have HC := hid hc
  -- the end, from a world where the reader is as q says
  have FIN : Hid (∀ (q : Ps) (w1 w2 w3 : World) (k : Bool), Kept (fun k => k = g) w w1 → (q.code = 0 → k = (hdW q == wOn)) → w2 = w1.setCell ⟨b, 5, none⟩ (.bool k) → Dc w3 g D T (stp q) → Kept (fun k => k = g) w2 w3 → (keepM s p).2 = stp q → (q.code = 0 → (keepM s p).1 = { s with keep := hdW q == wOn }) → ∀ e, (∃ u, e = .returned u) → DsPost w g D b T hv (keepM s p) e w3) := by
    intro q w1 w2 w3 k k1 hk h2 d3 k3 he1 he2 e he
    have hs1 := HS.out.other k1 HDB.out.1
    have kk : Kept (fun k => k = b) w1 w2 := by rw [h2]; exact (Kept.refl (fun k => k = b) w1).setCell (i := 5) (.inl rfl) _
    have hs2 : Ds w2 b hv { s with keep := k } := by
      rw [h2]
      refine ⟨hs1.row.setCell 5 _, ?_, hs1.apart⟩
      have := ownsRow_kept hs1.own kk (fun k hk e => by have := hs1.apart k hk; omega)
      rw [h2] at this
      exact this
    have hs3 := hs2.other k3 HDB.out.1
    refine ⟨he, by rw [he1]; exact d3, hv, _, hs3, fun e0 => ?_, Moves.refl _ _, ?_⟩
    · rw [he1] at e0
      have e0' : q.code = 0 := e0
      rw [he2 e0', hk e0']
    · exact kept_s (kept_b (kept_s (kept_0 w g b hv) k1) kk) k3
  clear h hs hDb
  by_cases h0 : c = 0
  rotate_left
  · have z1 : ((c : Int) == 0) = false := by simp; omega
    have HO := hid (And.intro (show (keepM s p).2 = stp p from keep_off (by rw [hc]; exact h0)) (show p.code ≠ 0 by rw [hc]; exact h0))
    clear hc h0
    go_enter Tryz.func84, Tryz.ntmps84
    go_wp2_with fail
    refine (docWord_any g D T p w HD.out).mono ?_
    rintro e w1 ⟨⟨y, rfl, hy, hyl⟩, hb1⟩
    obtain ⟨k, hk⟩ : ∃ k, (y == wOn) = k := ⟨_, rfl⟩
    have hk2 : (y == [111, 110]) = k := hk
    have HB1 := hid hb1
    have hs1 := HS.out.below hb1
    have hc5 := hs1.row.cell 5
    have hf5 := hs1.row.free 5
    obtain ⟨A1, A2, A3⟩ := hs1.set (s' := { s with keep := k }) (HD.out.below hb1) HDB.out.2 5 (.bool k) rfl rfl
    have HA := hid A1
    clear hb1 hy hyl hk hs1 A1 A2 A3 c3
    go_wp2_with fail
    refine (docStep_any g D T p (w1.setCell ⟨b, 5, none⟩ (.bool k)) HA.out).mono ?_
    rintro e w3 ⟨⟨u, rfl⟩, hd3, hk3⟩
    have H3 := hid (FIN.out p w1 _ w3 k (Kept.of_below HB1.out) (fun e => absurd e HO.out.2) rfl hd3 hk3 HO.out.1 (fun e => absurd e HO.out.2))
    clear hd3 hk3
    go_wp2_with fail
    go_end0
    exact H3.out _ ⟨_, rfl⟩
  subst h0
  have hyc : p.code = 0 := HC.out
  clear hc
  go_enter Tryz.func84, Tryz.ntmps84
  go_wp2_with fail
  refine (docWord_any g D T p w HD.out).mono ?_
  rintro e w1 ⟨⟨y, rfl, hy, -⟩, hb1⟩
  have HY := hid (hy hyc)
  have HB1 := hid hb1
  clear hb1 hy c3
  by_cases hon : y = wOn
  · subst hon
    have zo : (wOn == [111, 110]) = true := rfl
    have zn : (wOn != [111, 110]) = false := rfl
    clear hyc
    go_wp2_with fail
    refine (docWord_any g D T p w1 (HD.out.below HB1.out)).mono ?_
    rintro e w2 ⟨⟨y3, rfl, hy3, -⟩, hb2⟩
    have hy3' := hy3 HC.out
    rw [← HY.out] at hy3'
    subst hy3'
    have HB2 := hid (chainP HB1.out hb2)
    have hs1 := HS.out.below HB2.out
    have hc5 := hs1.row.cell 5
    have hf5 := hs1.row.free 5
    obtain ⟨A1, A2, A3⟩ := hs1.set (s' := { s with keep := true }) (HD.out.below HB2.out) HDB.out.2 5 (.bool true) rfl rfl
    have HA := hid A1
    clear hb2 hy3 hs1 A1 A2 A3
    go_wp2_with fail
    refine (docStep_any g D T p (w2.setCell ⟨b, 5, none⟩ (.bool true)) HA.out).mono ?_
    rintro e w3 ⟨⟨u, rfl⟩, hd3, hk3⟩
    have hkp := keep_yes (s := s) (.inl HY.out.symm)
    have H3 := hid (FIN.out p w2 _ w3 true (Kept.of_below HB2.out) (fun _ => by rw [← HY.out]; rfl) rfl hd3 hk3 (by rw [hkp]) (fun _ => by rw [hkp]))
    clear hd3 hk3 hkp
    go_wp2_with fail
    go_end0
    exact H3.out _ ⟨_, rfl⟩
  have zo : (y == [111, 110]) = false := by have hh : ¬ y = [111, 110] := hon; simpa using hh
  have zn : (y != [111, 110]) = true := by have hh : ¬ y = [111, 110] := hon; simpa using hh
  have HON := hid hon
  clear hon
  go_wp2_with fail
  refine (docWord_any g D T p w1 (HD.out.below HB1.out)).mono ?_
  rintro e w2 ⟨⟨y2, rfl, hy2, -⟩, hb2⟩
  have hy2' := hy2 HC.out
  rw [← HY.out] at hy2'
  subst hy2'
  have HB2 := hid (chainP HB1.out hb2)
  clear hb2 hy2 hyc
  by_cases hof : y2 = wOff
  · subst hof
    have zp : (wOff == [111, 102, 102]) = true := rfl
    have zq : (wOff != [111, 102, 102]) = false := rfl
    go_wp2_with fail
    refine (docWord_any g D T p w2 (HD.out.below HB2.out)).mono ?_
    rintro e w4 ⟨⟨y3, rfl, hy3, -⟩, hb4⟩
    have hy3' := hy3 HC.out
    rw [← HY.out] at hy3'
    subst hy3'
    have HB4 := hid (chainP HB2.out hb4)
    have hs1 := HS.out.below HB4.out
    have hc5 := hs1.row.cell 5
    have hf5 := hs1.row.free 5
    obtain ⟨A1, A2, A3⟩ := hs1.set (s' := { s with keep := false }) (HD.out.below HB4.out) HDB.out.2 5 (.bool false) rfl rfl
    have HA := hid A1
    clear hb4 hy3 hs1 A1 A2 A3
    go_wp2_with fail
    refine (docStep_any g D T p (w4.setCell ⟨b, 5, none⟩ (.bool false)) HA.out).mono ?_
    rintro e w3 ⟨⟨u, rfl⟩, hd3, hk3⟩
    have hkp := keep_yes (s := s) (.inr HY.out.symm)
    have H3 := hid (FIN.out p w4 _ w3 false (Kept.of_below HB4.out) (fun _ => by rw [← HY.out]; rfl) rfl hd3 hk3 (by rw [hkp]) (fun _ => by rw [hkp]))
    clear hd3 hk3 hkp
    go_wp2_with fail
    go_end0
    exact H3.out _ ⟨_, rfl⟩
  have zp : (y2 == [111, 102, 102]) = false := by have hh : ¬ y2 = [111, 102, 102] := hof; simpa using hh
  have zq : (y2 != [111, 102, 102]) = true := by have hh : ¬ y2 = [111, 102, 102] := hof; simpa using hh
  have HOF := hid hof
  clear hof
  go_wp2_with fail
  refine (docFail_any g D 30 T p w2 (HD.out.below HB2.out) (by decide)).mono ?_
  rintro e w4 ⟨⟨u4, rfl⟩, hd4, hk4⟩
  have H4 := hid (And.intro hd4 ((Kept.of_below (X := fun k => k = g) HB2.out).trans hk4 (fun k h _ => h)))
  have hcd : (chk false 30 p).code ≠ 0 := by rw [chk_no HC.out]; exact (by decide : (30 : Nat) ≠ 0)
  have HCD := hid hcd
  clear hd4 hk4 hcd zo zn zp zq
  go_wp2_with fail
  refine (docWord_any g D T _ w4 H4.out.1).mono ?_
  rintro e w5 ⟨⟨y3, rfl, -, -⟩, hb5⟩
  obtain ⟨k, hk⟩ : ∃ k, (y3 == wOn) = k := ⟨_, rfl⟩
  have hk2 : (y3 == [111, 110]) = k := hk
  have HK5 := hid (H4.out.2.trans (Kept.of_below (X := fun k => k = g) hb5) (fun k h _ => h))
  have hs1 := HS.out.other HK5.out HDB.out.1
  have hc5 := hs1.row.cell 5
  have hf5 := hs1.row.free 5
  obtain ⟨A1, A2, A3⟩ := hs1.set (s' := { s with keep := k }) (H4.out.1.below hb5) HDB.out.2 5 (.bool k) rfl rfl
  have HA := hid A1
  clear hb5 hk hs1 A1 A2 A3
  go_wp2_with fail
  refine (docStep_any g D T _ (w5.setCell ⟨b, 5, none⟩ (.bool k)) HA.out).mono ?_
  rintro e w6 ⟨⟨u, rfl⟩, hd3, hk3⟩
  have H3 := hid (FIN.out (chk false 30 p) w5 _ w6 k HK5.out (fun e => absurd e HCD.out) rfl hd3 hk3 (keep_no HC.out (fun e => HON.out (HY.out.trans e)) (fun e => HOF.out (HY.out.trans e))) (fun e => absurd e HCD.out))
  clear hd3 hk3
  go_wp2_with fail
  go_end0
  exact H3.out _ ⟨_, rfl⟩
end Go.Proofs.YtenijpcjemdhfaaGreatDoor
