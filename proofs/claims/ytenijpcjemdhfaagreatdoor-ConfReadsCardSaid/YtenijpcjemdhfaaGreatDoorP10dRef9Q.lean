/-
  The document's reader: key.
-/
import Derived.Test.YtenijpcjemdhfaaGreatDoorP10dRef9P
import Derived.Test.YtenijpcjemdhfaaGreatDoorP10d04
namespace Go.Pantry
open Go.RowKit
/-- two ends that are the same, but for what a fault leaves -/
structure Sim (r r' : SiteM × Ps) : Prop where
  code : r.2.code = r'.2.code
  pos : r.2.code ≠ 0 → r.2.pos = r'.2.pos
  ok : r.2.code = 0 → r = r'
theorem Sim.refl (r : SiteM × Ps) : Sim r r := ⟨rfl, fun _ => rfl, fun _ => rfl⟩
theorem Sim.trans {a b c : SiteM × Ps} (h : Sim a b) (k : Sim b c) : Sim a c :=
  ⟨h.code.trans k.code, fun e => (h.pos e).trans (k.pos (by rw [← h.code]; exact e)), fun e => (h.ok e).trans (k.ok (by rw [← h.code]; exact e))⟩
theorem Sim.symm {a b : SiteM × Ps} (h : Sim a b) : Sim b a :=
  ⟨h.code.symm, fun e => (h.pos (by rw [h.code]; exact e)).symm, fun e => (h.ok (by rw [h.code]; exact e)).symm⟩
theorem headerM_sim {s : SiteM} {q : Ps} (h0 : q.code = 0) (h : ¬ (hdW q = wQuery ∧ s.query = false)) : Sim (headerM s q) (keyR s q) := by
  unfold headerM keyR
  by_cases h1 : hdW q = wQuery
  · have h2 : s.query = true := by cases e : s.query with | true => rfl | false => exact absurd ⟨h1, e⟩ h
    rw [h1, show (wQuery == wHeader) = false from rfl, show (wQuery == wQuery) = true from rfl, h2]
    have hc : (chk false 30 q).code = 30 := by rw [chk_no h0]
    exact ⟨rfl, fun _ => rfl, fun e => absurd (hc.symm.trans e) (by decide)⟩
  · rw [show (hdW q == wQuery) = false by simpa using h1]
    by_cases h2 : hdW q = wHeader
    · rw [show (hdW q == wHeader) = true by simpa using h2]; exact Sim.refl _
    · rw [show (hdW q == wHeader) = false by simpa using h2]; exact Sim.refl _
theorem keyE_sim {s s' : SiteM} {q q' : Ps} (h : Sim (s, q) (s', q')) : Sim (keyE s q) (keyE s' q') := by
  by_cases h0 : q.code = 0
  · have := h.ok h0
    cases this
    exact Sim.refl _
  · have e1 : keyGo q = false := by unfold keyGo; rw [beq_eq_false_iff_ne.2 h0]; rfl
    have h0' : q'.code ≠ 0 := by have := h.code; simp only at this; rw [← this]; exact h0
    have e2 : keyGo q' = false := by unfold keyGo; rw [beq_eq_false_iff_ne.2 h0']; rfl
    rw [keyE_stop e1, keyE_stop e2]; exact h
theorem sim_meas {a b : SiteM × Ps} (h : Sim a b) : meas a.2 = meas b.2 := by
  by_cases h0 : a.2.code = 0
  · rw [h.ok h0]
  · have h1 : b.2.code ≠ 0 := by rw [← h.code]; exact h0
    unfold meas
    rw [beq_eq_false_iff_ne.2 h0, beq_eq_false_iff_ne.2 h1]; rfl
theorem headerM_few {s : SiteM} {q : Ps} (h4 : s.heads.length ≤ 4) (h : (headerM s q).2.code = 0) : (headerM s q).1.heads.length ≤ 4 := by
  unfold headerM at h ⊢
  split
  · rename_i h1
    rw [h1] at h
    simp only [if_true] at h
    show (s.heads ++ [_]).length ≤ 4
    rw [List.length_append]
    by_cases e : s.heads.length < 4
    · simp; omega
    · exfalso
      unfold nameM at h
      have h2 : (chk (decide (s.heads.length < 4)) 32 (chk (mayM s.heads (hdW (stp q))) 30 (stp q))).code = 0 := h
      have := (chk_ok (by decide) h2).2.1
      exact e (of_decide_eq_true this)
  · exact h4
end Go.Pantry
namespace Go.Proofs.YtenijpcjemdhfaaGreatDoor
open Go.RowKit Go.Pantry

theorem DsPost.sim {w w' : World} {g D b : Nat} {T : List UInt8} {hv : Value} {r r' : SiteM × Ps} {e : Ending} (h : DsPost w g D b T hv r e w') (k : Sim r r') : DsPost w g D b T hv r' e w' := by
  obtain ⟨he, hd, hv', s', hs, hs0, hm, hk⟩ := h
  by_cases h0 : r.2.code = 0
  · rw [← k.ok h0]; exact ⟨he, hd, hv', s', hs, hs0, hm, hk⟩
  · exact ⟨he, hd.off h0 k.code.symm (k.pos h0).symm, hv', s', hs, fun e => absurd (k.code.trans e) h0, hm, hk⟩
/-- how far key is -/
structure KeyD (w0 w : World) (g D b : Nat) (T : List UInt8) (hv0 : Value) (R : SiteM × Ps) (k : Nat) (s : SiteM) (q : Ps) (hv : Value) : Prop where
  dc : Dc w g D T q
  ds : Ds w b hv s
  left : k = meas q
  few : q.code = 0 → s.heads.length ≤ 4
  sim : Sim (keyE s q) R
  moves : Moves w0 hv0 hv
  kept : Kept (fun k => k = g ∨ Fb b hv0 k) w0 w
set_option maxRecDepth 8000 in
set_option maxHeartbeats 4000000 in
theorem docKey_any (g D b : Nat) (T : List UInt8) (p : Ps) (hv : Value) (s : SiteM) (w : World) (h : Dc w g D T p) (hs : Ds w b hv s) (hDb : D ≤ b) (hh : p.code = 0 → s.heads = []) :
    Calls Tryz.prog 83 #[.pointer (some ⟨g, 0, none⟩), .pointer (some ⟨b, 0, none⟩)] w (DsPost w g D b T hv (keyM s p)) := by
  have HDB := hid (show g < b ∧ D ≤ b from ⟨Nat.lt_of_lt_of_le h.lt hDb, hDb⟩)
  have hc4 := hs.row.cell 4
  have hf4 := hs.row.free 4
  obtain ⟨A1, A2, A3⟩ := hs.set (s' := { s with query := false }) h hDb 4 (.bool false) rfl rfl
  obtain ⟨W1, hW1⟩ : ∃ W, w.setCell ⟨b, 4, none⟩ (.bool false) = W := ⟨_, rfl⟩
  rw [hW1] at A1 A2 A3
  have hc6 := A2.row.cell 6
  have hf6 := A2.row.free 6
  have kk := (Kept.refl (fun k => k = b) W1).setCell (i := 6) (.inl rfl) (.slice none 0 0)
  have B2 : Ds (W1.setCell ⟨b, 6, none⟩ (.slice none 0 0)) b (.slice none 0 0) { s with query := false, heads := [] } :=
    ⟨A2.row.setCell 6 _, World.ownsRow_nil _ _ _ _, In.nil _ _⟩
  have B1 : Dc (W1.setCell ⟨b, 6, none⟩ (.slice none 0 0)) g D T p := A1.kept kk (fun k hk => by omega)
  obtain ⟨W2, hW2⟩ : ∃ W, W1.setCell ⟨b, 6, none⟩ (.slice none 0 0) = W := ⟨_, rfl⟩
  rw [hW2] at B1 B2 kk
  have HK := hid (kept_b (kept_b (kept_0 w g b hv) A3) kk)
  have HD2 := hid (And.intro B1 B2)
  have HW := hid (And.intro hW1 hW2)
  have HH := hid hh
  clear h hs hDb A1 A2 A3 kk B1 B2 hh hW1 hW2
  go_enter Tryz.func83, Tryz.ntmps83
  go_upto_region 1 with fail
  try change Code.wp _ _ _ _ (w.setCell ⟨b, 4, none⟩ (.bool false))
  rw [HW.out.1]
  clear hc4 hf4
  go_upto_region 2 with fail
  try change Code.wp _ _ _ _ (W1.setCell ⟨b, 6, none⟩ (.slice none 0 0))
  rw [HW.out.2]
  clear hc6 hf6
  go_wp2_with fail
  refine (docMust_any g D T wPath p W2 HD2.out.1).mono ?_
  rintro e w3 ⟨⟨u3, rfl⟩, hd3, hk3⟩
  have J : Hid (KeyD w w3 g D b T hv (keyM s p) (meas (expM wPath p)) { s with query := false, heads := [] } (expM wPath p) (.slice none 0 0)) := by
    refine ⟨hd3, HD2.out.2.other hk3 HDB.out.1, rfl, fun _ => Nat.zero_le _, ?_, (fun k hk => by cases hk), kept_s HK.out hk3⟩
    show Sim _ (keyE { s with query := false } (expM wPath p))
    refine keyE_sim ⟨rfl, fun _ => rfl, fun e0 => ?_⟩
    have hp0 : p.code = 0 := (fol_exp wPath p).ok e0
    have := HH.out hp0
    show (({ s with query := false, heads := [] } : SiteM), _) = ({ s with query := false }, _)
    rw [← this]
  clear hd3 hk3
  go_wp2_with fail
  go_loopg [] (meas (expM wPath p)) (fun k wr => ∃ s' q hv', KeyD w wr g D b T hv (keyM s p) k s' q hv')
  case atStart => exact ⟨_, _, _, J.out⟩
  case round =>
    clear J
    obtain ⟨s1, q, hv1, hJ⟩ := hrel
    have HJ := hid hJ
    obtain ⟨c, hc⟩ : ∃ c, q.code = c := ⟨_, rfl⟩
    have c3 : wr.cell? ⟨g, 3, none⟩ = some (.int .i64 (c : Int)) := by rw [← hc]; exact hJ.dc.code
    by_cases h0 : c = 0
    rotate_left
    · have z1 : ((c : Int) == 0) = false := by simp; omega
      have e1 : keyGo q = false := by unfold keyGo; rw [beq_eq_false_iff_ne.2 (show q.code ≠ 0 by rw [hc]; exact h0)]; rfl
      have hsim := hJ.sim
      rw [keyE_stop e1] at hsim
      have HF : Hid (DsPost w g D b T hv (keyM s p) (.returned (.tuple #[])) wr) := DsPost.sim (r := (s1, q)) ⟨⟨_, rfl⟩, hJ.dc, hv1, s1, hJ.ds, fun _ => rfl, hJ.moves, hJ.kept⟩ hsim
      clear hJ hc h0 e1 hsim
      go_wp2_with fail
      go_end0
      exact HF.out
    subst h0
    have HC := hid hc
    clear hJ hc
    go_wp2_with fail
    refine (docWord_any g D T q wr HJ.out.dc).mono ?_
    rintro e w4 ⟨⟨y, rfl, hy, -⟩, hb4⟩
    have HY := hid (hy HC.out)
    have HB4 := hid hb4
    clear hy hb4 c3
    by_cases hsemi : y = [59]
    · subst hsemi
      have zo : (([59] : List UInt8) == [59]) = true := rfl
      have zn : (([59] : List UInt8) != [59]) = false := rfl
      have e1 : keyGo q = false := by unfold keyGo; rw [← HY.out]; simp
      have hsim := HJ.out.sim
      rw [keyE_stop e1] at hsim
      have HF : Hid (DsPost w g D b T hv (keyM s p) (.returned (.tuple #[])) w4) := DsPost.sim (r := (s1, q)) ⟨⟨_, rfl⟩, HJ.out.dc.below HB4.out, hv1, s1, HJ.out.ds.below HB4.out, fun _ => rfl, HJ.out.moves, HJ.out.kept.trans (Kept.of_below (X := fun _ => False) HB4.out) (fun k h _ => h.elim)⟩ hsim
      clear e1 hsim
      go_wp2_with fail
      go_end0
      exact HF.out
    have zo : (y == [59]) = false := by simpa using hsemi
    have zn : (y != [59]) = true := by simpa using hsemi
    have e1 : keyGo q = true := by unfold keyGo; rw [← HY.out, HC.out, zn]; rfl
    have HE := hid e1
    clear hsemi e1
    go_wp2_with fail
    refine (docWord_any g D T q w4 (HJ.out.dc.below HB4.out)).mono ?_
    rintro e w5 ⟨⟨y2, rfl, hy2, -⟩, hb5⟩
    have hy2' := hy2 HC.out
    rw [← HY.out] at hy2'
    subst hy2'
    have HB5 := hid (chainP HB4.out hb5)
    have hs5 := HJ.out.ds.below HB5.out
    have hcq : w5.cell? ⟨b, 4, none⟩ = some (.bool s1.query) := hs5.row.cell 4
    have hfq := hs5.row.free 4
    obtain ⟨bq, hbq⟩ : ∃ x, s1.query = x := ⟨_, rfl⟩
    rw [hbq] at hcq
    have HBQ := hid hbq
    clear hy2 hb5 zo zn hbq
    -- what a round leaves
    have RND : Hid (∀ (r : SiteM × Ps) (hv0 : Value) (w9 : World), Sim r (keyR s1 q) → (r.2.code = 0 → r.1.heads.length ≤ 4) → DsPost wr g D b T hv1 r (.returned (.tuple #[])) w9 → ∃ s' q' hv', meas q' < meas q ∧ KeyD w w9 g D b T hv (keyM s p) (meas q') s' q' hv') := by
      intro r hv0 w9 hsim hfew hpost
      obtain ⟨-, hd, hv', s', hs', hs0, hm, hk⟩ := hpost
      have hless := keyR_less (s := s1) HE.out
      rw [← sim_meas hsim] at hless
      by_cases hr0 : r.2.code = 0
      · refine ⟨s', r.2, hv', hless, hd, hs', rfl, fun _ => by rw [hs0 hr0]; exact hfew hr0, ?_, HJ.out.moves.trans hm HJ.out.kept.size, kept_m HJ.out.kept HJ.out.moves hk⟩
        rw [hs0 hr0]
        refine Sim.trans ?_ HJ.out.sim
        rw [keyE_go HE.out]
        exact keyE_sim hsim
      · refine ⟨s', r.2, hv', hless, hd, hs', rfl, fun e => absurd e hr0, ?_, HJ.out.moves.trans hm HJ.out.kept.size, kept_m HJ.out.kept HJ.out.moves hk⟩
        refine Sim.trans ?_ HJ.out.sim
        rw [keyE_go HE.out]
        refine Sim.trans ?_ (keyE_sim hsim)
        exact keyE_sim ⟨rfl, fun _ => rfl, fun e => absurd e hr0⟩
    by_cases hqq : y2 = wQuery
    · subst hqq
      have zo : (wQuery == [113, 117, 101, 114, 121]) = true := rfl
      cases bq
      · have hsim : Sim ({ s1 with query := true }, stp q) (keyR s1 q) := by
          unfold keyR
          rw [← HY.out, show (wQuery == wQuery) = true from rfl, HBQ.out]
          show Sim _ ({ s1 with query := true }, stp (chk true 30 q))
          rw [chk_true]; exact Sim.refl _
        obtain ⟨A1, A2, A3⟩ := hs5.set (s' := { s1 with query := true }) (HJ.out.dc.below HB5.out) HDB.out.2 4 (.bool true) rfl rfl
        obtain ⟨W6, hW6⟩ : ∃ W, w5.setCell ⟨b, 4, none⟩ (.bool true) = W := ⟨_, rfl⟩
        rw [hW6] at A1 A2 A3
        have HA := hid (And.intro A1 (And.intro A2 ((Kept.of_below (X := fun k => k = b) HB5.out).trans A3 (fun k h _ => h))))
        have HW6 := hid hW6
        have HSIM := hid hsim
        clear hs5 A1 A2 A3 hW6 hsim
        go_upto_region 6 with fail
        try change Code.wp _ _ _ _ (w5.setCell ⟨b, 4, none⟩ (.bool true))
        rw [HW6.out]
        clear hcq hfq
        go_wp2_with fail
        refine (docStep_any g D T q W6 HA.out.1).mono ?_
        rintro e w7 ⟨⟨u7, rfl⟩, hd7, hk7⟩
        have HF := hid (RND.out ({ s1 with query := true }, stp q) hv1 w7 HSIM.out (fun _ => HJ.out.few HC.out) ⟨⟨_, rfl⟩, hd7, hv1, _, HA.out.2.1.other hk7 HDB.out.1, fun _ => rfl, Moves.refl _ _, (HA.out.2.2.mono (fun k h _ => Or.inr (Or.inl h))).trans hk7 (fun k h _ => Or.inl h)⟩)
        clear hd7 hk7
        go_wp2_with fail
        obtain ⟨s', q', hv', hless, hJ'⟩ := HF.out
        go_roundg (meas q')
        case measure => have := HJ.out.left; omega
        case rel => exact ⟨_, _, _, hJ'⟩
      · have hsim := headerM_sim (s := s1) (q := q) HC.out (fun e => by rw [HBQ.out] at e; cases e.2)
        have HSIM := hid hsim
        clear hs5 hsim
        go_wp2_with fail
        refine (docHeader_any g D b T q hv1 s1 w5 (HJ.out.dc.below HB5.out) (HJ.out.ds.below HB5.out) HDB.out.2 HC.out (HJ.out.few HC.out)).mono ?_
        rintro e w7 hpost
        obtain ⟨⟨u7, rfl⟩, hd, hv', s', hs', hs0, hm, hk⟩ := hpost
        have HF := hid (RND.out (headerM s1 q) hv1 w7 HSIM.out (headerM_few (HJ.out.few HC.out)) ⟨⟨_, rfl⟩, hd, hv', s', hs', hs0, fun k hk => (hm k hk).imp id (fun e => by have := HB5.out.size; omega), ((Kept.of_below (X := fun _ => False) HB5.out).mono (fun k h _ => h.elim)).trans hk (fun k h _ => h)⟩)
        clear hd hs' hs0 hm hk
        go_wp2_with fail
        obtain ⟨s', q', hv', hless, hJ'⟩ := HF.out
        go_roundg (meas q')
        case measure => have := HJ.out.left; omega
        case rel => exact ⟨_, _, _, hJ'⟩
    · have zo : (y2 == [113, 117, 101, 114, 121]) = false := by have hh : ¬ y2 = [113, 117, 101, 114, 121] := hqq; simpa using hh
      have hsim := headerM_sim (s := s1) (q := q) HC.out (fun e => hqq (HY.out.trans e.1))
      have HSIM := hid hsim
      clear hs5 hsim hqq
      go_wp2_with fail
      refine (docHeader_any g D b T q hv1 s1 w5 (HJ.out.dc.below HB5.out) (HJ.out.ds.below HB5.out) HDB.out.2 HC.out (HJ.out.few HC.out)).mono ?_
      rintro e w7 hpost
      obtain ⟨⟨u7, rfl⟩, hd, hv', s', hs', hs0, hm, hk⟩ := hpost
      have HF := hid (RND.out (headerM s1 q) hv1 w7 HSIM.out (headerM_few (HJ.out.few HC.out)) ⟨⟨_, rfl⟩, hd, hv', s', hs', hs0, fun k hk => (hm k hk).imp id (fun e => by have := HB5.out.size; omega), ((Kept.of_below (X := fun _ => False) HB5.out).mono (fun k h _ => h.elim)).trans hk (fun k h _ => h)⟩)
      clear hd hs' hs0 hm hk
      go_wp2_with fail
      obtain ⟨s', q', hv', hless, hJ'⟩ := HF.out
      go_roundg (meas q')
      case measure => have := HJ.out.left; omega
      case rel => exact ⟨_, _, _, hJ'⟩
end Go.Proofs.YtenijpcjemdhfaaGreatDoor
