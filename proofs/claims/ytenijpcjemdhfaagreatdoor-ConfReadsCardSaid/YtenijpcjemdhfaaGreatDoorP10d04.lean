/-
  Several texts in one: ConfH, ConfI, ConfJ, ConfK, ConfZ, ConfM, ConfN.
-/
import Derived.Test.YtenijpcjemdhfaaGreatDoorP10d03
import Derived.Deep.LoopGhost
import Derived.Test.YtenijpcjemdhfaaGreatDoorHeldA
import Derived.Test.YtenijpcjemdhfaaGreatDoorPureAll3
import Derived.Deep.QuietTactic
import Derived.BigQuiet
/-
  Contracts of package conf: the reader's key.
-/
namespace Go.Pantry
open Go.RowKit
theorem keyF_stop {k : Nat} {s : SiteM} {p : Ps} (h : keyGo p = false) : keyF k s p = (s, p) := by
  cases k with
  | zero => rfl
  | succ k => rw [keyF, h]; rfl
theorem keyF_go {k : Nat} {s : SiteM} {p : Ps} (h : keyGo p = true) : keyF (k + 1) s p = keyF k (keyR s p).1 (keyR s p).2 := by
  rw [keyF, if_pos h]
theorem meas_pos {p : Ps} (h : p.code = 0) : 0 < meas p := by unfold meas; rw [h]; simp
end Go.Pantry
namespace Go.Proofs.YtenijpcjemdhfaaGreatDoor
open Go.RowKit Go.Pantry

theorem infoS : (Tryz.prog.info? 9).map (fun i => (i.zero, i.size, i.bytes)) = some (some (.string ⟨#[]⟩), 1, 16) := by kernel_rfl
theorem Moves.nil_of {w : World} {hv hv' : Value} (h : Moves w hv hv') : Moves w hv hv' := h
/-- a round of key: what holds at the loop's head -/
structure KeyJ (w0 wr : World) (g b : Nat) (T : List UInt8) (hv : Value) (R : SiteM × Ps) (k : Nat) (s : SiteM) (p : Ps) (hv' : Value) : Prop where
  ok : RcOk wr g T p
  box : SbAt wr b hv' s
  moves : Moves w0 hv hv'
  kept : Kept (fun k => k = g ∨ Fb b hv k) w0 wr
  size : meas p ≤ k
  is : keyF k s p = R
  heads : s.heads.length + p.ws.length ≤ 100000
/-- from hv' to hv -/
theorem kept_m {w0 w1 w2 : World} {g b : Nat} {hv hv' : Value} (h : Kept (fun k => k = g ∨ Fb b hv k) w0 w1) (hm : Moves w0 hv hv') (k : Kept (fun k => k = g ∨ Fb b hv' k) w1 w2) : Kept (fun k => k = g ∨ Fb b hv k) w0 w2 :=
  h.trans k (fun j hj hlt => by
    rcases hj with e | e | e
    · exact .inl e
    · exact .inr (.inl e)
    · rcases hm j e with e | e
      · exact .inr (.inr e)
      · omega)
set_option maxRecDepth 4000 in
theorem key_any (g b : Nat) (T : List UInt8) (p : Ps) (hv : Value) (s : SiteM) (w : World) (h : RcOk w g T p) (hs : SbAt w b hv s) (hgb : g < b) (hh : s.heads.length + p.ws.length ≤ 100000) :
    Calls Tryz.prog 104 #[.pointer (some ⟨g, 0, none⟩), .pointer (some ⟨b, 0, none⟩)] w (SPost w g b T hv (keyM s p)) := by
  have HS := hid hs
  have H := hid h
  have HG := hid hgb
  obtain ⟨R, hR⟩ : ∃ R, keyM s p = R := ⟨_, rfl⟩
  rw [hR]
  have HR := hid hR
  have HH := hid hh
  clear h hs hgb hR hh
  go_enter Tryz.func104, Tryz.ntmps104
  go_wp2_with fail
  refine (expect_any g T p wPath w H.out).mono ?_
  intro e w1 hp1
  obtain ⟨u1, rfl, ho1, hk1⟩ := hp1.form
  have hs1 := HS.out.other hk1 HG.out
  obtain ⟨A1, A2, A3⟩ := hs1.set (s' := { s with query := false }) ho1 HG.out 4 (.bool false) rfl rfl
  have AK := kept_b (kept_s (kept_0 w g b hv) hk1) A3
  have hc := hs1.row.cell 4
  have hf := hs1.row.free 4
  have J : Hid (KeyJ w (w1.setCell ⟨b, 4, none⟩ (.bool false)) g b T hv R (meas (expM wPath p)) { s with query := false } (expM wPath p) hv) :=
    ⟨A1, A2, Moves.refl _ _, AK, Nat.le_refl _, HR.out, by
      have := (fol_exp wPath p).len
      have := HH.out
      show s.heads.length + _ ≤ _
      omega⟩
  clear hp1 ho1 hk1 hs1 A1 A2 A3 AK
  go_wp2_with fail
  go_loopg [] (meas (expM wPath p)) (fun k wr => ∃ s' p' hv', KeyJ w wr g b T hv R k s' p' hv')
  case atStart => exact ⟨_, _, _, J.out⟩
  case round =>
    clear J hc hf HH
    obtain ⟨s1, p1, hv1, hJ⟩ := hrel
    have HJ := hid hJ
    have h4 := hJ.ok.word
    have cf := faultless_any g T p1 wr hJ.ok
    obtain ⟨x, hx⟩ : ∃ x, hdW p1 = x := ⟨_, rfl⟩
    rw [hx] at h4
    have HX := hid hx
    by_cases h0 : p1.code = 0
    rotate_left
    · have e0 : (p1.code == 0) = false := by simp [h0]
      rw [e0] at cf
      have CF := hid cf
      have hgo : keyGo p1 = false := by unfold keyGo; rw [e0]; rfl
      have HQ := hid hgo
      clear hJ cf h0 e0 hx hgo
      go_wp2_with (go_at_call 39; refine CF.out.mono ?_; rintro e w2 ⟨rfl, rfl⟩)
      go_end0
      refine ⟨⟨_, rfl⟩, ?_⟩
      have hi := HJ.out.is
      rw [keyF_stop HQ.out] at hi
      rw [← hi]
      exact ⟨HJ.out.ok, hv1, HJ.out.box, HJ.out.moves, HJ.out.kept⟩
    have e0 : (p1.code == 0) = true := by simp [h0]
    rw [e0] at cf
    have CF := hid cf
    have H0 := hid h0
    clear cf h0
    by_cases h59 : x = [59]
    · subst h59
      have hgo : keyGo p1 = false := by unfold keyGo; rw [e0, hx]; rfl
      have HQ := hid hgo
      clear hJ e0 hx hgo
      go_wp2_with (go_at_call 39; refine CF.out.mono ?_; rintro e w2 ⟨rfl, rfl⟩)
      go_end0
      refine ⟨⟨_, rfl⟩, ?_⟩
      have hi := HJ.out.is
      rw [keyF_stop HQ.out] at hi
      rw [← hi]
      exact ⟨HJ.out.ok, hv1, HJ.out.box, HJ.out.moves, HJ.out.kept⟩
    have hgo : keyGo p1 = true := by
      unfold keyGo; rw [e0, hx, Bool.true_and, bne_iff_ne]; exact h59
    have hlt := keyR_less (s := s1) hgo
    obtain ⟨k', hk'⟩ : ∃ k', gk = k' + 1 := ⟨gk - 1, by have := hJ.size; omega⟩
    have hi := hJ.is
    rw [hk', keyF_go hgo] at hi
    have hsz : meas (keyR s1 p1).2 ≤ k' := by have := hJ.size; omega
    have hh1 : (keyR s1 p1).1.heads.length + (keyR s1 p1).2.ws.length ≤ 100000 := by
      have h9 := hJ.heads
      have h8 := (fol_keyR s1 p1).len
      unfold keyR at h8 ⊢
      split
      · rename_i hq; rw [if_pos hq] at h8; exact Nat.le_trans (Nat.add_le_add_left h8 _) h9
      · rename_i hq
        rw [if_neg hq] at h8
        split
        · rename_i hq2
          have hne : p1.ws ≠ [] := hd_ne (by rw [beq_iff_eq] at hq2; rw [hq2]; decide)
          have := stp_less (((fol_stp p1).trans (fol_chk (mayM s1.heads (hdW (stp p1))) 30 _)).trans (fol_chk (decide (s1.heads.length < 4)) 32 _)) hne
          rw [List.length_append]
          simp only [List.length_singleton]
          have e2 : (nameM s1.heads (stp p1)).ws.length < p1.ws.length := this
          omega
        · rename_i hq2; rw [if_neg hq2] at h8; exact Nat.le_trans (Nat.add_le_add_left h8 _) h9
    have HN := hid (And.intro hi (And.intro hsz (And.intro hh1 hk')))
    have hx59 : (x == ([59] : List UInt8)) = false := by simpa using h59
    clear hi hsz hh1 hk' hlt hgo h59 e0
    by_cases hq : x = wQuery
    · subst hq
      have hR : keyR s1 p1 = ({ s1 with query := true }, stp (chk (!s1.query) 30 p1)) := by
        unfold keyR; rw [hx]; rfl
      rw [hR] at HN
      have hc4 := hJ.box.row.cell 4
      obtain ⟨y, hy⟩ : ∃ y, s1.query = y := ⟨_, rfl⟩
      simp only [siteRow] at hc4
      rw [hy] at hc4 HN
      have CK := hid (check_any g T p1 (!y) 30 wr hJ.ok (by decide))
      clear hJ hx hR hx59
      go_wp2_with (go_at_call 39; refine CF.out.mono ?_; rintro e w2 ⟨rfl, rfl⟩)
      refine CK.out.mono ?_
      intro e w2 hp2
      obtain ⟨u2, rfl, ho2, hk2⟩ := hp2.form
      have hs2 := HJ.out.box.other hk2 HG.out
      obtain ⟨A1, A2, A3⟩ := hs2.set (s' := { s1 with query := true }) ho2 HG.out 4 (.bool true) rfl rfl
      have AK := kept_b (kept_s (kept_0 wr g b hv1) hk2) A3
      have d4 := hs2.row.cell 4
      have f4 := hs2.row.free 4
      obtain ⟨W, hW⟩ : ∃ W, w2.setCell ⟨b, 4, none⟩ (.bool true) = W := ⟨_, rfl⟩
      rw [hW] at A1 A2 AK
      have H2 := hid (And.intro A1 (And.intro A2 AK))
      have HW := hid hW
      clear hp2 ho2 hk2 hs2 A1 A2 A3 AK hc4 hW h4
      go_wp2_with fail
      try rw [HW.out]
      refine (step_any g T _ W H2.out.1).mono ?_
      intro e w3 hp3
      obtain ⟨u3, rfl, ho3, hk3⟩ := hp3.form
      have H3 := hid (And.intro ho3 (And.intro (H2.out.2.1.other hk3 HG.out) (kept_s H2.out.2.2 hk3)))
      clear hp3 ho3 hk3 d4 f4
      go_wp2_with fail
      obtain ⟨hi, hsz, hh1, hk'⟩ := HN.out
      go_roundg k'
      case measure => omega
      case rel => exact ⟨_, _, hv1, H3.out.1, H3.out.2.1, HJ.out.moves, kept_m HJ.out.kept HJ.out.moves H3.out.2.2, hsz, hi, hh1⟩
    have hxq : (x == ([113, 117, 101, 114, 121] : List UInt8)) = false := by
      rw [beq_eq_false_iff_ne]; exact hq
    by_cases hq2 : x = wHeader
    rotate_left
    · have hxh : (x == ([104, 101, 97, 100, 101, 114] : List UInt8)) = false := by
        rw [beq_eq_false_iff_ne]; exact hq2
      have hR : keyR s1 p1 = (s1, chk false 30 p1) := by
        unfold keyR
        rw [hx, show (x == wQuery) = false from hxq, show (x == wHeader) = false from hxh]; rfl
      rw [hR] at HN
      have CK := hid (check_any g T p1 false 30 wr hJ.ok (by decide))
      clear hJ hx hR hq hq2
      go_wp2_with (go_at_call 39; refine CF.out.mono ?_; rintro e w2 ⟨rfl, rfl⟩)
      refine CK.out.mono ?_
      intro e w2 hp2
      obtain ⟨u2, rfl, ho2, hk2⟩ := hp2.form
      have H2 := hid (And.intro ho2 (And.intro (HJ.out.box.other hk2 HG.out) (kept_s (kept_0 wr g b hv1) hk2)))
      clear hp2 ho2 hk2 h4
      go_wp2_with fail
      obtain ⟨hi, hsz, hh1, hk'⟩ := HN.out
      go_roundg k'
      case measure => omega
      case rel => exact ⟨_, _, hv1, H2.out.1, H2.out.2.1, HJ.out.moves, kept_m HJ.out.kept HJ.out.moves H2.out.2.2, hsz, hi, hh1⟩
    subst hq2
    have hR : keyR s1 p1 = ({ s1 with heads := s1.heads ++ [hdW (stp p1)] }, nameM s1.heads (stp p1)) := by
      unfold keyR
      rw [hx, show (wHeader == wQuery) = false by decide, show (wHeader == wHeader) = true by decide]; rfl
    rw [hR] at HN
    clear hx hR hq hxq
    go_wp2_with (go_at_call 39; refine CF.out.mono ?_; rintro e w2 ⟨rfl, rfl⟩)
    refine (step_any g T _ wr HJ.out.ok).mono ?_
    intro e w2 hp2
    obtain ⟨u2, rfl, ho2, hk2⟩ := hp2.form
    have hs2 := HJ.out.box.other hk2 HG.out
    have H2 := hid (And.intro ho2 (And.intro hs2 (kept_s (kept_0 wr g b hv1) hk2)))
    have c6 := hs2.row.cell 6
    have f6 := hs2.row.free 6
    have HWS := hid (show (stp p1).code = p1.code from rfl)
    clear hp2 ho2 hk2 hs2 hJ h4 HWS
    go_wp2_with fail
    refine wp_region_K 15 (by kernel_rfl) (fun w' => w'.cell? ⟨b, 6, none⟩ = some hv1) (by exact c6) (fun hH => ?_)
    refine wpAnyK_take (i := 0) (v := ?_) rfl (by kernel_rfl) (by kernel_rfl) (by kernel_rfl) (by decide) (by kernel_rfl) (fun _ _ _ h => h) (Or.inl ⟨by kernel_rfl, ?_⟩) hH ?_
    rotate_left
    · intro W hS
      go_simp
      first | done | with_reducible rfl
    simp only [Act.put, List.getElem_toArray, List.getElem_cons_succ, List.getElem_cons_zero, List.setIfInBounds_toArray, List.set_cons_zero, List.set_cons_succ]
    refine wpAnyK_take (i := 1) (v := ?_) rfl (by kernel_rfl) (by kernel_rfl) (by kernel_rfl) (by decide) (by kernel_rfl) (fun _ _ _ h => h) (Or.inl ⟨by kernel_rfl, ?_⟩) hH ?_
    rotate_left
    · intro W hS
      go_simp
      first | done | with_reducible rfl
    simp only [Act.put, List.getElem_toArray, List.getElem_cons_succ, List.getElem_cons_zero, List.setIfInBounds_toArray, List.set_cons_zero, List.set_cons_succ]
    refine wpAnyK_take (i := 2) (v := ?_) rfl (by kernel_rfl) (by kernel_rfl) (by kernel_rfl) (by decide) (by kernel_rfl) (fun _ _ _ h => h) (Or.inl ⟨by kernel_rfl, ?_⟩) hH ?_
    rotate_left
    · intro W hS
      go_simp
      first | done | with_reducible rfl
    simp only [Act.put, List.getElem_toArray, List.getElem_cons_succ, List.getElem_cons_zero, List.setIfInBounds_toArray, List.set_cons_zero, List.set_cons_succ]
    refine wpAnyK_take (i := 3) (v := ?_) rfl (by kernel_rfl) (by kernel_rfl) (by kernel_rfl) (by decide) (by kernel_rfl) (fun _ _ _ h => h) (Or.inl ⟨by kernel_rfl, ?_⟩) hH ?_
    rotate_left
    · intro W hS
      go_simp
      first | done | with_reducible rfl
    simp only [Act.put, List.getElem_toArray, List.getElem_cons_succ, List.getElem_cons_zero, List.setIfInBounds_toArray, List.set_cons_zero, List.set_cons_succ]
    refine wpAnyK_take (i := 4) (v := ?_) rfl (by kernel_rfl) (by kernel_rfl) (by kernel_rfl) (by decide) (by kernel_rfl) (fun _ _ _ h => h) (Or.inl ⟨by kernel_rfl, ?_⟩) hH ?_
    rotate_left
    · intro W hS
      go_simp
      first | done | with_reducible rfl
    simp only [Act.put, List.getElem_toArray, List.getElem_cons_succ, List.getElem_cons_zero, List.setIfInBounds_toArray, List.set_cons_zero, List.set_cons_succ]
    refine wpAnyK_take (i := 5) (v := ?_) rfl (by kernel_rfl) (by kernel_rfl) (by kernel_rfl) (by decide) (by kernel_rfl) (fun _ _ _ h => h) (Or.inl ⟨by kernel_rfl, ?_⟩) hH ?_
    rotate_left
    · intro W hS
      go_simp
      first | done | with_reducible rfl
    simp only [Act.put, List.getElem_toArray, List.getElem_cons_succ, List.getElem_cons_zero, List.setIfInBounds_toArray, List.set_cons_zero, List.set_cons_succ]
    refine wpAnyK_take (i := 6) (v := ?_) rfl (by kernel_rfl) (by kernel_rfl) (by kernel_rfl) (by decide) (by kernel_rfl) (fun _ _ _ h => h) (Or.inl ⟨by kernel_rfl, ?_⟩) hH ?_
    rotate_left
    · intro W hS
      go_simp
      first | done | with_reducible rfl
    simp only [Act.put, List.getElem_toArray, List.getElem_cons_succ, List.getElem_cons_zero, List.setIfInBounds_toArray, List.set_cons_zero, List.set_cons_succ]
    refine wpAnyK_take (i := 7) (v := ?_) rfl (by kernel_rfl) (by kernel_rfl) (by kernel_rfl) (by decide) (by kernel_rfl) (fun _ _ _ h => h) (Or.inl ⟨by kernel_rfl, ?_⟩) hH ?_
    rotate_left
    · intro W hS
      go_simp
      first | done | with_reducible rfl
    simp only [Act.put, List.getElem_toArray, List.getElem_cons_succ, List.getElem_cons_zero, List.setIfInBounds_toArray, List.set_cons_zero, List.set_cons_succ]
    refine wpAnyK_take (i := 8) (v := ?_) rfl (by kernel_rfl) (by kernel_rfl) (by kernel_rfl) (by decide) (by kernel_rfl) (fun _ _ _ h => h) (Or.inl ⟨by kernel_rfl, ?_⟩) hH ?_
    rotate_left
    · intro W hS
      go_simp
      first | done | with_reducible rfl
    simp only [Act.put, List.getElem_toArray, List.getElem_cons_succ, List.getElem_cons_zero, List.setIfInBounds_toArray, List.set_cons_zero, List.set_cons_succ]
    refine wpAnyK_take (i := 9) (v := ?_) rfl (by kernel_rfl) (by kernel_rfl) (by kernel_rfl) (by decide) (by kernel_rfl) (fun _ _ _ h => h) (Or.inl ⟨by kernel_rfl, ?_⟩) hH ?_
    rotate_left
    · intro W hS
      go_simp
      first | done | with_reducible rfl
    simp only [Act.put, List.getElem_toArray, List.getElem_cons_succ, List.getElem_cons_zero, List.setIfInBounds_toArray, List.set_cons_zero, List.set_cons_succ]
    refine wpAnyK_next (i := 10) (by kernel_rfl) rfl (by decide) (fun K hK => ?_)
    go_simp
    refine (name_any g T (stp p1) hv1 s1.heads w2.drew (H2.out.1.below ((Below.refl _ _).drew)) ((H2.out.2.1.below ((Below.refl _ _).drew)).own.reads) (by have := HJ.out.heads; omega)).mono ?_
    rintro e w3 ⟨rfl, ho3, hk3⟩
    have hs3 := (H2.out.2.1.below ((Below.refl _ _).drew)).other hk3 HG.out
    have H3 := hid (And.intro ho3 (And.intro hs3 (kept_s (H2.out.2.2.drew) hk3)))
    have cc3 := hs3.row.cell 6
    clear ho3 hs3 hk3
    refine hK.out _ _ cc3 (fun hH => ?_)
    clear hK K
    try simp only [Act.put, List.getElem_toArray, List.getElem_cons_succ, List.getElem_cons_zero, List.setIfInBounds_toArray, List.set_cons_zero, List.set_cons_succ]
    refine wpAnyK_next (i := 11) (by kernel_rfl) rfl (by decide) (fun K hK => ?_)
    obtain ⟨w4, hW4⟩ : ∃ W, W = w3.alloc (.cells #[strV (hdW (stp p1))] 9) := ⟨_, rfl⟩
    have hb4 : Below w3.heap.size w3 w4 := by rw [hW4]; exact below_alloc _ _
    have H4 := hid (And.intro (H3.out.1.below hb4) (And.intro (H3.out.2.1.below hb4) (H3.out.2.2.then hb4)))
    have HC4 : Hid (w4.cell? ⟨w3.heap.size, 0, none⟩ = some (strV (hdW (stp p1)))) := by rw [hW4]; exact World.cell?_alloc_at _ _ _ _ rfl
    have cc4 := H4.out.2.1.row.cell 6
    have HZ := hid (show w3.heap.size < w4.heap.size by rw [hW4]; simp)
    go_simp
    rw [← hW4]
    clear hW4 hb4
    refine hK.out _ _ cc4 (fun hH => ?_)
    clear hK K
    try simp only [Act.put, List.getElem_toArray, List.getElem_cons_succ, List.getElem_cons_zero, List.setIfInBounds_toArray, List.set_cons_zero, List.set_cons_succ]
    refine wpAnyK_next (i := 12) (by kernel_rfl) rfl (by decide) (fun K hK => ?_)
    rw [if_pos (by kernel_rfl)]
    have hs4 := H4.out.2.1
    refine wp_append_gen w4 (.tmp 46) (.tmp 53) 62 rfl 0 9 Tryz.underlying62 infoS rfl (by decide) (by decide) (v := hv1) rfl hs4.own ⟨w3.heap.size, 0, none⟩ 1 1 [strV (hdW (stp p1))] rfl (fun j u hj => ?_) (fun u hu => ?_) rfl (by have := HJ.out.heads; omega) (Nat.zero_le _) (fun v5 w5 ho5 hg5 hi5 => ?_)
    · cases j with
      | zero => cases hj; rw [addAt2]; exact HC4.out
      | succ j => cases hj
    · rw [List.mem_singleton] at hu; subst hu; rfl
    obtain ⟨ao5, n5, c5, rfl⟩ : ∃ ao n c, v5 = .slice ao n c := by obtain ⟨ao, c, e⟩ := ho5.reads.form; exact ⟨ao, _, c, e⟩
    have hk5 : Kept (Fb b hv1) w4 w5 := (Kept.refl (Fb b hv1) w4).grown hg5 (fun k hk _ => .inr hk)
    have hrow5 : rowIs w5 b (siteRow hv1 s1) 64 := hs4.row.kept ((Kept.refl (fun k => hv1.ownBlock = some k) w4).grown hg5 (fun k hk _ => hk)) (fun e => Nat.lt_irrefl _ (hs4.apart _ e))
    have cc5 := hrow5.cell 6
    have ff5 := hrow5.free 6
    have hlt4 := hs4.row.lt
    have hin5 : ∀ k, (Value.slice ao5 n5 c5).ownBlock = some k → b < k := fun k hk => by
      rcases hi5 k hk with e | e
      · exact hs4.apart k e
      · omega
    have ho5r : RcOk w5 g T (nameM s1.heads (stp p1)) := H4.out.1.kept hk5 (fun k hk => by have := Fb.ge hs4 hk; have := HG.out; omega)
    have hkb := (Kept.refl (fun k => k = b) w5).setCell (i := 6) (.inl rfl) (.slice ao5 n5 c5)
    have H5 : Hid (RcOk (w5.setCell ⟨b, 6, none⟩ (.slice ao5 n5 c5)) g T (nameM s1.heads (stp p1)) ∧ SbAt (w5.setCell ⟨b, 6, none⟩ (.slice ao5 n5 c5)) b (.slice ao5 n5 c5) { s1 with heads := s1.heads ++ [hdW (stp p1)] } ∧ Moves wr hv1 (.slice ao5 n5 c5) ∧ Kept (fun k => k = g ∨ Fb b hv1 k) wr (w5.setCell ⟨b, 6, none⟩ (.slice ao5 n5 c5))) := by
      refine ⟨ho5r.kept hkb (fun k hk => by rw [hk]; exact HG.out), ⟨hrow5.setCell 6 (.slice ao5 n5 c5), ?_, hin5⟩, fun k hk => ?_, kept_b (H4.out.2.2.trans hk5 (fun k h _ => .inr h)) hkb⟩
      · have := ownsRow_kept ho5 hkb (fun k hk e => by have := hin5 k hk; omega)
        simpa using this
      · rcases hi5 k hk with e | e
        · exact .inl e
        · exact .inr (Nat.le_trans H4.out.2.2.size e)
    clear hs4 ho5 hg5 hi5 hk5 hrow5 hlt4 hin5 ho5r hkb
    refine hK.out _ _ cc5 (fun hH => ?_)
    clear hK K
    try simp only [Act.put, List.getElem_toArray, List.getElem_cons_succ, List.getElem_cons_zero, List.setIfInBounds_toArray, List.set_cons_zero, List.set_cons_succ]
    refine wpAnyK_next (i := 13) (by kernel_rfl) rfl (by decide) (fun K hK => ?_)
    go_simp
    refine hK.out _ _ hH (fun hH => ?_)
    clear hK K
    try simp only [Act.put, List.getElem_toArray, List.getElem_cons_succ, List.getElem_cons_zero, List.setIfInBounds_toArray, List.set_cons_zero, List.set_cons_succ]
    refine wpAnyK_take (i := 14) (v := ?_) rfl (by kernel_rfl) (by kernel_rfl) (by kernel_rfl) (by decide) (by kernel_rfl) (fun _ _ _ h => h) (Or.inl ⟨by kernel_rfl, ?_⟩) hH ?_
    rotate_left
    · intro W hS
      go_simp
      first | done | with_reducible rfl
    simp only [Act.put, List.getElem_toArray, List.getElem_cons_succ, List.getElem_cons_zero, List.setIfInBounds_toArray, List.set_cons_zero, List.set_cons_succ]
    refine wpAnyK_last (by kernel_rfl) rfl (fun K hK => ?_)
    go_simp
    refine hK.out _ _ ?_
    clear hK K
    try simp only [Act.put, List.getElem_toArray, List.getElem_cons_succ, List.getElem_cons_zero, List.setIfInBounds_toArray, List.set_cons_zero, List.set_cons_succ]
    refine wpAnyK_done (by kernel_rfl) ?_ _
    clear cc3 cc4 cc5 ff5 c6 f6 hH
    go_wp2_with fail
    obtain ⟨hi, hsz, hh1, hk'⟩ := HN.out
    go_roundg k'
    case measure => omega
    case rel => exact ⟨_, _, .slice ao5 n5 c5, H5.out.1, H5.out.2.1, HJ.out.moves.trans H5.out.2.2.1 HJ.out.kept.size, kept_m HJ.out.kept HJ.out.moves H5.out.2.2.2, hsz, hi, hh1⟩
end Go.Proofs.YtenijpcjemdhfaaGreatDoor
/-
  Contracts of package conf: the reader's rule.
-/
namespace Go.Pantry
open Go.RowKit
/-- heads and words to come -/
def hsz (s : SiteM) (p : Ps) : Nat := s.heads.length + p.ws.length
theorem hsz_fol {s s' : SiteM} {p q : Ps} (h : Fol p q) (e : s'.heads = s.heads) : hsz s' q ≤ hsz s p := by
  unfold hsz; rw [e]; exact Nat.add_le_add_left h.len _
theorem keyR_hsz (s : SiteM) (p : Ps) : hsz (keyR s p).1 (keyR s p).2 ≤ hsz s p := by
  have h8 := fol_keyR s p
  unfold keyR at h8 ⊢
  split
  · rename_i hq; rw [if_pos hq] at h8; exact hsz_fol h8 rfl
  · rename_i hq
    rw [if_neg hq] at h8
    split
    · rename_i hq2
      have hne : p.ws ≠ [] := hd_ne (by rw [beq_iff_eq] at hq2; rw [hq2]; decide)
      have := stp_less (((fol_stp p).trans (fol_chk (mayM s.heads (hdW (stp p))) 30 _)).trans (fol_chk (decide (s.heads.length < 4)) 32 _)) hne
      have e2 : (nameM s.heads (stp p)).ws.length < p.ws.length := this
      unfold hsz
      rw [List.length_append]
      simp only [List.length_singleton]
      omega
    · rename_i hq2; rw [if_neg hq2] at h8; exact hsz_fol h8 rfl
theorem keyF_hsz : ∀ (k : Nat) (s : SiteM) (p : Ps), hsz (keyF k s p).1 (keyF k s p).2 ≤ hsz s p
  | 0, s, p => Nat.le_refl _
  | k + 1, s, p => by
    rw [keyF]; split
    · exact Nat.le_trans (keyF_hsz k _ _) (keyR_hsz s p)
    · exact Nat.le_refl _
theorem kind_hsz (w : List UInt8) (s : SiteM) (p : Ps) : hsz (kindM w s p).1 (kindM w s p).2 ≤ hsz s p := by
  have h := fol_kind w s p
  unfold kindM at h ⊢
  split
  · exact hsz_fol (fol_num _ _ _) rfl
  · split
    · exact hsz_fol ((fol_num _ _ _).trans (fol_num _ _ _)) rfl
    · split
      · exact Nat.le_trans (keyF_hsz _ _ _) (hsz_fol (fol_exp _ _) rfl)
      · exact hsz_fol ((fol_chk _ _ _).trans (fol_stp _)) rfl
theorem rule_hsz (s : SiteM) (seen : List (List UInt8)) (p : Ps) : hsz (ruleM s seen p).1 (ruleM s seen p).2.2 ≤ hsz s p := by
  unfold ruleM
  split
  · exact Nat.le_trans (hsz_fol (fol_exp _ _) rfl) (Nat.le_trans (kind_hsz _ _ _) (hsz_fol (fol_once _ _) rfl))
  · exact hsz_fol (fol_chk _ _ _) rfl
theorem rule_seen (s : SiteM) (seen : List (List UInt8)) (p : Ps) : (ruleM s seen p).2.1.length ≤ seen.length + 1 := by
  unfold ruleM; split <;> simp
end Go.Pantry
namespace Go.Proofs.YtenijpcjemdhfaaGreatDoor
open Go.RowKit Go.Pantry

/-- what a rule may change -/
def Fr (g b m : Nat) (hv : Value) (k : Nat) : Prop := k = g ∨ Fb b hv k ∨ k = m
structure RulePost (w : World) (g b m : Nat) (T : List UInt8) (hv : Value) (r : SiteM × List (List UInt8) × Ps) (hv' : Value) (w' : World) : Prop where
  ok : RcOk w' g T r.2.2
  seen : Seen w' m r.2.1
  box : SbAt w' b hv' r.1
  moves : Moves w hv hv'
  kept : Kept (Fr g b m hv) w w'
def RPost (w : World) (g b m : Nat) (T : List UInt8) (hv : Value) (r : SiteM × List (List UInt8) × Ps) (e : Ending) (w' : World) : Prop := (∃ u, e = .returned u) ∧ ∃ hv', RulePost w g b m T hv r hv' w'
set_option maxRecDepth 8000 in
theorem rule_any (g b m : Nat) (T : List UInt8) (p : Ps) (hv : Value) (s : SiteM) (seen : List (List UInt8)) (w : World) (h : RcOk w g T p) (hs : SbAt w b hv s) (hsn : Seen w m seen) (hgb : g < b) (hbm : b < m) (hm : In (fun k => k ≠ m) hv)
    (hh : hsz s p ≤ 100000) (hL : seen.length ≤ 100000) :
    Calls Tryz.prog 77 #[.pointer (some ⟨g, 0, none⟩), .pointer (some ⟨b, 0, none⟩), .map (some m)] w (RPost w g b m T hv (ruleM s seen p)) := by
  have hmf : ∀ (fn : Fn) (first cap : Array Value) (w : World), (Instr.makeFunc fn first cap).run Tryz.prog w = .ok (.func fn first cap) w := fun _ _ _ _ => rfl
  have h4 := h.word
  obtain ⟨x, hx⟩ : ∃ x, hdW p = x := ⟨_, rfl⟩
  rw [hx] at h4
  by_cases hr : isRule x = true
  rotate_left
  · have hR : ruleM s seen p = (s, seen, chk false 30 p) := by
      unfold ruleM; rw [hx, if_neg hr]
    rw [hR]
    have n1 : (x == ([111, 114, 105, 103, 105, 110] : List UInt8)) = false := by
      rw [beq_eq_false_iff_ne]; rintro rfl; exact hr (by decide)
    have n2 : (x == ([116, 116, 108] : List UInt8)) = false := by
      rw [beq_eq_false_iff_ne]; rintro rfl; exact hr (by decide)
    have n3 : (x == ([107, 101, 121] : List UInt8)) = false := by
      rw [beq_eq_false_iff_ne]; rintro rfl; exact hr (by decide)
    have n4 : (x == ([107, 101, 101, 112] : List UInt8)) = false := by
      rw [beq_eq_false_iff_ne]; rintro rfl; exact hr (by decide)
    have CK := hid (check_any g T p false 30 w h (by decide))
    have HF := hid (And.intro hs (And.intro hsn (And.intro hgb hbm)))
    clear h hs hsn hgb hbm hm hh hL hx hr hR
    go_enter Tryz.func77, Tryz.ntmps77
    go_wp2_with fail
    refine CK.out.mono ?_
    intro e w2 hp2
    obtain ⟨u2, rfl, ho2, hk2⟩ := hp2.form
    have H2 := hid (show RulePost w g b m T hv (s, seen, chk false 30 p) hv w2 from ⟨ho2, HF.out.2.1.kept hk2 (by have := HF.out.2.2; omega), HF.out.1.other hk2 HF.out.2.2.1, Moves.refl _ _, hk2.mono (fun k h _ => Or.inl h)⟩)
    clear hp2 ho2 hk2 h4
    go_wp2_with fail
    first | done | (go_end0; exact ⟨⟨_, rfl⟩, hv, H2.out⟩)
  · have co := once_any g m T p seen w h hsn (by omega) hL
    have hR : ruleM s seen p = ((kindM x s (onceM seen p)).1, x :: seen, expM [59] (kindM x s (onceM seen p)).2) := by
      unfold ruleM; rw [hx, if_pos hr]
    rw [hR]
    rw [hx] at co
    have CO := hid co
    have HF := hid (And.intro hs (And.intro hgb (And.intro hbm hm)))
    have hh2 : (onceM seen p).ws.length + s.heads.length ≤ 100000 := by
      have := hsz_fol (s := s) (s' := s) (fol_once seen p) rfl
      unfold hsz at this hh; omega
    have HH := hid hh2
    clear h hs hsn hgb hbm hm hh hL hx hR co hh2
    have hor : x = wOrigin ∨ x = wTtl ∨ x = wKey ∨ x = wKeep := by
      unfold isRule at hr
      simpa [Bool.or_eq_true, or_assoc] using hr
    clear hr
    rcases hor with rfl | rfl | rfl | rfl
    · have ck : ∀ W, RcOk W g T (onceM seen p) → SbAt W b hv s → Calls Tryz.prog 102 #[.pointer (some ⟨g, 0, none⟩), .pointer (some ⟨b, 0, none⟩)] W (SPost W g b T hv (kindM wOrigin s (onceM seen p))) := fun W h1 h2 => origin_any g b T (onceM seen p) hv s W h1 h2 HF.out.2.1
      have CK := hid ck
      obtain ⟨K2, hK2⟩ : ∃ K2, kindM wOrigin s (onceM seen p) = K2 := ⟨_, rfl⟩
      obtain ⟨q1, hq1⟩ : ∃ q1, onceM seen p = q1 := ⟨_, rfl⟩
      rw [hq1] at hK2
      rw [hq1] at CK CO
      rw [hK2] at CK
      rw [hq1, hK2]
      clear ck hK2 hq1 HH
      go_enter Tryz.func77, Tryz.ntmps77
      go_wp2_with fail
      refine CO.out.mono ?_
      rintro e w1 ⟨⟨u1, rfl⟩, ho1, hs1, hk1⟩
      have hb1 : SbAt w1 b hv s := HF.out.1.kept hk1 (fun k hk e => by
        have h1 := Fb.ge HF.out.1 hk
        have h2 := HF.out.2.1
        have h3 := HF.out.2.2.1
        rcases e with e | e
        · omega
        · rcases hk with hk | hk
          · omega
          · exact HF.out.2.2.2 k hk e)
      have H1 := hid (And.intro ho1 (And.intro hs1 (And.intro hb1 (show Kept (Fr g b m hv) w w1 from hk1.mono (fun k h _ => h.elim .inl (fun e => .inr (.inr e)))))))
      clear ho1 hs1 hk1 hb1 h4
      go_wp2_with fail
      refine (CK.out w1 H1.out.1 H1.out.2.2.1).mono ?_
      rintro e w2 ⟨⟨u2, rfl⟩, ho2, hv2, hb2, hm2, hk2⟩
      have hs2 : Seen w2 m (_ :: seen) := H1.out.2.1.kept hk2 (fun e => by
        have h2 := HF.out.2.1
        have h3 := HF.out.2.2.1
        rcases e with e | e | e
        · omega
        · omega
        · exact HF.out.2.2.2 m e rfl)
      have H2 := hid (And.intro ho2 (And.intro hs2 (And.intro hb2 (And.intro (show Moves w hv hv2 from fun k hk => (hm2 k hk).imp id (fun e => Nat.le_trans H1.out.2.2.2.size e)) (show Kept (Fr g b m hv) w w2 from H1.out.2.2.2.trans hk2 (fun k h _ => h.elim .inl (fun e => .inr (.inl e))))))))
      clear ho2 hb2 hm2 hk2 hs2
      go_wp2_with fail
      refine (expect_any g T _ [59] w2 H2.out.1).mono ?_
      intro e w3 hp3
      obtain ⟨u3, rfl, ho3, hk3⟩ := hp3.form
      have H3 := hid (show RulePost w g b m T hv (K2.1, _ :: seen, expM [59] K2.2) hv2 w3 from ⟨ho3, H2.out.2.1.kept hk3 (by
        have h2 := HF.out.2.1
        have h3 := HF.out.2.2.1
        omega), H2.out.2.2.1.other hk3 HF.out.2.1, H2.out.2.2.2.1, H2.out.2.2.2.2.trans hk3 (fun k h _ => .inl h)⟩)
      clear hp3 ho3 hk3
      go_wp2_with fail
      go_end0
      exact ⟨⟨_, rfl⟩, hv2, H3.out⟩
    · have ck : ∀ W, RcOk W g T (onceM seen p) → SbAt W b hv s → Calls Tryz.prog 103 #[.pointer (some ⟨g, 0, none⟩), .pointer (some ⟨b, 0, none⟩)] W (SPost W g b T hv (kindM wTtl s (onceM seen p))) := fun W h1 h2 => ttl_any g b T (onceM seen p) hv s W h1 h2 HF.out.2.1
      have CK := hid ck
      obtain ⟨K2, hK2⟩ : ∃ K2, kindM wTtl s (onceM seen p) = K2 := ⟨_, rfl⟩
      obtain ⟨q1, hq1⟩ : ∃ q1, onceM seen p = q1 := ⟨_, rfl⟩
      rw [hq1] at hK2
      rw [hq1] at CK CO
      rw [hK2] at CK
      rw [hq1, hK2]
      clear ck hK2 hq1 HH
      go_enter Tryz.func77, Tryz.ntmps77
      go_wp2_with fail
      refine CO.out.mono ?_
      rintro e w1 ⟨⟨u1, rfl⟩, ho1, hs1, hk1⟩
      have hb1 : SbAt w1 b hv s := HF.out.1.kept hk1 (fun k hk e => by
        have h1 := Fb.ge HF.out.1 hk
        have h2 := HF.out.2.1
        have h3 := HF.out.2.2.1
        rcases e with e | e
        · omega
        · rcases hk with hk | hk
          · omega
          · exact HF.out.2.2.2 k hk e)
      have H1 := hid (And.intro ho1 (And.intro hs1 (And.intro hb1 (show Kept (Fr g b m hv) w w1 from hk1.mono (fun k h _ => h.elim .inl (fun e => .inr (.inr e)))))))
      clear ho1 hs1 hk1 hb1 h4
      go_wp2_with fail
      refine (CK.out w1 H1.out.1 H1.out.2.2.1).mono ?_
      rintro e w2 ⟨⟨u2, rfl⟩, ho2, hv2, hb2, hm2, hk2⟩
      have hs2 : Seen w2 m (_ :: seen) := H1.out.2.1.kept hk2 (fun e => by
        have h2 := HF.out.2.1
        have h3 := HF.out.2.2.1
        rcases e with e | e | e
        · omega
        · omega
        · exact HF.out.2.2.2 m e rfl)
      have H2 := hid (And.intro ho2 (And.intro hs2 (And.intro hb2 (And.intro (show Moves w hv hv2 from fun k hk => (hm2 k hk).imp id (fun e => Nat.le_trans H1.out.2.2.2.size e)) (show Kept (Fr g b m hv) w w2 from H1.out.2.2.2.trans hk2 (fun k h _ => h.elim .inl (fun e => .inr (.inl e))))))))
      clear ho2 hb2 hm2 hk2 hs2
      go_wp2_with fail
      refine (expect_any g T _ [59] w2 H2.out.1).mono ?_
      intro e w3 hp3
      obtain ⟨u3, rfl, ho3, hk3⟩ := hp3.form
      have H3 := hid (show RulePost w g b m T hv (K2.1, _ :: seen, expM [59] K2.2) hv2 w3 from ⟨ho3, H2.out.2.1.kept hk3 (by
        have h2 := HF.out.2.1
        have h3 := HF.out.2.2.1
        omega), H2.out.2.2.1.other hk3 HF.out.2.1, H2.out.2.2.2.1, H2.out.2.2.2.2.trans hk3 (fun k h _ => .inl h)⟩)
      clear hp3 ho3 hk3
      go_wp2_with fail
      go_end0
      exact ⟨⟨_, rfl⟩, hv2, H3.out⟩
    · have ck : ∀ W, RcOk W g T (onceM seen p) → SbAt W b hv s → Calls Tryz.prog 104 #[.pointer (some ⟨g, 0, none⟩), .pointer (some ⟨b, 0, none⟩)] W (SPost W g b T hv (kindM wKey s (onceM seen p))) := fun W h1 h2 => key_any g b T (onceM seen p) hv s W h1 h2 HF.out.2.1 (by have := HH.out; omega)
      have CK := hid ck
      obtain ⟨K2, hK2⟩ : ∃ K2, kindM wKey s (onceM seen p) = K2 := ⟨_, rfl⟩
      obtain ⟨q1, hq1⟩ : ∃ q1, onceM seen p = q1 := ⟨_, rfl⟩
      rw [hq1] at hK2
      rw [hq1] at CK CO
      rw [hK2] at CK
      rw [hq1, hK2]
      clear ck hK2 hq1 HH
      go_enter Tryz.func77, Tryz.ntmps77
      go_wp2_with fail
      refine CO.out.mono ?_
      rintro e w1 ⟨⟨u1, rfl⟩, ho1, hs1, hk1⟩
      have hb1 : SbAt w1 b hv s := HF.out.1.kept hk1 (fun k hk e => by
        have h1 := Fb.ge HF.out.1 hk
        have h2 := HF.out.2.1
        have h3 := HF.out.2.2.1
        rcases e with e | e
        · omega
        · rcases hk with hk | hk
          · omega
          · exact HF.out.2.2.2 k hk e)
      have H1 := hid (And.intro ho1 (And.intro hs1 (And.intro hb1 (show Kept (Fr g b m hv) w w1 from hk1.mono (fun k h _ => h.elim .inl (fun e => .inr (.inr e)))))))
      clear ho1 hs1 hk1 hb1 h4
      go_wp2_with fail
      refine (CK.out w1 H1.out.1 H1.out.2.2.1).mono ?_
      rintro e w2 ⟨⟨u2, rfl⟩, ho2, hv2, hb2, hm2, hk2⟩
      have hs2 : Seen w2 m (_ :: seen) := H1.out.2.1.kept hk2 (fun e => by
        have h2 := HF.out.2.1
        have h3 := HF.out.2.2.1
        rcases e with e | e | e
        · omega
        · omega
        · exact HF.out.2.2.2 m e rfl)
      have H2 := hid (And.intro ho2 (And.intro hs2 (And.intro hb2 (And.intro (show Moves w hv hv2 from fun k hk => (hm2 k hk).imp id (fun e => Nat.le_trans H1.out.2.2.2.size e)) (show Kept (Fr g b m hv) w w2 from H1.out.2.2.2.trans hk2 (fun k h _ => h.elim .inl (fun e => .inr (.inl e))))))))
      clear ho2 hb2 hm2 hk2 hs2
      go_wp2_with fail
      refine (expect_any g T _ [59] w2 H2.out.1).mono ?_
      intro e w3 hp3
      obtain ⟨u3, rfl, ho3, hk3⟩ := hp3.form
      have H3 := hid (show RulePost w g b m T hv (K2.1, _ :: seen, expM [59] K2.2) hv2 w3 from ⟨ho3, H2.out.2.1.kept hk3 (by
        have h2 := HF.out.2.1
        have h3 := HF.out.2.2.1
        omega), H2.out.2.2.1.other hk3 HF.out.2.1, H2.out.2.2.2.1, H2.out.2.2.2.2.trans hk3 (fun k h _ => .inl h)⟩)
      clear hp3 ho3 hk3
      go_wp2_with fail
      go_end0
      exact ⟨⟨_, rfl⟩, hv2, H3.out⟩
    · have ck : ∀ W, RcOk W g T (onceM seen p) → SbAt W b hv s → Calls Tryz.prog 105 #[.pointer (some ⟨g, 0, none⟩), .pointer (some ⟨b, 0, none⟩)] W (SPost W g b T hv (kindM wKeep s (onceM seen p))) := fun W h1 h2 => keep_any g b T (onceM seen p) hv s W h1 h2 HF.out.2.1
      have CK := hid ck
      obtain ⟨K2, hK2⟩ : ∃ K2, kindM wKeep s (onceM seen p) = K2 := ⟨_, rfl⟩
      obtain ⟨q1, hq1⟩ : ∃ q1, onceM seen p = q1 := ⟨_, rfl⟩
      rw [hq1] at hK2
      rw [hq1] at CK CO
      rw [hK2] at CK
      rw [hq1, hK2]
      clear ck hK2 hq1 HH
      go_enter Tryz.func77, Tryz.ntmps77
      go_wp2_with fail
      refine CO.out.mono ?_
      rintro e w1 ⟨⟨u1, rfl⟩, ho1, hs1, hk1⟩
      have hb1 : SbAt w1 b hv s := HF.out.1.kept hk1 (fun k hk e => by
        have h1 := Fb.ge HF.out.1 hk
        have h2 := HF.out.2.1
        have h3 := HF.out.2.2.1
        rcases e with e | e
        · omega
        · rcases hk with hk | hk
          · omega
          · exact HF.out.2.2.2 k hk e)
      have H1 := hid (And.intro ho1 (And.intro hs1 (And.intro hb1 (show Kept (Fr g b m hv) w w1 from hk1.mono (fun k h _ => h.elim .inl (fun e => .inr (.inr e)))))))
      clear ho1 hs1 hk1 hb1 h4
      go_wp2_with fail
      refine (CK.out w1 H1.out.1 H1.out.2.2.1).mono ?_
      rintro e w2 ⟨⟨u2, rfl⟩, ho2, hv2, hb2, hm2, hk2⟩
      have hs2 : Seen w2 m (_ :: seen) := H1.out.2.1.kept hk2 (fun e => by
        have h2 := HF.out.2.1
        have h3 := HF.out.2.2.1
        rcases e with e | e | e
        · omega
        · omega
        · exact HF.out.2.2.2 m e rfl)
      have H2 := hid (And.intro ho2 (And.intro hs2 (And.intro hb2 (And.intro (show Moves w hv hv2 from fun k hk => (hm2 k hk).imp id (fun e => Nat.le_trans H1.out.2.2.2.size e)) (show Kept (Fr g b m hv) w w2 from H1.out.2.2.2.trans hk2 (fun k h _ => h.elim .inl (fun e => .inr (.inl e))))))))
      clear ho2 hb2 hm2 hk2 hs2
      go_wp2_with fail
      refine (expect_any g T _ [59] w2 H2.out.1).mono ?_
      intro e w3 hp3
      obtain ⟨u3, rfl, ho3, hk3⟩ := hp3.form
      have H3 := hid (show RulePost w g b m T hv (K2.1, _ :: seen, expM [59] K2.2) hv2 w3 from ⟨ho3, H2.out.2.1.kept hk3 (by
        have h2 := HF.out.2.1
        have h3 := HF.out.2.2.1
        omega), H2.out.2.2.1.other hk3 HF.out.2.1, H2.out.2.2.2.1, H2.out.2.2.2.2.trans hk3 (fun k h _ => .inl h)⟩)
      clear hp3 ho3 hk3
      go_wp2_with fail
      go_end0
      exact ⟨⟨_, rfl⟩, hv2, H3.out⟩
end Go.Proofs.YtenijpcjemdhfaaGreatDoor
/-
  Contracts of package conf: the reader's site.
-/
namespace Go.Pantry
open Go.RowKit
theorem ruleF_stop {k : Nat} {s : SiteM} {seen : List (List UInt8)} {p : Ps} (h : ruleGo p = false) : ruleF k s seen p = (s, p) := by
  cases k with
  | zero => rfl
  | succ k => rw [ruleF, h]; rfl
theorem ruleF_go {k : Nat} {s : SiteM} {seen : List (List UInt8)} {p : Ps} (h : ruleGo p = true) : ruleF (k + 1) s seen p = ruleF k (ruleM s seen p).1 (ruleM s seen p).2.1 (ruleM s seen p).2.2 := by
  rw [ruleF, if_pos h]
end Go.Pantry
namespace Go.Proofs.YtenijpcjemdhfaaGreatDoor
open Go.RowKit Go.Pantry

abbrev zeroSite : Array Value := #[.string ⟨#[]⟩, .int .i64 0, .int .i64 0, .int .i64 0, .bool false, .bool false, .slice none 0 0]
theorem infoSite : (Tryz.prog.info? 64).map (·.size) = some 7 := by kernel_rfl
theorem oneSite (h : List UInt8) (a b c : Int) (d e : Bool) (ao : Option Addr) (n cap : Nat) : (#[strV h, .int .i64 a, .int .i64 b, .int .i64 c, .bool d, .bool e, .slice ao n cap] : Array Value).all (·.oneCell') = true := by simp [Value.oneCell']
/-- what site leaves -/
structure SitePost (w : World) (g mh : Nat) (T : List UInt8) (hosts : List (List UInt8)) (p : Ps) (hv : Value) (w' : World) : Prop where
  ok : RcOk w' g T (siteM hosts p).2
  seen : Seen w' mh (hdW p :: hosts)
  own : w'.ownsRow 0 9 1 hv (siteM hosts p).1.heads.length ((siteM hosts p).1.heads.map strV)
  fresh : In (fun k => w.heap.size ≤ k) hv
  kept : Kept (fun k => k = g ∨ k = mh) w w'
/-- between the calls of site -/
structure SiteB (w0 wr : World) (g mh A b : Nat) (T : List UInt8) (H : List (List UInt8)) (p : Ps) (hv : Value) (s : SiteM) : Prop where
  ok : RcOk wr g T p
  hosts : Seen wr mh H
  box : SbAt wr b hv s
  out : rowIs wr A zeroSite 64
  kept : Kept (fun k => k = g ∨ k = mh) w0 wr
theorem SiteB.rc {w0 w1 w2 : World} {g mh A b : Nat} {T : List UInt8} {H : List (List UInt8)} {p q : Ps} {hv : Value} {s : SiteM} (h : SiteB w0 w1 g mh A b T H p hv s) (ho : RcOk w2 g T q) (hk : Kept (fun k => k = g) w1 w2) (hgm : g < mh) (hgA : g < A) (hgb : g < b) : SiteB w0 w2 g mh A b T H q hv s :=
  ⟨ho, h.hosts.kept hk (by omega), h.box.other hk hgb, h.out.kept hk (by omega), h.kept.trans hk (fun k h _ => .inl h)⟩
theorem SiteB.below {w0 w1 w2 : World} {g mh A b : Nat} {T : List UInt8} {H : List (List UInt8)} {p : Ps} {hv : Value} {s : SiteM} (h : SiteB w0 w1 g mh A b T H p hv s) (hb : Below w1.heap.size w1 w2) : SiteB w0 w2 g mh A b T H p hv s :=
  ⟨h.ok.below hb, h.hosts.kept (Kept.of_below (X := fun _ => False) hb) (fun h => h), h.box.below hb, h.out.below hb, h.kept.then hb⟩
/-- at the head of the loop over rules -/
structure RuleJ (w0 wr : World) (g mh A b m : Nat) (T : List UInt8) (H : List (List UInt8)) (R : SiteM × Ps) (k : Nat) (s : SiteM) (p : Ps) (L : List (List UInt8)) (hv : Value) : Prop where
  base : SiteB w0 wr g mh A b T H p hv s
  seen : Seen wr m L
  apart : In (fun k => b < k ∧ k ≠ m) hv
  size : meas p ≤ k
  is : ruleF k s L p = R
  few : hsz s p ≤ 100000
  less : L.length + meas p ≤ 100000
theorem RuleJ.next {w0 w1 w2 : World} {g mh A b m : Nat} {T : List UInt8} {H : List (List UInt8)} {R : SiteM × Ps} {k : Nat} {s : SiteM} {p : Ps} {L : List (List UInt8)} {hv hv' : Value} (h : RuleJ w0 w1 g mh A b m T H R (k + 1) s p L hv) (hgo : ruleGo p = true)
    (hp : RulePost w1 g b m T hv (ruleM s L p) hv' w2) (hgm : g < mh) (hmA : mh < A) (hAb : A < b) (hbm : b < m) (hsz0 : w0.heap.size ≤ A) : RuleJ w0 w2 g mh A b m T H R k (ruleM s L p).1 (ruleM s L p).2.2 (ruleM s L p).2.1 hv' := by
  have hlt := rule_less (s := s) (seen := L) hgo
  have h1 := h.size
  have h2 := rule_hsz s L p
  have h3 := rule_seen s L p
  have h4 := h.few
  have h5 := h.less
  have hi := h.is
  rw [ruleF_go hgo] at hi
  have hno : ∀ k, k ≠ g → k < b → ¬ Fr g b m hv k := fun k hkg hkb e => by
    rcases e with e | e | e
    · exact hkg e
    · have := Fb.ge h.base.box e; omega
    · omega
  refine ⟨⟨hp.ok, h.base.hosts.kept hp.kept (hno mh (by omega) (by omega)), hp.box, h.base.out.kept hp.kept (hno A (by omega) hAb), h.base.kept.trans hp.kept (fun k e hk => ?_)⟩, hp.seen, fun k hk => ?_, by omega, hi, by omega, by omega⟩
  · rcases e with e | e | e
    · exact .inl e
    · have := Fb.ge h.base.box e; omega
    · omega
  · rcases hp.moves k hk with e | e
    · exact h.apart k e
    · have := h.seen.lt
      omega
set_option maxRecDepth 8000 in
theorem site_any (g mh : Nat) (T : List UInt8) (p : Ps) (hosts : List (List UInt8)) (w : World) (h : RcOk w g T p) (hsn : Seen w mh hosts) (hgm : g < mh) (hL : hosts.length ≤ 100000) (hws : p.ws.length ≤ 50000) :
    Calls Tryz.prog 53 #[.pointer (some ⟨g, 0, none⟩), .map (some mh)] w fun e w' => ∃ hv, e = .returned (.agg (siteRow hv (siteM hosts p).1)) ∧ SitePost w g mh T hosts p hv w' := by
  have hmm := @run_makeMap Tryz.prog
  have hmlt := hsn.lt
  have hglt := h.lt
  obtain ⟨x, hx⟩ : ∃ x, hdW p = x := ⟨_, rfl⟩
  have hxl := h.hd_len
  rw [hx] at hxl
  obtain ⟨b, hb⟩ : ∃ b, w.heap.size + 1 = b := ⟨_, rfl⟩
  have hs0 : (w.alloc (.cells #[.string ⟨#[]⟩, .int .i64 0, .int .i64 0, .int .i64 0, .bool false, .bool false, .slice none 0 0] 64)).heap.size = b := by rw [← hb]; simp
  have hB0 : Below w.heap.size w (w.alloc (.cells #[.string ⟨#[]⟩, .int .i64 0, .int .i64 0, .int .i64 0, .bool false, .bool false, .slice none 0 0] 64)) := below_alloc _ _
  have hr0 : rowIs (w.alloc (.cells #[.string ⟨#[]⟩, .int .i64 0, .int .i64 0, .int .i64 0, .bool false, .bool false, .slice none 0 0] 64)) w.heap.size zeroSite 64 := rowIs_new _ _ _
  have hB1 : Below (w.alloc (.cells #[.string ⟨#[]⟩, .int .i64 0, .int .i64 0, .int .i64 0, .bool false, .bool false, .slice none 0 0] 64)).heap.size (w.alloc (.cells #[.string ⟨#[]⟩, .int .i64 0, .int .i64 0, .int .i64 0, .bool false, .bool false, .slice none 0 0] 64)) ((w.alloc (.cells #[.string ⟨#[]⟩, .int .i64 0, .int .i64 0, .int .i64 0, .bool false, .bool false, .slice none 0 0] 64)).alloc (.cells #[.string ⟨#[]⟩, .int .i64 0, .int .i64 0, .int .i64 0, .bool false, .bool false, .slice none 0 0] 64)) := below_alloc _ _
  have hr1 : rowIs ((w.alloc (.cells #[.string ⟨#[]⟩, .int .i64 0, .int .i64 0, .int .i64 0, .bool false, .bool false, .slice none 0 0] 64)).alloc (.cells #[.string ⟨#[]⟩, .int .i64 0, .int .i64 0, .int .i64 0, .bool false, .bool false, .slice none 0 0] 64)) b #[.string ⟨#[]⟩, .int .i64 0, .int .i64 0, .int .i64 0, .bool false, .bool false, .slice none 0 0] 64 := rowIs_new_at _ _ _ _ hs0.symm
  have hr2 : rowIs (((w.alloc (.cells #[.string ⟨#[]⟩, .int .i64 0, .int .i64 0, .int .i64 0, .bool false, .bool false, .slice none 0 0] 64)).alloc (.cells #[.string ⟨#[]⟩, .int .i64 0, .int .i64 0, .int .i64 0, .bool false, .bool false, .slice none 0 0] 64)).setRow b #[strV x, .int .i64 1, .int .i64 0, .int .i64 3600, .bool true, .bool true, .slice none 0 0]) b #[strV x, .int .i64 1, .int .i64 0, .int .i64 3600, .bool true, .bool true, .slice none 0 0] 64 := hr1.setRow _
  have hk1 : Kept (fun _ => False) w ((w.alloc (.cells #[.string ⟨#[]⟩, .int .i64 0, .int .i64 0, .int .i64 0, .bool false, .bool false, .slice none 0 0] 64)).alloc (.cells #[.string ⟨#[]⟩, .int .i64 0, .int .i64 0, .int .i64 0, .bool false, .bool false, .slice none 0 0] 64)) := (Kept.of_below hB0).then hB1
  have hk2 : Kept (fun _ => False) w (((w.alloc (.cells #[.string ⟨#[]⟩, .int .i64 0, .int .i64 0, .int .i64 0, .bool false, .bool false, .slice none 0 0] 64)).alloc (.cells #[.string ⟨#[]⟩, .int .i64 0, .int .i64 0, .int .i64 0, .bool false, .bool false, .slice none 0 0] 64)).setRow b #[strV x, .int .i64 1, .int .i64 0, .int .i64 3600, .bool true, .bool true, .slice none 0 0]) := hk1.setRow (.inr (by omega)) _
  have hA2 : rowIs (((w.alloc (.cells #[.string ⟨#[]⟩, .int .i64 0, .int .i64 0, .int .i64 0, .bool false, .bool false, .slice none 0 0] 64)).alloc (.cells #[.string ⟨#[]⟩, .int .i64 0, .int .i64 0, .int .i64 0, .bool false, .bool false, .slice none 0 0] 64)).setRow b #[strV x, .int .i64 1, .int .i64 0, .int .i64 3600, .bool true, .bool true, .slice none 0 0]) w.heap.size zeroSite 64 := (hr0.below hB1).setRow_other _ (by omega)
  have h4 : (w.alloc (.cells #[.string ⟨#[]⟩, .int .i64 0, .int .i64 0, .int .i64 0, .bool false, .bool false, .slice none 0 0] 64)).cell? ⟨g, 4, none⟩ = some (strV x) := by rw [← hx]; exact (h.below hB0).word
  have hc0 : (((w.alloc (.cells #[.string ⟨#[]⟩, .int .i64 0, .int .i64 0, .int .i64 0, .bool false, .bool false, .slice none 0 0] 64)).alloc (.cells #[.string ⟨#[]⟩, .int .i64 0, .int .i64 0, .int .i64 0, .bool false, .bool false, .slice none 0 0] 64)).setRow b #[strV x, .int .i64 1, .int .i64 0, .int .i64 3600, .bool true, .bool true, .slice none 0 0]).cell? ⟨b, 0, none⟩ = some (strV x) := hr2.cell 0
  obtain ⟨W2, hW2⟩ : ∃ W, ((w.alloc (.cells #[.string ⟨#[]⟩, .int .i64 0, .int .i64 0, .int .i64 0, .bool false, .bool false, .slice none 0 0] 64)).alloc (.cells #[.string ⟨#[]⟩, .int .i64 0, .int .i64 0, .int .i64 0, .bool false, .bool false, .slice none 0 0] 64)).setRow b #[strV x, .int .i64 1, .int .i64 0, .int .i64 3600, .bool true, .bool true, .slice none 0 0] = W := ⟨_, rfl⟩
  rw [hW2] at hk2 hr2 hA2
  have HP := hid (And.intro (h.kept hk2 (fun _ h => h.elim)) (And.intro (hsn.kept hk2 (fun h => h)) (And.intro (show SbAt W2 b (.slice none 0 0) (site0 x) from ⟨hr2, World.ownsRow_nil _ _ _ _, In.nil _ _⟩) (And.intro hA2 (show Kept (fun k => k = g ∨ k = mh) w W2 from hk2.mono (fun _ h _ => h.elim))))))
  have HN := hid (And.intro hgm (And.intro hmlt (And.intro hglt hb)))
  obtain ⟨R, hR⟩ : ∃ R, ruleF (meas (headM hosts p)) (site0 x) [] (headM hosts p) = R := ⟨_, rfl⟩
  have HS : Hid (siteM hosts p = (R.1, expM [125] R.2)) := by
    show siteM hosts p = _
    unfold siteM; rw [hx, hR]
  have HRR := hid hR
  have HL := hid (And.intro hL (And.intro hws hxl))
  have HX := hid hx
  have HW := hid hW2
  clear h hsn hgm hL hws hmlt hglt hxl hs0 hB0 hr0 hB1 hk1 hk2 hA2 hr2 hR hW2
  go_enter Tryz.func53, Tryz.ntmps53
  go_wp2_with (refine wpList_store_row rfl 64 _ _ rfl b _ rfl rfl 64 #[.string ⟨#[]⟩, .int .i64 0, .int .i64 0, .int .i64 0, .bool false, .bool false, .slice none 0 0] hr1 infoSite rfl (oneSite x 1 0 3600 true true none 0 0) ?_)
  rw [HW.out]
  have hB := hid (show SiteB w W2 g mh w.heap.size b T hosts p (.slice none 0 0) (site0 x) from ⟨HP.out.1, HP.out.2.1, HP.out.2.2.1, HP.out.2.2.2.1, HP.out.2.2.2.2⟩)
  clear hc0 h4 hr1 HP HW
  refine (ownHost_conf x W2 (by have := HL.out; omega) hB.out.ok.env.max hB.out.ok.env.tab).mono ?_
  rintro e w3 ⟨rfl, hb3⟩
  have H3 := hid (hB.out.below hb3)
  clear hb3
  go_wp2_with fail
  refine (check_any g T p (ownH x) 30 w3 H3.out.ok (by decide)).mono ?_
  intro e w4 hp4
  obtain ⟨u4, rfl, ho4, hk4⟩ := hp4.form
  have H4 := hid (H3.out.rc ho4 hk4 HN.out.1 HN.out.2.2.1 (by have := HN.out; omega))
  clear hp4 ho4 hk4
  go_wp2_with fail
  refine (once_any g mh T _ hosts w4 H4.out.ok H4.out.hosts HN.out.1 HL.out.1).mono ?_
  rintro e w5 ⟨⟨u5, rfl⟩, ho5, hs5, hk5⟩
  rw [chk_hd, HX.out] at hs5
  have H5 := hid (show SiteB w w5 g mh w.heap.size b T (x :: hosts) _ (.slice none 0 0) (site0 x) from ⟨ho5, hs5, H4.out.box.kept hk5 (fun k hk e => by
    have h1 := Fb.ge H4.out.box hk
    have h2 := HN.out
    omega), H4.out.out.kept hk5 (by have h2 := HN.out; omega), H4.out.kept.trans hk5 (fun k h _ => h)⟩)
  clear ho5 hs5 hk5
  go_wp2_with fail
  refine (expect_any g T _ [123] w5 H5.out.ok).mono ?_
  intro e w6 hp6
  obtain ⟨u6, rfl, ho6, hk6⟩ := hp6.form
  have H6 := hid (H5.out.rc ho6 hk6 HN.out.1 HN.out.2.2.1 (by have := HN.out; omega))
  clear hp6 ho6 hk6
  have hm6 : b < w6.heap.size := H6.out.box.row.lt
  have hhd : Hid (expM [123] (onceM hosts (chk (ownH x) 30 p)) = headM hosts p) := by rw [← HX.out]; exact rfl
  rw [hhd.out] at H6
  have hJ : Hid (RuleJ w (w6.alloc (.map #[] 0)) g mh w.heap.size b w6.heap.size T (x :: hosts) R (meas (headM hosts p)) (site0 x) (headM hosts p) [] (.slice none 0 0)) := by
    refine ⟨H6.out.below (below_alloc _ _), seen_new w6, In.nil _ _, Nat.le_refl _, HRR.out, ?_, ?_⟩
    · have := hsz_fol (s := site0 x) (s' := site0 x) (fol_head hosts p) rfl
      have h2 := HL.out
      have h3 : hsz (site0 x) p = p.ws.length := by unfold hsz site0; simp
      omega
    · have h1 := (fol_head hosts p).len
      have h2 := HL.out
      have h3 : meas (headM hosts p) ≤ (headM hosts p).ws.length + 1 := by unfold meas; split <;> omega
      simp only [List.length_nil]
      omega
  obtain ⟨m, hm⟩ : ∃ m, w6.heap.size = m := ⟨_, rfl⟩
  rw [hm] at hJ hm6
  clear hhd HRR
  have HM := hid hm6
  have HMM := hid hm
  go_wp2_with fail
  clear hm hm6
  go_loopg [] (meas (headM hosts p)) (fun k wr => ∃ s' p' L' hv', RuleJ w wr g mh w.heap.size b m T (x :: hosts) R k s' p' L' hv')
  case atStart => exact ⟨_, _, _, _, hJ.out⟩
  case round =>
    clear hJ H6 HMM
    obtain ⟨s1, p1, L1, hv1, hJ⟩ := hrel
    have HJ := hid hJ
    have h4 := hJ.base.ok.word
    have cf := faultless_any g T p1 wr hJ.base.ok
    obtain ⟨y, hy⟩ : ∃ y, hdW p1 = y := ⟨_, rfl⟩
    rw [hy] at h4
    have HY := hid hy
    by_cases hgo : ruleGo p1 = true
    · have hgo2 := hgo
      unfold ruleGo at hgo2
      rw [hy, Bool.and_eq_true, bne_iff_ne] at hgo2
      have hy1 : (y == ([125] : List UInt8)) = false := by simpa using hgo2.2
      rw [hgo2.1] at cf
      have CF := hid cf
      obtain ⟨k', hk'⟩ : ∃ k', gk = k' + 1 := ⟨gk - 1, by have h1 := hJ.size; have h2 := meas_pos (beq_iff_eq.1 hgo2.1); omega⟩
      have CR := hid (rule_any g b m T p1 hv1 s1 L1 wr hJ.base.ok hJ.base.box hJ.seen (by have := HN.out; omega) HM.out (fun k hk => (hJ.apart k hk).2) hJ.few (by have := hJ.less; omega))
      have HG := hid hgo
      have HK := hid hk'
      clear hJ cf hy hgo hgo2 hk'
      go_wp2_with (first | (go_at_call 39; refine CF.out.mono ?_; rintro e w2 ⟨rfl, rfl⟩))
      refine CR.out.mono ?_
      rintro e w2 ⟨⟨u2, rfl⟩, hv2, hp2⟩
      have HP2 := hid hp2
      clear hp2 h4
      go_wp2_with fail
      have hJ1 := HJ.out
      rw [HK.out] at hJ1
      have h1 := HK.out
      go_roundg k'
      case measure => omega
      case rel => exact ⟨_, _, _, hv2, hJ1.next HG.out HP2.out HN.out.1 HN.out.2.1 (by have := HN.out; omega) HM.out (Nat.le_refl _)⟩
    · have hi := hJ.is
      rw [ruleF_stop (Bool.eq_false_iff.2 hgo)] at hi
      have HI := hid hi
      have hor : p1.code ≠ 0 ∨ (p1.code = 0 ∧ y = [125]) := by
        by_cases h0 : p1.code = 0
        · refine .inr ⟨h0, ?_⟩
          unfold ruleGo at hgo
          rw [h0, hy] at hgo
          simpa using hgo
        · exact .inl h0
      obtain ⟨hvf, hform⟩ : ∃ f : Option Addr × Nat × Nat, hv1 = .slice f.1 f.2.1 f.2.2 := by
        obtain ⟨ao, c, e⟩ := hJ.base.box.own.reads.form
        exact ⟨(ao, _, c), e⟩
      obtain ⟨ao1, n1, c1⟩ := hvf
      simp only at hform
      have HV := hid hform
      clear hJ hi hgo hy hform
      rcases hor with h0 | ⟨h0, rfl⟩
      focus
        have e0 : (p1.code == 0) = false := by simp [h0]
        rw [e0] at cf
        have CF := hid cf
        clear cf h0 e0
        go_wp2_with (first | (go_at_call 39; refine CF.out.mono ?_; rintro e w2 ⟨rfl, rfl⟩))
      rotate_left
      focus
        have e0 : (p1.code == 0) = true := by simp [h0]
        rw [e0] at cf
        have CF := hid cf
        clear cf h0 e0
        go_wp2_with (first | (go_at_call 39; refine CF.out.mono ?_; rintro e w2 ⟨rfl, rfl⟩))
      all_goals
        clear CF h4
        refine (expect_any g T p1 [125] wr HJ.out.base.ok).mono ?_
        intro e w3 hp3
        obtain ⟨u3, rfl, ho3, hk3⟩ := hp3.form
        have H3 := hid (HJ.out.base.rc ho3 hk3 HN.out.1 HN.out.2.2.1 (by have := HN.out; omega))
        have hrb := H3.out.box.row
        rw [HV.out] at hrb
        have hra := H3.out.out
        clear hp3 ho3 hk3
        go_wp2_with (first
          | (refine wpList_load_row rfl 64 _ rfl b rfl 64 _ (0, 0) _ hrb Tryz.underlying64 rfl infoSite ?_)
          | (refine wpList_store_row rfl 64 _ _ rfl w.heap.size _ rfl rfl 64 _ hra infoSite rfl (oneSite _ _ _ _ _ _ _ _ _) ?_))
        refine bodyPost_ret (results_row Tryz.results53 _ _ w.heap.size _ rfl (hra.setRow _) Tryz.underlying64 rfl infoSite) rfl ?_
        have kA := (Kept.refl (fun k => k = w.heap.size) w3).setRow (g := w.heap.size) (.inl rfl) (siteRow (.slice ao1 n1 c1) s1)
        have hbx := H3.out.box.kept kA (fun k hk e => by have := Fb.ge H3.out.box hk; have := HN.out; omega)
        refine ⟨.slice ao1 n1 c1, ?_, ?_⟩
        · rw [HS.out, ← HI.out]
        · rw [HV.out] at hbx
          have hap := HJ.out.apart
          rw [HV.out] at hap
          refine ⟨?_, ?_, ?_, fun k hk => ?_, ?_⟩
          · rw [HS.out, ← HI.out]
            exact H3.out.ok.kept kA (fun k hk => by rw [hk]; exact HN.out.2.2.1)
          · rw [HX.out]
            exact H3.out.hosts.kept kA (by have := HN.out; omega)
          · rw [HS.out, ← HI.out]
            exact hbx.own
          · have := (hap k hk).1
            have := HN.out
            omega
          · exact H3.out.kept.trans kA (fun k h hk => by omega)
end Go.Proofs.YtenijpcjemdhfaaGreatDoor
/-
  Contracts of package conf: the reader's config.
-/
namespace Go.Pantry
open Go.RowKit
theorem cfgF_stop {k : Nat} {c : List SiteM} {hosts : List (List UInt8)} {p : Ps} (h : cfgGo p = false) : cfgF k c hosts p = (c, p) := by
  cases k with
  | zero => rfl
  | succ k => rw [cfgF, h]; rfl
theorem cfgF_go {k : Nat} {c : List SiteM} {hosts : List (List UInt8)} {p : Ps} (h : cfgGo p = true) :
    cfgF (k + 1) c hosts p = cfgF k (c ++ [(siteM hosts (atSite c.length p)).1]) (hdW (atSite c.length p) :: hosts) (siteM hosts (atSite c.length p)).2 := by
  rw [cfgF, if_pos h]
end Go.Pantry
namespace Go.Proofs.YtenijpcjemdhfaaGreatDoor
open Go.RowKit Go.Pantry

theorem infoSiteA : (Tryz.prog.info? 64).map (fun i => (i.zero, i.size, i.bytes)) = some (some (.agg zeroSite), 7, 72) := by kernel_rfl
/-- the cells of sites, each with its heads' slice -/
def siteCells (L : List (SiteM × Value)) : List Value := L.flatMap fun x => (siteRow x.2 x.1).toList
/-- sites that the call has made: their row, their heads, all of them above block B -/
structure SitesAt (w : World) (B : Nat) (sv : Value) (L : List (SiteM × Value)) : Prop where
  own : w.ownsRow 0 64 7 sv L.length (siteCells L)
  heads : ∀ x ∈ L, w.ownsRow 0 9 1 x.2 x.1.heads.length (x.1.heads.map strV)
  apart : ∀ x ∈ L, In (fun k => B < k ∧ sv.ownBlock ≠ some k) x.2
  inn : In (fun k => B < k) sv
theorem SitesAt.kept {X : Nat → Prop} {w w' : World} {B : Nat} {sv : Value} {L : List (SiteM × Value)} (h : SitesAt w B sv L) (hk : Kept X w w') (hx : ∀ k, B < k → k < w.heap.size → ¬ X k) : SitesAt w' B sv L :=
  ⟨ownsRow_kept h.own hk (fun k hk => hx k (h.inn k hk) (h.own.lt k hk).2), fun x hm => ownsRow_kept (h.heads x hm) hk (fun k hk => hx k (h.apart x hm k hk).1 ((h.heads x hm).lt k hk).2), h.apart, h.inn⟩
theorem sites_nil (w : World) (B : Nat) : SitesAt w B (.slice none 0 0) [] :=
  ⟨World.ownsRow_nil _ _ _ _, (fun _ h => absurd h (List.not_mem_nil)), (fun _ h => absurd h (List.not_mem_nil)), In.nil _ _⟩
theorem ownsRow_formN {w : World} {B : Nat} {e : TypeId} {size : Nat} {v : Value} {n : Nat} {xs : List Value} (h : w.ownsRow B e size v n xs) : ∃ ao c, v = .slice ao n c := by
  rcases h.2 with ⟨rfl, hn⟩ | ⟨g, cap, cur, rfl, _⟩
  · exact ⟨none, 0, by rw [hn]⟩
  · exact ⟨_, _, rfl⟩
theorem siteRow_one {ao : Option Addr} {n c : Nat} {s : SiteM} : ∀ u ∈ (siteRow (.slice ao n c) s).toList, u.oneCell' = true := by
  intro u hu
  have := oneSite s.host s.origin s.min s.max s.query s.keep ao n c
  rw [Array.all_eq_true'] at this
  exact this u (by simpa using hu)
/-- a reader's config as it grows: its boxes, and its sites -/
structure CfgB (w : World) (A C B : Nat) (sv : Value) (L : List (SiteM × Value)) : Prop where
  out : rowIs w A #[.slice none 0 0] 25
  box : rowIs w C #[sv] 25
  sites : SitesAt w B sv L
theorem CfgB.two {w w' : World} {g mh A C : Nat} {sv : Value} {L : List (SiteM × Value)} (h : CfgB w A C mh sv L) (hk : Kept (fun k => k = g ∨ k = mh) w w') (hgA : g < A) (hm : A < C ∧ C < mh) : CfgB w' A C mh sv L :=
  ⟨h.out.kept hk (by omega), h.box.kept hk (by omega), h.sites.kept hk (fun k hB _ e => by omega)⟩
theorem CfgB.below {w w' : World} {mh A C : Nat} {sv : Value} {L : List (SiteM × Value)} (h : CfgB w A C mh sv L) (hb : Below w.heap.size w w') : CfgB w' A C mh sv L :=
  ⟨h.out.below hb, h.box.below hb, h.sites.kept (Kept.of_below (X := fun _ => False) hb) (fun _ _ _ h => h)⟩
theorem CfgB.more {w0 w w' : World} {mh A C : Nat} {hosts : List (List UInt8)} {q : Ps} {ao : Option Addr} {n c : Nat} {sv v' hv : Value} {L : List (SiteM × Value)} (h : CfgB w A C mh sv L) (hv' : hv = .slice ao n c)
    (ho : w.ownsRow 0 9 1 hv (siteM hosts q).1.heads.length ((siteM hosts q).1.heads.map strV)) (hf : In (fun k => w0.heap.size ≤ k) hv) (hmh : mh < w0.heap.size) (hs0 : ∀ k, sv.ownBlock = some k → k < w0.heap.size)
    (ho6 : w'.ownsRow 0 64 7 v' (L.length + 1) (siteCells L ++ (siteRow hv (siteM hosts q).1).toList)) (hg6 : w.grownBy w' sv.ownBlock) (hi6 : In (fun k => sv.ownBlock = some k ∨ w.heap.size ≤ k) v') (hC : A < C ∧ C < mh) (hmw : mh < w.heap.size) :
    SitesAt w' mh v' (L ++ [((siteM hosts q).1, hv)]) ∧ rowIs w' A #[.slice none 0 0] 25 ∧ rowIs w' C #[sv] 25 := by
  have kk : Kept (fun k => sv.ownBlock = some k) w w' := (Kept.refl (fun k => sv.ownBlock = some k) w).grown hg6 (fun k hk _ => hk)
  have hnb : ∀ k, k < mh → ¬ sv.ownBlock = some k := fun k hk e => by have := h.sites.inn k e; omega
  have hall : ∀ x ∈ L ++ [((siteM hosts q).1, hv)], w.ownsRow 0 9 1 x.2 x.1.heads.length (x.1.heads.map strV) ∧ In (fun k => mh < k ∧ sv.ownBlock ≠ some k) x.2 := by
    intro x hx
    rcases List.mem_append.1 hx with e | e
    · exact ⟨h.sites.heads x e, h.sites.apart x e⟩
    · rw [List.mem_singleton] at e
      subst e
      refine ⟨ho, fun k hk => ⟨by have := hf k hk; omega, fun e => ?_⟩⟩
      have h1 := hf k hk
      have h2 := hs0 k e
      omega
  refine ⟨⟨?_, fun x hx => ownsRow_kept (hall x hx).1 kk (fun k hk => ((hall x hx).2 k hk).2), fun x hx k hk => ⟨((hall x hx).2 k hk).1, fun e => ?_⟩, fun k hk => ?_⟩, h.out.kept kk (hnb A (by omega)), h.box.kept kk (hnb C hC.2)⟩
  · have e : siteCells (L ++ [((siteM hosts q).1, hv)]) = siteCells L ++ (siteRow hv (siteM hosts q).1).toList := by
      unfold siteCells; rw [List.flatMap_append]; simp
    rw [e, List.length_append]
    exact ho6
  · rcases hi6 k e with e1 | e1
    · exact ((hall x hx).2 k hk).2 e1
    · have := ((hall x hx).1.lt k hk).2; omega
  · rcases hi6 k hk with e1 | e1
    · exact h.sites.inn k e1
    · omega
theorem CfgB.rc {w w' : World} {g mh A C : Nat} {sv : Value} {L : List (SiteM × Value)} (h : CfgB w A C mh sv L) (hk : Kept (fun k => k = g) w w') (hgA : g < A) (hm : A < C ∧ C < mh) : CfgB w' A C mh sv L :=
  h.two (hk.mono (fun k h _ => .inl h)) hgA hm
/-- at the head of the loop over sites -/
structure CfgJ (w0 wr : World) (g mh A C : Nat) (T : List UInt8) (R : List SiteM × Ps) (k : Nat) (L : List (SiteM × Value)) (sv : Value) (hosts : List (List UInt8)) (p : Ps) : Prop where
  base : CfgB wr A C mh sv L
  ok : RcOk wr g T p
  seen : Seen wr mh hosts
  kept : Kept (fun k => k = g) w0 wr
  size : meas p ≤ k
  is : cfgF k (L.map (·.1)) hosts p = R
  few : L.length + meas p ≤ 100000
  less : hosts.length + meas p ≤ 100000
  words : p.ws.length ≤ 50000
theorem infoCfg : (Tryz.prog.info? 25).map (·.size) = some 1 := by kernel_rfl
/-- what config leaves -/
def CfgPost (w : World) (g : Nat) (T : List UInt8) (R : List SiteM × Ps) (e : Ending) (w' : World) : Prop :=
  ∃ sv L, e = .returned (.agg #[sv]) ∧ L.map (·.1) = R.1 ∧ SitesAt w' w.heap.size sv L ∧ RcOk w' g T R.2 ∧ Kept (fun k => k = g) w w'
set_option maxRecDepth 8000 in
theorem config_any (g : Nat) (T : List UInt8) (p : Ps) (w : World) (h : RcOk w g T p) (hws : p.ws.length ≤ 50000) :
    Calls Tryz.prog 38 #[.pointer (some ⟨g, 0, none⟩)] w (CfgPost w g T (cfgF (meas p) [] [] p)) := by
  have hmm := @run_makeMap Tryz.prog
  have hglt := h.lt
  obtain ⟨R, hR⟩ : ∃ R, cfgF (meas p) [] [] p = R := ⟨_, rfl⟩
  rw [hR]
  have hm1 : meas p ≤ p.ws.length + 1 := by unfold meas; split <;> omega
  have hB1 : Below w.heap.size w (w.alloc (.cells #[.slice none 0 0] 25)) := below_alloc _ _
  have hB2 : Below (w.alloc (.cells #[.slice none 0 0] 25)).heap.size (w.alloc (.cells #[.slice none 0 0] 25)) ((w.alloc (.cells #[.slice none 0 0] 25)).alloc (.cells #[.slice none 0 0] 25)) := below_alloc _ _
  have hB3 : Below ((w.alloc (.cells #[.slice none 0 0] 25)).alloc (.cells #[.slice none 0 0] 25)).heap.size ((w.alloc (.cells #[.slice none 0 0] 25)).alloc (.cells #[.slice none 0 0] 25)) (((w.alloc (.cells #[.slice none 0 0] 25)).alloc (.cells #[.slice none 0 0] 25)).alloc (.map #[] 0)) := below_alloc _ _
  have hBB := chainP (chainP hB1 hB2) hB3
  have hs1 : (w.alloc (.cells #[.slice none 0 0] 25)).heap.size = w.heap.size + 1 := by simp
  have hs2 : ((w.alloc (.cells #[.slice none 0 0] 25)).alloc (.cells #[.slice none 0 0] 25)).heap.size = w.heap.size + 2 := by simp
  have hJ : CfgJ w (((w.alloc (.cells #[.slice none 0 0] 25)).alloc (.cells #[.slice none 0 0] 25)).alloc (.map #[] 0)) g (w.heap.size + 2) w.heap.size (w.heap.size + 1) T R (meas p) [] (.slice none 0 0) [] p := by
    refine ⟨⟨((rowIs_new _ _ _).below hB2).below hB3, (rowIs_new_at _ _ _ _ hs1.symm).below hB3, sites_nil _ _⟩, h.below hBB, ?_, Kept.of_below hBB, Nat.le_refl _, hR, by simp; omega, by simp; omega, hws⟩
    rw [← hs2]; exact seen_new _
  obtain ⟨A, hA⟩ : ∃ A, w.heap.size = A := ⟨_, rfl⟩
  obtain ⟨C, hC⟩ : ∃ C, A + 1 = C := ⟨_, rfl⟩
  obtain ⟨mh, hmh⟩ : ∃ mh, C + 1 = mh := ⟨_, rfl⟩
  rw [hA, show A + 2 = mh by omega, hC] at hJ
  have HN := hid (show g < A ∧ (A < C ∧ C < mh) ∧ g < mh ∧ w.heap.size = A from ⟨by omega, by omega, by omega, hA⟩)
  have HJ0 := hid hJ
  clear h hws hglt hR hm1 hB1 hB2 hB3 hBB hs1 hs2 hJ
  go_enter Tryz.func38, Tryz.ntmps38
  go_wp2_with fail
  go_loopg [] (meas p) (fun k wr => ∃ L' sv' hosts' p', CfgJ w wr g mh A C T R k L' sv' hosts' p')
  case atStart => exact ⟨_, _, _, _, HJ0.out⟩
  case round =>
    clear HJ0 hA hC hmh
    obtain ⟨L1, sv, hosts1, p1, hJ⟩ := hrel
    have HJ := hid hJ
    have h4 := hJ.ok.word
    have cf := faultless_any g T p1 wr hJ.ok
    obtain ⟨y, hy⟩ : ∃ y, hdW p1 = y := ⟨_, rfl⟩
    rw [hy] at h4
    have HY := hid hy
    obtain ⟨aos, cs, hsv⟩ := ownsRow_formN hJ.base.sites.own
    obtain ⟨ns, hns⟩ : ∃ ns, L1.length = ns := ⟨_, rfl⟩
    rw [hns] at hsv
    subst hsv
    by_cases hgo : cfgGo p1 = true
    · have hgo2 := hgo
      unfold cfgGo at hgo2
      rw [hy, Bool.and_eq_true, bne_iff_ne] at hgo2
      have hy1 : (y == ([] : List UInt8)) = false := by simpa using hgo2.2
      rw [hgo2.1] at cf
      have CF := hid cf
      obtain ⟨k', hk'⟩ : ∃ k', gk = k' + 1 := ⟨gk - 1, by have h1 := hJ.size; have h2 := meas_pos (beq_iff_eq.1 hgo2.1); omega⟩
      have hi := hJ.is
      rw [hk', cfgF_go hgo] at hi
      have hlt := cfg_less (n := ns) (hosts := hosts1) hgo
      have hmap : (L1.map (·.1)).length = ns := by rw [List.length_map, hns]
      rw [hmap] at hi
      obtain ⟨q3, hq3⟩ : ∃ q, atSite ns p1 = q := ⟨_, rfl⟩
      rw [hq3] at hi hlt
      have hq4 : stp (chk (decide ((ns : Int) < 8)) 32 (chk (y == ([115, 105, 116, 101] : List UInt8)) 30 p1)) = q3 := by
        rw [← hq3, show decide ((ns : Int) < 8) = decide (ns < 8) from decide_eq_decide.2 (by omega), ← hy]; rfl
      have HI := hid (And.intro hi (And.intro hk' (And.intro hlt hq4)))
      have HQ := hid (show hosts1.length ≤ 100000 ∧ q3.ws.length ≤ 50000 ∧ L1.length ≤ 100000 from ⟨by have := hJ.less; omega, by have h1 := (fol_at ns p1).len; rw [hq3] at h1; have := hJ.words; omega, by have := hJ.few; omega⟩)
      clear cf hgo hgo2 hk' hi hlt hmap hq3 hq4 hns hy
      have CK := hid (check_any g T p1 (y == ([115, 105, 116, 101] : List UInt8)) 30 wr hJ.ok (by decide))
      clear hJ
      go_wp2_with (first | (go_at_call 39; refine CF.out.mono ?_; rintro e w2 ⟨rfl, rfl⟩))
      refine CK.out.mono ?_
      intro e w1 hp1
      obtain ⟨u1, rfl, ho1, hk1⟩ := hp1.form
      have H1 := hid (And.intro ho1 (And.intro (HJ.out.seen.kept hk1 (by have := HN.out; omega)) (And.intro (HJ.out.base.rc hk1 HN.out.1 HN.out.2.1) (HJ.out.kept.trans hk1 (fun k h _ => h)))))
      have c0 := H1.out.2.2.1.box.cell 0
      clear hp1 ho1 hk1 h4
      go_wp2_with fail
      refine (check_any g T _ (decide ((ns : Int) < 8)) 32 w1 H1.out.1 (by decide)).mono ?_
      intro e w2 hp2
      obtain ⟨u2, rfl, ho2, hk2⟩ := hp2.form
      have H2 := hid (And.intro ho2 (And.intro (H1.out.2.1.kept hk2 (by have := HN.out; omega)) (And.intro (H1.out.2.2.1.rc hk2 HN.out.1 HN.out.2.1) (H1.out.2.2.2.trans hk2 (fun k h _ => h)))))
      clear hp2 ho2 hk2 c0
      go_wp2_with fail
      refine (step_any g T _ w2 H2.out.1).mono ?_
      intro e w3 hp3
      obtain ⟨u3, rfl, ho3, hk3⟩ := hp3.form
      rw [HI.out.2.2.2] at ho3
      have H3 := hid (And.intro ho3 (And.intro (H2.out.2.1.kept hk3 (by have := HN.out; omega)) (And.intro (H2.out.2.2.1.rc hk3 HN.out.1 HN.out.2.1) (H2.out.2.2.2.trans hk3 (fun k h _ => h)))))
      have c0 := H3.out.2.2.1.box.cell 0
      clear hp3 ho3 hk3
      go_wp2_with fail
      refine wp_region_K 8 (by kernel_rfl) (fun w' => w'.cell? ⟨C, 0, none⟩ = some (.slice aos ns cs)) (by exact c0) (fun hH => ?_)
      refine wpAnyK_take (i := 0) (v := ?_) rfl (by kernel_rfl) (by kernel_rfl) (by kernel_rfl) (by decide) (by kernel_rfl) (fun _ _ _ h => h) (Or.inl ⟨by kernel_rfl, ?_⟩) hH ?_
      rotate_left
      · intro W hS
        go_simp
        first | done | with_reducible rfl
      simp only [Act.put, List.getElem_toArray, List.getElem_cons_succ, List.getElem_cons_zero, List.setIfInBounds_toArray, List.set_cons_zero, List.set_cons_succ]
      refine wpAnyK_take (i := 1) (v := ?_) rfl (by kernel_rfl) (by kernel_rfl) (by kernel_rfl) (by decide) (by kernel_rfl) (fun _ _ _ h => h) (Or.inl ⟨by kernel_rfl, ?_⟩) hH ?_
      rotate_left
      · intro W hS
        go_simp
        first | done | with_reducible rfl
      simp only [Act.put, List.getElem_toArray, List.getElem_cons_succ, List.getElem_cons_zero, List.setIfInBounds_toArray, List.set_cons_zero, List.set_cons_succ]
      refine wpAnyK_take (i := 2) (v := ?_) rfl (by kernel_rfl) (by kernel_rfl) (by kernel_rfl) (by decide) (by kernel_rfl) (fun _ _ _ h => h) (Or.inl ⟨by kernel_rfl, ?_⟩) hH ?_
      rotate_left
      · intro W hS
        go_simp
        first | done | with_reducible rfl
      simp only [Act.put, List.getElem_toArray, List.getElem_cons_succ, List.getElem_cons_zero, List.setIfInBounds_toArray, List.set_cons_zero, List.set_cons_succ]
      refine wpAnyK_take (i := 3) (v := ?_) rfl (by kernel_rfl) (by kernel_rfl) (by kernel_rfl) (by decide) (by kernel_rfl) (fun _ _ _ h => h) (Or.inl ⟨by kernel_rfl, ?_⟩) hH ?_
      rotate_left
      · intro W hS
        go_simp
        first | done | with_reducible rfl
      simp only [Act.put, List.getElem_toArray, List.getElem_cons_succ, List.getElem_cons_zero, List.setIfInBounds_toArray, List.set_cons_zero, List.set_cons_succ]
      refine wpAnyK_next (i := 4) (by kernel_rfl) rfl (by decide) (fun K hK => ?_)
      go_simp
      refine (site_any g mh T q3 hosts1 w3.drew (H3.out.1.below ((Below.refl _ _).drew)) (H3.out.2.1.kept (Kept.of_below (X := fun _ => False) ((Below.refl _ _).drew)) (fun h => h)) HN.out.2.2.1 HQ.out.1 HQ.out.2.1).mono ?_
      rintro e w4 ⟨hv4, rfl, hp4⟩
      have HP4 := hid hp4
      have hkb4 : Kept (fun k => k = g ∨ k = mh) w3 w4 := ((Kept.refl (fun k => k = g ∨ k = mh) w3).drew).trans hp4.kept (fun k h _ => h)
      have hB4 := hid (H3.out.2.2.1.two hkb4 HN.out.1 HN.out.2.1)
      have HK4 := hid hkb4
      have cc4 := hB4.out.box.cell 0
      obtain ⟨ao4, n4, k4, hf4⟩ : ∃ ao n c, hv4 = .slice ao n c := by obtain ⟨ao, c, e⟩ := hp4.own.reads.form; exact ⟨ao, _, c, e⟩
      subst hf4
      clear hp4 hkb4
      refine hK.out _ _ cc4 (fun hH => ?_)
      clear hK K
      try simp only [Act.put, List.getElem_toArray, List.getElem_cons_succ, List.getElem_cons_zero, List.setIfInBounds_toArray, List.set_cons_zero, List.set_cons_succ]
      refine wpAnyK_next (i := 5) (by kernel_rfl) rfl (by decide) (fun K hK => ?_)
      obtain ⟨w5, hW5⟩ : ∃ W, W = w4.alloc (.cells (siteRow (.slice ao4 n4 k4) (siteM hosts1 q3).1) 64) := ⟨_, rfl⟩
      have hb5 : Below w4.heap.size w4 w5 := by rw [hW5]; exact below_alloc _ _
      have hB5 := hid (hB4.out.below hb5)
      have HO5 := hid (HP4.out.own.below hb5)
      have HR5 := hid (HP4.out.ok.below hb5)
      have HS5 := hid (HP4.out.seen.kept (Kept.of_below (X := fun _ => False) hb5) (fun h => h))
      have HK5 := hid (HK4.out.then hb5)
      have HC5 : Hid (rowIs w5 w4.heap.size (siteRow (.slice ao4 n4 k4) (siteM hosts1 q3).1) 64) := by rw [hW5]; exact rowIs_new _ _ _
      have cc5 := hB5.out.box.cell 0
      go_simp
      rw [← hW5]
      clear hW5 hb5
      refine hK.out _ _ cc5 (fun hH => ?_)
      clear hK K
      try simp only [Act.put, List.getElem_toArray, List.getElem_cons_succ, List.getElem_cons_zero, List.setIfInBounds_toArray, List.set_cons_zero, List.set_cons_succ]
      refine wpAnyK_next (i := 6) (by kernel_rfl) rfl (by decide) (fun K hK => ?_)
      rw [if_pos (by kernel_rfl)]
      refine wp_append_gen w5 (.tmp 31) (.tmp 35) 23 rfl 0 64 Tryz.underlying23 infoSiteA rfl (by decide) (by decide) (v := .slice aos ns cs) rfl hB5.out.sites.own ⟨w4.heap.size, 0, none⟩ 1 1 (siteRow (.slice ao4 n4 k4) (siteM hosts1 q3).1).toList rfl (fun j u hj => ?_) siteRow_one rfl (by have := HQ.out.2.2; omega) (Nat.zero_le _) (fun v6 w6 ho6 hg6 hi6 => ?_)
      · rw [addAt2, Nat.zero_add, HC5.out.cell j]; simpa using hj
      have hsv : ∀ k, (Value.slice aos ns cs).ownBlock = some k → k < w3.drew.heap.size := fun k hk => (H3.out.2.2.1.sites.own.lt k hk).2
      have kk6 : Kept (fun k => (Value.slice aos ns cs).ownBlock = some k) w5 w6 := (Kept.refl (fun k => (Value.slice aos ns cs).ownBlock = some k) w5).grown hg6 (fun k hk _ => hk)
      obtain ⟨S6, O6, C6⟩ := hB5.out.more rfl HO5.out HP4.out.fresh (by exact H3.out.2.1.lt) hsv ho6 hg6 hi6 HN.out.2.1 HS5.out.lt
      have R6 := HR5.out.kept kk6 (fun k hk => by have := hB5.out.sites.inn k hk; have := HN.out; omega)
      have N6 := HS5.out.kept kk6 (fun e => by have := hB5.out.sites.inn _ e; omega)
      have K6 : Kept (fun k => k = g) w w6 := (H3.out.2.2.2.trans HK5.out (fun k h hk => by have := HN.out; omega)).trans kk6 (fun k h hk => by have := hB5.out.sites.inn _ h; have := HN.out; omega)
      obtain ⟨ao6, n6, c6, rfl⟩ : ∃ ao n c, v6 = .slice ao n c := by obtain ⟨ao, c, e⟩ := ownsRow_formN ho6; exact ⟨ao, _, c, e⟩
      have kC := (Kept.refl (fun k => k = C) w6).setCell (i := 0) (.inl rfl) (.slice ao6 n6 c6)
      have H6 : Hid (CfgB (w6.setCell ⟨C, 0, none⟩ (.slice ao6 n6 c6)) A C mh (.slice ao6 n6 c6) (L1 ++ [((siteM hosts1 q3).1, .slice ao4 n4 k4)]) ∧ RcOk (w6.setCell ⟨C, 0, none⟩ (.slice ao6 n6 c6)) g T (siteM hosts1 q3).2 ∧ Seen (w6.setCell ⟨C, 0, none⟩ (.slice ao6 n6 c6)) mh (hdW q3 :: hosts1) ∧ Kept (fun k => k = g) w (w6.setCell ⟨C, 0, none⟩ (.slice ao6 n6 c6))) := ⟨⟨O6.kept kC (by have := HN.out; omega), C6.setCell 0 _, S6.kept kC (fun k hB _ e => by have := HN.out; omega)⟩, R6.kept kC (fun k hk => by have := HN.out; omega), N6.kept kC (by have := HN.out; omega), K6.trans kC (fun k h hk => by have := HN.out; omega)⟩
      have cc6 := C6.cell 0
      have ff6 := C6.free 0
      clear hsv kk6 S6 O6 C6 R6 N6 K6 kC ho6 hg6 hi6
      refine hK.out _ _ cc6 (fun hH => ?_)
      clear hK K
      try simp only [Act.put, List.getElem_toArray, List.getElem_cons_succ, List.getElem_cons_zero, List.setIfInBounds_toArray, List.set_cons_zero, List.set_cons_succ]
      refine wpAnyK_take (i := 7) (v := ?_) rfl (by kernel_rfl) (by kernel_rfl) (by kernel_rfl) (by decide) (by kernel_rfl) (fun _ _ _ h => h) (Or.inl ⟨by kernel_rfl, ?_⟩) hH ?_
      rotate_left
      · intro W hS
        go_simp
        first | done | with_reducible rfl
      simp only [Act.put, List.getElem_toArray, List.getElem_cons_succ, List.getElem_cons_zero, List.setIfInBounds_toArray, List.set_cons_zero, List.set_cons_succ]
      refine wpAnyK_last (by kernel_rfl) rfl (fun K hK => ?_)
      go_simp
      refine hK.out _ _ ?_
      clear hK K
      try simp only [Act.put, List.getElem_toArray, List.getElem_cons_succ, List.getElem_cons_zero, List.setIfInBounds_toArray, List.set_cons_zero, List.set_cons_succ]
      refine wpAnyK_done (by kernel_rfl) ?_ _
      clear cc4 cc5 cc6 ff6 c0 hH
      go_wp2_with fail
      have hJ1 := HJ.out
      obtain ⟨hi, hk', hlt, hq4⟩ := HI.out
      go_roundg k'
      case measure => omega
      case rel =>
        refine ⟨_, _, _, _, H6.out.1, H6.out.2.1, H6.out.2.2.1, H6.out.2.2.2, by have := hJ1.size; omega, ?_, ?_, ?_, ?_⟩
        · rw [List.map_append]; exact hi
        · rw [List.length_append]
          have := hJ1.few
          simp only [List.length_singleton]; omega
        · have := hJ1.less
          simp only [List.length_cons]; omega
        · have h1 := (fol_site hosts1 q3).len
          have := HQ.out.2.1
          omega
    · have hi := hJ.is
      rw [cfgF_stop (Bool.eq_false_iff.2 hgo)] at hi
      have HI := hid hi
      have hor : p1.code ≠ 0 ∨ (p1.code = 0 ∧ y = []) := by
        by_cases h0 : p1.code = 0
        · refine .inr ⟨h0, ?_⟩
          unfold cfgGo at hgo
          rw [h0, hy] at hgo
          simpa using hgo
        · exact .inl h0
      have hrc := hJ.base.box
      have hra := hJ.base.out
      have hcc := hrc.cell 0
      have hca := hra.cell 0
      have hfa := hra.free 0
      have HRA := hid hra
      clear hJ hi hgo hy hns hra hrc
      rcases hor with h0 | ⟨h0, rfl⟩
      focus
        have e0 : (p1.code == 0) = false := by simp [h0]
        rw [e0] at cf
        have CF := hid cf
        clear cf h0 e0
        go_wp2_with (first
          | (go_at_call 39; refine CF.out.mono ?_; rintro e w2 ⟨rfl, rfl⟩))
      rotate_left
      focus
        have e0 : (p1.code == 0) = true := by simp [h0]
        rw [e0] at cf
        have CF := hid cf
        clear cf h0 e0
        go_wp2_with (first
          | (go_at_call 39; refine CF.out.mono ?_; rintro e w2 ⟨rfl, rfl⟩))
      all_goals
        refine bodyPost_ret (results_row Tryz.results38 _ _ A _ rfl (HRA.out.setCell 0 _) Tryz.underlying25 rfl infoCfg) rfl ?_
        have kA := (Kept.refl (fun k => k = A) wr).setCell (i := 0) (.inl rfl) (.slice aos ns cs)
        have hn := HN.out
        refine ⟨.slice aos ns cs, L1, rfl, by rw [← HI.out], ?_, by rw [← HI.out]; exact HJ.out.ok.kept kA (fun k hk => by rw [hk]; exact hn.1), HJ.out.kept.trans kA (fun k h hk => by omega)⟩
        have hst := HJ.out.base.sites.kept kA (fun k hB _ e => by omega)
        exact ⟨hst.own, hst.heads, fun x hx k hk => ⟨by have := (hst.apart x hx k hk).1; omega, (hst.apart x hx k hk).2⟩, fun k hk => by have := hst.inn k hk; omega⟩
end Go.Proofs.YtenijpcjemdhfaaGreatDoor
/-
  What the reader has made, as it is read.
-/
namespace Go.Proofs.YtenijpcjemdhfaaGreatDoor
open Go.RowKit Go.Pantry

theorem rowZ_one {ao : Option Addr} {n c : Nat} {s : SiteZ} : ∀ u ∈ (rowZ (.slice ao n c) s).toList, u.oneCell' = true := by
  intro u hu
  have := oneSite s.host s.origin s.min s.max s.query s.keep ao n c
  rw [Array.all_eq_true'] at this
  exact this u (by simpa using hu)
/-- what the reader has made, as it is read -/
def zs (L : List (SiteM × Value)) : List (SiteZ × Value) := L.map fun x => (x.1.z, x.2)
theorem siteCells_z : ∀ L : List (SiteM × Value), siteCells L = rowsZ (zs L)
  | [] => rfl
  | x :: L => by
    have := siteCells_z L
    unfold siteCells rowsZ zs at this ⊢
    rw [List.flatMap_cons, List.map_cons, List.flatMap_cons, this]; rfl
theorem SitesAt.readsP {w : World} {B : Nat} {sv : Value} {L : List (SiteM × Value)} (h : SitesAt w B sv L) : ReadsP w sv (zs L) := by
  have ho := h.own
  rw [siteCells_z] at ho
  refine readsP_own ho (fun x hx => ?_)
  obtain ⟨y, hy, rfl⟩ := List.mem_map.1 hx
  exact (h.heads y hy).reads
end Go.Proofs.YtenijpcjemdhfaaGreatDoor
/-
  Contracts of package pantrymade: Site, Config.
-/
namespace Go.Proofs.YtenijpcjemdhfaaGreatDoor
open Go.RowKit Go.Pantry

theorem own_raise {w : World} {B B' : Nat} {e : TypeId} {size : Nat} {v : Value} {n : Nat} {xs : List Value} (h : w.ownsRow B e size v n xs) (hi : In (fun k => B' ≤ k) v) : w.ownsRow B' e size v n xs := by
  refine ⟨h.1, h.2.imp id ?_⟩
  rintro ⟨g, cap, cur, rfl, hb, h⟩
  exact ⟨g, cap, cur, rfl, hi g rfl, h⟩
theorem infoRefSite : (Tryz.prog.info? 70).map (·.size) = some 7 := by kernel_rfl
theorem infoRefSiteA : (Tryz.prog.info? 70).map (fun i => (i.zero, i.size, i.bytes)) = some (some (.agg zeroSite), 7, 72) := by kernel_rfl
theorem infoRefCfg : (Tryz.prog.info? 33).map (·.size) = some 1 := by kernel_rfl
theorem madeSite_any (hv : Value) (s : SiteZ) (w : World) (hf : ∃ ao n c, hv = .slice ao n c) :
    Calls Tryz.prog 31 #[.agg (rowZ hv s)] w fun e w' => e = .returned (.agg (rowZ hv s)) ∧ Below w.heap.size w w' := by
  obtain ⟨ao, n, c, rfl⟩ := hf
  obtain ⟨A, hA⟩ : ∃ A, w.heap.size = A := ⟨_, rfl⟩
  obtain ⟨B, hB⟩ : ∃ B, A + 1 = B := ⟨_, rfl⟩
  have r1 : rowIs ((w.alloc (.cells (rowZ (.slice ao n c) s) 64)).alloc (.cells #[.string ⟨#[]⟩, .int .i64 0, .int .i64 0, .int .i64 0, .bool false, .bool false, .slice none 0 0] 70)) A (rowZ (.slice ao n c) s) 64 := by rw [← hA]; exact (rowIs_new _ _ _).below (below_alloc _ _)
  have r2 : rowIs ((w.alloc (.cells (rowZ (.slice ao n c) s) 64)).alloc (.cells #[.string ⟨#[]⟩, .int .i64 0, .int .i64 0, .int .i64 0, .bool false, .bool false, .slice none 0 0] 70)) B #[.string ⟨#[]⟩, .int .i64 0, .int .i64 0, .int .i64 0, .bool false, .bool false, .slice none 0 0] 70 := rowIs_new_at _ _ _ _ (by simp; omega)
  have hbb := chainP (below_alloc w (.cells (rowZ (.slice ao n c) s) 64)) (below_alloc _ (.cells #[.string ⟨#[]⟩, .int .i64 0, .int .i64 0, .int .i64 0, .bool false, .bool false, .slice none 0 0] 70))
  have HB := hid (And.intro hbb (And.intro hA hB))
  have R2 := hid r2
  clear hbb
  go_enter Tryz.func31, Tryz.ntmps31
  go_wp2_with (first
    | (refine wpList_load_row rfl 64 _ rfl A rfl 64 _ (0, 0) _ r1 Tryz.underlying64 rfl infoSite ?_)
    | (refine wpList_store_row rfl 70 _ _ rfl B _ rfl rfl 70 _ r2 infoRefSite rfl (oneSite _ _ _ _ _ _ _ _ _) ?_))
  refine bodyPost_ret (results_row Tryz.results31 _ _ B _ rfl (R2.out.setRow _) Tryz.underlying70 rfl infoRefSite) rfl ?_
  refine ⟨rfl, ?_⟩
  exact ((Kept.of_below (X := fun k => k = B) HB.out.1).setRow (g := B) (.inl rfl) _).below (fun k h _ => by have := HB.out.2; omega) (Nat.le_refl _)
/-- sites of the document's, as they grow -/
structure ZAt (w : World) (C : Nat) (sv : Value) (L : List (SiteZ × Value)) : Prop where
  own : w.ownsRow 0 70 7 sv L.length (rowsZ L)
  inn : In (fun k => C < k) sv
theorem ZAt.kept {X : Nat → Prop} {w w' : World} {C : Nat} {sv : Value} {L : List (SiteZ × Value)} (h : ZAt w C sv L) (hk : Kept X w w') (hx : ∀ k, C < k → ¬ X k) : ZAt w' C sv L :=
  ⟨ownsRow_kept h.own hk (fun k hk => hx k (h.inn k hk)), h.inn⟩
set_option maxRecDepth 8000 in
theorem madeConfig_own (v : Value) (L : List (SiteZ × Value)) (w : World) (h : ReadsP w v L) (hl : L.length ≤ 1000000) :
    Calls Tryz.prog 13 #[.agg #[v]] w fun e w' => ∃ v', e = .returned (.agg #[v']) ∧ w'.ownsRow w.heap.size 70 7 v' L.length (rowsZ L) ∧ Below w.heap.size w w' := by
  obtain ⟨ao, cap, hv, hcells⟩ := h.form
  subst hv
  obtain ⟨A, hA⟩ : ∃ A, w.heap.size + 1 = A := ⟨_, rfl⟩
  obtain ⟨C, hC⟩ : ∃ C, A + 1 = C := ⟨_, rfl⟩
  have HP := hid h
  have hbb : Below w.heap.size w (((w.alloc (.cells #[.slice ao L.length cap] 25)).alloc (.cells #[.slice none 0 0] 33)).alloc (.cells #[.slice none 0 0] 33)) := chainP (chainP (below_alloc _ _) (below_alloc _ _)) (below_alloc _ _)
  have J0 : Hid (rowIs (((w.alloc (.cells #[.slice ao L.length cap] 25)).alloc (.cells #[.slice none 0 0] 33)).alloc (.cells #[.slice none 0 0] 33)) A #[.slice none 0 0] 33 ∧ rowIs (((w.alloc (.cells #[.slice ao L.length cap] 25)).alloc (.cells #[.slice none 0 0] 33)).alloc (.cells #[.slice none 0 0] 33)) C #[.slice none 0 0] 33 ∧ ZAt (((w.alloc (.cells #[.slice ao L.length cap] 25)).alloc (.cells #[.slice none 0 0] 33)).alloc (.cells #[.slice none 0 0] 33)) C (.slice none 0 0) (L.take 0) ∧ Below w.heap.size w (((w.alloc (.cells #[.slice ao L.length cap] 25)).alloc (.cells #[.slice none 0 0] 33)).alloc (.cells #[.slice none 0 0] 33))) :=
    ⟨(rowIs_new_at _ _ _ _ (by simp; omega)).below (below_alloc _ _), rowIs_new_at _ _ _ _ (by simp; omega), ⟨World.ownsRow_nil _ _ _ _, In.nil _ _⟩, hbb⟩
  obtain ⟨n, hn⟩ : ∃ n, L.length = n := ⟨_, rfl⟩
  rw [hn] at J0 HP hl ⊢
  have HN := hid (show w.heap.size < A ∧ A < C ∧ L.length ≤ 1000000 ∧ L.length = n from by omega)
  clear hbb h hcells
  have HLN := hid hn
  have HL2 := hid hl
  clear hn hl
  go_enter Tryz.func13, Tryz.ntmps13
  have hcb : (((w.alloc (.cells #[.slice ao n cap] 25)).alloc (.cells #[.slice none 0 0] 33)).alloc (.cells #[.slice none 0 0] 33)).cell? ⟨w.heap.size, 0, none⟩ = some (.slice ao n cap) := (((rowIs_new w #[.slice ao n cap] 25).below (below_alloc _ _)).below (below_alloc _ _)).cell 0
  go_wp2
  clear hcb hA hC
  go_loopw [9] (fun z wr => ∃ (k : Nat) (sv : Value), z = .int .i64 (k : Int) ∧ k ≤ n ∧ rowIs wr A #[.slice none 0 0] 33 ∧ rowIs wr C #[sv] 33 ∧ ZAt wr C sv (L.take k) ∧ Below w.heap.size w wr) (fun z _ => n - (intOf z).toNat)
  case atStart => exact ⟨0, _, rfl, Nat.zero_le _, J0.out.1, J0.out.2.1, J0.out.2.2.1, J0.out.2.2.2⟩
  case round =>
    clear J0
    obtain ⟨k, sv, rfl, hk, hra, hrc, hz, hb⟩ := hrel
    obtain ⟨aos, cs, hf⟩ := ownsRow_formN hz.own
    obtain ⟨ns, hns⟩ : ∃ ns, (L.take k).length = ns := ⟨_, rfl⟩
    rw [hns] at hf
    subst hf
    have HB := hid (And.intro hra (And.intro hrc (And.intro hz hb)))
    have hcc := hrc.cell 0
    by_cases hlt : k < n
    · obtain ⟨⟨s, hvx⟩, hx⟩ : ∃ x, L[k]? = some x := by
        have := HLN.out
        exact ⟨L[k]'(by omega), List.getElem?_eq_getElem (by omega)⟩
      have hfx : ∃ ao n c, hvx = .slice ao n c := by
        obtain ⟨ao', c', e⟩ := (HP.out.heads _ (List.mem_of_getElem? hx)).form
        exact ⟨ao', _, c', e⟩
      obtain ⟨aox, nx, cx, rfl⟩ := hfx
      obtain ⟨b, off, hao, hc⟩ := (HP.out.below hb).at_ hx
      subst hao
      have x0 := hc 0 _ rfl
      have x1 := hc 1 _ rfl
      have x2 := hc 2 _ rfl
      have x3 := hc 3 _ rfl
      have x4 := hc 4 _ rfl
      have x5 := hc 5 _ rfl
      have x6 := hc 6 _ rfl
      rw [Nat.add_zero] at x0
      obtain ⟨o, ho⟩ : ∃ o, off + k * 7 = o := ⟨_, rfl⟩
      rw [ho] at x0 x1 x2 x3 x4 x5 x6
      have HX := hid hx
      have hkI : (k : Int) < (n : Int) := by omega
      have hk0 : (0 : Int) ≤ (k : Int) := by omega
      have hkw : IntKind.i64.wrap ((k : Int) + 1) = (k : Int) + 1 := IntWalk.i64_in _ (by have := HL2.out; omega)
      clear hra hz hb hc hx hns
      go_wp2_with fail
      obtain ⟨wx, hWX⟩ : ∃ W, wr.alloc (.cells (rowZ (.slice aox nx cx) s) 64) = W := ⟨_, rfl⟩
      have hbx : Below wr.heap.size wr wx := by rw [← hWX]; exact below_alloc _ _
      have hrx : rowIs wx wr.heap.size (rowZ (.slice aox nx cx) s) 64 := by rw [← hWX]; exact rowIs_new _ _ _
      have hccx : wx.cell? ⟨C, 0, none⟩ = some (.slice aos ns cs) := kept hcc hbx
      have HSV := hid (show ¬ (Value.slice aos ns cs).ownBlock = some wr.heap.size from fun e => by have := (HB.out.2.2.1.own.lt _ e).2; omega)
      clear x0 x1 x2 x3 x4 x5 x6 hcc
      change Code.wp _ _ _ _ (wr.alloc (.cells (rowZ (.slice aox nx cx) s) 64))
      rw [hWX]
      refine wp_region_K 7 (by kernel_rfl) (fun w' => w'.cell? ⟨C, 0, none⟩ = some (.slice aos ns cs) ∧ rowIs w' wr.heap.size (rowZ (.slice aox nx cx) s) 64) ⟨hccx, hrx⟩ (fun hH => ?_)
      refine wpAnyK_take (i := 0) (v := ?_) rfl (by kernel_rfl) (by kernel_rfl) (by kernel_rfl) (by decide) (by kernel_rfl) (fun _ _ _ h => h) (Or.inl ⟨by kernel_rfl, ?_⟩) hH ?_
      rotate_left
      · intro W hS
        obtain ⟨q1, q2⟩ := hS
        go_simp
        first | done | with_reducible rfl
      simp only [Act.put, List.getElem_toArray, List.getElem_cons_succ, List.getElem_cons_zero, List.setIfInBounds_toArray, List.set_cons_zero, List.set_cons_succ]
      refine wpAnyK_take (i := 1) (v := ?_) rfl (by kernel_rfl) (by kernel_rfl) (by kernel_rfl) (by decide) (by kernel_rfl) (fun _ _ _ h => h) (Or.inl ⟨by kernel_rfl, ?_⟩) hH ?_
      rotate_left
      · intro W hS
        obtain ⟨q1, q2⟩ := hS
        go_simp
        first | done | with_reducible rfl
      simp only [Act.put, List.getElem_toArray, List.getElem_cons_succ, List.getElem_cons_zero, List.setIfInBounds_toArray, List.set_cons_zero, List.set_cons_succ]
      refine wpAnyK_take (i := 2) (v := .agg (rowZ (.slice aox nx cx) s)) rfl (by kernel_rfl) (by kernel_rfl) (by kernel_rfl) (by decide) (by kernel_rfl) (fun _ _ _ h => h) (Or.inl ⟨by kernel_rfl, ?_⟩) hH ?_
      · intro W hS
        exact load_gives rfl wr.heap.size rfl hS.2 Tryz.underlying64 rfl infoSite
      simp only [Act.put, List.getElem_toArray, List.getElem_cons_succ, List.getElem_cons_zero, List.setIfInBounds_toArray, List.set_cons_zero, List.set_cons_succ]
      refine wpAnyK_next (i := 3) (by kernel_rfl) rfl (by decide) (fun K hK => ?_)
      go_simp
      refine (madeSite_any (.slice aox nx cx) s _ ⟨_, _, _, rfl⟩).mono ?_
      rintro e w3 ⟨rfl, hb3⟩
      replace hb3 := below_of_drew hb3
      have hS3 := hid (And.intro (HB.out.1.below (chainP hbx hb3)) (And.intro (HB.out.2.1.below (chainP hbx hb3)) (And.intro (HB.out.2.2.1.kept (Kept.of_below (X := fun _ => False) (chainP hbx hb3)) (fun _ _ h => h)) (chainP HB.out.2.2.2 (chainP hbx hb3)))))
      have hq3 := hrx.below hb3
      have c3 := hS3.out.2.1.cell 0
      clear hb3
      refine hK.out _ _ ⟨c3, hq3⟩ (fun hH => ?_)
      clear hK K
      try simp only [Act.put, List.getElem_toArray, List.getElem_cons_succ, List.getElem_cons_zero, List.setIfInBounds_toArray, List.set_cons_zero, List.set_cons_succ]
      refine wpAnyK_next (i := 4) (by kernel_rfl) rfl (by decide) (fun K hK => ?_)
      obtain ⟨w4, hW4⟩ : ∃ W, W = w3.alloc (.cells (rowZ (.slice aox nx cx) s) 70) := ⟨_, rfl⟩
      have hb4 : Below w3.heap.size w3 w4 := by rw [hW4]; exact below_alloc _ _
      have hS4 := hid (And.intro (hS3.out.1.below hb4) (And.intro (hS3.out.2.1.below hb4) (And.intro (hS3.out.2.2.1.kept (Kept.of_below (X := fun _ => False) hb4) (fun _ _ h => h)) (chainP hS3.out.2.2.2 hb4))))
      have hq4 := hq3.below hb4
      have HC4 : Hid (rowIs w4 w3.heap.size (rowZ (.slice aox nx cx) s) 70) := by rw [hW4]; exact rowIs_new _ _ _
      have c4 := hS4.out.2.1.cell 0
      go_simp
      rw [← hW4]
      clear hW4 hb4
      refine hK.out _ _ ⟨c4, hq4⟩ (fun hH => ?_)
      clear hK K
      try simp only [Act.put, List.getElem_toArray, List.getElem_cons_succ, List.getElem_cons_zero, List.setIfInBounds_toArray, List.set_cons_zero, List.set_cons_succ]
      refine wpAnyK_next (i := 5) (by kernel_rfl) rfl (by decide) (fun K hK => ?_)
      rw [if_pos (by kernel_rfl)]
      refine wp_append_gen w4 (.tmp 14) (.tmp 17) 31 rfl 0 70 Tryz.underlying31 infoRefSiteA rfl (by decide) (by decide) (v := .slice aos ns cs) rfl hS4.out.2.2.1.own ⟨w3.heap.size, 0, none⟩ 1 1 (rowZ (.slice aox nx cx) s).toList rfl (fun j u hj => ?_) (rowZ_one) rfl (by have h1 := HN.out; have h2 := (List.take_sublist k L).length_le; omega) (Nat.zero_le _) (fun v6 w6 ho6 hg6 hi6 => ?_)
      · rw [addAt2, Nat.zero_add, HC4.out.cell j]; simpa using hj
      obtain ⟨ao6, n6, c6, rfl⟩ : ∃ ao n c, v6 = .slice ao n c := by obtain ⟨ao, c, e⟩ := ownsRow_formN ho6; exact ⟨ao, _, c, e⟩
      have kk6 : Kept (fun k => (Value.slice aos ns cs).ownBlock = some k) w4 w6 := (Kept.refl (fun k => (Value.slice aos ns cs).ownBlock = some k) w4).grown hg6 (fun k hk _ => hk)
      have hC4 := hS4.out.2.1.lt
      have i6 : In (fun k => C < k) (.slice ao6 n6 c6) := fun k hk => by
        rcases hi6 k hk with e | e
        · exact hS4.out.2.2.1.inn k e
        · omega
      have O6 := hS4.out.1.kept kk6 (fun e => by have := hS4.out.2.2.1.inn _ e; have := HN.out; omega)
      have C6 := hS4.out.2.1.kept kk6 (fun e => by have := hS4.out.2.2.1.inn _ e; omega)
      have kC := (Kept.refl (fun k => k = C) w6).setCell (i := 0) (.inl rfl) (.slice ao6 n6 c6)
      have H6 : Hid (rowIs (w6.setCell ⟨C, 0, none⟩ (.slice ao6 n6 c6)) A #[.slice none 0 0] 33 ∧ rowIs (w6.setCell ⟨C, 0, none⟩ (.slice ao6 n6 c6)) C #[.slice ao6 n6 c6] 33 ∧ ZAt (w6.setCell ⟨C, 0, none⟩ (.slice ao6 n6 c6)) C (.slice ao6 n6 c6) (L.take k ++ [(s, .slice aox nx cx)]) ∧ Below w.heap.size w (w6.setCell ⟨C, 0, none⟩ (.slice ao6 n6 c6))) := ⟨O6.kept kC (by have := HN.out; omega), C6.setCell 0 _, ⟨by rw [rowsZ_snoc, List.length_append]; exact ownsRow_kept ho6 kC (fun k hk e => by have := i6 k hk; omega), i6⟩, (((Kept.of_below (X := fun k => w.heap.size ≤ k) hS4.out.2.2.2).trans kk6 (fun k h hk => by have := hS4.out.2.2.1.inn k h; have := HN.out; omega)).trans kC (fun k h hk => by have := HN.out; omega)).below (fun k h _ => h) (Nat.le_refl _)⟩
      have cc6 := C6.cell 0
      have ff6 := C6.free 0
      have hq6 := hq4.kept kk6 (fun e => by have := (hS4.out.2.2.1.own.lt _ e).2; have := hS4.out.2.2.1.inn _ e; exact HSV.out e)
      clear kk6 hC4 i6 O6 C6 kC ho6 hg6 hi6
      refine hK.out _ _ ⟨cc6, hq6⟩ (fun hH => ?_)
      clear hK K
      try simp only [Act.put, List.getElem_toArray, List.getElem_cons_succ, List.getElem_cons_zero, List.setIfInBounds_toArray, List.set_cons_zero, List.set_cons_succ]
      refine wpAnyK_take (i := 6) (v := ?_) rfl (by kernel_rfl) (by kernel_rfl) (by kernel_rfl) (by decide) (by kernel_rfl) (fun _ _ _ h => h) (Or.inl ⟨by kernel_rfl, ?_⟩) hH ?_
      rotate_left
      · intro W hS
        obtain ⟨q1, q2⟩ := hS
        go_simp
        first | done | with_reducible rfl
      simp only [Act.put, List.getElem_toArray, List.getElem_cons_succ, List.getElem_cons_zero, List.setIfInBounds_toArray, List.set_cons_zero, List.set_cons_succ]
      refine wpAnyK_last (by kernel_rfl) rfl (fun K hK => ?_)
      go_simp
      refine hK.out _ _ ?_
      clear hK K
      try simp only [Act.put, List.getElem_toArray, List.getElem_cons_succ, List.getElem_cons_zero, List.setIfInBounds_toArray, List.set_cons_zero, List.set_cons_succ]
      refine wpAnyK_done (by kernel_rfl) ?_ _
      clear c3 c4 cc6 ff6 hq3 hq4 hq6 hH hrx hccx
      go_wp2_with fail
      go_roundw
      case rel =>
        refine ⟨k + 1, _, by go_num, hlt, H6.out.1, H6.out.2.1, ?_, H6.out.2.2.2⟩
        rw [List.take_add_one, HX.out]
        exact H6.out.2.2.1
      case measure => simp [intOf]; omega
    · have hca := hra.cell 0
      have hfa := hra.free 0
      have hkn : k = n := by omega
      have HK := hid hkn
      clear hra hz hb hns hkn
      go_wp2_with fail
      refine bodyPost_ret (results_row Tryz.results13 _ _ A _ rfl (HB.out.1.setCell 0 _) Tryz.underlying33 rfl infoRefCfg) rfl ?_
      have kA := (Kept.refl (fun k => k = A) wr).setCell (i := 0) (.inl rfl) (.slice aos ns cs)
      have hz := HB.out.2.2.1.kept kA (fun k hk e => by have := HN.out; omega)
      have hLk : L.take k = L := List.take_of_length_le (by have := HN.out; have := HK.out; omega)
      rw [hLk] at hz
      have hbe : Below w.heap.size w (wr.setCell ⟨A, 0, none⟩ (.slice aos ns cs)) := ((Kept.of_below (X := fun k => w.heap.size ≤ k) HB.out.2.2.2).trans kA (fun k h hk => by have := HN.out; omega)).below (fun k h _ => h) (Nat.le_refl _)
      have ho := own_raise hz.own (B' := w.heap.size) (fun k hk => by have := hz.inn k hk; have := HN.out; omega)
      rw [HLN.out] at ho
      exact ⟨.slice aos ns cs, rfl, ho, hbe⟩
theorem madeConfig_any (v : Value) (L : List (SiteZ × Value)) (w : World) (h : ReadsP w v L) (hl : L.length ≤ 1000000) :
    Calls Tryz.prog 13 #[.agg #[v]] w fun e w' => ∃ v', e = .returned (.agg #[v']) ∧ ReadsP w' v' L ∧ Below w.heap.size w w' := by
  refine (madeConfig_own v L w h hl).mono ?_
  rintro e w1 ⟨v', rfl, ho, hb⟩
  exact ⟨v', rfl, readsP_own ho (fun x hx => (h.heads x hx).below hb), hb⟩
end Go.Proofs.YtenijpcjemdhfaaGreatDoor
/-
  The document's Alike and Same, where both are the same.
-/
namespace Go.Proofs.YtenijpcjemdhfaaGreatDoor
open Go.RowKit Go.Pantry

set_option maxRecDepth 8000 in
theorem alike_eq (h1 h2 : Value) (s : SiteZ) (w : World) (r1 : Reads w h1 (s.heads.map strV)) (r2 : Reads w h2 (s.heads.map strV)) (hl : s.heads.length ≤ 1000000) :
    Calls Tryz.prog 30 #[.agg (rowZ h1 s), .agg (rowZ h2 s)] w fun e w' => e = .returned (.bool true) ∧ Below w.heap.size w w' := by
  obtain ⟨n, hn⟩ : ∃ n, s.heads.length = n := ⟨_, rfl⟩
  obtain ⟨ao1, c1, e1⟩ := r1.form
  obtain ⟨ao2, c2, e2⟩ := r2.form
  rw [List.length_map, hn] at e1 e2
  subst e1 e2
  have R1 := hid r1
  have R2 := hid r2
  have HN := hid hn
  rw [hn] at hl
  have z1 : (s.host == s.host) = true := by simp
  have J0 : Hid ((((w.alloc (.cells (rowZ (.slice ao1 n c1) s) 70)).alloc (.cells (rowZ (.slice ao2 n c2) s) 70))).cell? ⟨w.heap.size, 6, none⟩ = some (.slice ao1 n c1) ∧ (((w.alloc (.cells (rowZ (.slice ao1 n c1) s) 70)).alloc (.cells (rowZ (.slice ao2 n c2) s) 70))).cell? ⟨w.heap.size + 1, 6, none⟩ = some (.slice ao2 n c2) ∧ Below w.heap.size w (((w.alloc (.cells (rowZ (.slice ao1 n c1) s) 70)).alloc (.cells (rowZ (.slice ao2 n c2) s) 70)))) :=
    ⟨((rowIs_new w (rowZ (.slice ao1 n c1) s) 70).below (below_alloc _ _)).cell 6, (rowIs_new_at _ (rowZ (.slice ao2 n c2) s) 70 (w.heap.size + 1) (by simp)).cell 6, chainP (below_alloc _ _) (below_alloc _ _)⟩
  clear r1 r2 hn
  go_enter Tryz.func30, Tryz.ntmps30
  go_wp2_with fail
  clear z1
  go_loopw [5] (fun z wr => ∃ (k : Nat), z = .int .i64 (k : Int) ∧ k ≤ n ∧ wr.cell? ⟨w.heap.size, 6, none⟩ = some (.slice ao1 n c1) ∧ wr.cell? ⟨w.heap.size + 1, 6, none⟩ = some (.slice ao2 n c2) ∧ Below w.heap.size w wr) (fun z _ => n - (intOf z).toNat)
  case atStart => exact ⟨0, rfl, Nat.zero_le _, J0.out.1, J0.out.2.1, J0.out.2.2⟩
  case round =>
    clear J0
    obtain ⟨k, rfl, hk, hc1, hc2, hb⟩ := hrel
    have HB := hid hb
    by_cases hlt : k < n
    · obtain ⟨x, hx⟩ : ∃ x, s.heads[k]? = some x := by
        have := HN.out
        exact ⟨s.heads[k]'(by omega), List.getElem?_eq_getElem (by omega)⟩
      have hxm : (s.heads.map strV)[k]? = some (strV x) := by rw [List.getElem?_map, hx]; rfl
      have q1 := R1.out.below hb
      have q2 := R2.out.below hb
      obtain ⟨a1, c1', e1, f1, -⟩ := q1
      obtain ⟨a2, c2', e2, f2, -⟩ := q2
      injection e1 with e1 k1 k2
      injection e2 with e2 k3 k4
      clear k1 k2 k3 k4
      subst e1 e2
      obtain ⟨b1, o1, g1, i1⟩ := f1 k _ hxm
      obtain ⟨b2, o2, g2, i2⟩ := f2 k _ hxm
      subst g1 g2
      have d1 : wr.cell? ⟨b1, o1 + k, none⟩ = some (strV x) := i1
      have d2 : wr.cell? ⟨b2, o2 + k, none⟩ = some (strV x) := i2
      have d3 : wr.cell? ⟨w.heap.size, 6, none⟩ = some (.slice (some ⟨b1, o1, none⟩) n c1) := hc1
      have d4 : wr.cell? ⟨w.heap.size + 1, 6, none⟩ = some (.slice (some ⟨b2, o2, none⟩) n c2) := hc2
      have zx : (x == x) = true := by simp
      have hkI : (k : Int) < (n : Int) := by omega
      have hk0 : (0 : Int) ≤ (k : Int) := by omega
      have hkw : IntKind.i64.wrap ((k : Int) + 1) = (k : Int) + 1 := IntWalk.i64_in _ (by omega)
      clear hb f1 f2 hx hxm i1 i2 hc1 hc2
      go_wp2_with fail
      go_quiet (fail)
      go_wp2_with fail
      go_roundw
      case rel => exact ⟨k + 1, by go_num, hlt, d3, d4, below_drewN HB.out _⟩
      case measure => simp [intOf]; omega
    · go_wp2_with fail
      go_ret
      exact ⟨rfl, HB.out⟩

set_option maxRecDepth 8000 in
theorem same_eq (v1 v2 : Value) (L1 L2 : List (SiteZ × Value)) (w : World) (r1 : ReadsP w v1 L1) (r2 : ReadsP w v2 L2) (he : L1.map (·.1) = L2.map (·.1)) (hl : L1.length ≤ 1000000) (hh : ∀ x ∈ L1, x.1.heads.length ≤ 1000000) :
    Calls Tryz.prog 12 #[.agg #[v1], .agg #[v2]] w fun e w' => e = .returned (.bool true) ∧ Below w.heap.size w w' := by
  have hlen : L1.length = L2.length := by have := congrArg List.length he; simpa using this
  obtain ⟨n, hn⟩ : ∃ n, L1.length = n := ⟨_, rfl⟩
  obtain ⟨ao1, c1, e1, f1⟩ := r1.form
  obtain ⟨ao2, c2, e2, f2⟩ := r2.form
  rw [hn] at e1
  rw [← hlen, hn] at e2
  subst e1 e2
  have R1 := hid r1
  have R2 := hid r2
  have HE := hid he
  have HH := hid hh
  have HL := hid (And.intro hn (And.intro hlen hl))
  have hnl : n ≤ 1000000 := by omega
  have J0 : Hid (((w.alloc (.cells #[.slice ao1 n c1] 33)).alloc (.cells #[.slice ao2 n c2] 33)).cell? ⟨w.heap.size, 0, none⟩ = some (.slice ao1 n c1) ∧ ((w.alloc (.cells #[.slice ao1 n c1] 33)).alloc (.cells #[.slice ao2 n c2] 33)).cell? ⟨w.heap.size + 1, 0, none⟩ = some (.slice ao2 n c2) ∧ Below w.heap.size w ((w.alloc (.cells #[.slice ao1 n c1] 33)).alloc (.cells #[.slice ao2 n c2] 33))) :=
    ⟨((rowIs_new w #[.slice ao1 n c1] 33).below (below_alloc _ _)).cell 0, (rowIs_new_at _ #[.slice ao2 n c2] 33 (w.heap.size + 1) (by simp)).cell 0, chainP (below_alloc _ _) (below_alloc _ _)⟩
  clear r1 r2 hn he hh hlen hl f1 f2
  have j1 := J0.out.1
  have j2 := J0.out.2.1
  go_enter Tryz.func12, Tryz.ntmps12
  go_wp2_with fail
  clear j1 j2
  go_loopw [5] (fun z wr => ∃ (k : Nat), z = .int .i64 (k : Int) ∧ k ≤ n ∧ wr.cell? ⟨w.heap.size, 0, none⟩ = some (.slice ao1 n c1) ∧ wr.cell? ⟨w.heap.size + 1, 0, none⟩ = some (.slice ao2 n c2) ∧ Below w.heap.size w wr) (fun z _ => n - (intOf z).toNat)
  case atStart => exact ⟨0, rfl, Nat.zero_le _, J0.out.1, J0.out.2.1, J0.out.2.2⟩
  case round =>
    clear J0
    obtain ⟨k, rfl, hk, hc1, hc2, hb⟩ := hrel
    have HB := hid hb
    by_cases hlt : k < n
    · obtain ⟨⟨s, hv1⟩, hx⟩ : ∃ x, L1[k]? = some x := by
        have := HL.out
        exact ⟨L1[k]'(by omega), List.getElem?_eq_getElem (by omega)⟩
      obtain ⟨⟨s2, hv2⟩, hx2⟩ : ∃ x, L2[k]? = some x := by
        have := HL.out
        exact ⟨L2[k]'(by omega), List.getElem?_eq_getElem (by omega)⟩
      have hss : s = s2 := by
        have h1 : (L1.map (·.1))[k]? = some s := by rw [List.getElem?_map, hx]; rfl
        have h2 : (L2.map (·.1))[k]? = some s2 := by rw [List.getElem?_map, hx2]; rfl
        rw [HE.out, h2] at h1
        cases h1; rfl
      subst hss
      have ca := fun W (hW : Below wr.heap.size wr W) => alike_eq hv1 hv2 s W (((R1.out.heads _ (List.mem_of_getElem? hx)).below hb).below hW) (((R2.out.heads _ (List.mem_of_getElem? hx2)).below hb).below hW) (HH.out _ (List.mem_of_getElem? hx))
      obtain ⟨b1, o1, g1, i1⟩ := (R1.out.below hb).at_ hx
      obtain ⟨b2, o2, g2, i2⟩ := (R2.out.below hb).at_ hx2
      subst g1 g2
      have hkI : (k : Int) < (n : Int) := by omega
      have hk0 : (0 : Int) ≤ (k : Int) := by omega
      have hkw : IntKind.i64.wrap ((k : Int) + 1) = (k : Int) + 1 := IntWalk.i64_in _ (by omega)
      obtain ⟨p1, hp1⟩ : ∃ p, o1 + k * 7 = p := ⟨_, rfl⟩
      obtain ⟨p2, hp2⟩ : ∃ p, o2 + k * 7 = p := ⟨_, rfl⟩
      rw [hp1] at i1
      rw [hp2] at i2
      have y0 := i1 0 _ rfl
      have y1 := i1 1 _ rfl
      have y2 := i1 2 _ rfl
      have y3 := i1 3 _ rfl
      have y4 := i1 4 _ rfl
      have y5 := i1 5 _ rfl
      have y6 := i1 6 _ rfl
      have z0 := i2 0 _ rfl
      have z1 := i2 1 _ rfl
      have z2 := i2 2 _ rfl
      have z3 := i2 3 _ rfl
      have z4 := i2 4 _ rfl
      have z5 := i2 5 _ rfl
      have z6 := i2 6 _ rfl
      rw [Nat.add_zero] at y0 z0
      have CA := hid ca
      clear hb hx hx2 ca i1 i2
      go_wp2_with fail
      refine wp_region_held_drew (S := fun w' => Below wr.heap.size wr w') (by kernel_rfl) ((Below.refl _ _).drew) (fun hH => ?_)
      refine wpAnyH_take (i := 0) (v := ?_) rfl (by kernel_rfl) (by kernel_rfl) (by kernel_rfl) (fun _ _ _ h => h) (Or.inl ⟨by kernel_rfl, ?_⟩) hH ?_
      rotate_left
      · intro W hS
        have d1 := kept hc1 hS
        have d2 := kept hc2 hS
        have my0 := kept y0 hS
        have my1 := kept y1 hS
        have my2 := kept y2 hS
        have my3 := kept y3 hS
        have my4 := kept y4 hS
        have my5 := kept y5 hS
        have my6 := kept y6 hS
        have mz0 := kept z0 hS
        have mz1 := kept z1 hS
        have mz2 := kept z2 hS
        have mz3 := kept z3 hS
        have mz4 := kept z4 hS
        have mz5 := kept z5 hS
        have mz6 := kept z6 hS
        go_simp
        first | done | with_reducible rfl
      simp only [Act.put, List.getElem_toArray, List.getElem_cons_succ, List.getElem_cons_zero, List.setIfInBounds_toArray, List.set_cons_zero, List.set_cons_succ]
      refine wpAnyH_take (i := 1) (v := ?_) rfl (by kernel_rfl) (by kernel_rfl) (by kernel_rfl) (fun _ _ _ h => h) (Or.inl ⟨by kernel_rfl, ?_⟩) hH ?_
      rotate_left
      · intro W hS
        have d1 := kept hc1 hS
        have d2 := kept hc2 hS
        have my0 := kept y0 hS
        have my1 := kept y1 hS
        have my2 := kept y2 hS
        have my3 := kept y3 hS
        have my4 := kept y4 hS
        have my5 := kept y5 hS
        have my6 := kept y6 hS
        have mz0 := kept z0 hS
        have mz1 := kept z1 hS
        have mz2 := kept z2 hS
        have mz3 := kept z3 hS
        have mz4 := kept z4 hS
        have mz5 := kept z5 hS
        have mz6 := kept z6 hS
        go_simp
        first | done | with_reducible rfl
      simp only [Act.put, List.getElem_toArray, List.getElem_cons_succ, List.getElem_cons_zero, List.setIfInBounds_toArray, List.set_cons_zero, List.set_cons_succ]
      refine wpAnyH_take (i := 2) (v := ?_) rfl (by kernel_rfl) (by kernel_rfl) (by kernel_rfl) (fun _ _ _ h => h) (Or.inl ⟨by kernel_rfl, ?_⟩) hH ?_
      rotate_left
      · intro W hS
        have d1 := kept hc1 hS
        have d2 := kept hc2 hS
        have my0 := kept y0 hS
        have my1 := kept y1 hS
        have my2 := kept y2 hS
        have my3 := kept y3 hS
        have my4 := kept y4 hS
        have my5 := kept y5 hS
        have my6 := kept y6 hS
        have mz0 := kept z0 hS
        have mz1 := kept z1 hS
        have mz2 := kept z2 hS
        have mz3 := kept z3 hS
        have mz4 := kept z4 hS
        have mz5 := kept z5 hS
        have mz6 := kept z6 hS
        go_simp
        first | done | with_reducible rfl
      simp only [Act.put, List.getElem_toArray, List.getElem_cons_succ, List.getElem_cons_zero, List.setIfInBounds_toArray, List.set_cons_zero, List.set_cons_succ]
      refine wpAnyH_take (i := 3) (v := ?_) rfl (by kernel_rfl) (by kernel_rfl) (by kernel_rfl) (fun _ _ _ h => h) (Or.inl ⟨by kernel_rfl, ?_⟩) hH ?_
      rotate_left
      · intro W hS
        have d1 := kept hc1 hS
        have d2 := kept hc2 hS
        have my0 := kept y0 hS
        have my1 := kept y1 hS
        have my2 := kept y2 hS
        have my3 := kept y3 hS
        have my4 := kept y4 hS
        have my5 := kept y5 hS
        have my6 := kept y6 hS
        have mz0 := kept z0 hS
        have mz1 := kept z1 hS
        have mz2 := kept z2 hS
        have mz3 := kept z3 hS
        have mz4 := kept z4 hS
        have mz5 := kept z5 hS
        have mz6 := kept z6 hS
        go_simp
        first | done | with_reducible rfl
      simp only [Act.put, List.getElem_toArray, List.getElem_cons_succ, List.getElem_cons_zero, List.setIfInBounds_toArray, List.set_cons_zero, List.set_cons_succ]
      refine wpAnyH_take (i := 4) (v := ?_) rfl (by kernel_rfl) (by kernel_rfl) (by kernel_rfl) (fun _ _ _ h => h) (Or.inl ⟨by kernel_rfl, ?_⟩) hH ?_
      rotate_left
      · intro W hS
        have d1 := kept hc1 hS
        have d2 := kept hc2 hS
        have my0 := kept y0 hS
        have my1 := kept y1 hS
        have my2 := kept y2 hS
        have my3 := kept y3 hS
        have my4 := kept y4 hS
        have my5 := kept y5 hS
        have my6 := kept y6 hS
        have mz0 := kept z0 hS
        have mz1 := kept z1 hS
        have mz2 := kept z2 hS
        have mz3 := kept z3 hS
        have mz4 := kept z4 hS
        have mz5 := kept z5 hS
        have mz6 := kept z6 hS
        go_simp
        first | done | with_reducible rfl
      simp only [Act.put, List.getElem_toArray, List.getElem_cons_succ, List.getElem_cons_zero, List.setIfInBounds_toArray, List.set_cons_zero, List.set_cons_succ]
      refine wpAnyH_take (i := 5) (v := ?_) rfl (by kernel_rfl) (by kernel_rfl) (by kernel_rfl) (fun _ _ _ h => h) (Or.inl ⟨by kernel_rfl, ?_⟩) hH ?_
      rotate_left
      · intro W hS
        have d1 := kept hc1 hS
        have d2 := kept hc2 hS
        have my0 := kept y0 hS
        have my1 := kept y1 hS
        have my2 := kept y2 hS
        have my3 := kept y3 hS
        have my4 := kept y4 hS
        have my5 := kept y5 hS
        have my6 := kept y6 hS
        have mz0 := kept z0 hS
        have mz1 := kept z1 hS
        have mz2 := kept z2 hS
        have mz3 := kept z3 hS
        have mz4 := kept z4 hS
        have mz5 := kept z5 hS
        have mz6 := kept z6 hS
        go_simp
        first | done | with_reducible rfl
      simp only [Act.put, List.getElem_toArray, List.getElem_cons_succ, List.getElem_cons_zero, List.setIfInBounds_toArray, List.set_cons_zero, List.set_cons_succ]
      refine wpAnyH_take (i := 6) (v := ?_) rfl (by kernel_rfl) (by kernel_rfl) (by kernel_rfl) (fun _ _ _ h => h) (Or.inl ⟨by kernel_rfl, ?_⟩) hH ?_
      rotate_left
      · intro W hS
        have d1 := kept hc1 hS
        have d2 := kept hc2 hS
        have my0 := kept y0 hS
        have my1 := kept y1 hS
        have my2 := kept y2 hS
        have my3 := kept y3 hS
        have my4 := kept y4 hS
        have my5 := kept y5 hS
        have my6 := kept y6 hS
        have mz0 := kept z0 hS
        have mz1 := kept z1 hS
        have mz2 := kept z2 hS
        have mz3 := kept z3 hS
        have mz4 := kept z4 hS
        have mz5 := kept z5 hS
        have mz6 := kept z6 hS
        go_simp
        first | done | with_reducible rfl
      simp only [Act.put, List.getElem_toArray, List.getElem_cons_succ, List.getElem_cons_zero, List.setIfInBounds_toArray, List.set_cons_zero, List.set_cons_succ]
      refine wpAnyH_take (i := 7) (v := ?_) rfl (by kernel_rfl) (by kernel_rfl) (by kernel_rfl) (fun _ _ _ h => h) (Or.inl ⟨by kernel_rfl, ?_⟩) hH ?_
      rotate_left
      · intro W hS
        have d1 := kept hc1 hS
        have d2 := kept hc2 hS
        have my0 := kept y0 hS
        have my1 := kept y1 hS
        have my2 := kept y2 hS
        have my3 := kept y3 hS
        have my4 := kept y4 hS
        have my5 := kept y5 hS
        have my6 := kept y6 hS
        have mz0 := kept z0 hS
        have mz1 := kept z1 hS
        have mz2 := kept z2 hS
        have mz3 := kept z3 hS
        have mz4 := kept z4 hS
        have mz5 := kept z5 hS
        have mz6 := kept z6 hS
        go_simp
        first | done | with_reducible rfl
      simp only [Act.put, List.getElem_toArray, List.getElem_cons_succ, List.getElem_cons_zero, List.setIfInBounds_toArray, List.set_cons_zero, List.set_cons_succ]
      refine wpAnyH_take (i := 8) (v := ?_) rfl (by kernel_rfl) (by kernel_rfl) (by kernel_rfl) (fun _ _ _ h => h) (Or.inl ⟨by kernel_rfl, ?_⟩) hH ?_
      rotate_left
      · intro W hS
        have d1 := kept hc1 hS
        have d2 := kept hc2 hS
        have my0 := kept y0 hS
        have my1 := kept y1 hS
        have my2 := kept y2 hS
        have my3 := kept y3 hS
        have my4 := kept y4 hS
        have my5 := kept y5 hS
        have my6 := kept y6 hS
        have mz0 := kept z0 hS
        have mz1 := kept z1 hS
        have mz2 := kept z2 hS
        have mz3 := kept z3 hS
        have mz4 := kept z4 hS
        have mz5 := kept z5 hS
        have mz6 := kept z6 hS
        go_simp
        first | done | with_reducible rfl
      simp only [Act.put, List.getElem_toArray, List.getElem_cons_succ, List.getElem_cons_zero, List.setIfInBounds_toArray, List.set_cons_zero, List.set_cons_succ]
      refine wpAnyH_take (i := 9) (v := ?_) rfl (by kernel_rfl) (by kernel_rfl) (by kernel_rfl) (fun _ _ _ h => h) (Or.inl ⟨by kernel_rfl, ?_⟩) hH ?_
      rotate_left
      · intro W hS
        have d1 := kept hc1 hS
        have d2 := kept hc2 hS
        have my0 := kept y0 hS
        have my1 := kept y1 hS
        have my2 := kept y2 hS
        have my3 := kept y3 hS
        have my4 := kept y4 hS
        have my5 := kept y5 hS
        have my6 := kept y6 hS
        have mz0 := kept z0 hS
        have mz1 := kept z1 hS
        have mz2 := kept z2 hS
        have mz3 := kept z3 hS
        have mz4 := kept z4 hS
        have mz5 := kept z5 hS
        have mz6 := kept z6 hS
        go_simp
        first | done | with_reducible rfl
      simp only [Act.put, List.getElem_toArray, List.getElem_cons_succ, List.getElem_cons_zero, List.setIfInBounds_toArray, List.set_cons_zero, List.set_cons_succ]
      refine wpAnyH_ready (rs := [10]) (by kernel_rfl) (by simp) ?_
      refine AllReadyH.cons rfl (fun K hK => ?_) AllReadyH.nil
      go_simp
      refine (CA.out _ hH).mono ?_
      rintro e w' ⟨rfl, hS1⟩
      refine hK.out _ _ (chainP hH hS1) (fun hH => ?_)
      clear hK K
      try simp only [Act.put, List.getElem_toArray, List.getElem_cons_succ, List.getElem_cons_zero, List.setIfInBounds_toArray, List.set_cons_zero, List.set_cons_succ]
      refine wpAnyH_take (i := 11) (v := ?_) rfl (by kernel_rfl) (by kernel_rfl) (by kernel_rfl) (fun _ _ _ h => h) (Or.inl ⟨by kernel_rfl, ?_⟩) hH ?_
      rotate_left
      · intro W hS
        have d1 := kept hc1 hS
        have d2 := kept hc2 hS
        have my0 := kept y0 hS
        have my1 := kept y1 hS
        have my2 := kept y2 hS
        have my3 := kept y3 hS
        have my4 := kept y4 hS
        have my5 := kept y5 hS
        have my6 := kept y6 hS
        have mz0 := kept z0 hS
        have mz1 := kept z1 hS
        have mz2 := kept z2 hS
        have mz3 := kept z3 hS
        have mz4 := kept z4 hS
        have mz5 := kept z5 hS
        have mz6 := kept z6 hS
        go_simp
        first | done | with_reducible rfl
      simp only [Act.put, List.getElem_toArray, List.getElem_cons_succ, List.getElem_cons_zero, List.setIfInBounds_toArray, List.set_cons_zero, List.set_cons_succ]
      refine wpAnyH_done (by kernel_rfl) ?_ _
      have d3 := kept hc1 hH
      have d4 := kept hc2 hH
      have HB2 := hid (chainP HB.out hH)
      clear hc1 hc2 y0 y1 y2 y3 y4 y5 y6 z0 z1 z2 z3 z4 z5 z6 hH CA
      go_wp2_with fail
      go_roundw
      case rel => exact ⟨k + 1, by go_num, hlt, d3, d4, HB2.out⟩
      case measure => simp [intOf]; omega
    · go_wp2_with fail
      go_ret
      exact ⟨rfl, HB.out⟩
end Go.Proofs.YtenijpcjemdhfaaGreatDoor
