/-
  Contracts of package conf: the reader's key.
-/
import Derived.Test.YtffenndchmcncaaGreatDoorConfG
import Derived.Deep.LoopGhost
import Derived.Test.YtffenndchmcncaaGreatDoorHeldA
namespace Go.Pantry
open Go.RowKit
theorem keyF_stop {k : Nat} {s : SiteM} {p : Ps} (h : keyGo p = false) : keyF k s p = (s, p) := by
  cases k with
  | zero => rfl
  | succ k => rw [keyF, h]; rfl
theorem keyF_go {k : Nat} {s : SiteM} {p : Ps} (h : keyGo p = true) : keyF (k + 1) s p = keyF k (keyR s p).1 (keyR s p).2 := by
  rw [keyF, if_pos h]
theorem meas_pos {p : Ps} (h : p.code = 0) : 0 < meas p := by unfold meas; rw [h]; simp
end Go.Pantry
namespace Go.Proofs.YtffenndchmcncaaGreatDoor
open Go.RowKit Go.Pantry

theorem infoS : (Tryz.prog.info? 9).map (fun i => (i.zero, i.size, i.bytes)) = some (some (.string ⟨#[]⟩), 1, 16) := by kernel_rfl
theorem Moves.nil_of {w : World} {hv hv' : Value} (h : Moves w hv hv') : Moves w hv hv' := h
/-- a round of key: what holds at the loop's head -/
structure KeyJ (w0 wr : World) (g b : Nat) (T : List UInt8) (hv : Value) (R : SiteM × Ps) (k : Nat) (s : SiteM) (p : Ps) (hv' : Value) : Prop where
  ok : RcOk wr g T p
  box : SbAt wr b hv' s
  moves : Moves w0 hv hv'
  kept : Kept (fun k => k = g ∨ Fb b hv k) w0 wr
  size : meas p ≤ k
  is : keyF k s p = R
  heads : s.heads.length + p.ws.length ≤ 100000
/-- from hv' to hv -/
theorem kept_m {w0 w1 w2 : World} {g b : Nat} {hv hv' : Value} (h : Kept (fun k => k = g ∨ Fb b hv k) w0 w1) (hm : Moves w0 hv hv') (k : Kept (fun k => k = g ∨ Fb b hv' k) w1 w2) : Kept (fun k => k = g ∨ Fb b hv k) w0 w2 :=
  h.trans k (fun j hj hlt => by
    rcases hj with e | e | e
    · exact .inl e
    · exact .inr (.inl e)
    · rcases hm j e with e | e
      · exact .inr (.inr e)
      · omega)
set_option maxRecDepth 4000 in
theorem key_any (g b : Nat) (T : List UInt8) (p : Ps) (hv : Value) (s : SiteM) (w : World) (h : RcOk w g T p) (hs : SbAt w b hv s) (hgb : g < b) (hh : s.heads.length + p.ws.length ≤ 100000) :
    Calls Tryz.prog 117 #[.pointer (some ⟨g, 0, none⟩), .pointer (some ⟨b, 0, none⟩)] w (SPost w g b T hv (keyM s p)) := by
  have HS := hid hs
  have H := hid h
  have HG := hid hgb
  obtain ⟨R, hR⟩ : ∃ R, keyM s p = R := ⟨_, rfl⟩
  rw [hR]
  have HR := hid hR
  have HH := hid hh
  clear h hs hgb hR hh
  go_enter Tryz.func117, Tryz.ntmps117
  go_wp2_with fail
  refine (expect_any g T p wPath w H.out).mono ?_
  intro e w1 hp1
  obtain ⟨u1, rfl, ho1, hk1⟩ := hp1.form
  have hs1 := HS.out.other hk1 HG.out
  obtain ⟨A1, A2, A3⟩ := hs1.set (s' := { s with query := false }) ho1 HG.out 4 (.bool false) rfl rfl
  have AK := kept_b (kept_s (kept_0 w g b hv) hk1) A3
  have hc := hs1.row.cell 4
  have hf := hs1.row.free 4
  have J : Hid (KeyJ w (w1.setCell ⟨b, 4, none⟩ (.bool false)) g b T hv R (meas (expM wPath p)) { s with query := false } (expM wPath p) hv) :=
    ⟨A1, A2, Moves.refl _ _, AK, Nat.le_refl _, HR.out, by
      have := (fol_exp wPath p).len
      have := HH.out
      show s.heads.length + _ ≤ _
      omega⟩
  clear hp1 ho1 hk1 hs1 A1 A2 A3 AK
  go_wp2_with fail
  go_loopg [] (meas (expM wPath p)) (fun k wr => ∃ s' p' hv', KeyJ w wr g b T hv R k s' p' hv')
  case atStart => exact ⟨_, _, _, J.out⟩
  case round =>
    clear J hc hf HH
    obtain ⟨s1, p1, hv1, hJ⟩ := hrel
    have HJ := hid hJ
    have h4 := hJ.ok.word
    have cf := faultless_any g T p1 wr hJ.ok
    obtain ⟨x, hx⟩ : ∃ x, hdW p1 = x := ⟨_, rfl⟩
    rw [hx] at h4
    have HX := hid hx
    by_cases h0 : p1.code = 0
    rotate_left
    · have e0 : (p1.code == 0) = false := by simp [h0]
      rw [e0] at cf
      have CF := hid cf
      have hgo : keyGo p1 = false := by unfold keyGo; rw [e0]; rfl
      have HQ := hid hgo
      clear hJ cf h0 e0 hx hgo
      go_wp2_with (go_at_call 45; refine CF.out.mono ?_; rintro e w2 ⟨rfl, rfl⟩)
      go_end0
      refine ⟨⟨_, rfl⟩, ?_⟩
      have hi := HJ.out.is
      rw [keyF_stop HQ.out] at hi
      rw [← hi]
      exact ⟨HJ.out.ok, hv1, HJ.out.box, HJ.out.moves, HJ.out.kept⟩
    have e0 : (p1.code == 0) = true := by simp [h0]
    rw [e0] at cf
    have CF := hid cf
    have H0 := hid h0
    clear cf h0
    by_cases h59 : x = [59]
    · subst h59
      have hgo : keyGo p1 = false := by unfold keyGo; rw [e0, hx]; rfl
      have HQ := hid hgo
      clear hJ e0 hx hgo
      go_wp2_with (go_at_call 45; refine CF.out.mono ?_; rintro e w2 ⟨rfl, rfl⟩)
      go_end0
      refine ⟨⟨_, rfl⟩, ?_⟩
      have hi := HJ.out.is
      rw [keyF_stop HQ.out] at hi
      rw [← hi]
      exact ⟨HJ.out.ok, hv1, HJ.out.box, HJ.out.moves, HJ.out.kept⟩
    have hgo : keyGo p1 = true := by
      unfold keyGo; rw [e0, hx, Bool.true_and, bne_iff_ne]; exact h59
    have hlt := keyR_less (s := s1) hgo
    obtain ⟨k', hk'⟩ : ∃ k', gk = k' + 1 := ⟨gk - 1, by have := hJ.size; omega⟩
    have hi := hJ.is
    rw [hk', keyF_go hgo] at hi
    have hsz : meas (keyR s1 p1).2 ≤ k' := by have := hJ.size; omega
    have hh1 : (keyR s1 p1).1.heads.length + (keyR s1 p1).2.ws.length ≤ 100000 := by
      have h9 := hJ.heads
      have h8 := (fol_keyR s1 p1).len
      unfold keyR at h8 ⊢
      split
      · rename_i hq; rw [if_pos hq] at h8; exact Nat.le_trans (Nat.add_le_add_left h8 _) h9
      · rename_i hq
        rw [if_neg hq] at h8
        split
        · rename_i hq2
          have hne : p1.ws ≠ [] := hd_ne (by rw [beq_iff_eq] at hq2; rw [hq2]; decide)
          have := stp_less (((fol_stp p1).trans (fol_chk (mayM s1.heads (hdW (stp p1))) 30 _)).trans (fol_chk (decide (s1.heads.length < 4)) 32 _)) hne
          rw [List.length_append]
          simp only [List.length_singleton]
          have e2 : (nameM s1.heads (stp p1)).ws.length < p1.ws.length := this
          omega
        · rename_i hq2; rw [if_neg hq2] at h8; exact Nat.le_trans (Nat.add_le_add_left h8 _) h9
    have HN := hid (And.intro hi (And.intro hsz (And.intro hh1 hk')))
    have hx59 : (x == ([59] : List UInt8)) = false := by simpa using h59
    clear hi hsz hh1 hk' hlt hgo h59 e0
    by_cases hq : x = wQuery
    · subst hq
      have hR : keyR s1 p1 = ({ s1 with query := true }, stp (chk (!s1.query) 30 p1)) := by
        unfold keyR; rw [hx]; rfl
      rw [hR] at HN
      have hc4 := hJ.box.row.cell 4
      obtain ⟨y, hy⟩ : ∃ y, s1.query = y := ⟨_, rfl⟩
      simp only [siteRow] at hc4
      rw [hy] at hc4 HN
      have CK := hid (check_any g T p1 (!y) 30 wr hJ.ok (by decide))
      clear hJ hx hR hx59
      go_wp2_with (go_at_call 45; refine CF.out.mono ?_; rintro e w2 ⟨rfl, rfl⟩)
      refine CK.out.mono ?_
      intro e w2 hp2
      obtain ⟨u2, rfl, ho2, hk2⟩ := hp2.form
      have hs2 := HJ.out.box.other hk2 HG.out
      obtain ⟨A1, A2, A3⟩ := hs2.set (s' := { s1 with query := true }) ho2 HG.out 4 (.bool true) rfl rfl
      have AK := kept_b (kept_s (kept_0 wr g b hv1) hk2) A3
      have d4 := hs2.row.cell 4
      have f4 := hs2.row.free 4
      obtain ⟨W, hW⟩ : ∃ W, w2.setCell ⟨b, 4, none⟩ (.bool true) = W := ⟨_, rfl⟩
      rw [hW] at A1 A2 AK
      have H2 := hid (And.intro A1 (And.intro A2 AK))
      have HW := hid hW
      clear hp2 ho2 hk2 hs2 A1 A2 A3 AK hc4 hW h4
      go_wp2_with fail
      try rw [HW.out]
      refine (step_any g T _ W H2.out.1).mono ?_
      intro e w3 hp3
      obtain ⟨u3, rfl, ho3, hk3⟩ := hp3.form
      have H3 := hid (And.intro ho3 (And.intro (H2.out.2.1.other hk3 HG.out) (kept_s H2.out.2.2 hk3)))
      clear hp3 ho3 hk3 d4 f4
      go_wp2_with fail
      obtain ⟨hi, hsz, hh1, hk'⟩ := HN.out
      go_roundg k'
      case measure => omega
      case rel => exact ⟨_, _, hv1, H3.out.1, H3.out.2.1, HJ.out.moves, kept_m HJ.out.kept HJ.out.moves H3.out.2.2, hsz, hi, hh1⟩
    have hxq : (x == ([113, 117, 101, 114, 121] : List UInt8)) = false := by
      rw [beq_eq_false_iff_ne]; exact hq
    by_cases hq2 : x = wHeader
    rotate_left
    · have hxh : (x == ([104, 101, 97, 100, 101, 114] : List UInt8)) = false := by
        rw [beq_eq_false_iff_ne]; exact hq2
      have hR : keyR s1 p1 = (s1, chk false 30 p1) := by
        unfold keyR
        rw [hx, show (x == wQuery) = false from hxq, show (x == wHeader) = false from hxh]; rfl
      rw [hR] at HN
      have CK := hid (check_any g T p1 false 30 wr hJ.ok (by decide))
      clear hJ hx hR hq hq2
      go_wp2_with (go_at_call 45; refine CF.out.mono ?_; rintro e w2 ⟨rfl, rfl⟩)
      refine CK.out.mono ?_
      intro e w2 hp2
      obtain ⟨u2, rfl, ho2, hk2⟩ := hp2.form
      have H2 := hid (And.intro ho2 (And.intro (HJ.out.box.other hk2 HG.out) (kept_s (kept_0 wr g b hv1) hk2)))
      clear hp2 ho2 hk2 h4
      go_wp2_with fail
      obtain ⟨hi, hsz, hh1, hk'⟩ := HN.out
      go_roundg k'
      case measure => omega
      case rel => exact ⟨_, _, hv1, H2.out.1, H2.out.2.1, HJ.out.moves, kept_m HJ.out.kept HJ.out.moves H2.out.2.2, hsz, hi, hh1⟩
    subst hq2
    have hR : keyR s1 p1 = ({ s1 with heads := s1.heads ++ [hdW (stp p1)] }, nameM s1.heads (stp p1)) := by
      unfold keyR
      rw [hx, show (wHeader == wQuery) = false by decide, show (wHeader == wHeader) = true by decide]; rfl
    rw [hR] at HN
    clear hx hR hq hxq
    go_wp2_with (go_at_call 45; refine CF.out.mono ?_; rintro e w2 ⟨rfl, rfl⟩)
    refine (step_any g T _ wr HJ.out.ok).mono ?_
    intro e w2 hp2
    obtain ⟨u2, rfl, ho2, hk2⟩ := hp2.form
    have hs2 := HJ.out.box.other hk2 HG.out
    have H2 := hid (And.intro ho2 (And.intro hs2 (kept_s (kept_0 wr g b hv1) hk2)))
    have c6 := hs2.row.cell 6
    have f6 := hs2.row.free 6
    have HWS := hid (show (stp p1).code = p1.code from rfl)
    clear hp2 ho2 hk2 hs2 hJ h4 HWS
    go_wp2_with fail
    refine wp_region_K 15 (by kernel_rfl) (fun w' => w'.cell? ⟨b, 6, none⟩ = some hv1) (by exact c6) (fun hH => ?_)
    refine wpAnyK_take (i := 0) (v := ?_) rfl (by kernel_rfl) (by kernel_rfl) (by kernel_rfl) (by decide) (by kernel_rfl) (fun _ _ _ h => h) (Or.inl ⟨by kernel_rfl, ?_⟩) hH ?_
    rotate_left
    · intro W hS
      go_simp
      first | done | with_reducible rfl
    simp only [Act.put, List.getElem_toArray, List.getElem_cons_succ, List.getElem_cons_zero, List.setIfInBounds_toArray, List.set_cons_zero, List.set_cons_succ]
    refine wpAnyK_take (i := 1) (v := ?_) rfl (by kernel_rfl) (by kernel_rfl) (by kernel_rfl) (by decide) (by kernel_rfl) (fun _ _ _ h => h) (Or.inl ⟨by kernel_rfl, ?_⟩) hH ?_
    rotate_left
    · intro W hS
      go_simp
      first | done | with_reducible rfl
    simp only [Act.put, List.getElem_toArray, List.getElem_cons_succ, List.getElem_cons_zero, List.setIfInBounds_toArray, List.set_cons_zero, List.set_cons_succ]
    refine wpAnyK_take (i := 2) (v := ?_) rfl (by kernel_rfl) (by kernel_rfl) (by kernel_rfl) (by decide) (by kernel_rfl) (fun _ _ _ h => h) (Or.inl ⟨by kernel_rfl, ?_⟩) hH ?_
    rotate_left
    · intro W hS
      go_simp
      first | done | with_reducible rfl
    simp only [Act.put, List.getElem_toArray, List.getElem_cons_succ, List.getElem_cons_zero, List.setIfInBounds_toArray, List.set_cons_zero, List.set_cons_succ]
    refine wpAnyK_take (i := 3) (v := ?_) rfl (by kernel_rfl) (by kernel_rfl) (by kernel_rfl) (by decide) (by kernel_rfl) (fun _ _ _ h => h) (Or.inl ⟨by kernel_rfl, ?_⟩) hH ?_
    rotate_left
    · intro W hS
      go_simp
      first | done | with_reducible rfl
    simp only [Act.put, List.getElem_toArray, List.getElem_cons_succ, List.getElem_cons_zero, List.setIfInBounds_toArray, List.set_cons_zero, List.set_cons_succ]
    refine wpAnyK_take (i := 4) (v := ?_) rfl (by kernel_rfl) (by kernel_rfl) (by kernel_rfl) (by decide) (by kernel_rfl) (fun _ _ _ h => h) (Or.inl ⟨by kernel_rfl, ?_⟩) hH ?_
    rotate_left
    · intro W hS
      go_simp
      first | done | with_reducible rfl
    simp only [Act.put, List.getElem_toArray, List.getElem_cons_succ, List.getElem_cons_zero, List.setIfInBounds_toArray, List.set_cons_zero, List.set_cons_succ]
    refine wpAnyK_take (i := 5) (v := ?_) rfl (by kernel_rfl) (by kernel_rfl) (by kernel_rfl) (by decide) (by kernel_rfl) (fun _ _ _ h => h) (Or.inl ⟨by kernel_rfl, ?_⟩) hH ?_
    rotate_left
    · intro W hS
      go_simp
      first | done | with_reducible rfl
    simp only [Act.put, List.getElem_toArray, List.getElem_cons_succ, List.getElem_cons_zero, List.setIfInBounds_toArray, List.set_cons_zero, List.set_cons_succ]
    refine wpAnyK_take (i := 6) (v := ?_) rfl (by kernel_rfl) (by kernel_rfl) (by kernel_rfl) (by decide) (by kernel_rfl) (fun _ _ _ h => h) (Or.inl ⟨by kernel_rfl, ?_⟩) hH ?_
    rotate_left
    · intro W hS
      go_simp
      first | done | with_reducible rfl
    simp only [Act.put, List.getElem_toArray, List.getElem_cons_succ, List.getElem_cons_zero, List.setIfInBounds_toArray, List.set_cons_zero, List.set_cons_succ]
    refine wpAnyK_take (i := 7) (v := ?_) rfl (by kernel_rfl) (by kernel_rfl) (by kernel_rfl) (by decide) (by kernel_rfl) (fun _ _ _ h => h) (Or.inl ⟨by kernel_rfl, ?_⟩) hH ?_
    rotate_left
    · intro W hS
      go_simp
      first | done | with_reducible rfl
    simp only [Act.put, List.getElem_toArray, List.getElem_cons_succ, List.getElem_cons_zero, List.setIfInBounds_toArray, List.set_cons_zero, List.set_cons_succ]
    refine wpAnyK_take (i := 8) (v := ?_) rfl (by kernel_rfl) (by kernel_rfl) (by kernel_rfl) (by decide) (by kernel_rfl) (fun _ _ _ h => h) (Or.inl ⟨by kernel_rfl, ?_⟩) hH ?_
    rotate_left
    · intro W hS
      go_simp
      first | done | with_reducible rfl
    simp only [Act.put, List.getElem_toArray, List.getElem_cons_succ, List.getElem_cons_zero, List.setIfInBounds_toArray, List.set_cons_zero, List.set_cons_succ]
    refine wpAnyK_take (i := 9) (v := ?_) rfl (by kernel_rfl) (by kernel_rfl) (by kernel_rfl) (by decide) (by kernel_rfl) (fun _ _ _ h => h) (Or.inl ⟨by kernel_rfl, ?_⟩) hH ?_
    rotate_left
    · intro W hS
      go_simp
      first | done | with_reducible rfl
    simp only [Act.put, List.getElem_toArray, List.getElem_cons_succ, List.getElem_cons_zero, List.setIfInBounds_toArray, List.set_cons_zero, List.set_cons_succ]
    refine wpAnyK_next (i := 10) (by kernel_rfl) rfl (by decide) (fun K hK => ?_)
    go_simp
    refine (name_any g T (stp p1) hv1 s1.heads w2.drew (H2.out.1.below ((Below.refl _ _).drew)) ((H2.out.2.1.below ((Below.refl _ _).drew)).own.reads) (by have := HJ.out.heads; omega)).mono ?_
    rintro e w3 ⟨rfl, ho3, hk3⟩
    have hs3 := (H2.out.2.1.below ((Below.refl _ _).drew)).other hk3 HG.out
    have H3 := hid (And.intro ho3 (And.intro hs3 (kept_s (H2.out.2.2.drew) hk3)))
    have cc3 := hs3.row.cell 6
    clear ho3 hs3 hk3
    refine hK.out _ _ cc3 (fun hH => ?_)
    clear hK K
    try simp only [Act.put, List.getElem_toArray, List.getElem_cons_succ, List.getElem_cons_zero, List.setIfInBounds_toArray, List.set_cons_zero, List.set_cons_succ]
    refine wpAnyK_next (i := 11) (by kernel_rfl) rfl (by decide) (fun K hK => ?_)
    obtain ⟨w4, hW4⟩ : ∃ W, W = w3.alloc (.cells #[strV (hdW (stp p1))] 9) := ⟨_, rfl⟩
    have hb4 : Below w3.heap.size w3 w4 := by rw [hW4]; exact below_alloc _ _
    have H4 := hid (And.intro (H3.out.1.below hb4) (And.intro (H3.out.2.1.below hb4) (H3.out.2.2.then hb4)))
    have HC4 : Hid (w4.cell? ⟨w3.heap.size, 0, none⟩ = some (strV (hdW (stp p1)))) := by rw [hW4]; exact World.cell?_alloc_at _ _ _ _ rfl
    have cc4 := H4.out.2.1.row.cell 6
    have HZ := hid (show w3.heap.size < w4.heap.size by rw [hW4]; simp)
    go_simp
    rw [← hW4]
    clear hW4 hb4
    refine hK.out _ _ cc4 (fun hH => ?_)
    clear hK K
    try simp only [Act.put, List.getElem_toArray, List.getElem_cons_succ, List.getElem_cons_zero, List.setIfInBounds_toArray, List.set_cons_zero, List.set_cons_succ]
    refine wpAnyK_next (i := 12) (by kernel_rfl) rfl (by decide) (fun K hK => ?_)
    rw [if_pos (by kernel_rfl)]
    have hs4 := H4.out.2.1
    refine wp_append_gen w4 (.tmp 46) (.tmp 53) 40 rfl 0 9 Tryz.underlying40 infoS rfl (by decide) (by decide) (v := hv1) rfl hs4.own ⟨w3.heap.size, 0, none⟩ 1 1 [strV (hdW (stp p1))] rfl (fun j u hj => ?_) (fun u hu => ?_) rfl (by have := HJ.out.heads; omega) (Nat.zero_le _) (fun v5 w5 ho5 hg5 hi5 => ?_)
    · cases j with
      | zero => cases hj; rw [addAt2]; exact HC4.out
      | succ j => cases hj
    · rw [List.mem_singleton] at hu; subst hu; rfl
    obtain ⟨ao5, n5, c5, rfl⟩ : ∃ ao n c, v5 = .slice ao n c := by obtain ⟨ao, c, e⟩ := ho5.reads.form; exact ⟨ao, _, c, e⟩
    have hk5 : Kept (Fb b hv1) w4 w5 := (Kept.refl (Fb b hv1) w4).grown hg5 (fun k hk _ => .inr hk)
    have hrow5 : rowIs w5 b (siteRow hv1 s1) 42 := hs4.row.kept ((Kept.refl (fun k => hv1.ownBlock = some k) w4).grown hg5 (fun k hk _ => hk)) (fun e => Nat.lt_irrefl _ (hs4.apart _ e))
    have cc5 := hrow5.cell 6
    have ff5 := hrow5.free 6
    have hlt4 := hs4.row.lt
    have hin5 : ∀ k, (Value.slice ao5 n5 c5).ownBlock = some k → b < k := fun k hk => by
      rcases hi5 k hk with e | e
      · exact hs4.apart k e
      · omega
    have ho5r : RcOk w5 g T (nameM s1.heads (stp p1)) := H4.out.1.kept hk5 (fun k hk => by have := Fb.ge hs4 hk; have := HG.out; omega)
    have hkb := (Kept.refl (fun k => k = b) w5).setCell (i := 6) (.inl rfl) (.slice ao5 n5 c5)
    have H5 : Hid (RcOk (w5.setCell ⟨b, 6, none⟩ (.slice ao5 n5 c5)) g T (nameM s1.heads (stp p1)) ∧ SbAt (w5.setCell ⟨b, 6, none⟩ (.slice ao5 n5 c5)) b (.slice ao5 n5 c5) { s1 with heads := s1.heads ++ [hdW (stp p1)] } ∧ Moves wr hv1 (.slice ao5 n5 c5) ∧ Kept (fun k => k = g ∨ Fb b hv1 k) wr (w5.setCell ⟨b, 6, none⟩ (.slice ao5 n5 c5))) := by
      refine ⟨ho5r.kept hkb (fun k hk => by rw [hk]; exact HG.out), ⟨hrow5.setCell 6 (.slice ao5 n5 c5), ?_, hin5⟩, fun k hk => ?_, kept_b (H4.out.2.2.trans hk5 (fun k h _ => .inr h)) hkb⟩
      · have := ownsRow_kept ho5 hkb (fun k hk e => by have := hin5 k hk; omega)
        simpa using this
      · rcases hi5 k hk with e | e
        · exact .inl e
        · exact .inr (Nat.le_trans H4.out.2.2.size e)
    clear hs4 ho5 hg5 hi5 hk5 hrow5 hlt4 hin5 ho5r hkb
    refine hK.out _ _ cc5 (fun hH => ?_)
    clear hK K
    try simp only [Act.put, List.getElem_toArray, List.getElem_cons_succ, List.getElem_cons_zero, List.setIfInBounds_toArray, List.set_cons_zero, List.set_cons_succ]
    refine wpAnyK_next (i := 13) (by kernel_rfl) rfl (by decide) (fun K hK => ?_)
    go_simp
    refine hK.out _ _ hH (fun hH => ?_)
    clear hK K
    try simp only [Act.put, List.getElem_toArray, List.getElem_cons_succ, List.getElem_cons_zero, List.setIfInBounds_toArray, List.set_cons_zero, List.set_cons_succ]
    refine wpAnyK_take (i := 14) (v := ?_) rfl (by kernel_rfl) (by kernel_rfl) (by kernel_rfl) (by decide) (by kernel_rfl) (fun _ _ _ h => h) (Or.inl ⟨by kernel_rfl, ?_⟩) hH ?_
    rotate_left
    · intro W hS
      go_simp
      first | done | with_reducible rfl
    simp only [Act.put, List.getElem_toArray, List.getElem_cons_succ, List.getElem_cons_zero, List.setIfInBounds_toArray, List.set_cons_zero, List.set_cons_succ]
    refine wpAnyK_last (by kernel_rfl) rfl (fun K hK => ?_)
    go_simp
    refine hK.out _ _ ?_
    clear hK K
    try simp only [Act.put, List.getElem_toArray, List.getElem_cons_succ, List.getElem_cons_zero, List.setIfInBounds_toArray, List.set_cons_zero, List.set_cons_succ]
    refine wpAnyK_done (by kernel_rfl) ?_ _
    clear cc3 cc4 cc5 ff5 c6 f6 hH
    go_wp2_with fail
    obtain ⟨hi, hsz, hh1, hk'⟩ := HN.out
    go_roundg k'
    case measure => omega
    case rel => exact ⟨_, _, .slice ao5 n5 c5, H5.out.1, H5.out.2.1, HJ.out.moves.trans H5.out.2.2.1 HJ.out.kept.size, kept_m HJ.out.kept HJ.out.moves H5.out.2.2.2, hsz, hi, hh1⟩
end Go.Proofs.YtffenndchmcncaaGreatDoor
