/-
  Contracts of package conf: the reader's rule.
-/
import Derived.Test.YtffenndchmcncaaGreatDoorConfH
namespace Go.Pantry
open Go.RowKit
/-- heads and words to come -/
def hsz (s : SiteM) (p : Ps) : Nat := s.heads.length + p.ws.length
theorem hsz_fol {s s' : SiteM} {p q : Ps} (h : Fol p q) (e : s'.heads = s.heads) : hsz s' q ≤ hsz s p := by
  unfold hsz; rw [e]; exact Nat.add_le_add_left h.len _
theorem keyR_hsz (s : SiteM) (p : Ps) : hsz (keyR s p).1 (keyR s p).2 ≤ hsz s p := by
  have h8 := fol_keyR s p
  unfold keyR at h8 ⊢
  split
  · rename_i hq; rw [if_pos hq] at h8; exact hsz_fol h8 rfl
  · rename_i hq
    rw [if_neg hq] at h8
    split
    · rename_i hq2
      have hne : p.ws ≠ [] := hd_ne (by rw [beq_iff_eq] at hq2; rw [hq2]; decide)
      have := stp_less (((fol_stp p).trans (fol_chk (mayM s.heads (hdW (stp p))) 30 _)).trans (fol_chk (decide (s.heads.length < 4)) 32 _)) hne
      have e2 : (nameM s.heads (stp p)).ws.length < p.ws.length := this
      unfold hsz
      rw [List.length_append]
      simp only [List.length_singleton]
      omega
    · rename_i hq2; rw [if_neg hq2] at h8; exact hsz_fol h8 rfl
theorem keyF_hsz : ∀ (k : Nat) (s : SiteM) (p : Ps), hsz (keyF k s p).1 (keyF k s p).2 ≤ hsz s p
  | 0, s, p => Nat.le_refl _
  | k + 1, s, p => by
    rw [keyF]; split
    · exact Nat.le_trans (keyF_hsz k _ _) (keyR_hsz s p)
    · exact Nat.le_refl _
theorem kind_hsz (w : List UInt8) (s : SiteM) (p : Ps) : hsz (kindM w s p).1 (kindM w s p).2 ≤ hsz s p := by
  have h := fol_kind w s p
  unfold kindM at h ⊢
  split
  · exact hsz_fol (fol_num _ _ _) rfl
  · split
    · exact hsz_fol ((fol_num _ _ _).trans (fol_num _ _ _)) rfl
    · split
      · exact Nat.le_trans (keyF_hsz _ _ _) (hsz_fol (fol_exp _ _) rfl)
      · exact hsz_fol ((fol_chk _ _ _).trans (fol_stp _)) rfl
theorem rule_hsz (s : SiteM) (seen : List (List UInt8)) (p : Ps) : hsz (ruleM s seen p).1 (ruleM s seen p).2.2 ≤ hsz s p := by
  unfold ruleM
  split
  · exact Nat.le_trans (hsz_fol (fol_exp _ _) rfl) (Nat.le_trans (kind_hsz _ _ _) (hsz_fol (fol_once _ _) rfl))
  · exact hsz_fol (fol_chk _ _ _) rfl
theorem rule_seen (s : SiteM) (seen : List (List UInt8)) (p : Ps) : (ruleM s seen p).2.1.length ≤ seen.length + 1 := by
  unfold ruleM; split <;> simp
end Go.Pantry
namespace Go.Proofs.YtffenndchmcncaaGreatDoor
open Go.RowKit Go.Pantry

/-- what a rule may change -/
def Fr (g b m : Nat) (hv : Value) (k : Nat) : Prop := k = g ∨ Fb b hv k ∨ k = m
structure RulePost (w : World) (g b m : Nat) (T : List UInt8) (hv : Value) (r : SiteM × List (List UInt8) × Ps) (hv' : Value) (w' : World) : Prop where
  ok : RcOk w' g T r.2.2
  seen : Seen w' m r.2.1
  box : SbAt w' b hv' r.1
  moves : Moves w hv hv'
  kept : Kept (Fr g b m hv) w w'
def RPost (w : World) (g b m : Nat) (T : List UInt8) (hv : Value) (r : SiteM × List (List UInt8) × Ps) (e : Ending) (w' : World) : Prop := (∃ u, e = .returned u) ∧ ∃ hv', RulePost w g b m T hv r hv' w'
set_option maxRecDepth 8000 in
theorem rule_any (g b m : Nat) (T : List UInt8) (p : Ps) (hv : Value) (s : SiteM) (seen : List (List UInt8)) (w : World) (h : RcOk w g T p) (hs : SbAt w b hv s) (hsn : Seen w m seen) (hgb : g < b) (hbm : b < m) (hm : In (fun k => k ≠ m) hv)
    (hh : hsz s p ≤ 100000) (hL : seen.length ≤ 100000) :
    Calls Tryz.prog 91 #[.pointer (some ⟨g, 0, none⟩), .pointer (some ⟨b, 0, none⟩), .map (some m)] w (RPost w g b m T hv (ruleM s seen p)) := by
  have hmf : ∀ (fn : Fn) (first cap : Array Value) (w : World), (Instr.makeFunc fn first cap).run Tryz.prog w = .ok (.func fn first cap) w := fun _ _ _ _ => rfl
  have h4 := h.word
  obtain ⟨x, hx⟩ : ∃ x, hdW p = x := ⟨_, rfl⟩
  rw [hx] at h4
  by_cases hr : isRule x = true
  rotate_left
  · have hR : ruleM s seen p = (s, seen, chk false 30 p) := by
      unfold ruleM; rw [hx, if_neg hr]
    rw [hR]
    have n1 : (x == ([111, 114, 105, 103, 105, 110] : List UInt8)) = false := by
      rw [beq_eq_false_iff_ne]; rintro rfl; exact hr (by decide)
    have n2 : (x == ([116, 116, 108] : List UInt8)) = false := by
      rw [beq_eq_false_iff_ne]; rintro rfl; exact hr (by decide)
    have n3 : (x == ([107, 101, 121] : List UInt8)) = false := by
      rw [beq_eq_false_iff_ne]; rintro rfl; exact hr (by decide)
    have n4 : (x == ([107, 101, 101, 112] : List UInt8)) = false := by
      rw [beq_eq_false_iff_ne]; rintro rfl; exact hr (by decide)
    have CK := hid (check_any g T p false 30 w h (by decide))
    have HF := hid (And.intro hs (And.intro hsn (And.intro hgb hbm)))
    clear h hs hsn hgb hbm hm hh hL hx hr hR
    go_enter Tryz.func91, Tryz.ntmps91
    go_wp2_with fail
    refine CK.out.mono ?_
    intro e w2 hp2
    obtain ⟨u2, rfl, ho2, hk2⟩ := hp2.form
    have H2 := hid (show RulePost w g b m T hv (s, seen, chk false 30 p) hv w2 from ⟨ho2, HF.out.2.1.kept hk2 (by have := HF.out.2.2; omega), HF.out.1.other hk2 HF.out.2.2.1, Moves.refl _ _, hk2.mono (fun k h _ => Or.inl h)⟩)
    clear hp2 ho2 hk2 h4
    go_wp2_with fail
    first | done | (go_end0; exact ⟨⟨_, rfl⟩, hv, H2.out⟩)
  · have co := once_any g m T p seen w h hsn (by omega) hL
    have hR : ruleM s seen p = ((kindM x s (onceM seen p)).1, x :: seen, expM [59] (kindM x s (onceM seen p)).2) := by
      unfold ruleM; rw [hx, if_pos hr]
    rw [hR]
    rw [hx] at co
    have CO := hid co
    have HF := hid (And.intro hs (And.intro hgb (And.intro hbm hm)))
    have hh2 : (onceM seen p).ws.length + s.heads.length ≤ 100000 := by
      have := hsz_fol (s := s) (s' := s) (fol_once seen p) rfl
      unfold hsz at this hh; omega
    have HH := hid hh2
    clear h hs hsn hgb hbm hm hh hL hx hR co hh2
    have hor : x = wOrigin ∨ x = wTtl ∨ x = wKey ∨ x = wKeep := by
      unfold isRule at hr
      simpa [Bool.or_eq_true, or_assoc] using hr
    clear hr
    rcases hor with rfl | rfl | rfl | rfl
    · have ck : ∀ W, RcOk W g T (onceM seen p) → SbAt W b hv s → Calls Tryz.prog 115 #[.pointer (some ⟨g, 0, none⟩), .pointer (some ⟨b, 0, none⟩)] W (SPost W g b T hv (kindM wOrigin s (onceM seen p))) := fun W h1 h2 => origin_any g b T (onceM seen p) hv s W h1 h2 HF.out.2.1
      have CK := hid ck
      obtain ⟨K2, hK2⟩ : ∃ K2, kindM wOrigin s (onceM seen p) = K2 := ⟨_, rfl⟩
      obtain ⟨q1, hq1⟩ : ∃ q1, onceM seen p = q1 := ⟨_, rfl⟩
      rw [hq1] at hK2
      rw [hq1] at CK CO
      rw [hK2] at CK
      rw [hq1, hK2]
      clear ck hK2 hq1 HH
      go_enter Tryz.func91, Tryz.ntmps91
      go_wp2_with fail
      refine CO.out.mono ?_
      rintro e w1 ⟨⟨u1, rfl⟩, ho1, hs1, hk1⟩
      have hb1 : SbAt w1 b hv s := HF.out.1.kept hk1 (fun k hk e => by
        have h1 := Fb.ge HF.out.1 hk
        have h2 := HF.out.2.1
        have h3 := HF.out.2.2.1
        rcases e with e | e
        · omega
        · rcases hk with hk | hk
          · omega
          · exact HF.out.2.2.2 k hk e)
      have H1 := hid (And.intro ho1 (And.intro hs1 (And.intro hb1 (show Kept (Fr g b m hv) w w1 from hk1.mono (fun k h _ => h.elim .inl (fun e => .inr (.inr e)))))))
      clear ho1 hs1 hk1 hb1 h4
      go_wp2_with fail
      refine (CK.out w1 H1.out.1 H1.out.2.2.1).mono ?_
      rintro e w2 ⟨⟨u2, rfl⟩, ho2, hv2, hb2, hm2, hk2⟩
      have hs2 : Seen w2 m (_ :: seen) := H1.out.2.1.kept hk2 (fun e => by
        have h2 := HF.out.2.1
        have h3 := HF.out.2.2.1
        rcases e with e | e | e
        · omega
        · omega
        · exact HF.out.2.2.2 m e rfl)
      have H2 := hid (And.intro ho2 (And.intro hs2 (And.intro hb2 (And.intro (show Moves w hv hv2 from fun k hk => (hm2 k hk).imp id (fun e => Nat.le_trans H1.out.2.2.2.size e)) (show Kept (Fr g b m hv) w w2 from H1.out.2.2.2.trans hk2 (fun k h _ => h.elim .inl (fun e => .inr (.inl e))))))))
      clear ho2 hb2 hm2 hk2 hs2
      go_wp2_with fail
      refine (expect_any g T _ [59] w2 H2.out.1).mono ?_
      intro e w3 hp3
      obtain ⟨u3, rfl, ho3, hk3⟩ := hp3.form
      have H3 := hid (show RulePost w g b m T hv (K2.1, _ :: seen, expM [59] K2.2) hv2 w3 from ⟨ho3, H2.out.2.1.kept hk3 (by
        have h2 := HF.out.2.1
        have h3 := HF.out.2.2.1
        omega), H2.out.2.2.1.other hk3 HF.out.2.1, H2.out.2.2.2.1, H2.out.2.2.2.2.trans hk3 (fun k h _ => .inl h)⟩)
      clear hp3 ho3 hk3
      go_wp2_with fail
      go_end0
      exact ⟨⟨_, rfl⟩, hv2, H3.out⟩
    · have ck : ∀ W, RcOk W g T (onceM seen p) → SbAt W b hv s → Calls Tryz.prog 116 #[.pointer (some ⟨g, 0, none⟩), .pointer (some ⟨b, 0, none⟩)] W (SPost W g b T hv (kindM wTtl s (onceM seen p))) := fun W h1 h2 => ttl_any g b T (onceM seen p) hv s W h1 h2 HF.out.2.1
      have CK := hid ck
      obtain ⟨K2, hK2⟩ : ∃ K2, kindM wTtl s (onceM seen p) = K2 := ⟨_, rfl⟩
      obtain ⟨q1, hq1⟩ : ∃ q1, onceM seen p = q1 := ⟨_, rfl⟩
      rw [hq1] at hK2
      rw [hq1] at CK CO
      rw [hK2] at CK
      rw [hq1, hK2]
      clear ck hK2 hq1 HH
      go_enter Tryz.func91, Tryz.ntmps91
      go_wp2_with fail
      refine CO.out.mono ?_
      rintro e w1 ⟨⟨u1, rfl⟩, ho1, hs1, hk1⟩
      have hb1 : SbAt w1 b hv s := HF.out.1.kept hk1 (fun k hk e => by
        have h1 := Fb.ge HF.out.1 hk
        have h2 := HF.out.2.1
        have h3 := HF.out.2.2.1
        rcases e with e | e
        · omega
        · rcases hk with hk | hk
          · omega
          · exact HF.out.2.2.2 k hk e)
      have H1 := hid (And.intro ho1 (And.intro hs1 (And.intro hb1 (show Kept (Fr g b m hv) w w1 from hk1.mono (fun k h _ => h.elim .inl (fun e => .inr (.inr e)))))))
      clear ho1 hs1 hk1 hb1 h4
      go_wp2_with fail
      refine (CK.out w1 H1.out.1 H1.out.2.2.1).mono ?_
      rintro e w2 ⟨⟨u2, rfl⟩, ho2, hv2, hb2, hm2, hk2⟩
      have hs2 : Seen w2 m (_ :: seen) := H1.out.2.1.kept hk2 (fun e => by
        have h2 := HF.out.2.1
        have h3 := HF.out.2.2.1
        rcases e with e | e | e
        · omega
        · omega
        · exact HF.out.2.2.2 m e rfl)
      have H2 := hid (And.intro ho2 (And.intro hs2 (And.intro hb2 (And.intro (show Moves w hv hv2 from fun k hk => (hm2 k hk).imp id (fun e => Nat.le_trans H1.out.2.2.2.size e)) (show Kept (Fr g b m hv) w w2 from H1.out.2.2.2.trans hk2 (fun k h _ => h.elim .inl (fun e => .inr (.inl e))))))))
      clear ho2 hb2 hm2 hk2 hs2
      go_wp2_with fail
      refine (expect_any g T _ [59] w2 H2.out.1).mono ?_
      intro e w3 hp3
      obtain ⟨u3, rfl, ho3, hk3⟩ := hp3.form
      have H3 := hid (show RulePost w g b m T hv (K2.1, _ :: seen, expM [59] K2.2) hv2 w3 from ⟨ho3, H2.out.2.1.kept hk3 (by
        have h2 := HF.out.2.1
        have h3 := HF.out.2.2.1
        omega), H2.out.2.2.1.other hk3 HF.out.2.1, H2.out.2.2.2.1, H2.out.2.2.2.2.trans hk3 (fun k h _ => .inl h)⟩)
      clear hp3 ho3 hk3
      go_wp2_with fail
      go_end0
      exact ⟨⟨_, rfl⟩, hv2, H3.out⟩
    · have ck : ∀ W, RcOk W g T (onceM seen p) → SbAt W b hv s → Calls Tryz.prog 117 #[.pointer (some ⟨g, 0, none⟩), .pointer (some ⟨b, 0, none⟩)] W (SPost W g b T hv (kindM wKey s (onceM seen p))) := fun W h1 h2 => key_any g b T (onceM seen p) hv s W h1 h2 HF.out.2.1 (by have := HH.out; omega)
      have CK := hid ck
      obtain ⟨K2, hK2⟩ : ∃ K2, kindM wKey s (onceM seen p) = K2 := ⟨_, rfl⟩
      obtain ⟨q1, hq1⟩ : ∃ q1, onceM seen p = q1 := ⟨_, rfl⟩
      rw [hq1] at hK2
      rw [hq1] at CK CO
      rw [hK2] at CK
      rw [hq1, hK2]
      clear ck hK2 hq1 HH
      go_enter Tryz.func91, Tryz.ntmps91
      go_wp2_with fail
      refine CO.out.mono ?_
      rintro e w1 ⟨⟨u1, rfl⟩, ho1, hs1, hk1⟩
      have hb1 : SbAt w1 b hv s := HF.out.1.kept hk1 (fun k hk e => by
        have h1 := Fb.ge HF.out.1 hk
        have h2 := HF.out.2.1
        have h3 := HF.out.2.2.1
        rcases e with e | e
        · omega
        · rcases hk with hk | hk
          · omega
          · exact HF.out.2.2.2 k hk e)
      have H1 := hid (And.intro ho1 (And.intro hs1 (And.intro hb1 (show Kept (Fr g b m hv) w w1 from hk1.mono (fun k h _ => h.elim .inl (fun e => .inr (.inr e)))))))
      clear ho1 hs1 hk1 hb1 h4
      go_wp2_with fail
      refine (CK.out w1 H1.out.1 H1.out.2.2.1).mono ?_
      rintro e w2 ⟨⟨u2, rfl⟩, ho2, hv2, hb2, hm2, hk2⟩
      have hs2 : Seen w2 m (_ :: seen) := H1.out.2.1.kept hk2 (fun e => by
        have h2 := HF.out.2.1
        have h3 := HF.out.2.2.1
        rcases e with e | e | e
        · omega
        · omega
        · exact HF.out.2.2.2 m e rfl)
      have H2 := hid (And.intro ho2 (And.intro hs2 (And.intro hb2 (And.intro (show Moves w hv hv2 from fun k hk => (hm2 k hk).imp id (fun e => Nat.le_trans H1.out.2.2.2.size e)) (show Kept (Fr g b m hv) w w2 from H1.out.2.2.2.trans hk2 (fun k h _ => h.elim .inl (fun e => .inr (.inl e))))))))
      clear ho2 hb2 hm2 hk2 hs2
      go_wp2_with fail
      refine (expect_any g T _ [59] w2 H2.out.1).mono ?_
      intro e w3 hp3
      obtain ⟨u3, rfl, ho3, hk3⟩ := hp3.form
      have H3 := hid (show RulePost w g b m T hv (K2.1, _ :: seen, expM [59] K2.2) hv2 w3 from ⟨ho3, H2.out.2.1.kept hk3 (by
        have h2 := HF.out.2.1
        have h3 := HF.out.2.2.1
        omega), H2.out.2.2.1.other hk3 HF.out.2.1, H2.out.2.2.2.1, H2.out.2.2.2.2.trans hk3 (fun k h _ => .inl h)⟩)
      clear hp3 ho3 hk3
      go_wp2_with fail
      go_end0
      exact ⟨⟨_, rfl⟩, hv2, H3.out⟩
    · have ck : ∀ W, RcOk W g T (onceM seen p) → SbAt W b hv s → Calls Tryz.prog 118 #[.pointer (some ⟨g, 0, none⟩), .pointer (some ⟨b, 0, none⟩)] W (SPost W g b T hv (kindM wKeep s (onceM seen p))) := fun W h1 h2 => keep_any g b T (onceM seen p) hv s W h1 h2 HF.out.2.1
      have CK := hid ck
      obtain ⟨K2, hK2⟩ : ∃ K2, kindM wKeep s (onceM seen p) = K2 := ⟨_, rfl⟩
      obtain ⟨q1, hq1⟩ : ∃ q1, onceM seen p = q1 := ⟨_, rfl⟩
      rw [hq1] at hK2
      rw [hq1] at CK CO
      rw [hK2] at CK
      rw [hq1, hK2]
      clear ck hK2 hq1 HH
      go_enter Tryz.func91, Tryz.ntmps91
      go_wp2_with fail
      refine CO.out.mono ?_
      rintro e w1 ⟨⟨u1, rfl⟩, ho1, hs1, hk1⟩
      have hb1 : SbAt w1 b hv s := HF.out.1.kept hk1 (fun k hk e => by
        have h1 := Fb.ge HF.out.1 hk
        have h2 := HF.out.2.1
        have h3 := HF.out.2.2.1
        rcases e with e | e
        · omega
        · rcases hk with hk | hk
          · omega
          · exact HF.out.2.2.2 k hk e)
      have H1 := hid (And.intro ho1 (And.intro hs1 (And.intro hb1 (show Kept (Fr g b m hv) w w1 from hk1.mono (fun k h _ => h.elim .inl (fun e => .inr (.inr e)))))))
      clear ho1 hs1 hk1 hb1 h4
      go_wp2_with fail
      refine (CK.out w1 H1.out.1 H1.out.2.2.1).mono ?_
      rintro e w2 ⟨⟨u2, rfl⟩, ho2, hv2, hb2, hm2, hk2⟩
      have hs2 : Seen w2 m (_ :: seen) := H1.out.2.1.kept hk2 (fun e => by
        have h2 := HF.out.2.1
        have h3 := HF.out.2.2.1
        rcases e with e | e | e
        · omega
        · omega
        · exact HF.out.2.2.2 m e rfl)
      have H2 := hid (And.intro ho2 (And.intro hs2 (And.intro hb2 (And.intro (show Moves w hv hv2 from fun k hk => (hm2 k hk).imp id (fun e => Nat.le_trans H1.out.2.2.2.size e)) (show Kept (Fr g b m hv) w w2 from H1.out.2.2.2.trans hk2 (fun k h _ => h.elim .inl (fun e => .inr (.inl e))))))))
      clear ho2 hb2 hm2 hk2 hs2
      go_wp2_with fail
      refine (expect_any g T _ [59] w2 H2.out.1).mono ?_
      intro e w3 hp3
      obtain ⟨u3, rfl, ho3, hk3⟩ := hp3.form
      have H3 := hid (show RulePost w g b m T hv (K2.1, _ :: seen, expM [59] K2.2) hv2 w3 from ⟨ho3, H2.out.2.1.kept hk3 (by
        have h2 := HF.out.2.1
        have h3 := HF.out.2.2.1
        omega), H2.out.2.2.1.other hk3 HF.out.2.1, H2.out.2.2.2.1, H2.out.2.2.2.2.trans hk3 (fun k h _ => .inl h)⟩)
      clear hp3 ho3 hk3
      go_wp2_with fail
      go_end0
      exact ⟨⟨_, rfl⟩, hv2, H3.out⟩
end Go.Proofs.YtffenndchmcncaaGreatDoor
