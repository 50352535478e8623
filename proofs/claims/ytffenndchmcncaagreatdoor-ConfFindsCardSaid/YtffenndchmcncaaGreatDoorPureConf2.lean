/-
  Configs: what more words behind change; how far a reader may come. No program is imported.
-/
import Derived.Test.YtffenndchmcncaaGreatDoorPureConf
namespace Go.Pantry
open Go.RowKit

theorem chk_true (c : Nat) (p : Ps) : chk true c p = p := by unfold chk; simp
theorem chk_off {b : Bool} {c : Nat} {p : Ps} (h : p.code ≠ 0) : chk b c p = p := by unfold chk; simp [h]
theorem chk_no {c : Nat} {p : Ps} (h : p.code = 0) : chk false c p = ⟨c, p.ws.length, p.ws⟩ := by unfold chk; simp [h]
theorem chk_ws (b : Bool) (c : Nat) (p : Ps) : (chk b c p).ws = p.ws := by unfold chk; split <;> rfl
theorem chk_hd (b : Bool) (c : Nat) (p : Ps) : hdW (chk b c p) = hdW p := by unfold hdW; rw [chk_ws]
theorem chk_ok {b : Bool} {c : Nat} {p : Ps} (hc : c ≠ 0) (h : (chk b c p).code = 0) : p.code = 0 ∧ b = true ∧ chk b c p = p := by
  unfold chk at h ⊢
  split at h
  · rename_i hb
    rw [if_pos hb]
    refine ⟨h, ?_, rfl⟩
    simpa [h] using hb
  · exact absurd h hc
/-- how a reader goes on: words are taken, and the first fault stays -/
structure Fol (p q : Ps) : Prop where
  suf : q.ws <:+ p.ws
  err : p.code ≠ 0 → q.code = p.code ∧ q.pos = p.pos
  pos : q.code = 0 → q.pos = p.pos
theorem Fol.refl (p : Ps) : Fol p p := ⟨List.suffix_refl _, fun _ => ⟨rfl, rfl⟩, fun _ => rfl⟩
theorem Fol.ok {p q : Ps} (h : Fol p q) (hq : q.code = 0) : p.code = 0 := by
  by_cases e : p.code = 0
  · exact e
  · rw [(h.err e).1] at hq; exact hq
theorem Fol.trans {p q r : Ps} (h : Fol p q) (k : Fol q r) : Fol p r :=
  ⟨k.suf.trans h.suf, fun e => by
    obtain ⟨h1, h2⟩ := h.err e
    obtain ⟨k1, k2⟩ := k.err (by rw [h1]; exact e)
    exact ⟨k1.trans h1, k2.trans h2⟩, fun e => (k.pos e).trans (h.pos (k.ok e))⟩
theorem Fol.len {p q : Ps} (h : Fol p q) : q.ws.length ≤ p.ws.length := h.suf.length_le
theorem fol_chk (b : Bool) (c : Nat) (p : Ps) (hc : c ≠ 0 := by decide) : Fol p (chk b c p) :=
  ⟨by rw [chk_ws]; exact List.suffix_refl _, fun h => by rw [chk_off h]; exact ⟨rfl, rfl⟩, fun h => by rw [(chk_ok hc h).2.2]⟩
theorem fol_stp (p : Ps) : Fol p (stp p) := ⟨List.tail_suffix _, fun _ => ⟨rfl, rfl⟩, fun _ => rfl⟩
theorem fol_exp (w : List UInt8) (p : Ps) : Fol p (expM w p) := (fol_chk _ _ _).trans (fol_stp _)
theorem fol_once (s : List (List UInt8)) (p : Ps) : Fol p (onceM s p) := (fol_chk _ _ _).trans (fol_stp _)
theorem fol_num (lo hi : Nat) (p : Ps) : Fol p (numM lo hi p) := ((fol_chk _ _ _).trans (fol_chk _ _ _)).trans (fol_stp _)
theorem fol_name (h : List (List UInt8)) (p : Ps) : Fol p (nameM h p) := ((fol_chk _ _ _).trans (fol_chk _ _ _)).trans (fol_stp _)
theorem fol_keyR (s : SiteM) (p : Ps) : Fol p (keyR s p).2 := by
  unfold keyR
  split
  · exact (fol_chk _ _ _).trans (fol_stp _)
  · split
    · exact (fol_stp _).trans (fol_name _ _)
    · exact fol_chk _ _ _
theorem fol_keyF : ∀ (k : Nat) (s : SiteM) (p : Ps), Fol p (keyF k s p).2
  | 0, s, p => Fol.refl p
  | k + 1, s, p => by
    rw [keyF]; split
    · exact (fol_keyR s p).trans (fol_keyF k _ _)
    · exact Fol.refl p
theorem fol_keyM (s : SiteM) (p : Ps) : Fol p (keyM s p).2 := (fol_exp _ _).trans (fol_keyF _ _ _)
theorem fol_kind (w : List UInt8) (s : SiteM) (p : Ps) : Fol p (kindM w s p).2 := by
  unfold kindM
  split
  · exact fol_num _ _ _
  · split
    · exact (fol_num _ _ _).trans (fol_num _ _ _)
    · split
      · exact fol_keyM _ _
      · exact (fol_chk _ _ _).trans (fol_stp _)
theorem fol_rule (s : SiteM) (seen : List (List UInt8)) (p : Ps) : Fol p (ruleM s seen p).2.2 := by
  unfold ruleM
  split
  · exact ((fol_once _ _).trans (fol_kind _ _ _)).trans (fol_exp _ _)
  · exact fol_chk _ _ _
theorem fol_ruleF : ∀ (k : Nat) (s : SiteM) (seen : List (List UInt8)) (p : Ps), Fol p (ruleF k s seen p).2
  | 0, s, seen, p => Fol.refl p
  | k + 1, s, seen, p => by
    rw [ruleF]; split
    · exact (fol_rule s seen p).trans (fol_ruleF k _ _ _)
    · exact Fol.refl p
theorem fol_head (hosts : List (List UInt8)) (p : Ps) : Fol p (headM hosts p) := ((fol_chk _ _ _).trans (fol_once _ _)).trans (fol_exp _ _)
theorem fol_site (hosts : List (List UInt8)) (p : Ps) : Fol p (siteM hosts p).2 := ((fol_head _ _).trans (fol_ruleF _ _ _ _)).trans (fol_exp _ _)
theorem fol_at (n : Nat) (p : Ps) : Fol p (atSite n p) := ((fol_chk _ _ _).trans (fol_chk _ _ _)).trans (fol_stp _)
theorem fol_cfgF : ∀ (k : Nat) (c : List SiteM) (hosts : List (List UInt8)) (p : Ps), Fol p (cfgF k c hosts p).2
  | 0, c, hosts, p => Fol.refl p
  | k + 1, c, hosts, p => by
    rw [cfgF]; split
    · exact ((fol_at _ _).trans (fol_site _ _)).trans (fol_cfgF k _ _ _)
    · exact Fol.refl p

theorem stp_less {p q : Ps} (h : Fol p q) (h0 : p.ws ≠ []) : (stp q).ws.length < p.ws.length := by
  have h1 := h.len
  have h2 := List.length_pos_iff.2 h0
  show q.ws.tail.length < _
  rw [List.length_tail]; omega
theorem meas_less {p q : Ps} (h0 : p.code = 0) (h : q.code ≠ 0 ∨ q.ws.length < p.ws.length) : meas q < meas p := by
  unfold meas
  rw [h0]
  simp only [beq_self_eq_true, if_true]
  split
  · rename_i e
    rw [beq_iff_eq] at e
    rcases h with h | h
    · exact absurd e h
    · omega
  · omega
theorem hd_ne {p : Ps} (h : hdW p ≠ []) : p.ws ≠ [] := by intro e; apply h; unfold hdW; rw [e]; rfl
theorem keyR_less {s : SiteM} {p : Ps} (h : keyGo p = true) : meas (keyR s p).2 < meas p := by
  unfold keyGo at h
  rw [Bool.and_eq_true, beq_iff_eq] at h
  refine meas_less h.1 ?_
  unfold keyR
  split
  · rename_i e
    rw [beq_iff_eq] at e
    exact .inr (stp_less (fol_chk _ _ _) (hd_ne (by rw [e]; decide)))
  · split
    · rename_i e
      rw [beq_iff_eq] at e
      refine .inr ?_
      refine stp_less (((fol_stp _).trans (fol_chk _ _ _)).trans (fol_chk _ _ _)) (hd_ne (by rw [e]; decide))
    · rw [chk_no h.1]; exact .inl (by simp)
theorem keyGo_zero {p : Ps} (h : meas p = 0) : keyGo p = false := by
  unfold meas at h
  split at h
  · omega
  · rename_i e
    unfold keyGo
    rw [Bool.eq_false_iff.2 e]; rfl
theorem keyF_fuel : ∀ (k m : Nat) (s : SiteM) (p : Ps), meas p ≤ k → meas p ≤ m → keyF k s p = keyF m s p
  | 0, 0, s, p, _, _ => rfl
  | 0, m + 1, s, p, hk, _ => by rw [keyF, keyF, keyGo_zero (by omega)]; rfl
  | k + 1, 0, s, p, _, hm => by rw [keyF, keyF, keyGo_zero (by omega)]; rfl
  | k + 1, m + 1, s, p, hk, hm => by
    rw [keyF, keyF]
    by_cases h : keyGo p = true
    · have h1 := keyR_less (s := s) h
      rw [h, if_pos rfl, if_pos rfl, keyF_fuel k m _ _ (by omega) (by omega)]
    · rw [if_neg h, if_neg h]
theorem keyF_end : ∀ (k : Nat) (s : SiteM) (p : Ps), meas p ≤ k → keyGo (keyF k s p).2 = false
  | 0, s, p, hk => show keyGo p = false from keyGo_zero (by omega)
  | k + 1, s, p, hk => by
    rw [keyF]
    by_cases h : keyGo p = true
    · have h1 := keyR_less (s := s) h
      rw [if_pos h]; exact keyF_end k _ _ (by omega)
    · rw [if_neg h]; exact Bool.eq_false_iff.2 h
theorem isRule_ne {w : List UInt8} (h : isRule w = true) : w ≠ [] := by rintro rfl; revert h; decide
theorem rule_less {s : SiteM} {seen : List (List UInt8)} {p : Ps} (h : ruleGo p = true) : meas (ruleM s seen p).2.2 < meas p := by
  unfold ruleGo at h
  rw [Bool.and_eq_true, beq_iff_eq] at h
  refine meas_less h.1 ?_
  unfold ruleM
  split
  · rename_i e
    refine .inr (stp_less (((fol_once _ _).trans (fol_kind _ _ _)).trans (fol_chk _ _ _)) (hd_ne (isRule_ne e)))
  · rw [chk_no h.1]; exact .inl (by simp)
theorem ruleGo_zero {p : Ps} (h : meas p = 0) : ruleGo p = false := by
  unfold meas at h
  split at h
  · omega
  · rename_i e
    unfold ruleGo
    rw [Bool.eq_false_iff.2 e]; rfl
theorem ruleF_fuel : ∀ (k m : Nat) (s : SiteM) (seen : List (List UInt8)) (p : Ps), meas p ≤ k → meas p ≤ m → ruleF k s seen p = ruleF m s seen p
  | 0, 0, s, seen, p, _, _ => rfl
  | 0, m + 1, s, seen, p, hk, _ => by rw [ruleF, ruleF, ruleGo_zero (by omega)]; rfl
  | k + 1, 0, s, seen, p, _, hm => by rw [ruleF, ruleF, ruleGo_zero (by omega)]; rfl
  | k + 1, m + 1, s, seen, p, hk, hm => by
    rw [ruleF, ruleF]
    by_cases h : ruleGo p = true
    · have h1 := rule_less (s := s) (seen := seen) h
      rw [h, if_pos rfl, if_pos rfl, ruleF_fuel k m _ _ _ (by omega) (by omega)]
    · rw [if_neg h, if_neg h]
theorem ruleF_end : ∀ (k : Nat) (s : SiteM) (seen : List (List UInt8)) (p : Ps), meas p ≤ k → ruleGo (ruleF k s seen p).2 = false
  | 0, s, seen, p, hk => show ruleGo p = false from ruleGo_zero (by omega)
  | k + 1, s, seen, p, hk => by
    rw [ruleF]
    by_cases h : ruleGo p = true
    · have h1 := rule_less (s := s) (seen := seen) h
      rw [if_pos h]; exact ruleF_end k _ _ _ (by omega)
    · rw [if_neg h]; exact Bool.eq_false_iff.2 h
theorem cfg_less {n : Nat} {hosts : List (List UInt8)} {p : Ps} (h : cfgGo p = true) : meas (siteM hosts (atSite n p)).2 < meas p := by
  unfold cfgGo at h
  rw [Bool.and_eq_true, beq_iff_eq, bne_iff_ne] at h
  refine meas_less h.1 (.inr ?_)
  exact stp_less (((fol_at _ _).trans ((fol_head _ _).trans (fol_ruleF _ _ _ _))).trans (fol_chk _ _ _)) (hd_ne h.2)
theorem cfgGo_zero {p : Ps} (h : meas p = 0) : cfgGo p = false := by
  unfold meas at h
  split at h
  · omega
  · rename_i e
    unfold cfgGo
    rw [Bool.eq_false_iff.2 e]; rfl
theorem cfgF_fuel : ∀ (k m : Nat) (c : List SiteM) (hosts : List (List UInt8)) (p : Ps), meas p ≤ k → meas p ≤ m → cfgF k c hosts p = cfgF m c hosts p
  | 0, 0, c, hosts, p, _, _ => rfl
  | 0, m + 1, c, hosts, p, hk, _ => by rw [cfgF, cfgF, cfgGo_zero (by omega)]; rfl
  | k + 1, 0, c, hosts, p, _, hm => by rw [cfgF, cfgF, cfgGo_zero (by omega)]; rfl
  | k + 1, m + 1, c, hosts, p, hk, hm => by
    rw [cfgF, cfgF]
    by_cases h : cfgGo p = true
    · have h1 := cfg_less (n := c.length) (hosts := hosts) h
      rw [h, if_pos rfl, if_pos rfl, cfgF_fuel k m _ _ _ (by omega) (by omega)]
    · rw [if_neg h, if_neg h]
theorem cfgF_end : ∀ (k : Nat) (c : List SiteM) (hosts : List (List UInt8)) (p : Ps), meas p ≤ k → cfgGo (cfgF k c hosts p).2 = false
  | 0, c, hosts, p, hk => show cfgGo p = false from cfgGo_zero (by omega)
  | k + 1, c, hosts, p, hk => by
    rw [cfgF]
    by_cases h : cfgGo p = true
    · have h1 := cfg_less (n := c.length) (hosts := hosts) h
      rw [if_pos h]; exact cfgF_end k _ _ _ (by omega)
    · rw [if_neg h]; exact Bool.eq_false_iff.2 h

/-- with more words behind -/
def app (p : Ps) (x : List (List UInt8)) : Ps := ⟨p.code, p.pos, p.ws ++ x⟩
theorem hd_app {p : Ps} (x : List (List UInt8)) (h : hdW p ≠ []) : hdW (app p x) = hdW p := by
  have h1 := hd_ne h
  unfold hdW app
  obtain ⟨a, r, e⟩ := List.exists_cons_of_ne_nil h1
  simp only [e]; rfl
theorem stp_app {p : Ps} (x : List (List UInt8)) (h : p.ws ≠ []) : stp (app p x) = app (stp p) x := by
  unfold stp app
  obtain ⟨a, r, e⟩ := List.exists_cons_of_ne_nil h
  simp only [e]; rfl
/-- a check that is well, and the word behind -/
theorem one_app {p : Ps} {b : Bool} {c : Nat} (x : List (List UInt8)) (hc : c ≠ 0) (h : (stp (chk b c p)).code = 0) : p.code = 0 ∧ b = true ∧ stp (chk b c p) = stp p := by
  obtain ⟨h1, h2, h3⟩ := chk_ok (p := p) hc h
  exact ⟨h1, h2, by rw [h3]⟩
theorem exp_app {w : List UInt8} {p : Ps} (x : List (List UInt8)) (hw : w ≠ []) (h : (expM w p).code = 0) : p.code = 0 ∧ hdW p = w ∧ expM w (app p x) = app (expM w p) x ∧ expM w p = stp p := by
  obtain ⟨h1, h2, h3⟩ := one_app (p := p) x (by decide) h
  have e : hdW p = w := by simpa using h2
  have hn : hdW p ≠ [] := by rw [e]; exact hw
  have h4 : expM w p = stp p := h3
  refine ⟨h1, e, ?_, h4⟩
  rw [h4, ← stp_app x (hd_ne hn)]
  unfold expM
  rw [hd_app x hn, e, beq_self_eq_true, chk_true]
theorem once_app {seen : List (List UInt8)} {p : Ps} (x : List (List UInt8)) (hn : hdW p ≠ []) (h : (onceM seen p).code = 0) : p.code = 0 ∧ seen.contains (hdW p) = false ∧ onceM seen (app p x) = app (onceM seen p) x ∧ onceM seen p = stp p := by
  obtain ⟨h1, h2, h3⟩ := one_app (p := p) x (by decide) h
  have e : seen.contains (hdW p) = false := by simpa using h2
  have h4 : onceM seen p = stp p := h3
  refine ⟨h1, e, ?_, h4⟩
  rw [h4, ← stp_app x (hd_ne hn)]
  unfold onceM
  rw [hd_app x hn, e, Bool.not_false, chk_true]
theorem okD_ne {w : List UInt8} (h : okD w = true) : w ≠ [] := by rintro rfl; revert h; decide
theorem num_app {lo hi : Nat} {p : Ps} (x : List (List UInt8)) (h : (numM lo hi p).code = 0) :
    p.code = 0 ∧ okD (hdW p) = true ∧ lo ≤ valD (hdW p) ∧ valD (hdW p) ≤ hi ∧ hdW (app p x) = hdW p ∧ numM lo hi (app p x) = app (numM lo hi p) x ∧ numM lo hi p = stp p := by
  obtain ⟨h1, h2, h3⟩ := one_app (p := chk (okD (hdW p)) 30 p) x (by decide) h
  obtain ⟨k1, k2, k3⟩ := chk_ok (p := p) (by decide) h1
  rw [Bool.and_eq_true, decide_eq_true_eq, decide_eq_true_eq] at h2
  have hn := okD_ne k2
  have h4 : numM lo hi p = stp p := by
    show stp (chk _ 11 (chk (okD (hdW p)) 30 p)) = _
    rw [h3, k3]
  refine ⟨k1, k2, h2.1, h2.2, hd_app x hn, ?_, h4⟩
  rw [h4, ← stp_app x (hd_ne hn)]
  unfold numM
  rw [hd_app x hn, k2, chk_true, decide_eq_true h2.1, decide_eq_true h2.2, Bool.and_self, chk_true]
theorem may_ne {heads : List (List UInt8)} {w : List UInt8} (h : mayM heads w = true) : w ≠ [] := by
  rintro rfl
  unfold mayM nameOk at h
  rw [show tokenL [] = false by decide] at h
  simp at h
theorem name_app {heads : List (List UInt8)} {p : Ps} (x : List (List UInt8)) (h : (nameM heads p).code = 0) :
    p.code = 0 ∧ mayM heads (hdW p) = true ∧ heads.length < 4 ∧ hdW (app p x) = hdW p ∧ nameM heads (app p x) = app (nameM heads p) x ∧ nameM heads p = stp p := by
  obtain ⟨h1, h2, h3⟩ := one_app (p := chk (mayM heads (hdW p)) 30 p) x (by decide) h
  obtain ⟨k1, k2, k3⟩ := chk_ok (p := p) (by decide) h1
  rw [decide_eq_true_eq] at h2
  have hn := may_ne k2
  have h4 : nameM heads p = stp p := by
    show stp (chk _ 32 (chk (mayM heads (hdW p)) 30 p)) = _
    rw [h3, k3]
  refine ⟨k1, k2, h2, hd_app x hn, ?_, h4⟩
  rw [h4, ← stp_app x (hd_ne hn)]
  unfold nameM
  rw [hd_app x hn, k2, chk_true, decide_eq_true h2, chk_true]
theorem keyR_app {s : SiteM} {p : Ps} (x : List (List UInt8)) (h : (keyR s p).2.code = 0) : keyR s (app p x) = ((keyR s p).1, app (keyR s p).2 x) ∧ hdW p ≠ [] := by
  unfold keyR at h ⊢
  by_cases h1 : hdW p = wQuery
  · have hn : hdW p ≠ [] := by rw [h1]; decide
    rw [hd_app x hn, h1, beq_self_eq_true, if_pos rfl, if_pos rfl]
    rw [h1, beq_self_eq_true, if_pos rfl] at h
    obtain ⟨k1, k2, k3⟩ := one_app (p := p) x (by decide) h
    simp only
    rw [k3, k2, chk_true, stp_app x (hd_ne hn)]
    exact ⟨rfl, by decide⟩
  · have e1 : (hdW p == wQuery) = false := by simpa using h1
    by_cases h2 : hdW p = wHeader
    · have hn : hdW p ≠ [] := by rw [h2]; decide
      rw [e1] at h
      rw [h2, beq_self_eq_true] at h
      simp only [if_false, if_true] at h
      obtain ⟨k1, k2, k3, k4, k5, k6⟩ := name_app x h
      rw [hd_app x hn, e1, h2, beq_self_eq_true, stp_app x (hd_ne hn)]
      simp only [if_true]
      rw [k4, k5]
      exact ⟨rfl, by decide⟩
    · have e2 : (hdW p == wHeader) = false := by simpa using h2
      rw [e1, e2] at h
      obtain ⟨k1, k2, k3⟩ := chk_ok (p := p) (by decide) h
      cases k2
theorem keyF_app (x : List (List UInt8)) : ∀ (k : Nat) (s : SiteM) (p : Ps), (keyF k s p).2.code = 0 → hdW (keyF k s p).2 = [59] → keyF k s (app p x) = ((keyF k s p).1, app (keyF k s p).2 x)
  | 0, s, p, _, _ => rfl
  | k + 1, s, p, h, h59 => by
    rw [keyF] at h h59 ⊢
    by_cases hg : keyGo p = true
    · rw [if_pos hg] at h h59
      obtain ⟨k1, k2⟩ := keyR_app x ((fol_keyF k _ _).ok h)
      have hg' : keyGo (app p x) = true := by
        unfold keyGo at hg ⊢
        rw [hd_app x k2]; exact hg
      rw [if_pos hg', k1, keyF_app x k _ _ h h59, keyF, if_pos hg]
    · rw [if_neg hg] at h h59
      have hn : hdW p ≠ [] := by
        intro e
        rw [show (s, p).2 = p from rfl, e] at h59
        cases h59
      have hg' : ¬ keyGo (app p x) = true := by
        unfold keyGo at hg ⊢
        rw [hd_app x hn]; exact hg
      rw [if_neg hg', keyF, if_neg hg]
theorem meas_app (p : Ps) (x : List (List UInt8)) : meas p ≤ meas (app p x) := by
  unfold meas app
  simp only [List.length_append]
  split <;> omega
theorem key_app {s : SiteM} {p : Ps} (x : List (List UInt8)) (h : (keyM s p).2.code = 0) (h59 : hdW (keyM s p).2 = [59]) : keyM s (app p x) = ((keyM s p).1, app (keyM s p).2 x) := by
  obtain ⟨h1, h2, h3, h4⟩ := exp_app (w := wPath) (p := p) x (by decide) ((fol_keyF _ _ _).ok h)
  have h5 := keyF_app x _ _ _ h h59
  unfold keyM
  rw [h3, keyF_fuel _ (meas (expM wPath p) + meas (app (expM wPath p) x)) _ _ (Nat.le_refl _) (by omega),
    keyF_fuel (meas (expM wPath p)) (meas (expM wPath p) + meas (app (expM wPath p) x)) _ (expM wPath p) (Nat.le_refl _) (by omega)]
  unfold keyM at h h59
  rw [keyF_fuel (meas (expM wPath p)) (meas (expM wPath p) + meas (app (expM wPath p) x)) _ (expM wPath p) (Nat.le_refl _) (by omega)] at h h59
  exact keyF_app x _ _ _ h h59
theorem kind_app {w : List UInt8} {s : SiteM} {p : Ps} (x : List (List UInt8)) (h : (kindM w s p).2.code = 0) (h59 : hdW (kindM w s p).2 = [59]) : kindM w s (app p x) = ((kindM w s p).1, app (kindM w s p).2 x) := by
  unfold kindM at h h59 ⊢
  by_cases h1 : (w == wOrigin) = true
  · rw [if_pos h1] at h h59 ⊢
    rw [if_pos h1]
    obtain ⟨_, _, _, _, k5, k6, _⟩ := num_app x h
    unfold originM
    rw [k5, k6]
  rw [if_neg h1] at h h59 ⊢
  rw [if_neg h1]
  by_cases h2 : (w == wTtl) = true
  · rw [if_pos h2] at h h59 ⊢
    rw [if_pos h2]
    obtain ⟨k1, k2, k3, k4, k5, k6, k7⟩ := num_app x h
    obtain ⟨_, _, _, _, j5, j6, _⟩ := num_app x k1
    unfold ttlM
    rw [j5, j6, k5, k6]
  rw [if_neg h2] at h h59 ⊢
  rw [if_neg h2]
  by_cases h3 : (w == wKey) = true
  · rw [if_pos h3] at h h59 ⊢
    rw [if_pos h3]
    exact key_app x h h59
  rw [if_neg h3] at h h59 ⊢
  rw [if_neg h3]
  unfold keepM at h ⊢
  obtain ⟨k1, k2, k3⟩ := one_app (p := p) x (by decide) h
  have hn : hdW p ≠ [] := by intro e; rw [e] at k2; revert k2; decide
  rw [hd_app x hn, k2, chk_true, stp_app x (hd_ne hn), chk_true]
theorem rule_app {s : SiteM} {seen : List (List UInt8)} {p : Ps} (x : List (List UInt8)) (h : (ruleM s seen p).2.2.code = 0) : ruleM s seen (app p x) = ((ruleM s seen p).1, (ruleM s seen p).2.1, app (ruleM s seen p).2.2 x) ∧ hdW p ≠ [] := by
  unfold ruleM at h ⊢
  by_cases h1 : isRule (hdW p) = true
  · have hn := isRule_ne h1
    rw [if_pos h1] at h
    rw [hd_app x hn, if_pos h1, if_pos h1]
    obtain ⟨k1, k2, k3, k4⟩ := exp_app x (by decide) h
    obtain ⟨j1, j2, j3, j4⟩ := once_app x hn ((fol_kind _ _ _).ok k1)
    have j5 := kind_app x k1 k2
    rw [j3, j5, k3]
    exact ⟨rfl, hn⟩
  · rw [if_neg h1] at h
    obtain ⟨k1, k2, k3⟩ := chk_ok (p := p) (by decide) h
    cases k2
theorem ruleF_app (x : List (List UInt8)) : ∀ (k : Nat) (s : SiteM) (seen : List (List UInt8)) (p : Ps), (ruleF k s seen p).2.code = 0 → hdW (ruleF k s seen p).2 = [125] → ruleF k s seen (app p x) = ((ruleF k s seen p).1, app (ruleF k s seen p).2 x)
  | 0, s, seen, p, _, _ => rfl
  | k + 1, s, seen, p, h, h59 => by
    rw [ruleF] at h h59 ⊢
    by_cases hg : ruleGo p = true
    · rw [if_pos hg] at h h59
      obtain ⟨k1, k2⟩ := rule_app x ((fol_ruleF k _ _ _).ok h)
      have hg' : ruleGo (app p x) = true := by
        unfold ruleGo at hg ⊢
        rw [hd_app x k2]; exact hg
      rw [if_pos hg', k1, ruleF_app x k _ _ _ h h59, ruleF, if_pos hg]
    · rw [if_neg hg] at h h59
      have hn : hdW p ≠ [] := by
        intro e
        rw [show (s, p).2 = p from rfl, e] at h59
        cases h59
      have hg' : ¬ ruleGo (app p x) = true := by
        unfold ruleGo at hg ⊢
        rw [hd_app x hn]; exact hg
      rw [if_neg hg', ruleF, if_neg hg]
theorem ownH_ne {w : List UInt8} (h : ownH w = true) : w ≠ [] := by
  rintro rfl
  revert h
  unfold ownH hostL
  rw [if_pos (.inl rfl)]
  decide
theorem head_app {hosts : List (List UInt8)} {p : Ps} (x : List (List UInt8)) (h : (headM hosts p).code = 0) :
    p.code = 0 ∧ ownH (hdW p) = true ∧ hosts.contains (hdW p) = false ∧ headM hosts (app p x) = app (headM hosts p) x ∧ headM hosts p = stp (stp p) ∧ hdW (stp p) = [123] := by
  obtain ⟨k1, k2, k3, k4⟩ := exp_app x (by decide) h
  have hc := (fol_once hosts (chk (ownH (hdW p)) 30 p)).ok k1
  obtain ⟨j1, j2, j3⟩ := chk_ok (p := p) (by decide) hc
  have hn := ownH_ne j2
  rw [j3] at k1 k2 k3 k4
  obtain ⟨i1, i2, i3, i4⟩ := once_app x hn k1
  refine ⟨j1, j2, i2, ?_, ?_, by rw [← i4]; exact k2⟩
  · unfold headM
    rw [hd_app x hn, j2, chk_true, chk_true, i3, k3]
  · unfold headM
    rw [j2, chk_true, k4, i4]
theorem site_app {hosts : List (List UInt8)} {p : Ps} (x : List (List UInt8)) (h : (siteM hosts p).2.code = 0) : siteM hosts (app p x) = ((siteM hosts p).1, app (siteM hosts p).2 x) ∧ p.code = 0 ∧ ownH (hdW p) = true ∧ hosts.contains (hdW p) = false := by
  obtain ⟨k1, k2, k3, k4⟩ := exp_app (w := [125]) x (by decide) h
  obtain ⟨j1, j2, j3, j4, j5, j6⟩ := head_app (p := p) (hosts := hosts) x ((fol_ruleF _ _ _ _).ok k1)
  have hn := ownH_ne j2
  refine ⟨?_, j1, j2, j3⟩
  unfold siteM
  rw [j4, hd_app x hn]
  rw [ruleF_fuel (meas (app (headM hosts p) x)) (meas (headM hosts p) + meas (app (headM hosts p) x)) _ _ _ (Nat.le_refl _) (by omega)]
  rw [ruleF_fuel (meas (headM hosts p)) (meas (headM hosts p) + meas (app (headM hosts p) x)) _ _ (headM hosts p) (Nat.le_refl _) (by omega)] at k1 k2 k3 ⊢
  rw [ruleF_app x _ _ _ _ k1 k2]
  simp only
  rw [k3]
theorem at_app {n : Nat} {p : Ps} (x : List (List UInt8)) (h : (atSite n p).code = 0) : p.code = 0 ∧ hdW p = wSite ∧ n < 8 ∧ atSite n (app p x) = app (atSite n p) x ∧ atSite n p = stp p := by
  obtain ⟨h1, h2, h3⟩ := one_app (p := chk (hdW p == wSite) 30 p) x (by decide) h
  obtain ⟨k1, k2, k3⟩ := chk_ok (p := p) (by decide) h1
  rw [decide_eq_true_eq] at h2
  have e : hdW p = wSite := by simpa using k2
  have hn : hdW p ≠ [] := by rw [e]; decide
  have h4 : atSite n p = stp p := by
    show stp (chk _ 32 (chk (hdW p == wSite) 30 p)) = _
    rw [h3, k3]
  refine ⟨k1, e, h2, ?_, h4⟩
  rw [h4, ← stp_app x (hd_ne hn)]
  unfold atSite
  rw [hd_app x hn, k2, chk_true, decide_eq_true h2, chk_true]
end Go.Pantry
