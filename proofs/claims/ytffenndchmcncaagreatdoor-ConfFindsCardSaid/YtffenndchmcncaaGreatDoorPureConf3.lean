/-
  Configs: texts one behind the other, empty lines ahead, other blanks between words. No program is imported.
-/
import Derived.Test.YtffenndchmcncaaGreatDoorPureConf2
namespace Go.Pantry
open Go.RowKit

theorem skip_gap {c : UInt8} {r : List UInt8} (h : isGap c = true) : skipL false (c :: r) = skipL false r := by rw [skipL, if_pos h]
theorem gap10 : isGap 10 = true := by decide
theorem skip_lines : ∀ (n : Nat) (t : List UInt8), skipL false (List.replicate n 10 ++ t) = skipL false t
  | 0, t => rfl
  | n + 1, t => by rw [List.replicate_succ, List.cons_append, skip_gap gap10, skip_lines n t]
theorem text_lines (n : Nat) (t : List UInt8) : textW (List.replicate n 10 ++ t) = textW t := by unfold textW; rw [skip_lines]
theorem nl_suffix {s t : List UInt8} (h : s <:+ t) : nlL s ≤ nlL t := by
  unfold nlL; exact List.Sublist.count_le _ h.sublist
theorem line_lines (n : Nat) (t : List UInt8) (k : Nat) : lineK (List.replicate n 10 ++ t) k = n + lineK t k := by
  unfold lineK
  rw [text_lines, skip_lines]
  have h1 : nlL (List.replicate n 10 ++ t) = n + nlL t := by unfold nlL; rw [List.count_append, List.count_replicate_self]
  have h2 := nl_suffix ((stepN_suffix ((textW t).length - k) (skipL false t)).trans (skipL_suffix t false))
  rw [h1]; omega
theorem cfg_lines (n : Nat) (t : List UInt8) : cfgM (List.replicate n 10 ++ t) = cfgM t := by unfold cfgM ps0; rw [text_lines]
theorem readM_short {t : List UInt8} (h : t.length ≤ 4096) : readM t = if (cfgM t).2.code = 0 then ((cfgM t).1, 0, 0) else ([], (cfgM t).2.code, lineK t (cfgM t).2.pos) := by
  unfold readM; rw [if_neg (by omega)]
theorem readM_long {t : List UInt8} (h : 4096 < t.length) : readM t = ([], 32, 1) := by
  unfold readM; rw [if_pos h]
theorem readM_lines (n : Nat) (t : List UInt8) (h1 : t.length ≤ 4096) (h2 : n + t.length ≤ 4096) :
    readM (List.replicate n 10 ++ t) = ((readM t).1, (readM t).2.1, if (readM t).2.1 = 0 then (readM t).2.2 else n + (readM t).2.2) := by
  rw [readM_short (t := t) h1, readM_short (by rw [List.length_append, List.length_replicate]; omega), cfg_lines]
  by_cases h : (cfgM t).2.code = 0
  · rw [if_pos h, if_pos h]; rfl
  · rw [if_neg h, if_neg h]
    simp only
    rw [if_neg h, line_lines]

theorem runL_cons (c : UInt8) (r : List UInt8) : runL (c :: r) = if isGap c || isMark c || remB (c :: r) then [] else c :: runL r := rfl
/-- where a text ends within a remark, and what is left else; then more behind an end of line -/
theorem skip_app : ∀ (s : List UInt8) (b : Bool) (t : List UInt8), skipL b (s ++ 10 :: t) = if skipL b s = [] then skipL false t else skipL b s ++ 10 :: t
  | [], true, t => by
    rw [List.nil_append, skipL, if_pos (by decide)]
    simp [skipL]
  | [], false, t => by
    rw [List.nil_append, skip_gap gap10]
    simp [skipL]
  | c :: r, true, t => by
    rw [List.cons_append, skipL, skipL]
    split
    · exact skip_app r false t
    · exact skip_app r true t
  | c :: r, false, t => by
    rw [List.cons_append, skipL, skipL]
    split
    · exact skip_app r false t
    · have e : remB (c :: (r ++ 10 :: t)) = remB (c :: r) := by
        unfold remB
        cases r with
        | nil => simp [List.isPrefixOf]
        | cons d r => simp [List.isPrefixOf]
      rw [e]
      split
      · exact skip_app r true t
      · rw [if_neg (by simp)]; rfl
theorem rem_app {c : UInt8} {r t : List UInt8} {d : UInt8} (hd : d ≠ 47) : remB (c :: (r ++ d :: t)) = remB (c :: r) := by
  unfold remB
  cases r with
  | nil => simp [List.isPrefixOf, Ne.symm hd]
  | cons d r => simp [List.isPrefixOf]
theorem run_app {d : UInt8} (hg : isGap d = true ∨ isMark d = true) (hd : d ≠ 47) : ∀ (s t : List UInt8), runL (s ++ d :: t) = runL s
  | [], t => by
    rw [List.nil_append, runL_cons, if_pos (by rcases hg with h | h <;> simp [h])]; rfl
  | c :: r, t => by
    rw [List.cons_append, runL_cons, runL_cons, rem_app hd, run_app hg hd r t]
theorem word_app {d : UInt8} (hg : isGap d = true ∨ isMark d = true) (hd : d ≠ 47) {s : List UInt8} (h : s ≠ []) (t : List UInt8) : wordL (s ++ d :: t) = wordL s := by
  obtain ⟨c, r, rfl⟩ := List.exists_cons_of_ne_nil h
  have h1 := run_app hg hd (c :: r) t
  unfold wordL
  rw [List.cons_append] at h1 ⊢
  simp only
  rw [h1]
theorem step_app {s : List UInt8} (h : s ≠ []) (t : List UInt8) : stepL (s ++ 10 :: t) = if stepL s = [] then skipL false t else stepL s ++ 10 :: t := by
  unfold stepL
  rw [word_app (.inl gap10) (by decide) h, List.drop_append_of_le_length (wordL_len s)]
  exact skip_app _ false t
theorem norm_app {s t : List UInt8} (h : Norm s) (h0 : s ≠ []) : Norm (s ++ 10 :: t) := by
  unfold Norm at h ⊢
  rw [skip_app, h, if_neg h0]
theorem words_app : ∀ (n : Nat) (s t : List UInt8), s.length ≤ n → Norm s → s ≠ [] → wordsL (s ++ 10 :: t) = wordsL s ++ textW t
  | 0, s, t, hl, _, h0 => absurd (List.eq_nil_of_length_eq_zero (by omega)) h0
  | n + 1, s, t, hl, hn, h0 => by
    have h1 := stepL_lt hn h0
    rw [wordsL_cons (norm_app hn h0) (by simp), wordsL_cons hn h0, word_app (.inl gap10) (by decide) h0, step_app h0, List.cons_append]
    by_cases h2 : stepL s = []
    · rw [if_pos h2, h2]; rfl
    · rw [if_neg h2, words_app n _ t (by omega) (norm_step s) h2]
theorem text_app (a t : List UInt8) : textW (a ++ 10 :: t) = textW a ++ textW t := by
  unfold textW
  rw [skip_app]
  by_cases h : skipL false a = []
  · rw [if_pos h, h]; rfl
  · rw [if_neg h]; exact words_app _ _ _ (Nat.le_refl _) (norm_skip _ _) h
theorem text_nl (a : List UInt8) : textW (a ++ [10]) = textW a := by rw [text_app]; simp [textW, skipL, wordsL_nil]

/-- all words are something -/
def Some1 (p : Ps) : Prop := ∀ w ∈ p.ws, w ≠ []
theorem some_text (t : List UInt8) : Some1 (ps0 t) := words_ne _ _ (Nat.le_refl _) (norm_skip _ _)
theorem Some1.fol {p q : Ps} (h : Some1 p) (k : Fol p q) : Some1 q := fun w hw => h w (k.suf.subset hw)
theorem cfgGo_end {p : Ps} (h : cfgGo p = false) (hs : Some1 p) (hc : p.code = 0) : p.ws = [] := by
  unfold cfgGo at h
  rw [hc] at h
  cases e : p.ws with
  | nil => rfl
  | cons a r =>
    have h1 := hs a (by rw [e]; simp)
    have h2 : hdW p = a := by unfold hdW; rw [e]; rfl
    rw [h2] at h
    simp [h1] at h
theorem cfgGo_nil {p : Ps} (h : p.ws = []) : cfgGo p = false := by
  unfold cfgGo hdW; rw [h]; simp
/-- the hosts of sites, the last one first -/
def hostsR (c : List SiteM) : List (List UInt8) := (c.map (·.host)).reverse
theorem keyR_host (s : SiteM) (p : Ps) : (keyR s p).1.host = s.host := by
  unfold keyR; split
  · rfl
  · split <;> rfl
theorem keyF_host : ∀ (k : Nat) (s : SiteM) (p : Ps), (keyF k s p).1.host = s.host
  | 0, s, p => rfl
  | k + 1, s, p => by
    rw [keyF]; split
    · rw [keyF_host, keyR_host]
    · rfl
theorem kind_host (w : List UInt8) (s : SiteM) (p : Ps) : (kindM w s p).1.host = s.host := by
  unfold kindM
  split
  · rfl
  · split
    · rfl
    · split
      · exact keyF_host _ _ _
      · rfl
theorem rule_host (s : SiteM) (seen : List (List UInt8)) (p : Ps) : (ruleM s seen p).1.host = s.host := by
  unfold ruleM; split
  · exact kind_host _ _ _
  · rfl
theorem ruleF_host : ∀ (k : Nat) (s : SiteM) (seen : List (List UInt8)) (p : Ps), (ruleF k s seen p).1.host = s.host
  | 0, s, seen, p => rfl
  | k + 1, s, seen, p => by
    rw [ruleF]; split
    · rw [ruleF_host, rule_host]
    · rfl
theorem site_host' (hosts : List (List UInt8)) (p : Ps) : (siteM hosts p).1.host = hdW p := ruleF_host _ _ _ _
/-- the sites of words, without a look at other sites: as long as all is well -/
theorem site_hosts {hosts hosts' : List (List UInt8)} {p : Ps} (h : (siteM hosts p).2.code = 0) (hc : hosts'.contains (hdW p) = false) : siteM hosts' p = siteM hosts p := by
  obtain ⟨_, j1, j2, j3⟩ := site_app [] h
  have e : headM hosts' p = headM hosts p := by
    unfold headM onceM
    rw [chk_hd, hc, j3]
  unfold siteM
  rw [e]
/-- words behind words: the sites of the first ones, then the rest -/
theorem cfgF_app (x : List (List UInt8)) : ∀ (k m : Nat) (c : List SiteM) (hosts : List (List UInt8)) (p : Ps), Some1 p → meas p ≤ k → meas (app p x) ≤ m → (cfgF k c hosts p).2.code = 0 →
    ∃ d, (cfgF k c hosts p).1 = c ++ d ∧ (cfgF k c hosts p).2.ws = [] ∧ ∀ j, x.length + 1 ≤ j → cfgF m c hosts (app p x) = cfgF j (c ++ d) (hostsR d ++ hosts) ⟨0, p.pos, x⟩
  | k, m, c, hosts, p, hs, hk, hm, h => by
    by_cases hg : cfgGo p = true
    · cases k with
      | zero => rw [cfgGo_zero (by omega)] at hg; cases hg
      | succ k =>
      rw [cfgF, if_pos hg] at h ⊢
      have hl := cfg_less (n := c.length) (hosts := hosts) hg
      have hf : Fol p (siteM hosts (atSite c.length p)).2 := (fol_at _ _).trans (fol_site _ _)
      have hc := (fol_cfgF k _ _ _).ok h
      obtain ⟨s1, s2, s3, s4⟩ := site_app x hc
      obtain ⟨a1, a2, a3, a4, a5⟩ := at_app x s2
      have hn : hdW p ≠ [] := by rw [a2]; decide
      have hg' : cfgGo (app p x) = true := by
        unfold cfgGo at hg ⊢
        rw [hd_app x hn]; exact hg
      cases m with
      | zero => rw [cfgGo_zero (by omega)] at hg'; cases hg'
      | succ m =>
      have hl' := cfg_less (n := c.length) (hosts := hosts) hg'
      rw [a4, s1] at hl'
      change meas (app (siteM hosts (atSite c.length p)).2 x) < _ at hl'
      have hn2 : hdW (atSite c.length p) ≠ [] := ownH_ne s3
      obtain ⟨d, e1, e2, e3⟩ := cfgF_app x k m _ _ _ (hs.fol hf) (by omega) (show meas (app (siteM hosts (atSite c.length p)).2 x) ≤ m by omega) h
      have ep : (siteM hosts (atSite c.length p)).2.pos = p.pos := hf.pos hc
      refine ⟨(siteM hosts (atSite c.length p)).1 :: d, ?_, e2, fun j hj => ?_⟩
      · rw [e1, List.append_assoc]; rfl
      · rw [cfgF, if_pos hg', a4, s1, hd_app x hn2]
        have := e3 j hj
        rw [ep] at this
        simp only
        rw [this, List.append_assoc]
        unfold hostsR
        rw [List.map_cons, List.reverse_cons, List.append_assoc, site_host']
        rfl
    · have e : ∀ k, cfgF k c hosts p = (c, p) := fun k => by cases k <;> simp [cfgF, hg]
      rw [e] at h ⊢
      have hw := cfgGo_end (Bool.eq_false_iff.2 hg) hs h
      refine ⟨[], by simp, hw, fun j hj => ?_⟩
      have ep : app p x = ⟨0, p.pos, x⟩ := by unfold app; rw [hw, h]; rfl
      rw [ep] at hm ⊢
      rw [List.append_nil]
      refine cfgF_fuel _ _ _ _ _ hm (Nat.le_trans (Nat.le_of_eq ?_) hj)
      unfold meas; simp
end Go.Pantry
