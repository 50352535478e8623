/-
  Configs: the text of one behind the text of another. No program is imported.
-/
import Derived.Test.YtffenndchmcncaaDoorPureConf3
namespace Go.Pantry
open Go.RowKit

theorem once_bad {seen : List (List UInt8)} {p : Ps} (hp : p.code = 0) (h : seen.contains (hdW p) = true) : (onceM seen p).code = 31 := by
  unfold onceM
  rw [h, Bool.not_true, chk_no hp]; rfl
theorem cfgF_bad {k : Nat} {c : List SiteM} {hosts : List (List UInt8)} {p q : Ps} (hf : Fol q p) (hq : q.code = 31) : (cfgF k c hosts p).2.code = 31 := by
  rw [((hf.trans (fol_cfgF k c hosts p)).err (by omega)).1, hq]
/-- the same words with other sites ahead -/
theorem cfgF_shift : ∀ (k : Nat) (c : List SiteM) (h : List (List UInt8)) (p : Ps), (cfgF k c h p).2.code = 0 →
    ∃ d, (cfgF k c h p).1 = c ++ d ∧ (∀ s ∈ d, h.contains s.host = false) ∧ ∀ (c1 : List SiteM) (h1 : List (List UInt8)), c1.length + d.length ≤ 8 →
      ((∀ s ∈ d, h1.contains s.host = false) → cfgF k c1 h1 p = (c1 ++ d, (cfgF k c h p).2)) ∧
      ((∃ s ∈ d, h1.contains s.host = true) → (cfgF k c1 h1 p).2.code = 31)
  | 0, c, h, p, _ => ⟨[], by simp [cfgF], (by intro s hs; cases hs), fun c1 h1 _ => ⟨fun _ => by simp [cfgF], fun ⟨s, hs, _⟩ => by cases hs⟩⟩
  | k + 1, c, h, p, hc => by
    by_cases hg : cfgGo p = true
    · rw [cfgF, if_pos hg] at hc ⊢
      have hsc := (fol_cfgF k _ _ _).ok hc
      obtain ⟨_, s2, s3, s4⟩ := site_app [] hsc
      obtain ⟨a1, a2, a3, _, a5⟩ := at_app [] s2
      obtain ⟨d, e1, e2, e3⟩ := cfgF_shift k _ _ _ hc
      rw [a5] at s2 s3 s4 e1 e2 e3 hsc ⊢
      have e0 : (siteM h (stp p)).1.host = hdW (stp p) := site_host' _ _
      refine ⟨(siteM h (stp p)).1 :: d, by rw [e1, List.append_assoc]; rfl, ?_, fun c1 h1 hl => ?_⟩
      · intro s hs
        rcases List.mem_cons.1 hs with rfl | hs
        · rw [e0]; exact s4
        · have := e2 s hs
          rw [List.contains_cons, Bool.or_eq_false_iff] at this
          exact this.2
      · rw [List.length_cons] at hl
        have a6 : atSite c1.length p = stp p := by
          unfold atSite
          rw [a2, beq_self_eq_true, chk_true, decide_eq_true (by omega), chk_true]
        rw [cfgF, if_pos hg, a6]
        cases hk : h1.contains (hdW (stp p)) with
        | false =>
          rw [site_hosts hsc hk]
          obtain ⟨f1, f2⟩ := e3 (c1 ++ [(siteM h (stp p)).1]) (hdW (stp p) :: h1) (by rw [List.length_append, List.length_singleton]; omega)
          constructor
          · intro hd
            rw [f1 ?_, List.append_assoc]; · rfl
            intro s hs
            have j1 := e2 s hs
            rw [List.contains_cons, Bool.or_eq_false_iff] at j1 ⊢
            exact ⟨j1.1, hd s (List.mem_cons_of_mem _ hs)⟩
          · rintro ⟨s, hs, hb⟩
            refine f2 ?_
            rcases List.mem_cons.1 hs with rfl | hs
            · rw [e0, hk] at hb; cases hb
            · exact ⟨s, hs, by rw [List.contains_cons, hb, Bool.or_true]⟩
        | true =>
          have b1 : (onceM h1 (chk (ownH (hdW (stp p))) 30 (stp p))).code = 31 := by
            rw [s3, chk_true]; exact once_bad s2 hk
          have b2 : Fol (onceM h1 (chk (ownH (hdW (stp p))) 30 (stp p))) (siteM h1 (stp p)).2 := ((fol_exp _ _).trans (fol_ruleF _ _ _ _)).trans (fol_exp _ _)
          constructor
          · intro hd
            have := hd _ (List.mem_cons_self ..)
            rw [e0, hk] at this; cases this
          · intro _; exact cfgF_bad b2 b1
    · have e : ∀ c h, cfgF (k + 1) c h p = (c, p) := fun c h => by rw [cfgF, if_neg hg]
      rw [e] at hc ⊢
      refine ⟨[], by simp, (by intro s hs; cases hs), fun c1 h1 _ => ⟨fun _ => by rw [e]; simp, fun ⟨s, hs, _⟩ => by cases hs⟩⟩

/-- what is read of a text behind another -/
theorem read_rows {a b : List UInt8} (ha : a.length ≤ 4095) (hl : a.length + b.length ≤ 4095) (hA : (readM (a ++ [10])).2.1 = 0) (hB : (readM b).2.1 = 0)
    (h8 : (readM (a ++ [10])).1.length + (readM b).1.length ≤ 8) :
    ((∀ s ∈ (readM (a ++ [10])).1, ∀ t ∈ (readM b).1, t.host ≠ s.host) → readM (a ++ 10 :: b) = ((readM (a ++ [10])).1 ++ (readM b).1, 0, 0)) ∧
    ((∃ s ∈ (readM (a ++ [10])).1, ∃ t ∈ (readM b).1, t.host = s.host) → (readM (a ++ 10 :: b)).2.1 = 31) := by
  have hA' : (cfgM (a ++ [10])).2.code = 0 := by
    rw [readM_short (by simp; omega)] at hA
    by_cases e : (cfgM (a ++ [10])).2.code = 0
    · exact e
    · rw [if_neg e] at hA; exact hA
  have hB' : (cfgM b).2.code = 0 := by
    rw [readM_short (by omega)] at hB
    by_cases e : (cfgM b).2.code = 0
    · exact e
    · rw [if_neg e] at hB; exact hB
  have eA : readM (a ++ [10]) = ((cfgM (a ++ [10])).1, 0, 0) := by rw [readM_short (by simp; omega), if_pos hA']
  have eB : readM b = ((cfgM b).1, 0, 0) := by rw [readM_short (by omega), if_pos hB']
  rw [eA, eB] at h8 ⊢
  simp only at h8 ⊢
  have ep : ps0 (a ++ 10 :: b) = app (ps0 (a ++ [10])) (textW b) := by
    unfold ps0 app; rw [text_nl, text_app]
  obtain ⟨c, c1, c2, c3⟩ := cfgF_app (textW b) _ (meas (ps0 (a ++ 10 :: b))) [] [] _ (some_text (a ++ [10])) (Nat.le_refl _) (by rw [ep]; exact Nat.le_refl _) hA'
  have ec : (cfgM (a ++ [10])).1 = c := by unfold cfgM; rw [c1, List.nil_append]
  have hm : (textW b).length + 1 ≤ meas (ps0 b) := by unfold meas ps0; simp
  have c4 := c3 (meas (ps0 b)) hm
  rw [List.nil_append, List.append_nil, ← ep] at c4
  obtain ⟨d, d1, d2, d3⟩ := cfgF_shift _ _ _ _ hB'
  have ed : (cfgM b).1 = d := by unfold cfgM; rw [d1, List.nil_append]
  rw [ec, ed] at h8 ⊢
  obtain ⟨g1, g2⟩ := d3 c (hostsR c) h8
  have e1 : cfgM (a ++ 10 :: b) = cfgF (meas (ps0 b)) c (hostsR c) (ps0 b) := c4
  have hh : ∀ t : SiteM, (hostsR c).contains t.host = true ↔ ∃ s ∈ c, t.host = s.host := by
    intro t
    unfold hostsR
    rw [List.contains_iff_mem, List.mem_reverse, List.mem_map]
    exact ⟨fun ⟨s, hs, e⟩ => ⟨s, hs, e.symm⟩, fun ⟨s, hs, e⟩ => ⟨s, hs, e.symm⟩⟩
  rw [readM_short (by simp; omega), e1]
  constructor
  · intro h
    rw [g1 (fun t ht => by
      rw [Bool.eq_false_iff]; intro e
      obtain ⟨s, hs, e⟩ := (hh t).1 e
      exact h s hs t ht e)]
    have : (cfgF (meas (ps0 b)) [] [] (ps0 b)).2.code = 0 := hB'
    simp only
    rw [if_pos this]
  · rintro ⟨s, hs, t, ht, e⟩
    have := g2 ⟨t, ht, (hh t).2 ⟨s, hs, e⟩⟩
    rw [if_neg (by rw [this]; decide)]
    exact this
end Go.Pantry
