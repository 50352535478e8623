/-
  Configs: words with other blanks and remarks between them. No program is imported.
-/
import Derived.Test.YtbibgnflkgafiaaGreatDoorPureWords
namespace Go.Pantry
open Go.RowKit

/-- a word, with whatever blank behind it -/
def IsWord (w : List UInt8) : Prop := w ≠ [] ∧ ∀ (g : UInt8) (r : List UInt8), isGap g = true → wordL (w ++ g :: r) = w ∧ Norm (w ++ g :: r)
theorem gap_not47 {g : UInt8} (h : isGap g = true) : g ≠ 47 := by rintro rfl; revert h; decide
theorem run_again {g : UInt8} (hg : isGap g = true) (r : List UInt8) : ∀ s : List UInt8, runL (runL s ++ g :: r) = runL s
  | [] => by
    show runL (g :: r) = []
    rw [runL_cons, if_pos (by simp [hg])]
  | c :: t => by
    rw [runL_cons]
    split
    · show runL (g :: r) = []
      rw [runL_cons, if_pos (by simp [hg])]
    · rename_i h
      rw [List.cons_append, runL_cons, run_again hg r t]
      have e : remB (c :: (runL t ++ g :: r)) = false := by
        by_cases hc : remB (c :: (runL t ++ g :: r)) = true
        · exfalso
          apply h
          have hr : remB (c :: t) = true := by
            unfold remB at hc ⊢
            cases t with
            | nil =>
              simp [runL, List.isPrefixOf] at hc
              exact absurd hc.2.symm (gap_not47 hg)
            | cons d t =>
              rw [runL_cons] at hc
              split at hc
              · simp [List.isPrefixOf] at hc
                exact absurd hc.2.symm (gap_not47 hg)
              · simpa [List.isPrefixOf] using hc
          simp [hr]
        · exact Bool.eq_false_iff.2 hc
      rw [e]
      simp only [Bool.or_eq_true, not_or] at h
      rw [if_neg (by simp [h.1.1, h.1.2])]
theorem isWord_of {s : List UInt8} (hn : Norm s) (h0 : s ≠ []) : IsWord (wordL s) := by
  obtain ⟨c, t, rfl⟩ := List.exists_cons_of_ne_nil h0
  refine ⟨wordL_ne hn, fun g r hg => ?_⟩
  obtain ⟨h1, h2⟩ := norm_cons hn
  have hnorm : ∀ u : List UInt8, isGap c = false → remB (c :: (u ++ g :: r)) = false → Norm (c :: (u ++ g :: r)) := fun u a b => by
    unfold Norm
    rw [skipL, if_neg (by rw [a]; decide), if_neg (by rw [b]; decide)]
  unfold wordL
  simp only
  by_cases hm : isMark c = true
  · rw [if_pos hm]
    refine ⟨by simp only [List.cons_append, List.nil_append]; rw [if_pos hm], ?_⟩
    refine hnorm [] h1 ?_
    unfold remB
    simp [List.isPrefixOf]
    intro _ e
    exact gap_not47 hg e.symm
  · rw [if_neg hm]
    have e := run_again hg r (c :: t)
    rw [runL_cons, if_neg (by rw [h1, h2]; simpa using hm)] at e ⊢
    rw [List.cons_append] at e ⊢
    simp only
    rw [if_neg hm]
    refine ⟨e, ?_⟩
    refine hnorm _ h1 ?_
    rw [runL_cons] at e
    by_cases hc : (isGap c || isMark c || remB (c :: (runL t ++ g :: r))) = true
    · rw [if_pos hc] at e; cases e
    · simp only [Bool.or_eq_true, not_or] at hc
      exact Bool.eq_false_iff.2 hc.2
theorem textW_words (t : List UInt8) : ∀ w ∈ textW t, IsWord w := by
  have key : ∀ (n : Nat) (s : List UInt8), s.length ≤ n → Norm s → ∀ w ∈ wordsL s, IsWord w := by
    intro n
    induction n with
    | zero =>
      intro s hl _ w hw
      rw [show s = [] from List.eq_nil_of_length_eq_zero (by omega)] at hw; cases hw
    | succ n ih =>
      intro s hl hn w hw
      by_cases h0 : s = []
      · subst h0; cases hw
      · rw [wordsL_cons hn h0] at hw
        rcases List.mem_cons.1 hw with e | e
        · rw [e]; exact isWord_of hn h0
        · have := stepL_lt hn h0
          exact ih (stepL s) (by omega) (norm_step s) w e
  exact key _ _ (Nat.le_refl _) (norm_skip _ _)
/-- what stands between words -/
def sepL (k : Int) : List UInt8 := if k.tmod 3 = 1 then [10, 32, 9] else if k.tmod 3 = 2 then [32, 47, 47, 32, 120, 32, 59, 32, 123, 32, 115, 105, 116, 101, 10] else [32]
theorem sep_gap (k : Int) : ∃ g r, isGap g = true ∧ sepL k = g :: r := by
  unfold sepL
  split
  · exact ⟨10, _, by decide, rfl⟩
  · split
    · exact ⟨32, _, by decide, rfl⟩
    · exact ⟨32, _, by decide, rfl⟩
theorem sep_skip (k : Int) (r : List UInt8) : skipL false (sepL k ++ r) = skipL false r := by
  unfold sepL
  split
  · rfl
  · split
    · rfl
    · rfl
theorem sep_len (k : Int) : (sepL k).length ≤ 15 := by
  unfold sepL; split
  · simp
  · split <;> simp
def joinB (ks : Nat → Int) : Nat → List (List UInt8) → List UInt8
  | _, [] => []
  | i, w :: l => w ++ sepL (ks i) ++ joinB ks (i + 1) l
theorem joinB_snoc (ks : Nat → Int) : ∀ (l : List (List UInt8)) (i : Nat) (w : List UInt8), joinB ks i (l ++ [w]) = joinB ks i l ++ (w ++ sepL (ks (i + l.length)))
  | [], i, w => by simp [joinB]
  | a :: l, i, w => by
    rw [List.cons_append, joinB, joinB, joinB_snoc ks l (i + 1) w, List.append_assoc, List.length_cons]
    rw [show i + 1 + l.length = i + (l.length + 1) by omega]
    simp [List.append_assoc]
theorem joinB_words (ks : Nat → Int) : ∀ (l : List (List UInt8)) (i : Nat), (∀ w ∈ l, IsWord w) → textW (joinB ks i (l ++ [[]])) = l
  | [], i, _ => by
    show textW ([] ++ sepL (ks i) ++ []) = []
    unfold textW
    rw [List.nil_append, sep_skip]; rfl
  | w :: l, i, h => by
    obtain ⟨h0, hw⟩ := h w (by simp)
    obtain ⟨g, r, hg, hs⟩ := sep_gap (ks i)
    have ih := joinB_words ks l (i + 1) (fun u hu => h u (by simp [hu]))
    rw [List.cons_append, joinB, List.append_assoc]
    obtain ⟨X, hX⟩ : ∃ X, joinB ks (i + 1) (l ++ [[]]) = X := ⟨_, rfl⟩
    rw [hX] at ih ⊢
    have e : w ++ (sepL (ks i) ++ X) = w ++ g :: (r ++ X) := by rw [hs]; rfl
    obtain ⟨h1, h2⟩ := hw g (r ++ X) hg
    have hne : w ++ (sepL (ks i) ++ X) ≠ [] := by simp [h0]
    rw [← e] at h1 h2
    unfold textW
    rw [show skipL false (w ++ (sepL (ks i) ++ X)) = w ++ (sepL (ks i) ++ X) from h2, wordsL_cons h2 hne, h1]
    congr 1
    unfold stepL
    rw [h1, List.drop_left, sep_skip]
    exact ih
theorem joinB_len (ks : Nat → Int) (M : Nat) : ∀ (l : List (List UInt8)) (i : Nat), (∀ w ∈ l, w.length ≤ M) → (joinB ks i l).length ≤ (M + 15) * l.length
  | [], i, _ => by simp [joinB]
  | w :: l, i, h => by
    have h1 := joinB_len ks M l (i + 1) (fun u hu => h u (by simp [hu]))
    have h2 := h w (by simp)
    have h3 := sep_len (ks i)
    rw [joinB, List.length_append, List.length_append, List.length_cons, Nat.mul_add, Nat.mul_one]
    omega
theorem word_len {t w : List UInt8} (h : w ∈ textW t) : w.length ≤ t.length := by
  have key : ∀ (n : Nat) (s : List UInt8), s.length ≤ n → Norm s → ∀ w ∈ wordsL s, w.length ≤ s.length := by
    intro n
    induction n with
    | zero =>
      intro s hl _ w hw
      rw [show s = [] from List.eq_nil_of_length_eq_zero (by omega)] at hw; cases hw
    | succ n ih =>
      intro s hl hn w hw
      by_cases h0 : s = []
      · subst h0; cases hw
      · rw [wordsL_cons hn h0] at hw
        have h2 := stepL_lt hn h0
        rcases List.mem_cons.1 hw with e | e
        · rw [e]; exact wordL_len s
        · exact Nat.le_trans (ih (stepL s) (by omega) (norm_step s) w e) (by omega)
  exact Nat.le_trans (key _ _ (Nat.le_refl _) (norm_skip _ _) w h) (skipL_le t false)
/-- other blanks: the same config, and the same fault but for its line -/
theorem read_blanks (ks : Nat → Int) (t : List UInt8) (h1 : t.length ≤ 4096) (h2 : (joinB ks 0 (textW t ++ [[]])).length ≤ 4096) :
    (readM (joinB ks 0 (textW t ++ [[]]))).1 = (readM t).1 ∧ (readM (joinB ks 0 (textW t ++ [[]]))).2.1 = (readM t).2.1 := by
  have e : cfgM (joinB ks 0 (textW t ++ [[]])) = cfgM t := by unfold cfgM ps0; rw [joinB_words ks _ 0 (textW_words t)]
  rw [readM_short h1, readM_short h2, e]
  split <;> exact ⟨rfl, rfl⟩
end Go.Pantry
