/-
  The document's words of a text, one by one. No program is imported.
-/
import Derived.Test.YtenijpcjemdhfaaGreatDoorPureAll3
namespace Go.Pantry
open Go.RowKit

/-- the line of the j-th word; the last one's is the end's -/
def lineN (t : List UInt8) (j : Nat) : Nat := lineK t ((textW t).length - j)
/-- how far the document is: at i, j words -/
structure WordsJ (t : List UInt8) (i j line : Nat) : Prop where
  le : i ≤ t.length
  words : j ≤ (textW t).length
  rest : skipL false (t.drop i) = stepN j (skipL false t)
  line : line = 1 + nlL (t.take i)
theorem wordsJ_start (t : List UInt8) : WordsJ t 0 0 1 := ⟨Nat.zero_le _, Nat.zero_le _, rfl, rfl⟩
theorem nl_snoc (l : List UInt8) (c : UInt8) : nlL (l ++ [c]) = nlL l + (if c = 10 then 1 else 0) := by
  unfold nlL
  rw [List.count_append, List.count_singleton]
  by_cases h : c = 10 <;> simp [h]
theorem take_snoc {t : List UInt8} {i : Nat} {c : UInt8} (h : t[i]? = some c) : t.take (i + 1) = t.take i ++ [c] := by
  rw [List.take_add_one, h]; rfl
theorem drop_at {t : List UInt8} {i : Nat} {c : UInt8} (h : t[i]? = some c) : t.drop i = c :: t.drop (i + 1) := by
  obtain ⟨hi, e⟩ := List.getElem?_eq_some_iff.1 h
  rw [List.drop_eq_getElem_cons hi, e]
/-- a blank, or an end of line -/
theorem WordsJ.gap {t : List UInt8} {i j line : Nat} {c : UInt8} (h : WordsJ t i j line) (hc : t[i]? = some c) (hg : isGap c = true) : WordsJ t (i + 1) j (if c = 10 then line + 1 else line) := by
  have hi : i < t.length := (List.getElem?_eq_some_iff.1 hc).1
  refine ⟨hi, h.words, ?_, ?_⟩
  · rw [← h.rest, drop_at hc, skip_gap hg]
  · rw [take_snoc hc, nl_snoc, h.line]; split <;> omega
/-- a byte of a remark -/
theorem skip_true_cons {c : UInt8} (r : List UInt8) (h : c ≠ 10) : skipL true (c :: r) = skipL true r := by rw [skipL, if_neg (by simpa using h)]
theorem skip_true_nl (r : List UInt8) : skipL true (10 :: r) = skipL false (10 :: r) := by
  rw [skip_gap gap10, skipL, if_pos (by decide)]
/-- within a remark -/
structure RemJ (t : List UInt8) (i j line : Nat) : Prop where
  le : i ≤ t.length
  words : j ≤ (textW t).length
  rest : skipL true (t.drop i) = stepN j (skipL false t)
  line : line = 1 + nlL (t.take i)
theorem WordsJ.rem {t : List UInt8} {i j line : Nat} (h : WordsJ t i j line) (hr : remB (t.drop i) = true) : RemJ t i j line := by
  refine ⟨h.le, h.words, ?_, h.line⟩
  rw [← h.rest]
  obtain ⟨r, e⟩ : ∃ r, t.drop i = 47 :: 47 :: r := by
    unfold remB at hr
    match h2 : t.drop i with
    | [] => rw [h2] at hr; simp [List.isPrefixOf] at hr
    | [c] => rw [h2] at hr; simp [List.isPrefixOf] at hr
    | c :: d :: r =>
      rw [h2] at hr
      simp [List.isPrefixOf] at hr
      exact ⟨r, by rw [← hr.1, ← hr.2]⟩
  rw [e]; rfl
theorem RemJ.next {t : List UInt8} {i j line : Nat} {c : UInt8} (h : RemJ t i j line) (hc : t[i]? = some c) (hn : c ≠ 10) : RemJ t (i + 1) j line := by
  have hi : i < t.length := (List.getElem?_eq_some_iff.1 hc).1
  refine ⟨hi, h.words, ?_, ?_⟩
  · rw [← h.rest, drop_at hc, skip_true_cons _ hn]
  · rw [take_snoc hc, nl_snoc, if_neg hn, h.line, Nat.add_zero]
theorem RemJ.done {t : List UInt8} {i j line : Nat} (h : RemJ t i j line) (hc : t[i]? = none ∨ t[i]? = some 10) : WordsJ t i j line := by
  refine ⟨h.le, h.words, ?_, h.line⟩
  rw [← h.rest]
  rcases hc with hc | hc
  · rw [List.drop_eq_nil_of_le (by simpa using hc)]; rfl
  · rw [drop_at hc, skip_true_nl]
/-- a word begins -/
theorem WordsJ.here {t : List UInt8} {i j line : Nat} {c : UInt8} (h : WordsJ t i j line) (hc : t[i]? = some c) (hg : isGap c = false) (hr : remB (t.drop i) = false) : t.drop i = stepN j (skipL false t) := by
  rw [← h.rest]
  rw [drop_at hc] at hr ⊢
  rw [skipL, if_neg (by rw [hg]; decide), if_neg (by rw [hr]; decide)]
theorem words_at {t s : List UInt8} {j : Nat} (h : s = stepN j (skipL false t)) (h0 : s ≠ []) : (textW t)[j]? = some (wordL s) ∧ j < (textW t).length ∧ lineN t j = 1 + (nlL t - nlL s) := by
  have hn := norm_skip t false
  have h1 := stepN_words j (skipL false t) hn
  rw [← h] at h1
  have hs : Norm s := by rw [h]; exact stepN_norm _ _ hn
  rw [wordsL_cons hs h0] at h1
  have hlt : j < (textW t).length := by
    by_cases e : j < (textW t).length
    · exact e
    · unfold textW at e
      rw [List.drop_eq_nil_of_le (by omega)] at h1; cases h1
  refine ⟨?_, hlt, ?_⟩
  · unfold textW
    have := List.getElem?_drop (xs := wordsL (skipL false t)) (i := j) (j := 0)
    rw [← h1] at this
    simpa using this.symm
  · unfold lineN lineK
    rw [show (textW t).length - ((textW t).length - j) = j by omega, ← h]
theorem take_words {t : List UInt8} {j : Nat} {w : List UInt8} (h : (textW t)[j]? = some w) : (textW t).take (j + 1) = (textW t).take j ++ [w] := by
  rw [List.take_add_one, h]; rfl
theorem nl_rest {t : List UInt8} {i : Nat} : nlL t - nlL (t.drop i) = nlL (t.take i) := by
  have := congrArg nlL (List.take_append_drop i t)
  unfold nlL at this ⊢
  rw [List.count_append] at this
  omega
/-- a word is taken: w of them, from i to i + w -/
theorem WordsJ.word {t : List UInt8} {i j line : Nat} {c : UInt8} (h : WordsJ t i j line) (hc : t[i]? = some c) (hg : isGap c = false) (hr : remB (t.drop i) = false) :
    (textW t)[j]? = some (wordL (t.drop i)) ∧ lineN t j = line ∧ WordsJ t (i + (wordL (t.drop i)).length) (j + 1) (1 + nlL (t.take (i + (wordL (t.drop i)).length))) := by
  have hh := h.here hc hg hr
  have hne : t.drop i ≠ [] := by rw [drop_at hc]; simp
  obtain ⟨h1, h2, h3⟩ := words_at hh hne
  have hwl := wordL_len (t.drop i)
  have hi : i < t.length := (List.getElem?_eq_some_iff.1 hc).1
  rw [List.length_drop] at hwl
  refine ⟨h1, by rw [h3, h.line, nl_rest], ⟨by omega, h2, ?_, rfl⟩⟩
  rw [stepN_succ, ← hh]
  unfold stepL
  rw [List.drop_drop]
theorem WordsJ.mark {t : List UInt8} {i j line : Nat} {c : UInt8} (h : WordsJ t i j line) (hc : t[i]? = some c) (hm : isMark c = true) (hr : remB (t.drop i) = false) :
    (textW t)[j]? = some [c] ∧ lineN t j = line ∧ WordsJ t (i + 1) (j + 1) line := by
  have hg : isGap c = false := by
    have := byte_all (p := fun c => !(isMark c) || !(isGap c)) (by decide +kernel) c
    rw [hm] at this; simpa using this
  have h10 : c ≠ 10 := by rintro rfl; revert hg; decide
  obtain ⟨h1, h2, h3⟩ := h.word hc hg hr
  have hw : wordL (t.drop i) = [c] := by rw [drop_at hc]; unfold wordL; simp only; rw [if_pos hm]
  rw [hw] at h1 h3
  refine ⟨h1, h2, ?_⟩
  have e : 1 + nlL (t.take (i + [c].length)) = line := by
    rw [List.length_singleton, take_snoc hc, nl_snoc, if_neg h10, h.line, Nat.add_zero]
  rw [e] at h3
  exact h3
/-- within a word that began at i0 -/
structure RunJ (t : List UInt8) (i0 i : Nat) : Prop where
  le : i ≤ t.length
  ge : i0 ≤ i
  run : ∀ k, i0 ≤ k → k < i → ∃ c, t[k]? = some c ∧ isGap c = false ∧ isMark c = false ∧ remB (t.drop k) = false
theorem run_len : ∀ (s : List UInt8) (n : Nat), (∀ k, k < n → ∃ c, s[k]? = some c ∧ isGap c = false ∧ isMark c = false ∧ remB (s.drop k) = false) → (s[n]? = none ∨ ∃ c, s[n]? = some c ∧ (isGap c = true ∨ isMark c = true ∨ remB (s.drop n) = true)) → n ≤ s.length → runL s = s.take n
  | [], n, _, _, hn => by
    have : n = 0 := by simpa using hn
    subst this; rfl
  | c :: r, 0, _, h, _ => by
    rcases h with h | ⟨d, hd, h⟩
    · cases h
    · cases hd
      rw [runL_cons, if_pos (by rcases h with h | h | h <;> simp_all)]; rfl
  | c :: r, n + 1, hk, h, hn => by
    obtain ⟨d, hd, h1, h2, h3⟩ := hk 0 (by omega)
    cases hd
    rw [List.drop_zero] at h3
    rw [runL_cons, if_neg (by rw [h1, h2, h3]; decide), run_len r n (fun k hkn => by
      have := hk (k + 1) (by omega)
      simpa using this) (by simpa using h) (by simpa using hn)]
    rfl
theorem RunJ.done {t : List UInt8} {i0 i : Nat} {c : UInt8} (h : RunJ t i0 i) (hm : t[i0]? = some c) (hmk : isMark c = false) (he : t[i]? = none ∨ ∃ c, t[i]? = some c ∧ (isGap c = true ∨ isMark c = true ∨ remB (t.drop i) = true)) :
    wordL (t.drop i0) = (t.take i).drop i0 ∧ (wordL (t.drop i0)).length = i - i0 := by
  have hge := h.ge
  have hle := h.le
  have e : runL (t.drop i0) = (t.drop i0).take (i - i0) := by
    refine run_len _ _ (fun k hk => ?_) ?_ (by rw [List.length_drop]; omega)
    · obtain ⟨d, h1, h2, h3, h4⟩ := h.run (i0 + k) (by omega) (by omega)
      exact ⟨d, by rw [List.getElem?_drop]; exact h1, h2, h3, by rw [List.drop_drop]; exact h4⟩
    · rw [List.getElem?_drop, List.drop_drop, show i0 + (i - i0) = i by omega]
      exact he
  have hw : wordL (t.drop i0) = runL (t.drop i0) := by
    rw [drop_at hm]; unfold wordL; simp only; rw [if_neg (by rw [hmk]; decide)]
  rw [hw, e]
  refine ⟨by rw [List.drop_take], ?_⟩
  rw [List.length_take, List.length_drop]; omega
end Go.Pantry
namespace Go.Pantry
open Go.RowKit
theorem wordsF_all : ∀ (n : Nat) (s : List UInt8), (wordsF n s).length ≤ n
  | 0, s => Nat.le_refl _
  | n + 1, s => by
    rw [wordsF]; split
    · simp
    · rw [List.length_cons]; have := wordsF_all n (stepL s); omega
theorem wordsL_all (t : List UInt8) : (textW t).length ≤ t.length := Nat.le_trans (wordsF_all _ _) (skipL_le t false)
end Go.Pantry
namespace Go.Pantry
open Go.RowKit
theorem RunJ.start {t : List UInt8} {i : Nat} (h : i ≤ t.length) : RunJ t i i := ⟨h, Nat.le_refl _, fun k h1 h2 => by omega⟩
theorem RunJ.next {t : List UInt8} {i0 i : Nat} {c : UInt8} (h : RunJ t i0 i) (hc : t[i]? = some c) (hg : isGap c = false) (hm : isMark c = false) (hr : remB (t.drop i) = false) : RunJ t i0 (i + 1) := by
  have hi : i < t.length := (List.getElem?_eq_some_iff.1 hc).1
  refine ⟨hi, Nat.le_succ_of_le h.ge, fun k h1 h2 => ?_⟩
  by_cases e : k = i
  · subst e; exact ⟨c, hc, hg, hm, hr⟩
  · exact h.run k h1 (by omega)
theorem RunJ.nl {t : List UInt8} {i0 : Nat} : ∀ (d : Nat) {i : Nat}, RunJ t i0 i → i = i0 + d → nlL (t.take i) = nlL (t.take i0)
  | 0, i, h, e => by rw [e]; rfl
  | d + 1, i, h, e => by
    obtain ⟨c, hc, hg, _, _⟩ := h.run (i0 + d) (by omega) (by omega)
    have h2 : RunJ t i0 (i0 + d) := ⟨by have := h.le; omega, by omega, fun k h1 h2 => h.run k h1 (by omega)⟩
    have h10 : c ≠ 10 := by rintro rfl; revert hg; decide
    rw [show i = (i0 + d) + 1 by omega, take_snoc hc, nl_snoc, if_neg h10, Nat.add_zero]
    exact RunJ.nl d h2 rfl
end Go.Pantry
