/-
  Configs: the plain mathematics of layer 9: words of a text, their lines, and how a config is read. No program is imported.
-/
import Derived.Test.YtffenndchmcncaaGreatDoorPurePlace
namespace Go.Pantry
open Go.RowKit

def isGap (c : UInt8) : Bool := c == 32 || c == 9 || c == 10
def isMark (c : UInt8) : Bool := c == 123 || c == 125 || c == 59
/-- does a remark begin there? -/
def remB (s : List UInt8) : Bool := ([47, 47] : List UInt8).isPrefixOf s
/-- without what parts words at the beginning; true: within a remark -/
def skipL : Bool → List UInt8 → List UInt8
  | _, [] => []
  | true, c :: r => if c == 10 then skipL false r else skipL true r
  | false, c :: r => if isGap c then skipL false r else if remB (c :: r) then skipL true r else c :: r
/-- up to what ends a word -/
def runL : List UInt8 → List UInt8
  | [] => []
  | c :: r => if isGap c || isMark c || remB (c :: r) then [] else c :: runL r
/-- the word that a text begins with -/
def wordL (s : List UInt8) : List UInt8 := match s with
  | [] => []
  | c :: r => if isMark c then [c] else runL (c :: r)
def stepL (s : List UInt8) : List UInt8 := skipL false (s.drop (wordL s).length)
def wordsF : Nat → List UInt8 → List (List UInt8)
  | 0, _ => []
  | k + 1, s => if s.isEmpty then [] else wordL s :: wordsF k (stepL s)
/-- the words of a text that begins with one, or is empty -/
def wordsL (s : List UInt8) : List (List UInt8) := wordsF s.length s
def textW (t : List UInt8) : List (List UInt8) := wordsL (skipL false t)
def nlL (s : List UInt8) : Nat := s.count 10
def stepN : Nat → List UInt8 → List UInt8
  | 0, s => s
  | j + 1, s => stepN j (stepL s)
/-- the line of the word behind which k - 1 more stand -/
def lineK (t : List UInt8) (k : Nat) : Nat := 1 + (nlL t - nlL (stepN ((textW t).length - k) (skipL false t)))

theorem skipL_le : ∀ (s : List UInt8) (b : Bool), (skipL b s).length ≤ s.length
  | [], b => by cases b <;> simp [skipL]
  | c :: r, true => by
    rw [skipL]; split
    · exact Nat.le_succ_of_le (skipL_le r false)
    · exact Nat.le_succ_of_le (skipL_le r true)
  | c :: r, false => by
    rw [skipL]; split
    · exact Nat.le_succ_of_le (skipL_le r false)
    · split
      · exact Nat.le_succ_of_le (skipL_le r true)
      · exact Nat.le_refl _
theorem skipL_suffix : ∀ (s : List UInt8) (b : Bool), skipL b s <:+ s
  | [], b => by cases b <;> simp [skipL]
  | c :: r, true => by
    rw [skipL]; split
    · exact (skipL_suffix r false).trans (List.suffix_cons _ _)
    · exact (skipL_suffix r true).trans (List.suffix_cons _ _)
  | c :: r, false => by
    rw [skipL]; split
    · exact (skipL_suffix r false).trans (List.suffix_cons _ _)
    · split
      · exact (skipL_suffix r true).trans (List.suffix_cons _ _)
      · exact List.suffix_refl _
theorem skipL_idem : ∀ (s : List UInt8) (b : Bool), skipL false (skipL b s) = skipL b s
  | [], b => by cases b <;> simp [skipL]
  | c :: r, true => by
    rw [skipL]; split
    · exact skipL_idem r false
    · exact skipL_idem r true
  | c :: r, false => by
    rw [skipL]; split
    · exact skipL_idem r false
    · split
      · exact skipL_idem r true
      · rename_i h1 h2; rw [skipL, if_neg h1, if_neg h2]
/-- nothing that parts words stands at the beginning -/
def Norm (s : List UInt8) : Prop := skipL false s = s
theorem norm_skip (s : List UInt8) (b : Bool) : Norm (skipL b s) := skipL_idem s b
theorem norm_step (s : List UInt8) : Norm (stepL s) := norm_skip _ _
theorem norm_cons {c : UInt8} {r : List UInt8} (h : Norm (c :: r)) : isGap c = false ∧ remB (c :: r) = false := by
  unfold Norm at h
  rw [skipL] at h
  by_cases h1 : isGap c = true
  · rw [if_pos h1] at h
    have := skipL_le r false
    rw [h, List.length_cons] at this; omega
  · rw [if_neg h1] at h
    by_cases h2 : remB (c :: r) = true
    · rw [if_pos h2] at h
      have := skipL_le r true
      rw [h, List.length_cons] at this; omega
    · exact ⟨by simpa using h1, by simpa using h2⟩
theorem wordL_ne {c : UInt8} {r : List UInt8} (h : Norm (c :: r)) : wordL (c :: r) ≠ [] := by
  obtain ⟨h1, h2⟩ := norm_cons h
  unfold wordL
  simp only
  split
  · simp
  · rename_i h3
    rw [runL, h1, h2]
    simp [h3]
theorem runL_prefix : ∀ s : List UInt8, runL s <+: s
  | [] => by simp [runL]
  | c :: r => by
    rw [runL]; split
    · exact List.nil_prefix
    · exact (List.prefix_cons_inj c).2 (runL_prefix r)
theorem wordL_prefix (s : List UInt8) : wordL s <+: s := by
  unfold wordL
  cases s with
  | nil => exact List.nil_prefix
  | cons c r =>
    simp only
    split
    · exact ⟨r, rfl⟩
    · exact runL_prefix _
theorem wordL_len (s : List UInt8) : (wordL s).length ≤ s.length := (wordL_prefix s).length_le
theorem stepL_suffix (s : List UInt8) : stepL s <:+ s := (skipL_suffix _ _).trans (List.drop_suffix _ _)
theorem stepL_lt {s : List UInt8} (h : Norm s) (h0 : s ≠ []) : (stepL s).length < s.length := by
  cases s with
  | nil => exact absurd rfl h0
  | cons c r =>
    have h1 := wordL_ne h
    have h2 := skipL_le ((c :: r).drop (wordL (c :: r)).length) false
    have h3 : 0 < (wordL (c :: r)).length := List.length_pos_iff.2 h1
    rw [List.length_drop] at h2
    unfold stepL
    simp only [List.length_cons] at h2 ⊢
    omega
theorem wordsF_fuel : ∀ (k m : Nat) (s : List UInt8), Norm s → s.length ≤ k → s.length ≤ m → wordsF k s = wordsF m s
  | 0, m, s, _, hk, _ => by
    have : s = [] := List.eq_nil_of_length_eq_zero (by omega)
    subst this
    cases m <;> rfl
  | k + 1, m, s, hn, hk, hm => by
    by_cases h0 : s = []
    · subst h0; cases m <;> rfl
    · cases m with
      | zero => exact absurd (List.eq_nil_of_length_eq_zero (by omega)) h0
      | succ m =>
        have h1 : s.isEmpty = false := by cases s <;> simp_all
        have h2 := stepL_lt hn h0
        rw [wordsF, wordsF, h1, wordsF_fuel k m (stepL s) (norm_step s) (by omega) (by omega)]
theorem wordsL_nil : wordsL [] = [] := rfl
theorem wordsL_cons {s : List UInt8} (h : Norm s) (h0 : s ≠ []) : wordsL s = wordL s :: wordsL (stepL s) := by
  have h2 := stepL_lt h h0
  have h1 : s.isEmpty = false := by cases s <;> simp_all
  unfold wordsL
  obtain ⟨n, hn⟩ : ∃ n, s.length = n + 1 := ⟨s.length - 1, by have := List.length_pos_iff.2 h0; omega⟩
  rw [hn, wordsF, h1, wordsF_fuel n (stepL s).length (stepL s) (norm_step s) (by omega) (Nat.le_refl _)]
  rfl
theorem stepL_nil : stepL [] = [] := rfl
theorem wordsL_step {s : List UInt8} (h : Norm s) : wordsL (stepL s) = (wordsL s).tail := by
  by_cases h0 : s = []
  · subst h0; rfl
  · rw [wordsL_cons h h0]; rfl
theorem wordsL_head {s : List UInt8} (h : Norm s) : (wordsL s).headD [] = wordL s := by
  by_cases h0 : s = []
  · subst h0; rfl
  · rw [wordsL_cons h h0]; rfl
theorem words_ne : ∀ (n : Nat) (s : List UInt8), s.length ≤ n → Norm s → ∀ w ∈ wordsL s, w ≠ []
  | n, s, hl, hn, w, hw => by
    by_cases h0 : s = []
    · subst h0; cases hw
    · rw [wordsL_cons hn h0] at hw
      rcases List.mem_cons.1 hw with e | e
      · subst e
        cases s with
        | nil => exact absurd rfl h0
        | cons c r => exact wordL_ne hn
      · have h2 := stepL_lt hn h0
        cases n with
        | zero => exact absurd (List.eq_nil_of_length_eq_zero (by omega)) h0
        | succ n => exact words_ne n (stepL s) (by omega) (norm_step s) w e
theorem stepN_succ : ∀ (j : Nat) (s : List UInt8), stepN (j + 1) s = stepL (stepN j s)
  | 0, s => rfl
  | j + 1, s => by rw [stepN, stepN_succ j (stepL s)]; rfl
theorem stepN_norm : ∀ (j : Nat) (s : List UInt8), Norm s → Norm (stepN j s)
  | 0, s, h => h
  | j + 1, s, h => by rw [stepN_succ]; exact norm_step _
theorem stepN_words : ∀ (j : Nat) (s : List UInt8), Norm s → wordsL (stepN j s) = (wordsL s).drop j
  | 0, s, h => by simp [stepN]
  | j + 1, s, h => by
    rw [stepN_succ, wordsL_step (stepN_norm j s h), stepN_words j s h, List.tail_drop]
theorem stepN_suffix : ∀ (j : Nat) (s : List UInt8), stepN j s <:+ s
  | 0, s => List.suffix_refl _
  | j + 1, s => by rw [stepN_succ]; exact (stepL_suffix _).trans (stepN_suffix j s)
theorem wordsL_empty {s : List UInt8} (h : Norm s) (he : wordsL s = []) : s = [] := by
  by_cases h0 : s = []
  · exact h0
  · rw [wordsL_cons h h0] at he; cases he
/-- a place in a text at which a word begins, or its end -/
def Spot (t s : List UInt8) : Prop := ∃ j, s = stepN j (skipL false t)
theorem place_start (t : List UInt8) : Spot t (skipL false t) := ⟨0, rfl⟩
theorem Spot.step {t s : List UInt8} (h : Spot t s) : Spot t (stepL s) := by
  obtain ⟨j, rfl⟩ := h
  exact ⟨j + 1, (stepN_succ _ _).symm⟩
theorem Spot.norm {t s : List UInt8} (h : Spot t s) : Norm s := by
  obtain ⟨j, rfl⟩ := h
  exact stepN_norm _ _ (norm_skip _ _)
theorem Spot.suffix {t s : List UInt8} (h : Spot t s) : s <:+ t := by
  obtain ⟨j, rfl⟩ := h
  exact (stepN_suffix _ _).trans (skipL_suffix _ _)
theorem stepN_nil : ∀ j : Nat, stepN j [] = []
  | 0 => rfl
  | j + 1 => by rw [stepN, stepL_nil]; exact stepN_nil j
theorem stepN_over {j : Nat} {s : List UInt8} (h : Norm s) (hj : (wordsL s).length ≤ j) : stepN j s = [] :=
  wordsL_empty (stepN_norm _ _ h) (by rw [stepN_words _ _ h]; exact List.drop_eq_nil_of_le hj)
theorem Spot.line {t s : List UInt8} (h : Spot t s) : lineK t (wordsL s).length = 1 + (nlL t - nlL s) := by
  obtain ⟨j, rfl⟩ := h
  unfold lineK textW
  rw [stepN_words _ _ (norm_skip t false), List.length_drop]
  have hn := norm_skip t false
  by_cases hj : j ≤ (wordsL (skipL false t)).length
  · rw [show (wordsL (skipL false t)).length - ((wordsL (skipL false t)).length - j) = j by omega]
  · rw [show (wordsL (skipL false t)).length - ((wordsL (skipL false t)).length - j) = (wordsL (skipL false t)).length by omega, stepN_over hn (Nat.le_refl _), stepN_over hn (show (wordsL (skipL false t)).length ≤ j by omega)]
theorem suffix_take {t s : List UInt8} (h : s <:+ t) : t = t.take (t.length - s.length) ++ s ∧ t.drop (t.length - s.length) = s := by
  obtain ⟨a, rfl⟩ := h
  rw [List.length_append, show a.length + s.length - s.length = a.length by omega, List.take_left, List.drop_left]
  exact ⟨rfl, rfl⟩
theorem nl_take {t s : List UInt8} (h : s <:+ t) : nlL (t.take (t.length - s.length)) = nlL t - nlL s := by
  have h1 := congrArg nlL (suffix_take h).1
  unfold nlL at h1 ⊢
  rw [List.count_append] at h1
  omega
theorem lineK_pos (t : List UInt8) (k : Nat) : 0 < lineK t k := by unfold lineK; omega
theorem lineK_le (t : List UInt8) (k : Nat) : lineK t k ≤ 1 + t.length := by
  unfold lineK nlL
  have := List.count_le_length (a := (10 : UInt8)) (l := t)
  omega

/-- how far a reader is: the first fault's code (nought: none), how many words stood at it, and the words to come -/
structure Ps where
  code : Nat
  pos : Nat
  ws : List (List UInt8)
structure SiteM where
  host : List UInt8
  origin : Nat
  min : Nat
  max : Nat
  query : Bool
  keep : Bool
  heads : List (List UInt8)
deriving DecidableEq
def wPath : List UInt8 := [112, 97, 116, 104]
def wQuery : List UInt8 := [113, 117, 101, 114, 121]
def wHeader : List UInt8 := [104, 101, 97, 100, 101, 114]
def wSite : List UInt8 := [115, 105, 116, 101]
def wOrigin : List UInt8 := [111, 114, 105, 103, 105, 110]
def wTtl : List UInt8 := [116, 116, 108]
def wKey : List UInt8 := [107, 101, 121]
def wKeep : List UInt8 := [107, 101, 101, 112]
def wOn : List UInt8 := [111, 110]
def wOff : List UInt8 := [111, 102, 102]
def hdW (p : Ps) : List UInt8 := p.ws.headD []
def chk (b : Bool) (c : Nat) (p : Ps) : Ps := if b || p.code != 0 then p else ⟨c, p.ws.length, p.ws⟩
def stp (p : Ps) : Ps := ⟨p.code, p.pos, p.ws.tail⟩
def expM (w : List UInt8) (p : Ps) : Ps := stp (chk (hdW p == w) 30 p)
def onceM (seen : List (List UInt8)) (p : Ps) : Ps := stp (chk (!(seen.contains (hdW p))) 31 p)
def okD (w : List UInt8) : Bool := w.all isDig && !w.isEmpty && decide (w.length ≤ 10)
def valD (w : List UInt8) : Nat := if okD w then valL w else 0
def numM (lo hi : Nat) (p : Ps) : Ps := stp (chk (decide (lo ≤ valD (hdW p)) && decide (valD (hdW p) ≤ hi)) 11 (chk (okD (hdW p)) 30 p))
/-- is the first text below the second? -/
abbrev ltL (a b : List UInt8) : Bool := Op.bytesLess a b
def nameOk (n : List UInt8) : Bool := tokenL n && lowerL n == n && decide (n.length ≤ 64)
def mayM (heads : List (List UInt8)) (n : List UInt8) : Bool := nameOk n && (match heads.getLast? with | none => true | some l => ltL l n)
def nameM (heads : List (List UInt8)) (p : Ps) : Ps := stp (chk (decide (heads.length < 4)) 32 (chk (mayM heads (hdW p)) 30 p))
/-- one of a key's words -/
def keyR (s : SiteM) (p : Ps) : SiteM × Ps :=
  if hdW p == wQuery then ({ s with query := true }, stp (chk (!s.query) 30 p))
  else if hdW p == wHeader then ({ s with heads := s.heads ++ [hdW (stp p)] }, nameM s.heads (stp p))
  else (s, chk false 30 p)
def keyGo (p : Ps) : Bool := p.code == 0 && hdW p != [59]
def keyF : Nat → SiteM → Ps → SiteM × Ps
  | 0, s, p => (s, p)
  | k + 1, s, p => if keyGo p then keyF k (keyR s p).1 (keyR s p).2 else (s, p)
def meas (p : Ps) : Nat := if p.code == 0 then p.ws.length + 1 else 0
def keyM (s : SiteM) (p : Ps) : SiteM × Ps := keyF (meas (expM wPath p)) { s with query := false } (expM wPath p)
def ttlM (s : SiteM) (p : Ps) : SiteM × Ps :=
  ({ s with min := valD (hdW p), max := valD (hdW (numM 0 2147483648 p)) }, numM (valD (hdW p)) 2147483648 (numM 0 2147483648 p))
def originM (s : SiteM) (p : Ps) : SiteM × Ps := ({ s with origin := valD (hdW p) }, numM 1 9 p)
def keepM (s : SiteM) (p : Ps) : SiteM × Ps := ({ s with keep := hdW p == wOn }, stp (chk (hdW p == wOn || hdW p == wOff) 30 p))
def isRule (w : List UInt8) : Bool := w == wOrigin || w == wTtl || w == wKey || w == wKeep
def kindM (w : List UInt8) (s : SiteM) (p : Ps) : SiteM × Ps :=
  if w == wOrigin then originM s p else if w == wTtl then ttlM s p else if w == wKey then keyM s p else keepM s p
/-- a rule; the second: what has been seen -/
def ruleM (s : SiteM) (seen : List (List UInt8)) (p : Ps) : SiteM × List (List UInt8) × Ps :=
  if isRule (hdW p) then ((kindM (hdW p) s (onceM seen p)).1, hdW p :: seen, expM [59] (kindM (hdW p) s (onceM seen p)).2)
  else (s, seen, chk false 30 p)
def ruleGo (p : Ps) : Bool := p.code == 0 && hdW p != [125]
def ruleF : Nat → SiteM → List (List UInt8) → Ps → SiteM × Ps
  | 0, s, _, p => (s, p)
  | k + 1, s, seen, p => if ruleGo p then ruleF k (ruleM s seen p).1 (ruleM s seen p).2.1 (ruleM s seen p).2.2 else (s, p)
def ownH (h : List UInt8) : Bool := hostL h == some h
def site0 (h : List UInt8) : SiteM := ⟨h, 1, 0, 3600, true, true, []⟩
def headM (hosts : List (List UInt8)) (p : Ps) : Ps := expM [123] (onceM hosts (chk (ownH (hdW p)) 30 p))
def siteM (hosts : List (List UInt8)) (p : Ps) : SiteM × Ps :=
  ((ruleF (meas (headM hosts p)) (site0 (hdW p)) [] (headM hosts p)).1, expM [125] (ruleF (meas (headM hosts p)) (site0 (hdW p)) [] (headM hosts p)).2)
def cfgGo (p : Ps) : Bool := p.code == 0 && hdW p != []
def atSite (n : Nat) (p : Ps) : Ps := stp (chk (decide (n < 8)) 32 (chk (hdW p == wSite) 30 p))
def cfgF : Nat → List SiteM → List (List UInt8) → Ps → List SiteM × Ps
  | 0, c, _, p => (c, p)
  | k + 1, c, hosts, p => if cfgGo p then cfgF k (c ++ [(siteM hosts (atSite c.length p)).1]) (hdW (atSite c.length p) :: hosts) (siteM hosts (atSite c.length p)).2 else (c, p)
def ps0 (t : List UInt8) : Ps := ⟨0, 0, textW t⟩
def cfgM (t : List UInt8) : List SiteM × Ps := cfgF (meas (ps0 t)) [] [] (ps0 t)
/-- the config, the fault's code and its line -/
def readM (t : List UInt8) : List SiteM × Nat × Nat :=
  if 4096 < t.length then ([], 32, 1)
  else if (cfgM t).2.code = 0 then ((cfgM t).1, 0, 0) else ([], (cfgM t).2.code, lineK t (cfgM t).2.pos)
end Go.Pantry
