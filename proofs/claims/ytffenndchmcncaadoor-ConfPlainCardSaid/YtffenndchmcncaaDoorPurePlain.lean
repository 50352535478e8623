/-
  Configs: a right config's plain text, that it is read as it, and that what is read is right. No program is imported.
-/
import Derived.Test.YtffenndchmcncaaDoorPurePlan
import Derived.Test.YtffenndchmcncaaDoorPureRows
namespace Go.Pantry
open Go.RowKit

/-- a word without what ends one -/
def PW (w : List UInt8) : Prop := w ≠ [] ∧ ∀ c ∈ w, isGap c = false ∧ isMark c = false ∧ c ≠ 47
theorem rem_not47 {c : UInt8} (r : List UInt8) (h : c ≠ 47) : remB (c :: r) = false := by
  unfold remB
  rw [List.isPrefixOf]
  have : ((47 : UInt8) == c) = false := by simpa using Ne.symm h
  rw [this]; rfl
theorem run_pw : ∀ w : List UInt8, (∀ c ∈ w, isGap c = false ∧ isMark c = false ∧ c ≠ 47) → runL w = w
  | [], _ => rfl
  | c :: r, h => by
    obtain ⟨h1, h2, h3⟩ := h c (List.mem_cons_self ..)
    rw [runL_cons, h1, h2, rem_not47 r h3, run_pw r (fun d hd => h d (List.mem_cons_of_mem _ hd))]
    rfl
theorem PW.word {w : List UInt8} (h : PW w) : wordL w = w := by
  obtain ⟨c, r, rfl⟩ := List.exists_cons_of_ne_nil h.1
  obtain ⟨h1, h2, h3⟩ := h.2 c (List.mem_cons_self ..)
  unfold wordL
  simp only
  rw [h2, run_pw _ h.2]
  rfl
theorem PW.norm {w : List UInt8} (h : PW w) (r : List UInt8) : Norm (w ++ r) := by
  obtain ⟨c, t, rfl⟩ := List.exists_cons_of_ne_nil h.1
  obtain ⟨h1, h2, h3⟩ := h.2 c (List.mem_cons_self ..)
  unfold Norm
  rw [List.cons_append, skipL, h1, rem_not47 _ h3]
  rfl
theorem mark_not47 {d : UInt8} (h : isMark d = true) : d ≠ 47 := by rintro rfl; revert h; decide
theorem mark_nogap {d : UInt8} (h : isMark d = true) : isGap d = false := by
  unfold isMark at h
  simp only [Bool.or_eq_true, beq_iff_eq] at h
  rcases h with (rfl | rfl) | rfl <;> decide
theorem gap_ne47 {g : UInt8} (h : isGap g = true) : g ≠ 47 := by rintro rfl; revert h; decide
theorem ends_not47 {d : UInt8} (h : isGap d = true ∨ isMark d = true) : d ≠ 47 := h.elim (fun h => gap_ne47 h) mark_not47
theorem text_word {w : List UInt8} (h : PW w) {d : UInt8} (hd : isGap d = true ∨ isMark d = true) (r : List UInt8) : textW (w ++ d :: r) = w :: textW (d :: r) := by
  have hw : wordL (w ++ d :: r) = w := by rw [word_app hd (ends_not47 hd) h.1, h.word]
  unfold textW
  rw [show skipL false (w ++ d :: r) = w ++ d :: r from h.norm _, wordsL_cons (h.norm _) (by simp [h.1]), hw]
  congr 1
  unfold stepL
  rw [hw, List.drop_left]
theorem text_gap {g : UInt8} (h : isGap g = true) (r : List UInt8) : textW (g :: r) = textW r := by unfold textW; rw [skip_gap h]
theorem text_mark {d : UInt8} (h : isMark d = true) (r : List UInt8) : textW (d :: r) = [d] :: textW r := by
  have hn : Norm (d :: r) := by
    unfold Norm
    rw [skipL, mark_nogap h, rem_not47 r (mark_not47 h)]
    rfl
  have hw : wordL (d :: r) = [d] := by unfold wordL; simp only; rw [if_pos h]
  unfold textW
  rw [show skipL false (d :: r) = d :: r from hn, wordsL_cons hn (by simp), hw]
  congr 1
  unfold stepL
  rw [hw]
  rfl
theorem text_nil : textW [] = [] := rfl

/-- a number's digits -/
def decZ (n : Int) : List UInt8 := digF 11 n.toNat
def onW (b : Bool) : List UInt8 := if b then wOn else wOff
/-- headers of a key, and what stands behind -/
def headsT : List (List UInt8) → List UInt8 → List UInt8
  | [], r => r
  | h :: hs, r => 32 :: (wHeader ++ 32 :: (h ++ headsT hs r))
def queryT (b : Bool) (r : List UInt8) : List UInt8 := if b then 32 :: (wQuery ++ r) else r
/-- a site's plain text, and what stands behind -/
def plainR (s : SiteZ) (r : List UInt8) : List UInt8 :=
  wSite ++ 32 :: (s.host ++ 32 :: 123 :: 10 :: 32 :: 32 :: (wOrigin ++ 32 :: (decZ s.origin ++ 59 :: 10 :: 32 :: 32 :: (wTtl ++ 32 :: (decZ s.min ++ 32 :: (decZ s.max ++ 59 :: 10 :: 32 :: 32 :: (wKey ++ 32 :: (wPath ++ queryT s.query (headsT s.heads (59 :: 10 :: 32 :: 32 :: (wKeep ++ 32 :: (onW s.keep ++ 59 :: 10 :: 125 :: 10 :: r))))))))))))
def plainS (s : SiteZ) : List UInt8 := plainR s []
def plainC (C : List SiteZ) : List UInt8 := C.flatMap plainS
theorem headsT_app (hs : List (List UInt8)) (r t : List UInt8) : headsT hs r ++ t = headsT hs (r ++ t) := by
  induction hs with
  | nil => rfl
  | cons h hs ih => simp only [headsT, List.cons_append, List.append_assoc, ih]
theorem queryT_app (b : Bool) (r t : List UInt8) : queryT b r ++ t = queryT b (r ++ t) := by cases b <;> simp [queryT]
theorem plainR_app (s : SiteZ) (r t : List UInt8) : plainR s r ++ t = plainR s (r ++ t) := by
  simp only [plainR, List.cons_append, List.append_assoc, headsT_app, queryT_app]
theorem plainS_app (s : SiteZ) (r : List UInt8) : plainS s ++ r = plainR s r := by unfold plainS; rw [plainR_app]; rfl
/-- a site's words behind its host -/
def siteWs (s : SiteZ) : List (List UInt8) :=
  [123] :: wOrigin :: decZ s.origin :: [59] :: wTtl :: decZ s.min :: decZ s.max :: [59] :: wKey :: wPath :: ((if s.query then [wQuery] else []) ++ (s.heads.flatMap (fun h => [wHeader, h]) ++ [[59], wKeep, onW s.keep, [59], [125]]))
theorem pw_const {w : List UInt8} (h : (!w.isEmpty && w.all fun c => !isGap c && !isMark c && c != 47) = true) : PW w := by
  rw [Bool.and_eq_true] at h
  refine ⟨by rintro rfl; simp at h, fun c hc => ?_⟩
  have := List.all_eq_true.1 h.2 c hc
  simpa [and_assoc] using this
theorem pw_all {w : List UInt8} {p : UInt8 → Bool} (hp : ∀ c, p c = true → isGap c = false ∧ isMark c = false ∧ c ≠ 47) (h0 : w ≠ []) (h : w.all p = true) : PW w := ⟨h0, fun c hc => hp c (List.all_eq_true.1 h c hc)⟩
theorem byte_imp (p q : UInt8 → Bool) (h : (List.range 256).all (fun n => !p n.toUInt8 || q n.toUInt8) = true) (c : UInt8) (hc : p c = true) : q c = true := by
  have h1 := List.all_eq_true.1 h c.toNat (List.mem_range.2 c.toNat_lt)
  have e : c.toNat.toUInt8 = c := by simp
  rw [e, hc] at h1
  simpa using h1
def okB (c : UInt8) : Bool := !isGap c && !isMark c && c != 47
theorem okB_of {c : UInt8} (h : okB c = true) : isGap c = false ∧ isMark c = false ∧ c ≠ 47 := by
  unfold okB at h
  simpa [and_assoc] using h
theorem pw_dec (n : Int) : PW (decZ n) := pw_all (fun c hc => okB_of (byte_imp isDig okB (by decide +kernel) c hc)) (digF_ne 10 _) (digF_all 11 _)
theorem pw_tok {h : List UInt8} (ht : tokenL h = true) : PW h := by
  unfold tokenL at ht
  rw [Bool.and_eq_true] at ht
  refine pw_all (fun c hc => okB_of (byte_imp isTok okB (by decide +kernel) c hc)) ?_ ht.1
  rintro rfl
  simp at ht
def isHostB (c : UInt8) : Bool := isHC c || isDig c || c == 58
theorem pw_host {h : List UInt8} (ho : ownH h = true) : PW h := by
  refine ⟨ownH_ne ho, fun c hc => ?_⟩
  refine okB_of (byte_imp isHostB okB (by decide +kernel) c ?_)
  have hl : hostL h = some h := by unfold ownH at ho; simpa using ho
  unfold hostL at hl
  split at hl
  · cases hl
  · rename_i h1
    have hall : (bef 58 h).all isHC = true := by
      cases e : (bef 58 h).all isHC with
      | true => rfl
      | false => exact absurd (.inr (.inr e)) h1
    have hb : ∀ d ∈ bef 58 h, isHostB d = true := fun d hd => by
      have := List.all_eq_true.1 hall d hd
      unfold isHostB; rw [this]; rfl
    rcases bef_cases 58 h with ⟨_, e1, _, _⟩ | ⟨a, b, _, e1, e2, e3, _⟩
    · rw [e1] at hb; exact hb c hc
    · rw [e2] at hb
      rw [e3] at hl
      rw [e1] at hc
      rcases List.mem_append.1 hc with hc | hc
      · exact hb c hc
      · rcases List.mem_cons.1 hc with rfl | hc
        · decide
        · split at hl
          · rename_i hb0
            rw [hb0] at hc
            cases hc
          · split at hl
            · cases hl
            · rename_i h2
              have hd : b.all isDig = true := by
                cases e : b.all isDig with
                | true => rfl
                | false => exact absurd (.inr e) h2
              have := List.all_eq_true.1 hd c hc
              unfold isHostB; rw [this]; simp
theorem text_heads (hs : List (List UInt8)) (hp : ∀ h ∈ hs, PW h) (r : List UInt8) : textW (headsT hs (59 :: r)) = hs.flatMap (fun h => [wHeader, h]) ++ textW (59 :: r) := by
  induction hs with
  | nil => rfl
  | cons h hs ih =>
    have hh : PW wHeader := pw_const (by decide)
    obtain ⟨d, t, hd, ht⟩ : ∃ d t, (isGap d = true ∨ isMark d = true) ∧ headsT hs (59 :: r) = d :: t := by
      cases hs with
      | nil => exact ⟨59, r, .inr (by decide), rfl⟩
      | cons k hs => exact ⟨32, _, .inl (by decide), rfl⟩
    rw [headsT, text_gap (by decide), text_word hh (.inl (by decide)), text_gap (by decide), ht, text_word (hp h (List.mem_cons_self ..)) hd, ← ht, ih (fun k hk => hp k (List.mem_cons_of_mem _ hk)), List.flatMap_cons]
    rfl
theorem text_plain (s : SiteZ) (ho : ownH s.host = true) (hp : ∀ h ∈ s.heads, PW h) (r : List UInt8) : textW (plainR s r) = wSite :: s.host :: (siteWs s ++ textW r) := by
  have c1 : PW wSite := pw_const (by decide)
  have c2 : PW wOrigin := pw_const (by decide)
  have c3 : PW wTtl := pw_const (by decide)
  have c4 : PW wKey := pw_const (by decide)
  have c5 : PW wPath := pw_const (by decide)
  have c6 : PW wKeep := pw_const (by decide)
  have c7 : PW wQuery := pw_const (by decide)
  have c8 : PW (onW s.keep) := by cases s.keep <;> exact pw_const (by decide)
  have hg : isGap 32 = true := by decide
  have hg1 : isGap 10 = true := by decide
  have hm1 : isMark 59 = true := by decide
  have hm2 : isMark 123 = true := by decide
  have hm3 : isMark 125 = true := by decide
  have tail : ∀ u : List UInt8, textW (59 :: 10 :: 32 :: 32 :: (wKeep ++ 32 :: (onW s.keep ++ 59 :: 10 :: 125 :: 10 :: u))) = [59] :: wKeep :: onW s.keep :: [59] :: [125] :: textW u := fun u => by
    rw [text_mark hm1, text_gap hg1, text_gap hg, text_gap hg, text_word c6 (.inl hg), text_gap hg, text_word c8 (.inr hm1), text_mark hm1, text_gap hg1, text_mark hm3, text_gap hg1]
  have mid : textW (wPath ++ queryT s.query (headsT s.heads (59 :: 10 :: 32 :: 32 :: (wKeep ++ 32 :: (onW s.keep ++ 59 :: 10 :: 125 :: 10 :: r))))) =
      wPath :: ((if s.query then [wQuery] else []) ++ (s.heads.flatMap (fun h => [wHeader, h]) ++ ([59] :: wKeep :: onW s.keep :: [59] :: [125] :: textW r))) := by
    obtain ⟨d, t, hd, ht⟩ : ∃ d t, (isGap d = true ∨ isMark d = true) ∧ headsT s.heads (59 :: 10 :: 32 :: 32 :: (wKeep ++ 32 :: (onW s.keep ++ 59 :: 10 :: 125 :: 10 :: r))) = d :: t := by
      cases s.heads with
      | nil => exact ⟨59, _, .inr (by decide), rfl⟩
      | cons k hs => exact ⟨32, _, .inl (by decide), rfl⟩
    cases s.query with
    | false =>
      simp only [queryT, Bool.false_eq_true, if_false]
      rw [ht, text_word c5 hd, ← ht, text_heads _ hp, tail]
      rfl
    | true =>
      simp only [queryT, if_true]
      rw [text_word c5 (.inl hg), text_gap hg, ht, text_word c7 hd, ← ht, text_heads _ hp, tail]
      rfl
  unfold plainR
  rw [text_word c1 (.inl hg), text_gap hg, text_word (pw_host ho) (.inl hg), text_gap hg, text_mark hm2, text_gap hg1, text_gap hg, text_gap hg, text_word c2 (.inl hg), text_gap hg, text_word (pw_dec _) (.inr hm1), text_mark hm1, text_gap hg1, text_gap hg, text_gap hg,
    text_word c3 (.inl hg), text_gap hg, text_word (pw_dec _) (.inl hg), text_gap hg, text_word (pw_dec _) (.inr hm1), text_mark hm1, text_gap hg1, text_gap hg, text_gap hg, text_word c4 (.inl hg), text_gap hg, mid]
  simp only [siteWs, List.cons_append, List.append_assoc, List.nil_append]
end Go.Pantry
namespace Go.Pantry
open Go.RowKit

def SiteZ.m (s : SiteZ) : SiteM := ⟨s.host, s.origin.toNat, s.min.toNat, s.max.toNat, s.query, s.keep, s.heads⟩
theorem rightZ_iff {s : SiteZ} : rightZ s = true ↔ ownH s.host = true ∧ (1 ≤ s.origin ∧ s.origin ≤ 9) ∧ (0 ≤ s.min ∧ s.min ≤ s.max ∧ s.max ≤ 2147483648) ∧ headsB s.heads = true := by
  unfold rightZ
  simp only [Bool.and_eq_true, decide_eq_true_eq, and_assoc]
theorem right_z {s : SiteZ} (h : rightZ s = true) : s.m.z = s := by
  obtain ⟨_, h1, h2, _⟩ := rightZ_iff.1 h
  obtain ⟨a, b, c, d, e, f, g⟩ := s
  simp only [SiteZ.m, SiteM.z] at *
  rw [Int.toNat_of_nonneg (by omega), Int.toNat_of_nonneg (by omega), Int.toNat_of_nonneg (by omega)]
theorem digF_s (f n : Nat) : digF (f + 1) n = if n < 10 then [(48 + n).toUInt8] else digF f (n / 10) ++ [(48 + n % 10).toUInt8] := by rw [digF]
theorem digF_more : ∀ (f m : Nat), m < 10 ^ (f + 1) → digF (f + 1) m = digF (f + 2) m
  | 0, m, h => by
    have h' : m < 10 := by simpa using h
    rw [digF_s, digF_s 1, if_pos h', if_pos h']
  | f + 1, m, h => by
    have ih := digF_more f (m / 10) (by rw [Nat.div_lt_iff_lt_mul (by decide)]; rw [Nat.pow_succ] at h; exact h)
    rw [digF_s, digF_s (f + 2), ih]
theorem dec_ok {n : Int} (h : n ≤ 2147483648) : okD (decZ n) = true ∧ valD (decZ n) = n.toNat := by
  have h1 : (decZ n).length ≤ 10 := by
    have : ∀ m : Nat, m < 10 ^ 10 → (digF 11 m).length ≤ 10 := by
      intro m hm
      rw [← digF_more 9 m hm]
      exact digF_len 10 m
    exact this _ (by omega)
  have h2 := digF_all 11 n.toNat
  have h3 := digF_ne 10 n.toNat
  have h4 : okD (decZ n) = true := by
    unfold okD decZ at *
    rw [h2, decide_eq_true h1]
    cases e : digF 11 n.toNat with
    | nil => exact absurd e h3
    | cons a b => rfl
  refine ⟨h4, ?_⟩
  unfold valD
  rw [if_pos h4]
  exact digF_val 10 _ (by omega)
/-! the loops, without their measures -/
def keyE (s : SiteM) (p : Ps) : SiteM × Ps := keyF (meas p) s p
theorem keyE_go {s : SiteM} {p : Ps} (h : keyGo p = true) : keyE s p = keyE (keyR s p).1 (keyR s p).2 := by
  have hl := keyR_less (s := s) h
  unfold keyE
  obtain ⟨n, hn⟩ : ∃ n, meas p = n + 1 := ⟨meas p - 1, by omega⟩
  rw [hn, keyF, if_pos h]
  exact keyF_fuel _ _ _ _ (by omega) (Nat.le_refl _)
theorem keyE_stop {s : SiteM} {p : Ps} (h : keyGo p = false) : keyE s p = (s, p) := by
  unfold keyE
  cases meas p with
  | zero => rfl
  | succ n => rw [keyF, h]; rfl
def ruleE (s : SiteM) (seen : List (List UInt8)) (p : Ps) : SiteM × Ps := ruleF (meas p) s seen p
theorem ruleE_go {s : SiteM} {seen : List (List UInt8)} {p : Ps} (h : ruleGo p = true) : ruleE s seen p = ruleE (ruleM s seen p).1 (ruleM s seen p).2.1 (ruleM s seen p).2.2 := by
  have hl := rule_less (s := s) (seen := seen) h
  unfold ruleE
  obtain ⟨n, hn⟩ : ∃ n, meas p = n + 1 := ⟨meas p - 1, by omega⟩
  rw [hn, ruleF, if_pos h]
  exact ruleF_fuel _ _ _ _ _ (by omega) (Nat.le_refl _)
theorem ruleE_stop {s : SiteM} {seen : List (List UInt8)} {p : Ps} (h : ruleGo p = false) : ruleE s seen p = (s, p) := by
  unfold ruleE
  cases meas p with
  | zero => rfl
  | succ n => rw [ruleF, h]; rfl

abbrev ps (q : Nat) (l : List (List UInt8)) : Ps := ⟨0, q, l⟩
theorem chk_yes {b : Bool} (h : b = true) (c : Nat) (p : Ps) : chk b c p = p := by subst h; exact chk_true c p
theorem exp_yes (w : List UInt8) (q : Nat) (l : List (List UInt8)) : expM w (ps q (w :: l)) = ps q l := by
  unfold expM
  rw [chk_yes (by simp [hdW])]
  rfl
theorem once_yes {seen : List (List UInt8)} {w : List UInt8} (h : seen.contains w = false) (q : Nat) (l : List (List UInt8)) : onceM seen (ps q (w :: l)) = ps q l := by
  unfold onceM
  rw [chk_yes (by show (!(seen.contains w)) = true; rw [h]; rfl)]
  rfl
theorem num_yes {lo hi : Nat} {w : List UInt8} (h : okD w = true) (h1 : lo ≤ valD w) (h2 : valD w ≤ hi) (q : Nat) (l : List (List UInt8)) : numM lo hi (ps q (w :: l)) = ps q l := by
  unfold numM
  have e : hdW (ps q (w :: l)) = w := rfl
  rw [e, chk_yes h, chk_yes (by simp [h1, h2])]
  rfl
theorem name_yes {heads : List (List UInt8)} {w : List UInt8} (h4 : heads.length < 4) (h : mayM heads w = true) (q : Nat) (l : List (List UInt8)) : nameM heads (ps q (w :: l)) = ps q l := by
  unfold nameM
  have e : hdW (ps q (w :: l)) = w := rfl
  rw [e, chk_yes h, chk_yes (by simp [h4])]
  rfl
theorem key_heads (q : Nat) (r : List (List UInt8)) : ∀ (rest pre : List (List UInt8)) (s : SiteM), s.heads = pre → headsB (pre ++ rest) = true →
    keyE s (ps q (rest.flatMap (fun h => [wHeader, h]) ++ [59] :: r)) = ({ s with heads := pre ++ rest }, ps q ([59] :: r))
  | [], pre, s, hs, _ => by
    rw [List.flatMap_nil, List.nil_append, keyE_stop (by unfold keyGo hdW; simp), List.append_nil]
    subst hs
    rfl
  | h :: rest, pre, s, hs, hb => by
    obtain ⟨h4, hm⟩ := headsB_iff.1 hb
    rw [List.length_append, List.length_cons] at h4
    have hm1 := hm pre.length h (by rw [List.getElem?_append_right (Nat.le_refl _)]; simp)
    rw [List.take_left] at hm1
    rw [List.flatMap_cons, List.append_assoc]
    have hstep : keyR s (ps q ([wHeader, h] ++ (rest.flatMap (fun h => [wHeader, h]) ++ [59] :: r))) = ({ s with heads := pre ++ [h] }, ps q (rest.flatMap (fun h => [wHeader, h]) ++ [59] :: r)) := by
      unfold keyR
      have e : hdW (ps q ([wHeader, h] ++ (rest.flatMap (fun h => [wHeader, h]) ++ [59] :: r))) = wHeader := rfl
      rw [e, if_neg (by decide), if_pos (by decide)]
      subst hs
      refine Prod.ext rfl ?_
      exact name_yes (by omega) hm1 q _
    rw [keyE_go (by unfold keyGo hdW; simp; decide), hstep]
    have := key_heads q r rest (pre ++ [h]) { s with heads := pre ++ [h] } rfl (by rw [List.append_assoc]; exact hb)
    rw [this, List.append_assoc]
    rfl
theorem key_yes (q : Nat) (r : List (List UInt8)) (b : Bool) (hs : List (List UInt8)) (s : SiteM) (h0 : s.heads = []) (hb : headsB hs = true) :
    keyM s (ps q (wPath :: ((if b then [wQuery] else []) ++ (hs.flatMap (fun h => [wHeader, h]) ++ [59] :: r)))) = ({ s with query := b, heads := hs }, ps q ([59] :: r)) := by
  unfold keyM
  rw [exp_yes]
  change keyE _ _ = _
  cases b with
  | false => exact key_heads q r hs [] { s with query := false } h0 hb
  | true =>
    rw [keyE_go (by unfold keyGo hdW; simp; decide)]
    have hstep : keyR { s with query := false } (ps q ((if true = true then [wQuery] else []) ++ (hs.flatMap (fun h => [wHeader, h]) ++ [59] :: r))) = ({ s with query := true }, ps q (hs.flatMap (fun h => [wHeader, h]) ++ [59] :: r)) := by
      unfold keyR
      have e : hdW (ps q ((if true = true then [wQuery] else []) ++ (hs.flatMap (fun h => [wHeader, h]) ++ [59] :: r))) = wQuery := rfl
      rw [e, if_pos (by decide)]
      rfl
    rw [hstep]
    exact key_heads q r hs [] { s with query := true } h0 hb
theorem hd_cons (q : Nat) (w : List UInt8) (l : List (List UInt8)) : hdW (ps q (w :: l)) = w := rfl
theorem rules_yes (s : SiteZ) (h : rightZ s = true) (q : Nat) (x : List (List UInt8)) :
    ruleE (site0 s.host) [] (ps q ((siteWs s).tail ++ x)) = (s.m, ps q ([125] :: x)) := by
  obtain ⟨_, ⟨o1, o2⟩, ⟨m1, m2, m3⟩, hh⟩ := rightZ_iff.1 h
  obtain ⟨d1, v1⟩ := dec_ok (n := s.origin) (by omega)
  obtain ⟨d2, v2⟩ := dec_ok (n := s.min) (by omega)
  obtain ⟨d3, v3⟩ := dec_ok (n := s.max) (by omega)
  have go : ∀ (w : List UInt8) (l : List (List UInt8)), (w != [125]) = true → ruleGo (ps q (w :: l)) = true := fun w l hw => by
    unfold ruleGo; rw [hd_cons, hw]; rfl
  simp only [siteWs, List.tail_cons, List.cons_append, List.append_assoc, List.nil_append]
  -- origin
  rw [ruleE_go (go _ _ (by decide))]
  have r1 : ∀ l : List (List UInt8), ruleM (site0 s.host) [] (ps q (wOrigin :: decZ s.origin :: [59] :: l)) = ({ site0 s.host with origin := s.origin.toNat }, [wOrigin], ps q l) := fun l => by
    unfold ruleM
    rw [hd_cons, if_pos (by decide), once_yes (by rfl)]
    have : kindM wOrigin (site0 s.host) (ps q (decZ s.origin :: [59] :: l)) = ({ site0 s.host with origin := s.origin.toNat }, ps q ([59] :: l)) := by
      unfold kindM originM
      rw [if_pos (by decide), hd_cons, v1, num_yes d1 (by omega) (by omega)]
    rw [this, exp_yes]
  rw [r1]
  -- ttl
  rw [ruleE_go (go _ _ (by decide))]
  have r2 : ∀ l : List (List UInt8), ruleM { site0 s.host with origin := s.origin.toNat } [wOrigin] (ps q (wTtl :: decZ s.min :: decZ s.max :: [59] :: l)) = ({ site0 s.host with origin := s.origin.toNat, min := s.min.toNat, max := s.max.toNat }, [wTtl, wOrigin], ps q l) := fun l => by
    unfold ruleM
    rw [hd_cons, if_pos (by decide), once_yes (by decide)]
    have : kindM wTtl { site0 s.host with origin := s.origin.toNat } (ps q (decZ s.min :: decZ s.max :: [59] :: l)) = ({ site0 s.host with origin := s.origin.toNat, min := s.min.toNat, max := s.max.toNat }, ps q ([59] :: l)) := by
      unfold kindM ttlM
      rw [if_neg (by decide), if_pos (by decide), hd_cons, v2, num_yes d2 (by omega) (by omega), hd_cons, v3, num_yes d3 (by omega) (by omega)]
    rw [this, exp_yes]
  simp only
  rw [r2]
  -- key
  rw [ruleE_go (go _ _ (by decide))]
  have r3 : ∀ l : List (List UInt8), ruleM { site0 s.host with origin := s.origin.toNat, min := s.min.toNat, max := s.max.toNat } [wTtl, wOrigin] (ps q (wKey :: wPath :: ((if s.query then [wQuery] else []) ++ (s.heads.flatMap (fun h => [wHeader, h]) ++ [59] :: l)))) =
      ({ site0 s.host with origin := s.origin.toNat, min := s.min.toNat, max := s.max.toNat, query := s.query, heads := s.heads }, [wKey, wTtl, wOrigin], ps q l) := fun l => by
    unfold ruleM
    rw [hd_cons, if_pos (by decide), once_yes (by decide)]
    have : kindM wKey { site0 s.host with origin := s.origin.toNat, min := s.min.toNat, max := s.max.toNat } (ps q (wPath :: ((if s.query then [wQuery] else []) ++ (s.heads.flatMap (fun h => [wHeader, h]) ++ [59] :: l)))) =
        ({ site0 s.host with origin := s.origin.toNat, min := s.min.toNat, max := s.max.toNat, query := s.query, heads := s.heads }, ps q ([59] :: l)) := by
      unfold kindM
      rw [if_neg (by decide), if_neg (by decide), if_pos (by decide), key_yes q l s.query s.heads _ rfl hh]
    rw [this, exp_yes]
  simp only
  rw [r3]
  -- keep
  rw [ruleE_go (go _ _ (by decide))]
  have r4 : ∀ l : List (List UInt8), ruleM { site0 s.host with origin := s.origin.toNat, min := s.min.toNat, max := s.max.toNat, query := s.query, heads := s.heads } [wKey, wTtl, wOrigin] (ps q (wKeep :: onW s.keep :: [59] :: l)) =
      (s.m, [wKeep, wKey, wTtl, wOrigin], ps q l) := fun l => by
    unfold ruleM
    rw [hd_cons, if_pos (by decide), once_yes (by decide)]
    have hk : (onW s.keep == wOn) = s.keep := by cases s.keep <;> decide
    have hk2 : (onW s.keep == wOn || onW s.keep == wOff) = true := by cases s.keep <;> decide
    have : kindM wKeep { site0 s.host with origin := s.origin.toNat, min := s.min.toNat, max := s.max.toNat, query := s.query, heads := s.heads } (ps q (onW s.keep :: [59] :: l)) = (s.m, ps q ([59] :: l)) := by
      unfold kindM keepM
      rw [if_neg (by decide), if_neg (by decide), if_neg (by decide), hd_cons, chk_yes hk2, hk]
      rfl
    rw [this, exp_yes]
  simp only
  rw [r4]
  exact ruleE_stop rfl
theorem site_yes (s : SiteZ) (h : rightZ s = true) (hosts : List (List UInt8)) (hc : hosts.contains s.host = false) (q : Nat) (x : List (List UInt8)) :
    siteM hosts (ps q (s.host :: (siteWs s ++ x))) = (s.m, ps q x) := by
  have e : headM hosts (ps q (s.host :: (siteWs s ++ x))) = ps q ((siteWs s).tail ++ x) := by
    unfold headM
    rw [hd_cons, chk_yes (rightZ_iff.1 h).1, once_yes hc]
    exact exp_yes _ _ _
  unfold siteM
  rw [e, hd_cons]
  change ((ruleE _ _ _).1, expM [125] (ruleE _ _ _).2) = _
  rw [rules_yes s h, exp_yes]
theorem cfg_yes (q : Nat) : ∀ (k : Nat) (rest c : List SiteZ) (l : List (List UInt8)), l = rest.flatMap (fun s => wSite :: s.host :: siteWs s) → l.length + 1 ≤ k → (c ++ rest).length ≤ 8 → (∀ s ∈ rest, rightZ s = true) → ((c ++ rest).map (·.host)).Nodup →
    cfgF k (c.map SiteZ.m) (c.map (·.host)).reverse (ps q l) = ((c ++ rest).map SiteZ.m, ps q [])
  | k, [], c, l, hl, hk, _, _, _ => by
    subst hl
    cases k with
    | zero => simp at hk
    | succ k =>
      rw [cfgF, if_neg (by simp [cfgGo, hdW]), List.append_nil]
      rfl
  | 0, s :: rest, c, l, hl, hk, _, _, _ => by simp at hk
  | k + 1, s :: rest, c, l, hl, hk, h8, hr, hn => by
    subst hl
    rw [List.flatMap_cons] at hk ⊢
    have hs := hr s (List.mem_cons_self ..)
    rw [List.length_append, List.length_cons] at h8
    have hat : atSite (c.map SiteZ.m).length (ps q (wSite :: s.host :: siteWs s ++ rest.flatMap (fun s => wSite :: s.host :: siteWs s))) = ps q (s.host :: (siteWs s ++ rest.flatMap (fun s => wSite :: s.host :: siteWs s))) := by
      unfold atSite
      rw [chk_yes (by rw [List.length_map]; exact decide_eq_true (by omega)), chk_yes (by simp [hdW])]
      rfl
    have hc : (c.map (·.host)).reverse.contains s.host = false := by
      rw [Bool.eq_false_iff]
      intro e
      rw [List.contains_iff_mem, List.mem_reverse] at e
      rw [List.map_append, List.nodup_append] at hn
      exact hn.2.2 _ e _ (List.mem_map.2 ⟨s, List.mem_cons_self .., rfl⟩) rfl
    rw [cfgF, if_pos (by simp [cfgGo, hdW]; decide), hat, hd_cons, site_yes s hs _ hc]
    have := cfg_yes q k rest (c ++ [s]) _ rfl (by simp only [List.length_append, List.length_cons] at hk; omega) (by simp; omega) (fun t ht => hr t (List.mem_cons_of_mem _ ht)) (by simpa using hn)
    rw [List.append_assoc, List.map_append, List.map_append, List.reverse_append] at this
    simpa using this
theorem mayM_pw {heads : List (List UInt8)} {n : List UInt8} (h : mayM heads n = true) : PW n := by
  unfold mayM nameOk at h
  simp only [Bool.and_eq_true] at h
  exact pw_tok h.1.1.1
theorem heads_pw {hs : List (List UInt8)} (h : headsB hs = true) : ∀ x ∈ hs, PW x := fun x hx => by
  obtain ⟨j, hj⟩ := List.getElem?_of_mem hx
  exact mayM_pw ((headsB_iff.1 h).2 j x hj)
theorem text_plains : ∀ (C : List SiteZ), (∀ s ∈ C, rightZ s = true) → textW (plainC C) = C.flatMap (fun s => wSite :: s.host :: siteWs s)
  | [], _ => rfl
  | s :: C, h => by
    have hs := rightZ_iff.1 (h s (List.mem_cons_self ..))
    unfold plainC
    rw [List.flatMap_cons, plainS_app, text_plain s hs.1 (heads_pw hs.2.2.2), List.flatMap_cons]
    have := text_plains C (fun t ht => h t (List.mem_cons_of_mem _ ht))
    unfold plainC at this
    rw [this]
    rfl
/-- a right config's plain text is read as it -/
theorem read_plains {C : List SiteZ} (h : rightC C = true) (hl : (plainC C).length ≤ 4096) : readM (plainC C) = (C.map SiteZ.m, 0, 0) := by
  obtain ⟨h8, hr, hn⟩ := rightC_iff.1 h
  have e : cfgM (plainC C) = (C.map SiteZ.m, ps 0 []) := by
    unfold cfgM ps0
    exact cfg_yes 0 _ C [] (textW (plainC C)) (text_plains C hr) (by unfold meas; simp) h8 hr hn
  rw [readM_short hl, e]
  rfl
theorem right_zs {C : List SiteZ} (h : rightC C = true) : (C.map SiteZ.m).map SiteM.z = C := by
  obtain ⟨_, hr, _⟩ := rightC_iff.1 h
  rw [List.map_map]
  exact (List.map_congr_left fun s hs => right_z (hr s hs)).trans (List.map_id _)
end Go.Pantry
namespace Go.Pantry
open Go.RowKit

/-- a site's rules are right -/
def OkS (s : SiteM) : Prop := (1 ≤ s.origin ∧ s.origin ≤ 9) ∧ (s.min ≤ s.max ∧ s.max ≤ 2147483648) ∧ headsB s.heads = true
theorem headsB_snoc {hs : List (List UInt8)} {n : List UInt8} (h : headsB hs = true) (hm : mayM hs n = true) (h4 : hs.length < 4) : headsB (hs ++ [n]) = true := by
  obtain ⟨h1, h2⟩ := headsB_iff.1 h
  refine headsB_iff.2 ⟨by simp; omega, fun j x hj => ?_⟩
  by_cases e : j < hs.length
  · rw [List.getElem?_append_left e] at hj
    rw [List.take_append_of_le_length (by omega)]
    exact h2 j x hj
  · rw [List.getElem?_append_right (by omega)] at hj
    have hj0 : j = hs.length := by
      have := (List.getElem?_eq_some_iff.1 hj).1
      simp at this; omega
    subst hj0
    rw [Nat.sub_self] at hj
    obtain rfl : n = x := by simpa using hj
    rw [List.take_left]
    exact hm
theorem keyR_heads {s : SiteM} {p : Ps} (hb : headsB s.heads = true) (h : (keyR s p).2.code = 0) : headsB (keyR s p).1.heads = true ∧ (keyR s p).1.origin = s.origin ∧ (keyR s p).1.min = s.min ∧ (keyR s p).1.max = s.max := by
  unfold keyR at h ⊢
  split
  · exact ⟨hb, rfl, rfl, rfl⟩
  · split
    · rename_i h1 h2
      rw [if_neg h1, if_pos h2] at h
      obtain ⟨_, k2, k3, _⟩ := name_app [] h
      exact ⟨headsB_snoc hb k2 k3, rfl, rfl, rfl⟩
    · exact ⟨hb, rfl, rfl, rfl⟩
theorem keyF_heads : ∀ (k : Nat) (s : SiteM) (p : Ps), headsB s.heads = true → (keyF k s p).2.code = 0 → headsB (keyF k s p).1.heads = true ∧ (keyF k s p).1.origin = s.origin ∧ (keyF k s p).1.min = s.min ∧ (keyF k s p).1.max = s.max
  | 0, s, p, hb, _ => ⟨hb, rfl, rfl, rfl⟩
  | k + 1, s, p, hb, h => by
    rw [keyF] at h ⊢
    split
    · rename_i hg
      rw [if_pos hg] at h
      obtain ⟨h1, h2, h3, h4⟩ := keyR_heads (s := s) (p := p) hb ((fol_keyF k _ _).ok h)
      obtain ⟨k1, k2, k3, k4⟩ := keyF_heads k _ _ h1 h
      exact ⟨k1, k2.trans h2, k3.trans h3, k4.trans h4⟩
    · exact ⟨hb, rfl, rfl, rfl⟩
theorem kind_ok {w : List UInt8} {s : SiteM} {p : Ps} (hs : OkS s) (h : (kindM w s p).2.code = 0) : OkS (kindM w s p).1 := by
  obtain ⟨h1, h2, h3⟩ := hs
  unfold kindM at h ⊢
  split
  · rename_i e
    rw [if_pos e] at h
    obtain ⟨_, _, k3, k4, _⟩ := num_app [] h
    exact ⟨⟨k3, k4⟩, h2, h3⟩
  · rename_i e
    rw [if_neg e] at h
    split
    · rename_i e2
      rw [if_pos e2] at h
      obtain ⟨_, _, k3, k4, _⟩ := num_app [] h
      exact ⟨h1, ⟨k3, k4⟩, h3⟩
    · rename_i e2
      rw [if_neg e2] at h
      split
      · rename_i e3
        rw [if_pos e3] at h
        obtain ⟨k1, k2, k3, k4⟩ := keyF_heads _ _ _ (by exact h3) h
        refine ⟨?_, ?_, k1⟩
        · show 1 ≤ (keyF _ _ _).1.origin ∧ (keyF _ _ _).1.origin ≤ 9
          rw [k2]; exact h1
        · show (keyF _ _ _).1.min ≤ (keyF _ _ _).1.max ∧ (keyF _ _ _).1.max ≤ _
          rw [k3, k4]; exact h2
      · exact ⟨h1, h2, h3⟩
theorem rule_ok {s : SiteM} {seen : List (List UInt8)} {p : Ps} (hs : OkS s) (h : (ruleM s seen p).2.2.code = 0) : OkS (ruleM s seen p).1 := by
  unfold ruleM at h ⊢
  split
  · rename_i e
    rw [if_pos e] at h
    exact kind_ok hs ((fol_exp _ _).ok h)
  · exact hs
theorem ruleF_ok : ∀ (k : Nat) (s : SiteM) (seen : List (List UInt8)) (p : Ps), OkS s → (ruleF k s seen p).2.code = 0 → OkS (ruleF k s seen p).1
  | 0, s, seen, p, hs, _ => hs
  | k + 1, s, seen, p, hs, h => by
    rw [ruleF] at h ⊢
    split
    · rename_i e
      rw [if_pos e] at h
      exact ruleF_ok k _ _ _ (rule_ok hs ((fol_ruleF k _ _ _).ok h)) h
    · exact hs
theorem site0_ok (h : List UInt8) : OkS (site0 h) := ⟨⟨Nat.le_refl _, (by decide : 1 ≤ 9)⟩, ⟨(by decide : 0 ≤ 3600), (by decide : 3600 ≤ 2147483648)⟩, (by decide : headsB [] = true)⟩
theorem site_right {hosts : List (List UInt8)} {p : Ps} (h : (siteM hosts p).2.code = 0) : rightZ (siteM hosts p).1.z = true := by
  obtain ⟨_, _, k3, _⟩ := site_app [] h
  have hr : OkS (siteM hosts p).1 := ruleF_ok _ _ _ _ (site0_ok _) ((fol_exp _ _).ok h)
  obtain ⟨h1, h2, h3⟩ := hr
  have hh := site_host' hosts p
  refine rightZ_iff.2 ⟨?_, ?_, ?_, h3⟩
  · show ownH (siteM hosts p).1.host = true
    rw [hh]; exact k3
  · show (1 : Int) ≤ ((siteM hosts p).1.origin : Int) ∧ ((siteM hosts p).1.origin : Int) ≤ 9
    omega
  · show (0 : Int) ≤ ((siteM hosts p).1.min : Int) ∧ ((siteM hosts p).1.min : Int) ≤ ((siteM hosts p).1.max : Int) ∧ ((siteM hosts p).1.max : Int) ≤ 2147483648
    omega
theorem cfg_right : ∀ (k : Nat) (c : List SiteM) (hosts : List (List UInt8)) (p : Ps), hosts = hostsR c → rightC (c.map SiteM.z) = true → (cfgF k c hosts p).2.code = 0 → rightC ((cfgF k c hosts p).1.map SiteM.z) = true
  | 0, c, hosts, p, _, hr, _ => hr
  | k + 1, c, hosts, p, hh, hr, h => by
    rw [cfgF] at h ⊢
    split
    · rename_i hg
      rw [if_pos hg] at h
      have h1 := (fol_cfgF k _ _ _).ok h
      obtain ⟨_, k2, k3, k4⟩ := site_app [] h1
      obtain ⟨a1, a2, a3, a4, a5⟩ := at_app [] k2
      have hhost := site_host' hosts (atSite c.length p)
      refine cfg_right k _ _ _ ?_ ?_ h
      · unfold hostsR
        rw [List.map_append, List.reverse_append, hh]
        simp only [List.map_cons, List.map_nil, List.reverse_cons, List.reverse_nil, List.nil_append, List.singleton_append]
        rw [hh] at hhost
        rw [hhost]; rfl
      · obtain ⟨r1, r2, r3⟩ := rightC_iff.1 hr
        refine rightC_iff.2 ⟨by simp; omega, ?_, ?_⟩
        · intro s hs
          rw [List.map_append] at hs
          rcases List.mem_append.1 hs with hs | hs
          · exact r2 s hs
          · obtain rfl : s = (siteM hosts (atSite c.length p)).1.z := by simpa using hs
            exact site_right h1
        · rw [List.map_append, List.map_append, List.nodup_append]
          refine ⟨r3, by simp, ?_⟩
          intro a ha b hb e
          subst e
          have hb' : a = hdW (atSite c.length p) := by
            have : a = (siteM hosts (atSite c.length p)).1.host := by simpa [SiteM.z] using hb
            rw [this, hhost]
          have : hosts.contains (hdW (atSite c.length p)) = true := by
            rw [List.contains_iff_mem, hh, ← hb']
            unfold hostsR
            rw [List.mem_reverse]
            rw [List.map_map] at ha
            exact ha
          rw [k4] at this
          cases this
    · exact hr
/-- what is read is right -/
theorem read_right {t : List UInt8} (h : (readM t).2.1 = 0) : rightC ((readM t).1.map SiteM.z) = true := by
  by_cases hl : 4096 < t.length
  · rw [readM_long hl] at h; cases h
  · rw [readM_short (by omega)] at h ⊢
    split
    · rename_i hc
      exact cfg_right _ _ _ _ rfl rightC_nil hc
    · exact rightC_nil
theorem z_inj {a b : SiteM} (h : a.z = b.z) : a = b := by
  obtain ⟨a0, a1, a2, a3, a4, a5, a6⟩ := a
  obtain ⟨b0, b1, b2, b3, b4, b5, b6⟩ := b
  simp only [SiteM.z, SiteZ.mk.injEq, Int.ofNat_inj] at h
  obtain ⟨rfl, rfl, rfl, rfl, rfl, rfl, rfl⟩ := h
  rfl
/-- a text that is read, and its plain text -/
theorem read_again {t : List UInt8} (h : (readM t).2.1 = 0) (hl : (plainC ((readM t).1.map SiteM.z)).length ≤ 4096) : readM (plainC ((readM t).1.map SiteM.z)) = ((readM t).1, 0, 0) := by
  rw [read_plains (read_right h) hl]
  have := right_zs (read_right h)
  congr 1
  rw [List.map_map] at this ⊢
  rw [List.map_congr_left (g := id) fun s _ => z_inj ?_, List.map_id]
  show ((s.z).m).z = s.z
  have hr := (rightC_iff.1 (read_right h)).2.1
  exact right_z (hr _ (List.mem_map.2 ⟨s, ‹_›, rfl⟩))
end Go.Pantry
