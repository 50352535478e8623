/-
  Plain mathematics of layer 1: lists, quoted texts, numbers.
-/
import Derived.Test.YtfoghjhdjmapnaaDoorPureSign
namespace Go.Pantry

/-- How many bytes up to behind the quotes that end, the first of which is the first inside. -/
def qe : List UInt8 → Nat
  | [] => 0
  | [_] => 1
  | c :: d :: l => if c = 34 then 1 else if c = 92 then qe l + 2 else qe (d :: l) + 1
theorem qe_quote (l : List UInt8) : qe (34 :: l) = 1 := by cases l <;> simp [qe]
theorem qe_back (d : UInt8) (l : List UInt8) : qe (92 :: d :: l) = qe l + 2 := by simp [qe]
theorem qe_other (c : UInt8) (l : List UInt8) (h1 : c ≠ 34) (h2 : c ≠ 92) : qe (c :: l) = qe l + 1 := by cases l <;> simp [qe, h1, h2]

def nextIn (i s : Bool) (c : UInt8) : Bool := if s then i else if i && c == 92 then i else if c == 34 then !i else i
def nextSkip (i s : Bool) (c : UInt8) : Bool := if s then false else i && c == 92
/-- How many bytes up to the first comma outside quotes, or the end. -/
def cut : Bool → Bool → List UInt8 → Nat
  | _, _, [] => 0
  | i, s, c :: l => if c = 44 ∧ i = false then 0 else cut (nextIn i s c) (nextSkip i s c) l + 1

theorem cut_le (l : List UInt8) : ∀ i s, cut i s l ≤ l.length := by
  induction l with
  | nil => intro i s; simp [cut]
  | cons c l ih =>
    intro i s
    rw [cut]
    split
    · simp
    · have := ih (nextIn i s c) (nextSkip i s c)
      simp; omega

theorem qe_le : ∀ (n : Nat) (l : List UInt8), l.length ≤ n → qe l ≤ l.length := by
  intro n
  induction n with
  | zero => intro l h; have : l = [] := List.eq_nil_of_length_eq_zero (by omega); subst this; simp [qe]
  | succ n ih =>
    intro l h
    match l, h with
    | [], _ => simp [qe]
    | [c], _ => simp [qe]
    | c :: d :: l, h =>
      simp only [List.length_cons] at h ⊢
      rw [qe]
      have h1 := ih l (by omega)
      have h2 := ih (d :: l) (by simp; omega)
      simp at h2
      split
      · omega
      · split <;> omega

theorem cut_in : ∀ (n : Nat) (l : List UInt8), l.length ≤ n → cut true false l = qe l + cut false false (l.drop (qe l)) := by
  intro n
  induction n with
  | zero => intro l h; have : l = [] := List.eq_nil_of_length_eq_zero (by omega); subst this; simp [qe, cut]
  | succ n ih =>
    intro l h
    cases l with
    | nil => simp [qe, cut]
    | cons c l =>
      simp only [List.length_cons] at h
      rw [cut]
      by_cases h1 : c = 34
      · subst h1
        simp [nextIn, nextSkip, qe_quote]; omega
      · by_cases h2 : c = 92
        · subst h2
          cases l with
          | nil => simp [cut, qe]
          | cons d l' =>
            have := ih l' (by simp at h; omega)
            have e : ¬ ((92 : UInt8) = 44 ∧ true = false) := by simp
            rw [if_neg e, qe_back]
            simp only [nextIn, nextSkip]
            rw [cut]
            simp [nextIn, nextSkip]
            omega
        · have := ih l (by omega)
          have e : ¬ (c = 44 ∧ true = false) := by simp
          rw [if_neg e, qe_other c l h1 h2]
          have hn : nextIn true false c = true := by simp [nextIn, h1]
          have hs : nextSkip true false c = false := by simp [nextSkip, h2]
          rw [hn, hs, this]
          simp; omega

theorem cut_quote (l : List UInt8) : cut false false (34 :: l) = 1 + qe l + cut false false (l.drop (qe l)) := by
  rw [cut, if_neg (by decide)]
  have hn : nextIn false false 34 = true := by decide
  have hs : nextSkip false false 34 = false := by decide
  rw [hn, hs, cut_in l.length l (Nat.le_refl _)]
  omega
theorem cut_comma (l : List UInt8) : cut false false (44 :: l) = 0 := by rw [cut, if_pos (by decide)]
theorem cut_other (c : UInt8) (l : List UInt8) (h1 : c ≠ 44) (h2 : c ≠ 34) : cut false false (c :: l) = 1 + cut false false l := by
  rw [cut, if_neg (by simp [h1])]
  have hn : nextIn false false c = false := by simp [nextIn, h2]
  have hs : nextSkip false false c = false := by simp [nextSkip]
  rw [hn, hs]; omega

/-- The elements of a list. -/
def listF : Nat → List UInt8 → List (List UInt8)
  | 0, _ => []
  | f + 1, l => if l = [] then [] else
    if trimL (l.take (cut false false l)) = [] then listF f (l.drop (cut false false l + 1)) else trimL (l.take (cut false false l)) :: listF f (l.drop (cut false false l + 1))
def listL (l : List UInt8) : List (List UInt8) := listF l.length l
theorem listF_enough : ∀ (f : Nat) (l : List UInt8), l.length ≤ f → listF f l = listF l.length l := by
  intro f
  induction f using Nat.strongRecOn with
  | ind f ih =>
    intro l h
    cases l with
    | nil => cases f <;> simp [listF]
    | cons c l =>
      cases f with
      | zero => simp at h
      | succ f =>
        simp only [List.length_cons] at h ⊢
        rw [listF, listF]
        have hd : ((c :: l).drop (cut false false (c :: l) + 1)).length ≤ l.length := by simp
        rw [ih f (by omega) _ (by omega), ih l.length (by omega) _ hd]
theorem listL_nil : listL [] = [] := rfl
theorem listL_cons (l : List UInt8) (h : l ≠ []) : listL l =
    if trimL (l.take (cut false false l)) = [] then listL (l.drop (cut false false l + 1)) else trimL (l.take (cut false false l)) :: listL (l.drop (cut false false l + 1)) := by
  cases l with
  | nil => exact absurd rfl h
  | cons c l =>
    have hd : ((c :: l).drop (cut false false (c :: l) + 1)).length ≤ l.length := by simp
    unfold listL
    rw [List.length_cons, listF, if_neg h, listF_enough l.length _ hd]
theorem not_empty {l : List UInt8} (h : (!l.isEmpty) = true) : l ≠ [] := by intro e; subst e; simp at h
theorem is_empty {l : List UInt8} (h : (!l.isEmpty) = false) : l = [] := by cases l <;> simp_all
theorem list_step (s : ByteArray) (k : Nat) (h : k < s.size) : listL (s.data.toList.drop k) =
    if trimL ((s.data.toList.drop k).take (cut false false (s.data.toList.drop k))) = [] then listL (s.data.toList.drop (k + (cut false false (s.data.toList.drop k) + 1)))
    else trimL ((s.data.toList.drop k).take (cut false false (s.data.toList.drop k))) :: listL (s.data.toList.drop (k + (cut false false (s.data.toList.drop k) + 1))) := by
  rw [listL_cons _ (by rw [drop_cons s k h]; simp), List.drop_drop]

/-- What quotes say, from behind the first one on. -/
def unq : List UInt8 → Option (List UInt8)
  | [] => none
  | [c] => if c = 34 then some [] else none
  | c :: d :: l => if c = 34 then none else if c = 92 then (unq l).map (d :: ·) else (unq (d :: l)).map (c :: ·)
def unquoteL (l : List UInt8) : Option (List UInt8) := if tokenL l then some l else if l.head? = some 34 then unq l.tail else none
theorem unq_other (c : UInt8) (l : List UInt8) (h1 : c ≠ 34) (h2 : c ≠ 92) : unq (c :: l) = (unq l).map (c :: ·) := by
  cases l with
  | nil => simp [unq, h1]
  | cons d l => rw [unq, if_neg h1, if_neg h2]
theorem unq_quote (l : List UInt8) : unq (34 :: l) = if l = [] then some [] else none := by
  cases l <;> simp [unq]
theorem unq_back (d : UInt8) (l : List UInt8) : unq (92 :: d :: l) = (unq l).map (d :: ·) := by simp [unq]
theorem unq_back_end : unq [92] = none := by simp [unq]
/-- the number that digits say -/
def valL (l : List UInt8) : Nat := l.foldl (fun n c => 10 * n + (c.toNat - 48)) 0
theorem valL_snoc (l : List UInt8) (c : UInt8) : valL (l ++ [c]) = 10 * valL l + (c.toNat - 48) := by simp [valL]
def numberL (l : List UInt8) : Option Nat := if l.all isDig && !l.isEmpty then some (min (valL l) 2147483648) else none
theorem isDig_bounds {c : UInt8} (h : isDig c = true) : 48 ≤ c.toNat ∧ c.toNat ≤ 57 := by simpa [isDig] using h
theorem numberL_no (s : ByteArray) (k : Nat) (h : k < s.size) (hn : isDig s[k] = false) : numberL s.data.toList = none := by
  have hm : s[k] ∈ s.data.toList := by
    rw [← getElem_list s k h]; exact List.getElem_mem _
  unfold numberL
  have : s.data.toList.all isDig = false := by
    rw [List.all_eq_false]; exact ⟨s[k], hm, by simp [hn]⟩
  rw [this]; rfl
theorem number_step (l : List UInt8) (c : UInt8) (m : Nat) (hc : isDig c = true) (hm : m = min (valL l) 2147483648) :
    min ((m : Int) * 10 + ((c.toNat : Int) - 48) % 256) 2147483648 = ((min (valL (l ++ [c])) 2147483648 : Nat) : Int) := by
  have := isDig_bounds hc
  rw [valL_snoc]
  omega
theorem numberL_yes (l : List UInt8) (m : Nat) (ha : l.all isDig = true) (hm : m = min (valL l) 2147483648) : (numberL l).getD 0 = m ∧ (numberL l).isSome = !l.isEmpty := by
  unfold numberL
  rw [ha]
  cases l with
  | nil => simp at hm ⊢; rw [hm]; rfl
  | cons c l => simp [hm]

/-- What is within quotes, byte by byte, by the machine. -/
def qd : Bool → Bool → List UInt8 → List Bool
  | _, _, [] => []
  | i, s, c :: l => (i || c == 34) :: qd (nextIn i s c) (nextSkip i s c) l
theorem qd_length (l : List UInt8) : ∀ i s, (qd i s l).length = l.length := by
  induction l with
  | nil => intro i s; rfl
  | cons c l ih => intro i s; simp [qd, ih]
/-- Up to the first comma outside quotes each comma stands within; behind it the machine begins anew. -/
theorem qd_cut (l : List UInt8) : ∀ i s, (s = true → i = true) → (∀ j, j < cut i s l → l[j]? = some 44 → (qd i s l)[j]? = some true) ∧
    (cut i s l < l.length → l[cut i s l]? = some 44 ∧ (qd i s l)[cut i s l]? = some false ∧ (qd i s l).drop (cut i s l + 1) = qd false false (l.drop (cut i s l + 1))) := by
  induction l with
  | nil => intro i s _; simp [cut]
  | cons c l ih =>
    intro i s hsi
    rw [cut]
    by_cases h : c = 44 ∧ i = false
    · rw [if_pos h]
      obtain ⟨rfl, rfl⟩ := h
      have hs : s = false := by cases s <;> simp_all
      subst hs
      refine ⟨fun j hj => absurd hj (Nat.not_lt_zero _), fun _ => ⟨by simp, by simp [qd], ?_⟩⟩
      simp [qd, nextIn, nextSkip]
    · rw [if_neg h]
      have hn : nextSkip i s c = true → nextIn i s c = true := by
        unfold nextSkip nextIn
        cases s <;> simp
        intro h1 h2; simp [h1, h2]
      obtain ⟨h1, h2⟩ := ih (nextIn i s c) (nextSkip i s c) hn
      constructor
      · intro j hj hc
        cases j with
        | zero =>
          simp at hc
          subst hc
          have : i = true := by cases i <;> simp_all
          simp [qd, this]
        | succ j =>
          simp only [List.getElem?_cons_succ, qd] at hc ⊢
          exact h1 j (by omega) hc
      · intro hlt
        simp only [List.length_cons] at hlt
        obtain ⟨a, b, d⟩ := h2 (by omega)
        simp only [List.getElem?_cons_succ, qd, List.drop_succ_cons]
        exact ⟨a, b, d⟩
theorem qd_snoc (l : List UInt8) (_c : UInt8) : ∀ i s, ∃ i' s', (∀ r, qd i s (l ++ r) = qd i s l ++ qd i' s' r) := by
  induction l with
  | nil => intro i s; exact ⟨i, s, fun r => rfl⟩
  | cons d l ih =>
    intro i s
    obtain ⟨i', s', h⟩ := ih (nextIn i s d) (nextSkip i s d)
    exact ⟨i', s', fun r => by simp [qd, h]⟩
/-- The machine's state behind a text. -/
def stIn : Bool → Bool → List UInt8 → Bool × Bool
  | i, s, [] => (i, s)
  | i, s, c :: l => stIn (nextIn i s c) (nextSkip i s c) l
theorem stIn_snoc (l : List UInt8) (c : UInt8) : ∀ i s, stIn i s (l ++ [c]) = (nextIn (stIn i s l).1 (stIn i s l).2 c, nextSkip (stIn i s l).1 (stIn i s l).2 c) := by
  induction l with
  | nil => intro i s; rfl
  | cons d l ih => intro i s; simp [stIn, ih]
theorem qd_snoc1 (l : List UInt8) (c : UInt8) : ∀ i s, qd i s (l ++ [c]) = qd i s l ++ [(stIn i s l).1 || c == 34] := by
  induction l with
  | nil => intro i s; rfl
  | cons d l ih => intro i s; simp [stIn, qd, ih]
/-- unquote, from the place between the quotes -/
def unqIn : List UInt8 → Option (List UInt8)
  | [] => some []
  | [c] => if c = 34 ∨ c = 92 then none else some [c]
  | c :: d :: l => if c = 34 then none else if c = 92 then (unqIn l).map (d :: ·) else (unqIn (d :: l)).map (c :: ·)
theorem unqIn_other (c : UInt8) (l : List UInt8) (h1 : c ≠ 34) (h2 : c ≠ 92) : unqIn (c :: l) = (unqIn l).map (c :: ·) := by
  cases l with
  | nil => simp [unqIn, h1, h2]
  | cons d l => rw [unqIn, if_neg h1, if_neg h2]
theorem unqIn_quote (l : List UInt8) : unqIn (34 :: l) = none := by cases l <;> simp [unqIn]
theorem unqIn_back (d : UInt8) (l : List UInt8) : unqIn (92 :: d :: l) = (unqIn l).map (d :: ·) := by simp [unqIn]
theorem unqIn_back_end : unqIn [92] = none := by simp [unqIn]
theorem unq_in : ∀ (n : Nat) (l : List UInt8), l.length ≤ n → unq (l ++ [34]) = unqIn l := by
  intro n
  induction n with
  | zero => intro l h; have : l = [] := List.eq_nil_of_length_eq_zero (by omega); subst this; simp [unq, unqIn]
  | succ n ih =>
    intro l h
    cases l with
    | nil => simp [unq, unqIn]
    | cons c l =>
      simp only [List.length_cons] at h
      by_cases h1 : c = 34
      · subst h1; rw [List.cons_append, unq_quote, unqIn_quote, if_neg (by simp)]
      · by_cases h2 : c = 92
        · subst h2
          cases l with
          | nil => simp [unq, unqIn]
          | cons d l =>
            rw [List.cons_append, List.cons_append, unq_back, unqIn_back, ih l (by simp at h; omega)]
        · rw [List.cons_append, unq_other _ _ h1 h2, unqIn_other _ _ h1 h2, ih l (by omega)]
theorem unq_last : ∀ (n : Nat) (l : List UInt8), l.length ≤ n → l.getLast? ≠ some 34 → unq l = none := by
  intro n
  induction n with
  | zero => intro l h _; have : l = [] := List.eq_nil_of_length_eq_zero (by omega); subst this; rfl
  | succ n ih =>
    intro l h hl
    match l, h, hl with
    | [], _, _ => rfl
    | [c], _, hl => simp at hl; simp [unq, hl]
    | c :: d :: l, h, hl =>
      simp only [List.length_cons] at h
      rw [unq]
      split
      · rfl
      · split
        · rw [ih l (by omega) (by cases l with
            | nil => simp
            | cons e l => simpa using hl)]; rfl
        · rw [ih (d :: l) (by simp; omega) (by simpa using hl)]; rfl
theorem trimL_nil : trimL [] = [] := by decide
theorem list_at (l : List UInt8) (a : Nat) : listL (l.drop a) =
    if trimL ((l.drop a).take (cut false false (l.drop a))) = [] then listL (l.drop (a + (cut false false (l.drop a) + 1)))
    else trimL ((l.drop a).take (cut false false (l.drop a))) :: listL (l.drop (a + (cut false false (l.drop a) + 1))) := by
  by_cases h : l.drop a = []
  · have e : l.drop (a + (cut false false (l.drop a) + 1)) = [] := by
      rw [← List.drop_drop, h]; simp
    rw [e, h, List.take_nil, trimL_nil, if_pos rfl]
  · rw [listL_cons _ h, List.drop_drop]
/-- within an element each comma is quoted -/
theorem qd_within (l : List UInt8) (a k : Nat) (hq : (qd false false l).drop a = qd false false (l.drop a)) (hak : a ≤ k) (hk : k < a + cut false false (l.drop a)) (hc : l[k]? = some 44) : (qd false false l)[k]? = some true := by
  have h := (qd_cut (l.drop a) false false (by simp)).1 (k - a) (by omega) (by rw [List.getElem?_drop]; rw [show a + (k - a) = k by omega]; exact hc)
  rw [← hq, List.getElem?_drop, show a + (k - a) = k by omega] at h
  exact h
/-- and at its end there is a comma that is not, behind which the machine begins anew -/
theorem qd_end (l : List UInt8) (a k : Nat) (hq : (qd false false l).drop a = qd false false (l.drop a)) (hk : k = a + cut false false (l.drop a)) (hl : k < l.length) :
    l[k]? = some 44 ∧ (qd false false l)[k]? = some false ∧ (qd false false l).drop (k + 1) = qd false false (l.drop (k + 1)) := by
  obtain ⟨h1, h2, h3⟩ := (qd_cut (l.drop a) false false (by simp)).2 (by simp; omega)
  rw [← hq, List.getElem?_drop, ← hk] at h2
  rw [List.getElem?_drop, ← hk] at h1
  rw [← hq, List.drop_drop, List.drop_drop, show a + (cut false false (l.drop a) + 1) = k + 1 by omega] at h3
  exact ⟨h1, h2, h3⟩
theorem mid_last (s : ByteArray) (h : 2 ≤ s.size) : s.data.toList.drop 1 = (s.data.toList.drop 1).take (s.size - 1 - 1) ++ [s[s.size - 1]] := by
  have hl : (s.data.toList.drop 1).length = s.size - 1 := by rw [List.length_drop, size_list]
  have h1 : (s.data.toList.drop 1).take (s.size - 1 - 1 + 1) = s.data.toList.drop 1 := List.take_of_length_le (by omega)
  conv => lhs; rw [← h1]
  rw [List.take_succ_eq_append_getElem (by omega)]
  congr 2
  rw [List.getElem_drop, ← getElem_list s (s.size - 1) (by omega)]
  congr 1
  omega
theorem unquote_quoted (s : ByteArray) (ht : tokenL s.data.toList = false) (h : 2 ≤ s.size) (h0 : s[0] = 34) (h1 : s[s.size - 1] = 34) : unquoteL s.data.toList = unqIn ((s.data.toList.drop 1).take (s.size - 1 - 1)) := by
  have hd := drop_cons s 0 (by omega)
  rw [List.drop_zero] at hd
  have ht' : s.data.toList.tail = s.data.toList.drop 1 := by rw [List.drop_one]
  unfold unquoteL
  rw [ht, if_neg (by simp), if_pos (by rw [hd]; simp [h0]), ht', mid_last s h, h1, unq_in _ _ (Nat.le_refl _)]
  congr 1
  rw [List.take_left']
  simp
theorem unquote_open (s : ByteArray) (ht : tokenL s.data.toList = false) (h : 2 ≤ s.size) (h1 : s[s.size - 1] ≠ 34) : unquoteL s.data.toList = none := by
  have ht' : s.data.toList.tail = s.data.toList.drop 1 := by rw [List.drop_one]
  unfold unquoteL
  rw [ht, if_neg (by simp)]
  split
  · rw [ht', mid_last s h, unq_last _ _ (Nat.le_refl _) (by simp [h1])]
  · rfl
theorem unquote_else (s : ByteArray) (ht : tokenL s.data.toList = false) (h : 0 < s.size) (h0 : s[0] ≠ 34) : unquoteL s.data.toList = none := by
  have hd := drop_cons s 0 (by omega)
  rw [List.drop_zero] at hd
  unfold unquoteL
  rw [ht, if_neg (by simp), if_neg (by rw [hd]; simp [h0])]
theorem unquote_short (s : ByteArray) (ht : tokenL s.data.toList = false) (h : s.size < 2) : unquoteL s.data.toList = none := by
  have hl := size_list s
  unfold unquoteL
  rw [ht, if_neg (by simp)]
  split
  · rename_i hh
    match hm : s.data.toList, hl, hh with
    | [], _, hh => rfl
    | [c], _, hh => simp [unq]
    | c :: d :: r, hl, hh => simp at hl; omega
  · rfl
theorem number2_step (l : List UInt8) (c : UInt8) (m : Nat) (hc : isDig c = true) (hm : min m 2147483648 = min (valL l) 2147483648) (hlt : m < 2147483648) :
    min (10 * m + (c.toNat - 48)) 2147483648 = min (valL (l ++ [c])) 2147483648 := by
  have := isDig_bounds hc
  rw [valL_snoc]
  omega
theorem number2_stay (l : List UInt8) (c : UInt8) (m : Nat) (hm : min m 2147483648 = min (valL l) 2147483648) (hlt : 2147483648 ≤ m) :
    min m 2147483648 = min (valL (l ++ [c])) 2147483648 := by
  rw [valL_snoc]
  omega
/-- a number's digits -/
def digF : Nat → Nat → List UInt8
  | 0, _ => []
  | f + 1, n => if n < 10 then [(48 + n).toUInt8] else digF f (n / 10) ++ [(48 + n % 10).toUInt8]
theorem digF_len (f : Nat) : ∀ n, (digF f n).length ≤ f := by
  induction f with
  | zero => intro n; simp [digF]
  | succ f ih =>
    intro n
    rw [digF]
    split
    · simp
    · have := ih (n / 10); simp; omega
theorem digit_byte (n : Nat) : UInt8.ofNat (IntKind.u8.wrap (IntKind.i64.wrap (48 + (n : Int).tmod 10))).toNat = (48 + n % 10).toUInt8 := by
  have h1 : (n : Int).tmod 10 = (n : Int) % 10 := Int.tmod_eq_emod_of_nonneg (by omega)
  have h2 : IntKind.i64.wrap (48 + (n : Int) % 10) = 48 + (n : Int) % 10 := IntWalk.i64_in _ (by omega)
  rw [h1, h2]
  have h3 : IntKind.u8.wrap (48 + (n : Int) % 10) = 48 + (n : Int) % 10 := by
    simp [IntKind.wrap, IntKind.bits, IntKind.signed]; omega
  rw [h3]
  have h4 : (48 + (n : Int) % 10).toNat = 48 + n % 10 := by omega
  rw [h4]
theorem listF_len : ∀ (f : Nat) (l : List UInt8), (listF f l).length ≤ l.length := by
  intro f
  induction f with
  | zero => intro l; simp [listF]
  | succ f ih =>
    intro l
    rw [listF]
    split
    · simp
    · rename_i hne
      have hp : 0 < l.length := by cases l with | nil => exact absurd rfl hne | cons c l => simp
      have := ih (l.drop (cut false false l + 1))
      rw [List.length_drop] at this
      split
      · omega
      · simp; omega
theorem listL_len (l : List UInt8) : (listL l).length ≤ l.length := listF_len _ _
theorem dropWhile_head {α : Type} (p : α → Bool) (l : List α) (c : α) (h : (l.dropWhile p).head? = some c) : p c = false := by
  induction l with
  | nil => simp at h
  | cons d l ih =>
    rw [List.dropWhile_cons] at h
    split at h
    · exact ih h
    · rename_i hd; simp at h; subst h; simpa using hd
theorem dropWhile_last {α : Type} (p : α → Bool) (l : List α) (h : l.dropWhile p ≠ []) : (l.dropWhile p).getLast? = l.getLast? := by
  induction l with
  | nil => simp at h
  | cons d l ih =>
    rw [List.dropWhile_cons] at h ⊢
    split
    · rename_i hd
      rw [if_pos hd] at h
      rw [ih h]
      cases l with
      | nil => simp at h
      | cons e l => simp
    · rfl
theorem trim_head (l : List UInt8) (c : UInt8) (h : (trimL l).head? = some c) : isBl c = false := by
  rw [← isBl_contains]; exact dropWhile_head _ _ c h
theorem trim_last (l : List UInt8) (c : UInt8) (h : (trimL l).getLast? = some c) : isBl c = false := by
  unfold trimL Lib.trimS Lib.trimLeftS at h
  rw [dropWhile_last _ _ (by intro e; rw [e] at h; simp at h)] at h
  unfold Lib.trimRightS at h
  rw [List.getLast?_reverse] at h
  rw [← isBl_contains]; exact dropWhile_head _ _ c h
theorem trim_whole (l : List UInt8) (h1 : ∀ c, l.head? = some c → isBl c = false) (h2 : ∀ c, l.getLast? = some c → isBl c = false) : trimL l = l := by
  rw [trim_of l 0 l.length (Nat.zero_le _) (Nat.le_refl _) (fun j x hj => absurd hj (Nat.not_lt_zero _)) (fun j x hj hx => by
      have := (List.getElem?_eq_some_iff.1 hx).1; omega) (fun _ x hx => h1 x (by rw [List.head?_eq_getElem?]; exact hx)) (fun _ x hx => h2 x (by rw [List.getLast?_eq_getElem?]; exact hx))]
  simp
theorem trimL_idem (l : List UInt8) : trimL (trimL l) = trimL l := trim_whole _ (trim_head l) (trim_last l)
theorem listF_good : ∀ (f : Nat) (l : List UInt8), ∀ e ∈ listF f l, e ≠ [] ∧ trimL e = e := by
  intro f
  induction f with
  | zero => intro l e he; simp [listF] at he
  | succ f ih =>
    intro l e he
    rw [listF] at he
    split at he
    · simp at he
    · split at he
      · exact ih _ e he
      · rename_i h
        rcases List.mem_cons.1 he with rfl | he
        · exact ⟨h, trimL_idem _⟩
        · exact ih _ e he
theorem listL_good (l : List UInt8) : ∀ e ∈ listL l, e ≠ [] ∧ trimL e = e := listF_good _ _
theorem trim_len (l : List UInt8) : (trimL l).length ≤ l.length := by
  unfold trimL Lib.trimS Lib.trimLeftS Lib.trimRightS
  have h1 := (List.dropWhile_sublist (p := fun x => [32, 9].contains x) (l := (l.reverse.dropWhile (fun x => [32, 9].contains x)).reverse)).length_le
  have h2 := (List.dropWhile_sublist (p := fun x => [32, 9].contains x) (l := l.reverse)).length_le
  simp only [List.length_reverse] at h1 h2
  omega
theorem listF_size : ∀ (f : Nat) (l : List UInt8), ∀ e ∈ listF f l, e.length ≤ l.length := by
  intro f
  induction f with
  | zero => intro l e he; simp [listF] at he
  | succ f ih =>
    intro l e he
    rw [listF] at he
    split at he
    · simp at he
    · have h1 : ∀ e ∈ listF f (l.drop (cut false false l + 1)), e.length ≤ l.length := fun e he => by
        have := ih _ e he
        rw [List.length_drop] at this
        omega
      split at he
      · exact h1 e he
      · rcases List.mem_cons.1 he with rfl | he
        · have := trim_len (l.take (cut false false l))
          rw [List.length_take] at this
          omega
        · exact h1 e he
theorem listL_size (l : List UInt8) : ∀ e ∈ listL l, e.length ≤ l.length := listF_size _ _
theorem strs_oneCell (L : List (List UInt8)) : ∀ u ∈ L.map strV, u.oneCell' = true := by
  intro u hu
  obtain ⟨x, _, rfl⟩ := List.mem_map.1 hu
  rfl
end Go.Pantry
