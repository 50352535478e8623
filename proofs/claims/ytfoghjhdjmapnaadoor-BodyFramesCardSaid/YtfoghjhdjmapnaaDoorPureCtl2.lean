/-
  Directives: what the statements of layer 4 ask. No program is imported.
-/
import Derived.Test.YtfoghjhdjmapnaaDoorPureCtl
namespace Go.Pantry
open Go.RowKit

theorem trim_pre (p q : List UInt8) (c d : UInt8) (hc : p.head? = some c) (hcb : isBl c = false) (hd : p.getLast? = some d) (hdb : isBl d = false) : ∃ q', trimL (p ++ q) = p ++ q' := by
  have bl : ∀ x, [32, 9].contains x = isBl x := fun x => isBl_contains x
  obtain ⟨p1, rfl⟩ : ∃ p1, p = p1 ++ [d] := by
    rcases List.eq_nil_or_concat p with rfl | ⟨p1, a, rfl⟩
    · simp at hd
    · rw [List.concat_eq_append] at hd ⊢
      simp at hd
      subst hd
      exact ⟨p1, rfl⟩
  unfold trimL Lib.trimS Lib.trimRightS
  have hr : ((p1 ++ [d] ++ q).reverse.dropWhile (fun x => [32, 9].contains x)).reverse = (p1 ++ [d]) ++ (q.reverse.dropWhile (fun x => [32, 9].contains x)).reverse := by
    rw [List.reverse_append, List.dropWhile_append]
    split
    · rename_i he
      have he' : q.reverse.dropWhile (fun x => [32, 9].contains x) = [] := by simpa using he
      rw [he', List.reverse_append, List.reverse_cons, List.reverse_nil, List.nil_append, List.cons_append, List.nil_append, List.dropWhile_cons, if_neg (by rw [bl, hdb]; simp)]
      simp
    · simp
  rw [hr]
  unfold Lib.trimLeftS
  have hne : ∃ r, p1 ++ [d] = c :: r := by
    cases h : p1 ++ [d] with
    | nil => simp at h
    | cons x r => rw [h] at hc; simp at hc; exact ⟨r, by rw [hc]⟩
  obtain ⟨r, hr2⟩ := hne
  rw [hr2, List.cons_append, List.dropWhile_cons, if_neg (by rw [bl, hcb]; simp)]
  exact ⟨_, rfl⟩
/-- seconds as a number: -1 where none is said -/
def intO : Option Nat → Int
  | none => -1
  | some n => (n : Int)
/-- one directive that is no seconds' -/
theorem ctlE_flag (e m : List UInt8) (h : lowerL (nameE e) = m) (h1 : (m == nMaxAge) = false) (h2 : (m == nShared) = false) (h3 : (m == nMinFresh) = false) (h4 : (m == nMaxStale) = false) :
    ctlE [e] false = { noStore := m == nNoStore, noCache := m == nNoCache, priv := m == nPrivate, pub := m == nPublic, must := m == nMust || m == nProxy, only := m == nOnly, maxAge := none, shared := none, minFresh := none, maxStale := none } := by
  simp only [ctlE, saidE, toldE, List.foldl_cons, List.foldl_nil, List.any_cons, List.any_nil, dirE, h, h1, h2, h3, h4, comb, Bool.or_false, Bool.false_eq_true, if_false]
theorem listL_name (n : List UInt8) (h : (44 : UInt8) ∉ n) (ht : trimL n = n) (hn : n ≠ []) : listL n = [n] := by
  rw [listL_single n h, ht, if_neg hn]
theorem listL_named (n arg : List UInt8) (c : UInt8) (hc : n.head? = some c) (hcb : isBl c = false) (h : (44 : UInt8) ∉ n) (h61 : (61 : UInt8) ∉ n) (ha : (44 : UInt8) ∉ arg) : ∃ e, listL (n ++ 61 :: arg) = [e] ∧ nameE e = n := by
  obtain ⟨q, hq⟩ := trim_pre (n ++ [61]) arg c 61 (by cases n <;> simp_all) hcb (by simp) (by decide)
  have e : n ++ [61] ++ arg = n ++ 61 :: arg := by simp
  have e2 : n ++ [61] ++ q = n ++ 61 :: q := by simp
  rw [e, e2] at hq
  refine ⟨n ++ 61 :: q, ?_, (nameE_at h61).1⟩
  rw [listL_single _ (by
    intro hm
    rcases List.mem_append.1 hm with hm | hm
    · exact h hm
    · rcases List.mem_cons.1 hm with hm | hm
      · cases hm
      · exact ha hm), hq, if_neg (by cases n <;> simp)]

/-! seconds -/
theorem digit_plain (c : UInt8) (h : isDig c = true) : c ≠ 34 ∧ c ≠ 92 ∧ c ≠ 44 ∧ isTok c = true ∧ isBl c = false := by
  unfold isDig at h
  simp only [Bool.and_eq_true, decide_eq_true_eq] at h
  have hn : ∀ k : UInt8, (k.toNat < 48 ∨ 57 < k.toNat) → c ≠ k := fun k hk e => by rw [e] at h; omega
  refine ⟨hn 34 (by decide), hn 92 (by decide), hn 44 (by decide), ?_, ?_⟩
  · unfold isTok isDig
    simp [h]
  · unfold isBl
    have h1 : (c.toNat == 32) = false := by simp; omega
    have h2 : (c.toNat == 9) = false := by simp; omega
    rw [h1, h2]; rfl
theorem digF_mem {f n : Nat} {c : UInt8} (h : c ∈ digF f n) : isDig c = true := List.all_eq_true.1 (digF_all f n) c h
theorem esc_digits (l : List UInt8) (h : ∀ c ∈ l, isDig c = true) : esc l = l := by
  induction l with
  | nil => rfl
  | cons c l ih =>
    have hc := digit_plain c (h c (List.mem_cons_self ..))
    show escC c ++ esc l = _
    rw [ih (fun d hd => h d (List.mem_cons_of_mem _ hd))]
    unfold escC
    rw [if_neg (by intro e; rcases e with e | e; exact hc.1 e; exact hc.2.1 e)]
    rfl
theorem secE_plain (n other : Nat) (h : n < 10 ^ 13) : secE (48 :: 48 :: digF 13 n) other = min n farN := by
  have hz : (48 : UInt8) :: 48 :: digF 13 n = List.replicate 2 48 ++ digF 13 n := rfl
  have ht : tokenL (48 :: 48 :: digF 13 n) = true := by
    unfold tokenL
    rw [Bool.and_eq_true]
    refine ⟨List.all_eq_true.2 fun c hc => ?_, rfl⟩
    rcases List.mem_cons.1 hc with rfl | hc
    · decide
    · rcases List.mem_cons.1 hc with rfl | hc
      · decide
      · exact (digit_plain c (digF_mem hc)).2.2.2.1
  unfold secE unquoteL
  rw [if_pos ht, hz]
  show (numberL (List.replicate 2 48 ++ digF 13 n)).getD other = _
  rw [number_zeros 2 n h]; rfl
theorem secE_quoted (n other : Nat) (h : n < 10 ^ 13) : secE (34 :: (digF 13 n ++ [34])) other = min n farN := by
  have h1 := unquote_esc (digF 13 n)
  rw [esc_digits _ (fun c hc => digF_mem hc)] at h1
  unfold secE
  rw [h1]
  show (numberL (digF 13 n)).getD other = _
  have h2 := number_zeros 0 n h
  rw [List.replicate_zero, List.nil_append] at h2
  rw [h2]; rfl
/-- the text of the statement on seconds -/
def secText (n : List UInt8) (a b : Nat) : List UInt8 := n ++ [61, 48, 48] ++ digF 13 a ++ [44, 32, 120, 61, 49, 44, 32] ++ n ++ [61, 34] ++ digF 13 b ++ [34]
theorem secText_elems (n : List UInt8) (a b : Nat) (c : UInt8) (hc : n.head? = some c) (hcb : isBl c = false) (h44 : (44 : UInt8) ∉ n) (h34 : (34 : UInt8) ∉ n) :
    listL (secText n a b) = [n ++ 61 :: 48 :: 48 :: digF 13 a, [120, 61, 49], n ++ 61 :: 34 :: (digF 13 b ++ [34])] := by
  have e : secText n a b = (n ++ 61 :: 48 :: 48 :: digF 13 a) ++ 44 :: 32 :: ([120, 61, 49] ++ 44 :: 32 :: (n ++ 61 :: 34 :: (digF 13 b ++ [34]))) := by simp [secText]
  have q1 : (34 : UInt8) ∉ n ++ 61 :: 48 :: 48 :: digF 13 a := by
    intro hm
    rcases List.mem_append.1 hm with hm | hm
    · exact h34 hm
    · simp only [List.mem_cons] at hm
      rcases hm with hm | hm | hm | hm
      · cases hm
      · cases hm
      · cases hm
      · exact (digit_plain 34 (digF_mem hm)).1 rfl
  have k1 : (44 : UInt8) ∉ n ++ 61 :: 48 :: 48 :: digF 13 a := by
    intro hm
    rcases List.mem_append.1 hm with hm | hm
    · exact h44 hm
    · simp only [List.mem_cons] at hm
      rcases hm with hm | hm | hm | hm
      · cases hm
      · cases hm
      · cases hm
      · exact (digit_plain 44 (digF_mem hm)).2.2.1 rfl
  have k2 : (44 : UInt8) ∉ n ++ 61 :: 34 :: (digF 13 b ++ [34]) := by
    intro hm
    rcases List.mem_append.1 hm with hm | hm
    · exact h44 hm
    · simp only [List.mem_cons, List.mem_append, List.not_mem_nil, or_false] at hm
      rcases hm with hm | hm | hm | hm
      · cases hm
      · cases hm
      · exact (digit_plain 44 (digF_mem hm)).2.2.1 rfl
      · cases hm
  have hne : ∀ r : List UInt8, n ++ 61 :: r ≠ [] := fun r => by cases n <;> simp
  have hh : ∀ (r : List UInt8) d, (n ++ 61 :: r).head? = some d → isBl d = false := fun r d hd => by
    cases n with
    | nil => simp at hc
    | cons x n => simp at hc hd; rw [← hd, hc]; exact hcb
  have t1 : trimL (n ++ 61 :: 48 :: 48 :: digF 13 a) = n ++ 61 :: 48 :: 48 :: digF 13 a := trim_whole _ (hh _) (fun d hd => by
    have hd2 : (n ++ 61 :: 48 :: 48 :: digF 13 a).getLast? = (digF 13 a).getLast? := by
      have e2 : n ++ 61 :: 48 :: 48 :: digF 13 a = (n ++ [61, 48, 48]) ++ digF 13 a := by simp
      rw [e2, List.getLast?_append]
      cases h : (digF 13 a).getLast? with
      | none => exact absurd (List.getLast?_eq_none_iff.1 h) (digF_ne 12 a)
      | some x => rfl
    rw [hd2] at hd
    exact (digit_plain d (digF_mem (List.mem_of_getLast? hd))).2.2.2.2)
  have t2 : trimL (n ++ 61 :: 34 :: (digF 13 b ++ [34])) = n ++ 61 :: 34 :: (digF 13 b ++ [34]) := trim_whole _ (hh _) (fun d hd => by
    have e2 : n ++ 61 :: 34 :: (digF 13 b ++ [34]) = (n ++ 61 :: 34 :: digF 13 b) ++ [34] := by simp
    rw [e2, List.getLast?_append] at hd
    simp at hd
    rw [← hd]; decide)
  rw [e, listL_two _ _ _ (Nat.le_refl _) q1, listL_blank, listL_two _ _ _ (Nat.le_refl _) (by decide), listL_blank, listL_single _ k1, t1, if_neg (hne _), listL_single _ k2, t2, if_neg (hne _)]
  rfl
theorem secText_ctl (n m : List UInt8) (a b : Nat) (c : UInt8) (hc : n.head? = some c) (hcb : isBl c = false) (h44 : (44 : UInt8) ∉ n) (h34 : (34 : UInt8) ∉ n) (h61 : (61 : UInt8) ∉ n) (hm : lowerL n = m) (ha : a ≤ farN) (hb : b ≤ farN)
    (hf : (m == nNoStore) = false ∧ (m == nNoCache) = false ∧ (m == nPrivate) = false ∧ (m == nPublic) = false ∧ (m == nMust) = false ∧ (m == nProxy) = false ∧ (m == nOnly) = false) :
    ctlE (listL (secText n a b)) false = { noStore := false, noCache := false, priv := false, pub := false, must := false, only := false, maxAge := (if m == nMaxAge then some (min a b) else none), shared := (if m == nShared then some (min a b) else none), minFresh := (if m == nMinFresh then some (max a b) else none), maxStale := (if m == nMaxStale then some (min a b) else none) } := by
  rw [secText_elems n a b c hc hcb h44 h34]
  obtain ⟨n1, a1, x1⟩ := nameE_at (b := 48 :: 48 :: digF 13 a) h61
  obtain ⟨n2, a2, x2⟩ := nameE_at (b := 34 :: (digF 13 b ++ [34])) h61
  have s1 := fun o => secE_plain a o (by unfold farN at ha; omega)
  have s2 := fun o => secE_quoted b o (by unfold farN at hb; omega)
  have e1 : min a farN = a := Nat.min_eq_left ha
  have e2 : min b farN = b := Nat.min_eq_left hb
  have nx : nameE [120, 61, 49] = [120] := by decide
  have lx : lowerL [120] = [120] := by decide
  obtain ⟨f1, f2, f3, f4, f5, f6, f7⟩ := hf
  have g : ∀ (k : List UInt8), ([120] == k) = false → ∀ o bare most, toldE k o bare most [n ++ 61 :: 48 :: 48 :: digF 13 a, [120, 61, 49], n ++ 61 :: 34 :: (digF 13 b ++ [34])] = if m == k then some (if most then max a b else min a b) else none := by
    intro k hk o bare most
    simp only [toldE, List.foldl_cons, List.foldl_nil, dirE, n1, a1, x1, n2, a2, x2, nx, lx, hk, hm, s1, s2, e1, e2, if_true, Bool.false_eq_true, if_false]
    cases (m == k) <;> simp [comb]
  have gs : ∀ (k : List UInt8), ([120] == k) = false → (m == k) = false → saidE k [n ++ 61 :: 48 :: 48 :: digF 13 a, [120, 61, 49], n ++ 61 :: 34 :: (digF 13 b ++ [34])] = false := by
    intro k hk hmk
    simp only [saidE, List.any_cons, List.any_nil, n1, n2, nx, lx, hk, hm, hmk, Bool.or_false]
  unfold ctlE
  rw [gs _ (by decide) f1, gs _ (by decide) f2, gs _ (by decide) f3, gs _ (by decide) f4, gs _ (by decide) f5, gs _ (by decide) f6, gs _ (by decide) f7, g _ (by decide), g _ (by decide), g _ (by decide), g _ (by decide)]
  rfl

/-! order -/
def rotL (l : List (List UInt8)) (r : Nat) : List (List UInt8) := l.drop r ++ l.take r
theorem rotL_at (l : List (List UInt8)) (r i : Nat) (hr : r < l.length) (hi : i < l.length) : (rotL l r)[i]? = l[(i + r) % l.length]? := by
  unfold rotL
  by_cases h : i < l.length - r
  · rw [List.getElem?_append_left (by rw [List.length_drop]; exact h), List.getElem?_drop, Nat.mod_eq_of_lt (by omega), Nat.add_comm]
  · have e : (i + r) % l.length = i + r - l.length := by
      rw [Nat.mod_eq_sub_mod (by omega), Nat.mod_eq_of_lt (by omega)]
    rw [List.getElem?_append_right (by rw [List.length_drop]; omega), List.length_drop, e, List.getElem?_take_of_lt (by omega)]
    congr 1; omega
theorem order_turn (l : List (List UInt8)) (r : Nat) (h : ∀ a ∈ l, (34 : UInt8) ∉ a) (p : Bool) : ctlE (listL (commaL (rotL l r))) p = ctlE (listL (commaL l)) p := by
  rw [listL_commaL _ (fun a ha => h a (by
    unfold rotL at ha
    rcases List.mem_append.1 ha with ha | ha
    · exact List.mem_of_mem_drop ha
    · exact List.mem_of_mem_take ha)), listL_commaL l h]
  unfold rotL
  rw [List.flatMap_append, ctlE_comm, ← List.flatMap_append, List.take_append_drop]
theorem order_apart (L : List Fld) (l : List (List UInt8)) (hl : allF L nCC = l) (hne : l ≠ []) (h : ∀ a ∈ l, (34 : UInt8) ∉ a) : ctlF L = ctlE (listL (commaL l)) false := by
  rw [ctlF_some L (by rw [hl]; exact hne), elementsF_of, hl, listL_joinC l h, listL_commaL l h]

/-! a directive more -/
theorem more_b (L : List Fld) (n s : List UInt8) (hn : lowerL n = nCC) (h : ∀ a ∈ allF L nCC, (34 : UInt8) ∉ a) : ctlF (L ++ [(n, s)]) = ctlE ((allF L nCC).flatMap listL ++ listL s) false := by
  have h1 : allF (L ++ [(n, s)]) nCC = allF L nCC ++ [s] := by
    have : isF nCC (n, s) = true := by unfold isF; rw [hn]; decide
    rw [allF_snoc, this]; rfl
  rw [ctlF_some _ (by rw [h1]; simp), elementsF_of, h1, listL_joinC_snoc _ s h]
theorem more_a (L : List Fld) (h : ∀ a ∈ allF L nCC, (34 : UInt8) ∉ a) : (if (allF L nCC).isEmpty = true then ({ ctlF L with noCache := false } : Ctl) else ctlF L) = ctlE ((allF L nCC).flatMap listL) false := by
  cases ha : allF L nCC with
  | nil =>
    unfold ctlF
    rw [elementsF_of, ha]
    rfl
  | cons a r =>
    rw [← ha, ctlF_some L (by rw [ha]; simp), elementsF_of, listL_joinC _ h, if_neg (by rw [ha]; simp)]
theorem said_mono (k : List UInt8) (A B : List (List UInt8)) : ((!saidE k A) || saidE k (A ++ B)) = true := by
  rw [saidE_append]; cases saidE k A <;> rfl
theorem told_less (k : List UInt8) (o b : Nat) (A B : List (List UInt8)) : intO (toldE k o b false A) < 0 ∨ (0 ≤ intO (toldE k o b false (A ++ B)) ∧ intO (toldE k o b false (A ++ B)) ≤ intO (toldE k o b false A)) := by
  rw [toldE_append]
  cases ha : toldE k o b false A with
  | none => left; decide
  | some x =>
    right
    obtain ⟨y, hy, hle⟩ := comb_less (some x) (toldE k o b false B) x rfl
    rw [hy]
    simp only [intO]
    omega
theorem told_more (k : List UInt8) (o b : Nat) (A B : List (List UInt8)) : intO (toldE k o b true A) ≤ intO (toldE k o b true (A ++ B)) := by
  rw [toldE_append]
  cases ha : toldE k o b true A with
  | none =>
    cases toldE k o b true B with
    | none => exact Int.le_refl _
    | some y => simp only [comb, intO]; omega
  | some x =>
    obtain ⟨y, hy, hle⟩ := comb_more (some x) (toldE k o b true B) x rfl
    rw [hy]
    simp only [intO]
    omega
theorem unq_len : ∀ (n : Nat) (l t : List UInt8), l.length ≤ n → unq l = some t → t.length ≤ l.length := by
  intro n
  induction n with
  | zero =>
    intro l t h hu
    have : l = [] := List.eq_nil_of_length_eq_zero (by omega)
    subst this
    simp [unq] at hu
  | succ n ih =>
    intro l t h hu
    match l, h, hu with
    | [], _, hu => simp [unq] at hu
    | [c], _, hu =>
      rw [unq] at hu
      split at hu
      · cases hu; simp
      · cases hu
    | c :: d :: r, h, hu =>
      simp only [List.length_cons] at h ⊢
      rw [unq] at hu
      split at hu
      · cases hu
      · split at hu
        · obtain ⟨x, hx, rfl⟩ := Option.map_eq_some_iff.1 hu
          have := ih r x (by omega) hx
          simp; omega
        · obtain ⟨x, hx, rfl⟩ := Option.map_eq_some_iff.1 hu
          have := ih (d :: r) x (by simp; omega) hx
          simp at this ⊢; omega
theorem unquoteL_len {l t : List UInt8} (h : unquoteL l = some t) : t.length ≤ l.length := by
  unfold unquoteL at h
  split at h
  · cases h; exact Nat.le_refl _
  · split at h
    · have := unq_len l.tail.length l.tail t (Nat.le_refl _) h
      rw [List.length_tail] at this; omega
    · cases h
theorem nameE_len (e : List UInt8) : (nameE e).length ≤ e.length := by
  unfold nameE
  induction e with
  | nil => simp
  | cons c e ih => rw [List.takeWhile_cons]; split <;> simp; omega
theorem argE_len (e : List UInt8) : (argE e).length ≤ e.length := by
  unfold argE
  have : (e.dropWhile (· != 61)).length ≤ e.length := by
    induction e with
    | nil => simp
    | cons c e ih => rw [List.dropWhile_cons]; split <;> simp; omega
  rw [List.length_tail]; omega
theorem secE_far (arg : List UInt8) (other : Nat) (h : other ≤ farN) : secE arg other ≤ farN := by
  unfold secE
  cases unquoteL arg with
  | none => exact h
  | some s =>
    show (numberL s).getD other ≤ farN
    unfold numberL
    split
    · exact Nat.min_le_right _ _
    · exact h
end Go.Pantry
