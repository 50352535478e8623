/-
  Places: the plain mathematics of layer 8: hosts, cleaned texts, paths, targets. No program is imported.
-/
import Derived.Test.YtffenndchmcncaaGreatDoorPureAll1
import Derived.Test.YtffenndchmcncaaGreatDoorPureAll2
namespace Go.Pantry
open Go.RowKit

def isAl (c : UInt8) : Bool := isLow c || isUp c || isDig c
def isHC (c : UInt8) : Bool := isAl c || c == 45 || c == 46
def isUn (c : UInt8) : Bool := isAl c || c == 45 || c == 46 || c == 95 || c == 126
/-- what stands ahead of the first x, what stands behind it, and whether there is one -/
def bef (x : UInt8) (s : List UInt8) : List UInt8 := s.takeWhile (· != x)
def beh (x : UInt8) (s : List UInt8) : List UInt8 := (s.dropWhile (· != x)).tail
def hasB (x : UInt8) (s : List UInt8) : Bool := s.any (· == x)
theorem bef_at (x : UInt8) {a b : List UInt8} (h : x ∉ a) : bef x (a ++ x :: b) = a ∧ beh x (a ++ x :: b) = b ∧ hasB x (a ++ x :: b) = true := by
  induction a with
  | nil => simp [bef, beh, hasB]
  | cons c a ih =>
    have hc : (c != x) = true := by rw [bne_iff_ne]; intro e; exact h (by simp [e])
    obtain ⟨h1, h2, _⟩ := ih (fun hm => h (List.mem_cons_of_mem _ hm))
    refine ⟨?_, ?_, by simp [hasB]⟩
    · show bef x (c :: (a ++ x :: b)) = _
      unfold bef at h1 ⊢
      rw [List.takeWhile_cons_of_pos (by simpa using hc), h1]
    · show beh x (c :: (a ++ x :: b)) = _
      unfold beh at h2 ⊢
      rw [List.dropWhile_cons_of_pos (by simpa using hc), h2]
theorem bef_none (x : UInt8) {a : List UInt8} (h : x ∉ a) : bef x a = a ∧ beh x a = [] ∧ hasB x a = false := by
  have h1 : ∀ c ∈ a, (c != x) = true := fun c hc => by rw [bne_iff_ne]; intro e; exact h (e ▸ hc)
  have h2 := take_all_of (p := fun c => c != x) h1
  refine ⟨h2.1, ?_, ?_⟩
  · unfold beh; rw [h2.2]; rfl
  · unfold hasB; rw [Bool.eq_false_iff]; intro hh
    rw [List.any_eq_true] at hh
    obtain ⟨c, hc, he⟩ := hh
    have := h1 c hc
    simp at this he
    exact this he
theorem bef_cases (x : UInt8) (s : List UInt8) : (x ∉ s ∧ bef x s = s ∧ beh x s = [] ∧ hasB x s = false) ∨ (∃ a b, x ∉ a ∧ s = a ++ x :: b ∧ bef x s = a ∧ beh x s = b ∧ hasB x s = true) := by
  by_cases h : x ∈ s
  · obtain ⟨a, b, e, hn⟩ : ∃ a b, s = a ++ x :: b ∧ x ∉ a := by
      induction s with
      | nil => cases h
      | cons c s ih =>
        by_cases hc : c = x
        · exact ⟨[], s, by simp [hc], by simp⟩
        · have hm : x ∈ s := by
            rcases List.mem_cons.1 h with e | e
            · exact absurd e.symm hc
            · exact e
          obtain ⟨a', b', e', hn⟩ := ih hm
          exact ⟨c :: a', b', by rw [e']; rfl, by simp [hn]; exact fun h => hc h.symm⟩
    have h3 := bef_at x (b := b) hn
    rw [← e] at h3
    exact .inr ⟨a, b, hn, e, h3⟩
  · exact .inl ⟨h, bef_none x h⟩
/-- a port's number, 0 to 99999 -/
def portL (d : List UInt8) : List UInt8 := if valL d = 80 then [] else 58 :: digF 5 (valL d)
def hostL (s : List UInt8) : Option (List UInt8) :=
  if bef 58 s = [] ∨ 40 < (bef 58 s).length ∨ (bef 58 s).all isHC = false then none
  else if beh 58 s = [] then some (lowerL (bef 58 s))
  else if 5 < (beh 58 s).length ∨ (beh 58 s).all isDig = false then none
  else some (lowerL (bef 58 s) ++ portL (beh 58 s))
/-- what stands for a % and two digits that come to n -/
def hexG (n : Nat) : UInt8 := if n < 10 then (48 + n).toUInt8 else (55 + n).toUInt8
def escB (n : Nat) : List UInt8 := if isUn n.toUInt8 then [n.toUInt8] else [37, hexG (n / 16), hexG (n % 16)]
def badC (c : UInt8) : Bool := decide (c.toNat < 33) || decide (126 < c.toNat) || c == 35
def cleanL : List UInt8 → Option (List UInt8)
  | [] => some []
  | [c] => if badC c || c == 37 then none else some [c]
  | [c, d] => if badC c || c == 37 then none else (cleanL [d]).map (c :: ·)
  | c :: a :: b :: r => if badC c then none else if c == 37 then
      (match hexV a, hexV b with
      | some x, some y => (cleanL r).map (escB (16 * x + y) ++ ·)
      | _, _ => none)
    else (cleanL (a :: b :: r)).map (c :: ·)
theorem cleanL_nil : cleanL [] = some [] := by rw [cleanL]
theorem cleanL_bad {c : UInt8} (r : List UInt8) (h : badC c = true) : cleanL (c :: r) = none := by
  match r with
  | [] => rw [cleanL]; simp [h]
  | [d] => rw [cleanL]; simp [h]
  | a :: b :: r => rw [cleanL]; simp [h]
theorem cleanL_plain {c : UInt8} (r : List UInt8) (h : badC c = false) (h2 : c ≠ 37) : cleanL (c :: r) = (cleanL r).map (c :: ·) := by
  match r with
  | [] => rw [cleanL, cleanL]; simp [h, h2]
  | [d] => conv => lhs; rw [cleanL, if_neg (by simp [h, h2])]
  | a :: b :: r => rw [cleanL]; simp [h, h2]
theorem cleanL_esc {a b : UInt8} {x y : Nat} (r : List UInt8) (ha : hexV a = some x) (hb : hexV b = some y) : cleanL (37 :: a :: b :: r) = (cleanL r).map (escB (16 * x + y) ++ ·) := by
  rw [cleanL, if_neg (by decide), if_pos (by decide), ha, hb]
theorem cleanL_esc1 {a : UInt8} (r : List UInt8) (ha : hexV a = none) : cleanL (37 :: a :: r) = none := by
  match r with
  | [] => rw [cleanL]; simp
  | b :: r => rw [cleanL, if_neg (by decide), if_pos (by decide), ha]
theorem cleanL_esc2 {a b : UInt8} (r : List UInt8) (hb : hexV b = none) : cleanL (37 :: a :: b :: r) = none := by
  rw [cleanL, if_neg (by decide), if_pos (by decide), hb]
  cases hexV a <;> rfl
theorem cleanL_short0 : cleanL [37] = none := by rw [cleanL]; simp
/-- the induction that cleaning goes by -/
theorem clean_ind {p : List UInt8 → Prop} (h0 : p []) (hb : ∀ c r, badC c = true → p (c :: r)) (hp : ∀ c r, badC c = false → c ≠ 37 → p r → p (c :: r))
    (he : ∀ a b r x y, hexV a = some x → hexV b = some y → p r → p (37 :: a :: b :: r)) (h1 : p [37]) (h2 : ∀ a r, hexV a = none → p (37 :: a :: r)) (h3 : ∀ a, p [37, a]) (h4 : ∀ a b r, hexV b = none → p (37 :: a :: b :: r)) : ∀ s, p s := by
  intro s
  induction hn : s.length using Nat.strongRecOn generalizing s with
  | _ n ih =>
    subst hn
    match s with
    | [] => exact h0
    | c :: r =>
      by_cases hc : badC c = true
      · exact hb c r hc
      · have hc' : badC c = false := by simpa using hc
        by_cases h37 : c = 37
        · subst h37
          match r with
          | [] => exact h1
          | [a] => exact h3 a
          | a :: b :: r =>
            cases ha : hexV a with
            | none => exact h2 a _ ha
            | some x =>
              cases hb : hexV b with
              | none => exact h4 a b r hb
              | some y => exact he a b r x y ha hb (ih r.length (by simp; omega) r rfl)
        · exact hp c r hc' h37 (ih r.length (by simp) r rfl)
theorem hexG_V : ∀ n : Nat, n < 16 → hexV (hexG n) = some n := by decide
theorem hexG_plain : ∀ n : Nat, n < 16 → isAl (hexG n) = true := by decide
theorem al_plain : ∀ c : UInt8, isUn c = true → badC c = false ∧ c ≠ 37 ∧ c ≠ 47 ∧ c ≠ 63 := fun c h => by
  have h1 := byte_all (p := fun c => !isUn c || (!badC c && c != 37 && c != 47 && c != 63)) (by decide +kernel) c
  simp only [h, Bool.not_true, Bool.false_or, Bool.and_eq_true, Bool.not_eq_true', bne_iff_ne, ne_eq] at h1
  exact ⟨h1.1.1.1, h1.1.1.2, h1.1.2, h1.2⟩
theorem esc_un {n : Nat} (h : isUn n.toUInt8 = true) : escB n = [n.toUInt8] := by unfold escB; rw [if_pos h]
theorem esc_not {n : Nat} (h : isUn n.toUInt8 = false) : escB n = [37, hexG (n / 16), hexG (n % 16)] := by unfold escB; rw [h]; rfl
theorem esc_mem {n : Nat} (hn : n < 256) : ∀ c ∈ escB n, c ≠ 47 ∧ c ≠ 63 := by
  by_cases h : isUn n.toUInt8 = true
  · rw [esc_un h]
    intro c hc
    simp at hc; subst hc
    exact ⟨(al_plain _ h).2.2.1, (al_plain _ h).2.2.2⟩
  · rw [esc_not (by simpa using h)]
    have hx : ∀ m, m < 16 → isUn (hexG m) = true := by decide
    intro c hc
    simp only [List.mem_cons, List.not_mem_nil, or_false] at hc
    rcases hc with rfl | rfl | rfl
    · decide
    · exact ⟨(al_plain _ (hx _ (by omega))).2.2.1, (al_plain _ (hx _ (by omega))).2.2.2⟩
    · exact ⟨(al_plain _ (hx _ (by omega))).2.2.1, (al_plain _ (hx _ (by omega))).2.2.2⟩
theorem hex_sum {a b : UInt8} {x y : Nat} (ha : hexV a = some x) (hb : hexV b = some y) : 16 * x + y < 256 := by
  have := hexV_le ha; have := hexV_le hb; omega
/-- a cleaned text behind another -/
theorem clean_after (t : List UInt8) {n : Nat} (hn : n < 256) : cleanL (escB n ++ t) = (cleanL t).map (escB n ++ ·) := by
  by_cases h : isUn n.toUInt8 = true
  · rw [esc_un h, List.singleton_append, cleanL_plain _ (al_plain _ h).1 (al_plain _ h).2.1]; rfl
  · have h' : isUn n.toUInt8 = false := by simpa using h
    rw [esc_not h']
    show cleanL (37 :: hexG (n / 16) :: hexG (n % 16) :: t) = _
    rw [cleanL_esc t (hexG_V _ (by omega)) (hexG_V _ (by omega)), show 16 * (n / 16) + n % 16 = n from by omega, esc_not h']
theorem clean_idem : ∀ s t, cleanL s = some t → cleanL t = some t := by
  refine clean_ind (p := fun s => ∀ t, cleanL s = some t → cleanL t = some t) ?_ ?_ ?_ ?_ ?_ ?_ ?_ ?_
  · intro t h; rw [cleanL_nil] at h; cases h; exact cleanL_nil
  · intro c r hb t h; rw [cleanL_bad r hb] at h; cases h
  · intro c r hb h37 ih t h
    rw [cleanL_plain r hb h37] at h
    cases hr : cleanL r with
    | none => rw [hr] at h; cases h
    | some u =>
      rw [hr] at h; cases h
      rw [cleanL_plain u hb h37, ih u hr]; rfl
  · intro a b r x y ha hb ih t h
    rw [cleanL_esc r ha hb] at h
    cases hr : cleanL r with
    | none => rw [hr] at h; cases h
    | some u =>
      rw [hr] at h; cases h
      rw [clean_after u (hex_sum ha hb), ih u hr]; rfl
  · intro t h; rw [cleanL_short0] at h; cases h
  · intro a r ha t h; rw [cleanL_esc1 r ha] at h; cases h
  · intro a t h
    rw [show cleanL [37, a] = none from by rw [cleanL]; simp] at h; cases h
  · intro a b r hb t h; rw [cleanL_esc2 r hb] at h; cases h
/-- a byte that is no digit and no % parts a text in two that are cleaned apart -/
theorem clean_parts {c : UInt8} (hc : badC c = false) (h37 : c ≠ 37) (hx : hexV c = none) (b : List UInt8) : ∀ a, cleanL (a ++ c :: b) = (match cleanL a, cleanL b with | some x, some y => some (x ++ c :: y) | _, _ => none) := by
  refine clean_ind ?_ ?_ ?_ ?_ ?_ ?_ ?_ ?_
  · rw [List.nil_append, cleanL_plain b hc h37, cleanL_nil]
    cases cleanL b <;> rfl
  · intro d r hd
    rw [List.cons_append, cleanL_bad _ hd, cleanL_bad _ hd]
  · intro d r hd h ih
    rw [List.cons_append, cleanL_plain _ hd h, cleanL_plain _ hd h, ih]
    cases cleanL r <;> cases cleanL b <;> rfl
  · intro d e r x y hd he ih
    show cleanL (37 :: d :: e :: (r ++ c :: b)) = _
    rw [cleanL_esc _ hd he, cleanL_esc _ hd he, ih]
    cases cleanL r <;> cases cleanL b <;> simp
  · show cleanL (37 :: c :: b) = _
    rw [cleanL_esc1 _ hx, cleanL_short0]
  · intro d r hd
    show cleanL (37 :: d :: (r ++ c :: b)) = _
    rw [cleanL_esc1 _ hd, cleanL_esc1 _ hd]
  · intro d
    show cleanL (37 :: d :: c :: b) = _
    rw [cleanL_esc2 _ hx, show cleanL [37, d] = none from by rw [cleanL]; simp]
  · intro d e r he
    show cleanL (37 :: d :: e :: (r ++ c :: b)) = _
    rw [cleanL_esc2 _ he, cleanL_esc2 _ he]
/-- no slash and no question mark comes up -/
theorem clean_none {x : UInt8} (hx : x = 47 ∨ x = 63) : ∀ s t, cleanL s = some t → x ∉ s → x ∉ t := by
  refine clean_ind (p := fun s => ∀ t, cleanL s = some t → x ∉ s → x ∉ t) ?_ ?_ ?_ ?_ ?_ ?_ ?_ ?_
  · intro t h _; rw [cleanL_nil] at h; cases h; simp
  · intro c r hb t h; rw [cleanL_bad r hb] at h; cases h
  · intro c r hb h37 ih t h hn
    rw [cleanL_plain r hb h37] at h
    cases hr : cleanL r with
    | none => rw [hr] at h; cases h
    | some u =>
      rw [hr] at h; cases h
      simp only [List.mem_cons, not_or] at hn ⊢
      exact ⟨hn.1, ih u hr hn.2⟩
  · intro a b r z y ha hb ih t h hn
    rw [cleanL_esc r ha hb] at h
    cases hr : cleanL r with
    | none => rw [hr] at h; cases h
    | some u =>
      rw [hr] at h; cases h
      simp only [List.mem_cons, not_or] at hn
      simp only [List.mem_append, not_or]
      refine ⟨fun hm => ?_, ih u hr hn.2.2.2⟩
      have := esc_mem (hex_sum ha hb) x hm
      rcases hx with rfl | rfl
      · exact this.1 rfl
      · exact this.2 rfl
  · intro t h; rw [cleanL_short0] at h; cases h
  · intro a r ha t h; rw [cleanL_esc1 r ha] at h; cases h
  · intro a t h
    rw [show cleanL [37, a] = none from by rw [cleanL]; simp] at h; cases h
  · intro a b r hb t h; rw [cleanL_esc2 r hb] at h; cases h
theorem clean_len : ∀ s t, cleanL s = some t → t.length ≤ s.length := by
  refine clean_ind (p := fun s => ∀ t, cleanL s = some t → t.length ≤ s.length) ?_ ?_ ?_ ?_ ?_ ?_ ?_ ?_
  · intro t h; rw [cleanL_nil] at h; cases h; simp
  · intro c r hb t h; rw [cleanL_bad r hb] at h; cases h
  · intro c r hb h37 ih t h
    rw [cleanL_plain r hb h37] at h
    cases hr : cleanL r with
    | none => rw [hr] at h; cases h
    | some u =>
      rw [hr] at h; cases h
      have := ih u hr
      simp; omega
  · intro a b r z y ha hb ih t h
    rw [cleanL_esc r ha hb] at h
    cases hr : cleanL r with
    | none => rw [hr] at h; cases h
    | some u =>
      rw [hr] at h; cases h
      have := ih u hr
      have h3 : (escB (16 * z + y)).length ≤ 3 := by unfold escB; split <;> simp
      simp; omega
  · intro t h; rw [cleanL_short0] at h; cases h
  · intro a r ha t h; rw [cleanL_esc1 r ha] at h; cases h
  · intro a t h
    rw [show cleanL [37, a] = none from by rw [cleanL]; simp] at h; cases h
  · intro a b r hb t h; rw [cleanL_esc2 r hb] at h; cases h
end Go.Pantry
