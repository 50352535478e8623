/-
  Places: the plain mathematics of layer 8, on: segments, paths, targets, and what is read again. No program is imported.
-/
import Derived.Test.YtffenndchmcncaaGreatDoorPurePlace
import Derived.Lib.Join
namespace Go.Pantry
open Go.RowKit

/-- what stands between slashes, and behind the last one -/
def segL : List UInt8 → List (List UInt8)
  | [] => [[]]
  | c :: r => if c == 47 then [] :: segL r else match segL r with
    | [] => [[c]]
    | x :: l => (c :: x) :: l
theorem seg_ne : ∀ s, segL s ≠ []
  | [] => by simp [segL]
  | c :: r => by
    rw [segL]; split
    · simp
    · split <;> simp
theorem seg_slash (b : List UInt8) : segL (47 :: b) = [] :: segL b := by rw [segL]; rfl
theorem seg_at (b : List UInt8) : ∀ {a : List UInt8}, (47 : UInt8) ∉ a → segL (a ++ 47 :: b) = a :: segL b
  | [], _ => seg_slash b
  | c :: a, h => by
    have hc : (c == 47) = false := by rw [beq_eq_false_iff_ne]; intro e; exact h (by simp [e])
    rw [List.cons_append, segL, hc, seg_at b (fun hm => h (List.mem_cons_of_mem _ hm))]; rfl
theorem seg_none : ∀ {a : List UInt8}, (47 : UInt8) ∉ a → segL a = [a]
  | [], _ => rfl
  | c :: a, h => by
    have hc : (c == 47) = false := by rw [beq_eq_false_iff_ne]; intro e; exact h (by simp [e])
    rw [segL, hc, seg_none (fun hm => h (List.mem_cons_of_mem _ hm))]; rfl
/-- the induction that segments go by -/
theorem seg_ind {p : List UInt8 → Prop} (h0 : ∀ a, (47 : UInt8) ∉ a → p a) (h1 : ∀ a b, (47 : UInt8) ∉ a → p b → p (a ++ 47 :: b)) : ∀ s, p s := by
  intro s
  induction hn : s.length using Nat.strongRecOn generalizing s with
  | _ n ih =>
    subst hn
    rcases bef_cases 47 s with ⟨h, _⟩ | ⟨a, b, h, e, _⟩
    · exact h0 s h
    · rw [e]
      exact h1 a b h (ih b.length (by rw [e]; simp; omega) b rfl)
theorem seg_no : ∀ s, ∀ x ∈ segL s, (47 : UInt8) ∉ x := by
  refine seg_ind ?_ ?_
  · intro a h x hx
    rw [seg_none h] at hx
    simp at hx; rw [hx]; exact h
  · intro a b h ih x hx
    rw [seg_at b h] at hx
    rcases List.mem_cons.1 hx with rfl | hx
    · exact h
    · exact ih x hx
theorem seg_join : ∀ {l : List (List UInt8)}, l ≠ [] → (∀ x ∈ l, (47 : UInt8) ∉ x) → segL (joinL [47] l) = l
  | [], h, _ => absurd rfl h
  | [a], _, h => by show segL a = [a]; exact seg_none (h a (by simp))
  | a :: b :: r, _, h => by
    show segL (a ++ [47] ++ joinL [47] (b :: r)) = _
    rw [List.append_assoc, List.singleton_append, seg_at _ (h a (by simp)), seg_join (by simp) (fun x hx => h x (List.mem_cons_of_mem _ hx))]
theorem seg_pieces : ∀ (s : List UInt8) (n : Nat), s.length ≤ n → piecesL [47] n s = segL s := by
  refine seg_ind (p := fun s => ∀ n, s.length ≤ n → piecesL [47] n s = segL s) ?_ ?_
  · intro a h n _
    rw [seg_none h]
    cases n with
    | zero => rfl
    | succ n => rw [piecesL, findL_no 47 [] a h]
  · intro a b h ih n hn
    rw [seg_at b h]
    have hl : a.length + (b.length + 1) ≤ n := by simpa using hn
    obtain ⟨m, rfl⟩ : ∃ m, n = m + 1 := ⟨n - 1, by omega⟩
    have hf := findL_at 47 [] a b h
    rw [List.append_assoc, List.singleton_append] at hf
    rw [piecesL, hf]
    simp only
    rw [List.take_left, show a.length + [(47 : UInt8)].length = a.length + 1 from rfl, ← List.drop_drop, List.drop_left]
    show a :: piecesL [47] m b = _
    rw [ih m (by omega)]
theorem seg_split (s : List UInt8) : Lib.split s [47] = segL s := by
  unfold Lib.split
  rw [splitK_pieces, pieces_count (by simp) s.length s (Nat.le_refl _)]
  exact seg_pieces s _ (Nat.le_refl _)
theorem join_lib : ∀ l : List (List UInt8), Lib.join l [47] = joinL [47] l
  | [] => rfl
  | [a] => by simp [Lib.join, joinL, List.intercalate, List.intersperse]
  | a :: b :: r => by
    have ih := join_lib (b :: r)
    unfold Lib.join at ih ⊢
    show _ = a ++ [47] ++ joinL [47] (b :: r)
    rw [← ih]
    simp [List.intercalate, List.intersperse]

def dotS : List UInt8 := [46]
def dots2 : List UInt8 := [46, 46]
def isDots (x : List UInt8) : Bool := x == [46] || x == [46, 46]
/-- one segment more; last: it is the last one -/
def stepS (acc : List (List UInt8)) (x : List UInt8) (last : Bool) : List (List UInt8) :=
  if isDots x then (if x == [46, 46] then acc.dropLast else acc) ++ (if last then [[]] else []) else acc ++ [x]
def settleL : List (List UInt8) → List (List UInt8) → List (List UInt8)
  | acc, [] => acc
  | acc, x :: r => settleL (stepS acc x r.isEmpty) r
def pathL (p : List UInt8) : List UInt8 := 47 :: joinL [47] (settleL [] (segL p.tail))
theorem settle_snoc (x : List UInt8) : ∀ (l acc : List (List UInt8)), (∀ y ∈ l, True) → settleL acc (l ++ [x]) = stepS (l.foldl (fun a y => stepS a y false) acc) x true
  | [], acc, _ => rfl
  | y :: l, acc, _ => by
    have h := settle_snoc x l (stepS acc y false) (fun _ _ => trivial)
    rw [List.cons_append, settleL, show (l ++ [x]).isEmpty = false from by simp, h]; rfl
theorem step_mem {acc : List (List UInt8)} {x : List UInt8} {b : Bool} : ∀ y ∈ stepS acc x b, y ∈ acc ∨ (y = x ∧ isDots x = false) ∨ y = [] := by
  intro y hy
  unfold stepS at hy
  split at hy
  · rcases List.mem_append.1 hy with h | h
    · left
      split at h
      · exact List.dropLast_subset _ h
      · exact h
    · right; right
      cases b <;> simp at h
      exact h
  · rename_i hd
    rcases List.mem_append.1 hy with h | h
    · exact .inl h
    · simp at h; exact .inr (.inl ⟨h, by simpa using hd⟩)
theorem settle_mem : ∀ (l acc : List (List UInt8)), ∀ y ∈ settleL acc l, y ∈ acc ∨ (y ∈ l ∧ isDots y = false) ∨ y = []
  | [], acc, y, h => .inl h
  | x :: r, acc, y, h => by
    rw [settleL] at h
    rcases settle_mem r _ y h with h | h | h
    · rcases step_mem y h with h | h | h
      · exact .inl h
      · obtain ⟨rfl, hd⟩ := h; exact .inr (.inl ⟨by simp, hd⟩)
      · exact .inr (.inr h)
    · exact .inr (.inl ⟨List.mem_cons_of_mem _ h.1, h.2⟩)
    · exact .inr (.inr h)
theorem settle_plain : ∀ (l acc : List (List UInt8)), (∀ x ∈ l, isDots x = false) → settleL acc l = acc ++ l
  | [], acc, _ => by simp [settleL]
  | x :: r, acc, h => by
    rw [settleL, stepS, if_neg (by simp [h x (by simp)]), settle_plain r _ (fun y hy => h y (List.mem_cons_of_mem _ hy))]; simp
def wS (l : List (List UInt8)) : Nat := (l.map fun x => x.length + 1).sum
theorem wS_append (a b : List (List UInt8)) : wS (a ++ b) = wS a + wS b := by simp [wS]
theorem wS_one (x : List UInt8) : wS [x] = x.length + 1 := by simp [wS]
theorem wS_drop (l : List (List UInt8)) : wS l.dropLast ≤ wS l := by
  rcases List.eq_nil_or_concat l with rfl | ⟨a, x, rfl⟩
  · simp
  · rw [List.concat_eq_append, List.dropLast_concat, wS_append]; omega
theorem wS_step (acc : List (List UInt8)) (x : List UInt8) (b : Bool) : wS (stepS acc x b) ≤ wS acc + (x.length + 1) := by
  unfold stepS
  split
  · have h1 : wS (if x == [46, 46] then acc.dropLast else acc) ≤ wS acc := by
      split
      · exact wS_drop acc
      · exact Nat.le_refl _
    have h2 : wS (if b then [[]] else []) ≤ x.length + 1 := by
      cases b
      · simp [wS]
      · simp [wS]
    rw [wS_append]; omega
  · rw [wS_append, wS_one]; omega
theorem wS_settle : ∀ (l acc : List (List UInt8)), wS (settleL acc l) ≤ wS acc + wS l
  | [], acc => by simp [settleL]
  | x :: r, acc => by
    rw [settleL]
    have h1 := wS_settle r (stepS acc x r.isEmpty)
    have h2 := wS_step acc x r.isEmpty
    have h3 : wS (x :: r) = (x.length + 1) + wS r := by simp [wS]
    omega
theorem wS_seg : ∀ s, wS (segL s) = s.length + 1 := by
  refine seg_ind ?_ ?_
  · intro a h; rw [seg_none h, wS_one]
  · intro a b h ih
    rw [seg_at b h]
    have h3 : wS (a :: segL b) = (a.length + 1) + wS (segL b) := by simp [wS]
    rw [h3, ih]; simp; omega
theorem wS_join : ∀ l : List (List UInt8), (joinL [47] l).length ≤ wS l
  | [] => by simp [joinL]
  | [a] => by simp [joinL, wS]
  | a :: b :: r => by
    have ih := wS_join (b :: r)
    have h3 : wS (a :: b :: r) = (a.length + 1) + wS (b :: r) := by simp [wS]
    simp only [joinL, List.length_append, List.length_singleton]
    omega
theorem wS_len (l : List (List UInt8)) : l.length ≤ wS l := by
  induction l with
  | nil => simp
  | cons a l ih =>
    have h3 : wS (a :: l) = (a.length + 1) + wS l := by simp [wS]
    simp; omega
theorem wS_all {l : List (List UInt8)} {x : List UInt8} (h : x ∈ l) : x.length ≤ wS l := by
  induction l with
  | nil => cases h
  | cons a l ih =>
    have h3 : wS (a :: l) = (a.length + 1) + wS l := by simp [wS]
    rcases List.mem_cons.1 h with rfl | h
    · omega
    · have := ih h; omega
theorem path_len (p : List UInt8) : (pathL p).length ≤ p.length + 2 := by
  unfold pathL
  have h1 := wS_join (settleL [] (segL p.tail))
  have h2 := wS_settle (segL p.tail) []
  rw [wS_seg] at h2
  have h3 : wS [] = 0 := rfl
  simp at h2 ⊢
  omega
/-- each with a slash ahead -/
def slashL (l : List (List UInt8)) : List UInt8 := l.flatMap (47 :: ·)
theorem slash_join : ∀ {l : List (List UInt8)}, l ≠ [] → slashL l = 47 :: joinL [47] l
  | [], h => absurd rfl h
  | [a], _ => by simp [slashL, joinL]
  | a :: b :: r, _ => by
    have ih := slash_join (l := b :: r) (by simp)
    unfold slashL at ih ⊢
    rw [List.flatMap_cons, ih]
    simp [joinL]
theorem path_slash (p : List UInt8) : pathL p = if slashL (settleL [] (segL p.tail)) = [] then [47] else slashL (settleL [] (segL p.tail)) := by
  unfold pathL
  by_cases h : settleL [] (segL p.tail) = []
  · rw [h]; rfl
  · rw [slash_join h, if_neg (by simp)]
theorem path_segs (p : List UInt8) : ∃ l : List (List UInt8), pathL p = 47 :: joinL [47] l ∧ (∀ x ∈ l, isDots x = false ∧ (47 : UInt8) ∉ x ∧ (x ∈ segL p.tail ∨ x = [])) := by
  refine ⟨_, rfl, fun x hx => ?_⟩
  rcases settle_mem _ _ x hx with h | h | h
  · cases h
  · exact ⟨h.2, seg_no _ x h.1, .inl h.1⟩
  · rw [h]; exact ⟨by decide, by simp, .inr rfl⟩
theorem path_seg (p : List UInt8) : ∀ x ∈ segL (pathL p).tail, isDots x = false := by
  obtain ⟨l, h1, h2⟩ := path_segs p
  rw [h1]
  show ∀ x ∈ segL (joinL [47] l), _
  by_cases h : l = []
  · rw [h]
    intro x hx
    have hx' : x ∈ [([] : List UInt8)] := hx
    simp at hx'; rw [hx']; rfl
  · rw [seg_join h (fun x hx => (h2 x hx).2.1)]
    exact fun x hx => (h2 x hx).1
theorem join_seg : ∀ s, joinL [47] (segL s) = s := by
  refine seg_ind ?_ ?_
  · intro a h; rw [seg_none h]; rfl
  · intro a b h ih
    rw [seg_at b h]
    cases hb : segL b with
    | nil => exact absurd hb (seg_ne b)
    | cons x l =>
      rw [hb] at ih
      show a ++ [47] ++ joinL [47] (x :: l) = _
      rw [ih]; simp
theorem path_plain {p : List UInt8} (hp : p.head? = some 47) (h : ∀ x ∈ segL p.tail, isDots x = false) : pathL p = p := by
  unfold pathL
  rw [settle_plain _ _ h, List.nil_append, join_seg]
  cases p with
  | nil => cases hp
  | cons c p => simp at hp; rw [hp]; rfl
theorem path_idem (p : List UInt8) : pathL (pathL p) = pathL p := path_plain (by rfl) (path_seg p)
theorem clean_seg : ∀ s, cleanL s = some s → ∀ x ∈ segL s, cleanL x = some x := by
  refine seg_ind (p := fun s => cleanL s = some s → ∀ x ∈ segL s, cleanL x = some x) ?_ ?_
  · intro a h hc x hx
    rw [seg_none h] at hx
    simp at hx; rw [hx]; exact hc
  · intro a b h ih hc x hx
    rw [clean_parts (c := 47) (by decide) (by decide) (by decide)] at hc
    cases ha : cleanL a with
    | none => rw [ha] at hc; cases hc
    | some u =>
      cases hb : cleanL b with
      | none => rw [ha, hb] at hc; cases hc
      | some v =>
        rw [ha, hb] at hc
        have he : u ++ 47 :: v = a ++ 47 :: b := by simpa using hc
        have hu : (47 : UInt8) ∉ u := clean_none (.inl rfl) a u ha h
        have e1 := bef_at 47 (b := v) hu
        have e2 := bef_at 47 (b := b) h
        rw [he] at e1
        have hua : u = a := by rw [← e1.1, e2.1]
        have hvb : v = b := by rw [← e1.2.1, e2.2.1]
        rw [seg_at b h] at hx
        rcases List.mem_cons.1 hx with rfl | hx
        · rw [ha, hua]
        · exact ih (by rw [hb, hvb]) x hx
theorem clean_join : ∀ l : List (List UInt8), (∀ x ∈ l, cleanL x = some x) → cleanL (joinL [47] l) = some (joinL [47] l)
  | [], _ => cleanL_nil
  | [a], h => h a (by simp)
  | a :: b :: r, h => by
    show cleanL (a ++ [47] ++ joinL [47] (b :: r)) = some (a ++ [47] ++ joinL [47] (b :: r))
    rw [List.append_assoc, List.singleton_append, clean_parts (c := 47) (by decide) (by decide) (by decide), h a (by simp), clean_join (b :: r) (fun x hx => h x (List.mem_cons_of_mem _ hx))]
theorem path_clean {p : List UInt8} (hc : cleanL p = some p) (hp : p.head? = some 47) : cleanL (pathL p) = some (pathL p) := by
  cases p with
  | nil => cases hp
  | cons c p =>
    simp at hp; subst hp
    have hc' : cleanL p = some p := by
      rw [cleanL_plain p (by decide) (by decide)] at hc
      cases h : cleanL p with
      | none => rw [h] at hc; cases hc
      | some u => rw [h] at hc; simp at hc; rw [hc]
    have h := clean_join (settleL [] (segL p)) (fun x hx => by
      rcases settle_mem _ _ x hx with h | h | h
      · cases h
      · exact clean_seg p hc' x h.1
      · rw [h]; exact cleanL_nil)
    show cleanL (47 :: joinL [47] (settleL [] (segL p))) = some _
    rw [cleanL_plain _ (by decide) (by decide), h]; rfl
theorem join_not {x : UInt8} (hx : x ≠ 47) : ∀ l : List (List UInt8), (∀ a ∈ l, x ∉ a) → x ∉ joinL [47] l
  | [], _ => by simp [joinL]
  | [a], h => h a (by simp)
  | a :: b :: r, h => by
    have ih := join_not hx (b :: r) (fun y hy => h y (List.mem_cons_of_mem _ hy))
    have := h a (by simp)
    simp only [joinL, List.mem_append, List.mem_singleton, not_or]
    exact ⟨⟨this, hx⟩, ih⟩
theorem seg_sub {x : UInt8} : ∀ s, x ∉ s → ∀ a ∈ segL s, x ∉ a := by
  refine seg_ind (p := fun s => x ∉ s → ∀ a ∈ segL s, x ∉ a) ?_ ?_
  · intro a h hn y hy
    rw [seg_none h] at hy
    simp at hy; rw [hy]; exact hn
  · intro a b h ih hn y hy
    simp only [List.mem_append, List.mem_cons, not_or] at hn
    rw [seg_at b h] at hy
    rcases List.mem_cons.1 hy with rfl | hy
    · exact hn.1
    · exact ih hn.2.2 y hy
theorem path_not {x : UInt8} (hx : x ≠ 47) {p : List UInt8} (h : x ∉ p) : x ∉ pathL p := by
  obtain ⟨l, h1, h2⟩ := path_segs p
  rw [h1]
  have h3 := join_not hx l (fun a ha => by
    rcases (h2 a ha).2.2 with h4 | h4
    · exact seg_sub _ (fun hm => h (List.mem_of_mem_tail hm)) a h4
    · rw [h4]; simp)
  simp only [List.mem_cons, not_or]
  exact ⟨hx, h3⟩

structure PlaceR where
  host : List UInt8
  path : List UInt8
  query : List UInt8
  has : Bool
def leadL : List UInt8 := [104, 116, 116, 112, 58, 47, 47]
def leadU : List UInt8 := [72, 84, 84, 80, 58, 47, 47]
def ownL (t : List UInt8) : Bool := lowerL (t.take 7) == leadL
def isSQ (c : UInt8) : Bool := c == 47 || c == 63
def apartH (r : List UInt8) : List UInt8 := r.takeWhile fun c => !isSQ c
def apartB (r : List UInt8) : List UInt8 := r.dropWhile fun c => !isSQ c
def apartR (r : List UInt8) : List UInt8 := if (apartB r).head? = some 47 then apartB r else 47 :: apartB r
def placeL (h r : List UInt8) : Option PlaceR :=
  match hostL h, cleanL (bef 63 r), cleanL (beh 63 r) with
  | some H, some P, some Q => if r.head? = some 47 ∧ (pathL P).length ≤ 512 ∧ Q.length ≤ 512 then some ⟨H, pathL P, Q, hasB 63 r⟩ else none
  | _, _, _ => none
def readP (t h : List UInt8) : Option PlaceR := if ownL t then placeL (apartH (t.drop 7)) (apartR (t.drop 7)) else placeL h t
def showP (p : PlaceR) : List UInt8 := if p.has then p.path ++ 63 :: p.query else p.path
theorem lowC_not : ∀ c : UInt8, isHC c = true → isHC (lowC c) = true ∧ lowC c ≠ 58 := fun c h => by
  have h1 := byte_all (p := fun c => !isHC c || (isHC (lowC c) && lowC c != 58)) (by decide +kernel) c
  simp only [h, Bool.not_true, Bool.false_or, Bool.and_eq_true, bne_iff_ne, ne_eq] at h1
  exact h1
theorem hc_not : ∀ c : UInt8, isHC c = true ∨ isDig c = true ∨ c = 58 → isSQ c = false := fun c h => by
  have h1 := byte_all (p := fun c => !(isHC c || isDig c || c == 58) || !isSQ c) (by decide +kernel) c
  have h2 : (isHC c || isDig c || c == 58) = true := by
    rcases h with h | h | h <;> simp [h]
  simpa [h2] using h1
theorem lower_hc {n : List UInt8} (h : n.all isHC = true) : (lowerL n).all isHC = true ∧ (58 : UInt8) ∉ lowerL n := by
  unfold lowerL
  constructor
  · rw [List.all_map, List.all_eq_true]
    exact fun c hc => (lowC_not c (List.all_eq_true.1 h c hc)).1
  · intro hm
    obtain ⟨c, hc, e⟩ := List.mem_map.1 hm
    exact (lowC_not c (List.all_eq_true.1 h c hc)).2 e
theorem hostL_none {s : List UInt8} (h : bef 58 s = [] ∨ 40 < (bef 58 s).length ∨ (bef 58 s).all isHC = false) : hostL s = none := by
  unfold hostL; rw [if_pos h]
/-- a name and what stands behind its colon -/
def hostN (n d : List UInt8) : Option (List UInt8) :=
  if n = [] ∨ 40 < n.length ∨ n.all isHC = false then none
  else if d = [] then some (lowerL n)
  else if 5 < d.length ∨ d.all isDig = false then none
  else some (lowerL n ++ portL d)
theorem hostL_eq (s : List UInt8) : hostL s = hostN (bef 58 s) (beh 58 s) := rfl
theorem val_lt {l : List UInt8} (h1 : l.length ≤ 5) (h2 : l.all isDig = true) : valL l < 100000 := by
  have key : ∀ (l : List UInt8) (n : Nat), l.all isDig = true → l.foldl (fun n c => 10 * n + (c.toNat - 48)) n < (n + 1) * 10 ^ l.length := by
    intro l
    induction l with
    | nil => intro n _; simp
    | cons c l ih =>
      intro n h
      rw [List.all_cons, Bool.and_eq_true] at h
      have hc := isDig_bounds h.1
      have := ih (10 * n + (c.toNat - 48)) h.2
      have h3 : (10 * n + (c.toNat - 48) + 1) * 10 ^ l.length ≤ (10 * (n + 1)) * 10 ^ l.length := Nat.mul_le_mul_right _ (by omega)
      rw [List.foldl_cons, List.length_cons, Nat.pow_succ]
      have h4 : (n + 1) * (10 ^ l.length * 10) = (10 * (n + 1)) * 10 ^ l.length := by
        rw [Nat.mul_comm (10 ^ l.length) 10, ← Nat.mul_assoc, Nat.mul_comm (n + 1) 10]
      omega
  have := key l 0 h2
  have h5 : 10 ^ l.length ≤ 10 ^ 5 := Nat.pow_le_pow_right (by decide) h1
  unfold valL
  omega
theorem host_form {s H : List UInt8} (h : hostL s = some H) : ∃ n d, n ≠ [] ∧ n.length ≤ 40 ∧ n.all isHC = true ∧ lowerL n = n ∧ H = n ++ d ∧ (d = [] ∨ ∃ m, m < 100000 ∧ m ≠ 80 ∧ d = 58 :: digF 5 m) := by
  rw [hostL_eq] at h
  unfold hostN at h
  split at h
  · cases h
  · rename_i h1
    have a1 : bef 58 s ≠ [] := fun e => h1 (.inl e)
    have a2 : (bef 58 s).length ≤ 40 := Nat.not_lt.1 fun e => h1 (.inr (.inl e))
    have a3 : (bef 58 s).all isHC = true := by
      cases e : (bef 58 s).all isHC with
      | true => rfl
      | false => exact absurd (.inr (.inr e)) h1
    have b1 : lowerL (bef 58 s) ≠ [] := by unfold lowerL; simpa using a1
    have b2 : (lowerL (bef 58 s)).length ≤ 40 := by unfold lowerL; simpa using a2
    have b3 := (lower_hc a3).1
    have b4 := lowerL_idem (bef 58 s)
    split at h
    · cases h
      exact ⟨lowerL (bef 58 s), [], b1, b2, b3, b4, by simp, .inl rfl⟩
    · split at h
      · cases h
      · rename_i h3
        cases h
        refine ⟨lowerL (bef 58 s), portL (beh 58 s), b1, b2, b3, b4, rfl, ?_⟩
        unfold portL
        split
        · exact .inl rfl
        · rename_i h80
          refine .inr ⟨_, ?_, h80, rfl⟩
          have c1 : (beh 58 s).length ≤ 5 := Nat.not_lt.1 fun e => h3 (.inl e)
          have c2 : (beh 58 s).all isDig = true := by
            cases e : (beh 58 s).all isDig with
            | true => rfl
            | false => exact absurd (.inr e) h3
          exact val_lt c1 c2
theorem host_len {s H : List UInt8} (h : hostL s = some H) : H.length ≤ 46 := by
  obtain ⟨n, d, _, h2, _, _, rfl, h5⟩ := host_form h
  have : d.length ≤ 6 := by
    rcases h5 with rfl | ⟨m, _, _, rfl⟩
    · simp
    · have := digF_len 5 m; simp; omega
  simp; omega
theorem host_back {s H : List UInt8} (h : hostL s = some H) : hostL H = some H := by
  obtain ⟨n, d, h1, h2, h3, h4, rfl, h5⟩ := host_form h
  have h58 : (58 : UInt8) ∉ n := by rw [← h4]; exact (lower_hc h3).2
  rw [hostL_eq]
  rcases h5 with rfl | ⟨m, hm, h80, rfl⟩
  · obtain ⟨e1, e2, _⟩ := bef_none 58 h58
    rw [List.append_nil, e1, e2, hostN, if_neg (by simp [h1, h3]; omega), if_pos rfl, h4]
  · obtain ⟨e1, e2, _⟩ := bef_at 58 (b := digF 5 m) h58
    have e3 := digF_len 5 m
    rw [e1, e2, hostN, if_neg (by simp [h1, h3]; omega), if_neg (digF_ne 4 m), if_neg (by rw [digF_all]; simp; omega), h4, portL, digF_val 4 m (by omega), if_neg h80]
theorem host_sq {s H : List UInt8} (h : hostL s = some H) : ∀ c ∈ H, isSQ c = false := by
  obtain ⟨n, d, _, _, h3, _, rfl, h5⟩ := host_form h
  intro c hc
  rcases List.mem_append.1 hc with hc | hc
  · exact hc_not c (.inl (List.all_eq_true.1 h3 c hc))
  · rcases h5 with rfl | ⟨m, _, _, rfl⟩
    · cases hc
    · rcases List.mem_cons.1 hc with rfl | hc
      · rfl
      · exact hc_not c (.inr (.inl (digF_mem hc)))
theorem apart_at {a r : List UInt8} (h : ∀ c ∈ a, isSQ c = false) (hr : ∀ c, r.head? = some c → isSQ c = true) : apartH (a ++ r) = a ∧ apartB (a ++ r) = r := by
  unfold apartH apartB
  induction a with
  | nil =>
    cases r with
    | nil => simp
    | cons c r => simp [hr c rfl]
  | cons c a ih =>
    obtain ⟨h1, h2⟩ := ih (fun d hd => h d (List.mem_cons_of_mem _ hd))
    have hc : (!isSQ c) = true := by rw [h c (by simp)]; rfl
    rw [List.cons_append, List.takeWhile_cons_of_pos (p := fun c => !isSQ c) hc, List.dropWhile_cons_of_pos (p := fun c => !isSQ c) hc, h1, h2]
    exact ⟨rfl, rfl⟩
theorem own_slash {t : List UInt8} (h : t.head? = some 47) : ownL t = false := by
  cases t with
  | nil => cases h
  | cons c t =>
    simp at h; subst h
    unfold ownL lowerL
    rw [List.take_succ_cons, List.map_cons, show lowC 47 = 47 from by decide]
    rw [beq_eq_false_iff_ne]
    intro e
    have := (List.cons.inj e).1
    exact absurd this (by decide)
theorem own_lead (t : List UInt8) (l : List UInt8) (hl : l = leadL ∨ l = leadU) : ownL (l ++ t) = true ∧ (l ++ t).drop 7 = t := by
  rcases hl with rfl | rfl
  · exact ⟨rfl, rfl⟩
  · exact ⟨by show (lowerL leadU == leadL) = true; decide, rfl⟩
theorem place_shown {h : List UInt8} {p : PlaceR} (hp : ∃ r, placeL h r = some p) : placeL p.host (showP p) = some p ∧ hostL h = some p.host ∧ p.path.head? = some 47 ∧ p.path.length ≤ 512 ∧ p.query.length ≤ 512 ∧ (p.has = false → p.query = []) ∧ (∀ x ∈ segL p.path.tail, isDots x = false) ∧ (showP p).head? = some 47 ∧ cleanL p.path = some p.path ∧ pathL p.path = p.path ∧ (63 : UInt8) ∉ p.path := by
  obtain ⟨r, hr⟩ := hp
  unfold placeL at hr
  cases hH : hostL h with
  | none => rw [hH] at hr; cases hr
  | some H =>
    cases hP : cleanL (bef 63 r) with
    | none => rw [hH, hP] at hr; cases hr
    | some P =>
      cases hQ : cleanL (beh 63 r) with
      | none => rw [hH, hP, hQ] at hr; cases hr
      | some Q =>
        rw [hH, hP, hQ] at hr
        simp only at hr
        split at hr
        · rename_i hc
          obtain ⟨c1, c2, c3⟩ := hc
          have hp : p = ⟨H, pathL P, Q, hasB 63 r⟩ := by simpa using hr.symm
          have hbef : (63 : UInt8) ∉ bef 63 r := by
            rcases bef_cases 63 r with ⟨h1, h2, _⟩ | ⟨a, b, h1, h2, h3, _⟩
            · rw [h2]; exact h1
            · rw [h3]; exact h1
          have hPn : (63 : UInt8) ∉ P := clean_none (.inr rfl) _ P hP hbef
          have hPp : (63 : UInt8) ∉ pathL P := path_not (by decide) hPn
          have hPh : P.head? = some 47 := by
            cases r with
            | nil => cases c1
            | cons d r =>
              simp at c1; subst c1
              have : bef 63 (47 :: r) = 47 :: bef 63 r := by unfold bef; rw [List.takeWhile_cons_of_pos (by decide)]
              rw [this, cleanL_plain _ (by decide) (by decide)] at hP
              cases hu : cleanL (bef 63 r) with
              | none => rw [hu] at hP; cases hP
              | some u => rw [hu] at hP; cases hP; rfl
          have hPc := path_clean (clean_idem _ P hP) hPh
          have hQc := clean_idem _ Q hQ
          have hHb := host_back hH
          have hhas : hasB 63 r = false → Q = [] := by
            intro h0
            rcases bef_cases 63 r with ⟨h1, h2, h3, h4⟩ | ⟨a, b, h1, h2, h3, h4, h5⟩
            · rw [h3, cleanL_nil] at hQ; cases hQ; rfl
            · rw [h5] at h0; cases h0
          have hsh : (showP p).head? = some 47 := by
            rw [hp]; unfold showP
            split
            · rfl
            · rfl
          refine ⟨?_, by rw [hp], by rw [hp]; rfl, by rw [hp]; exact c2, by rw [hp]; exact c3, by rw [hp]; exact hhas, by rw [hp]; exact path_seg P, hsh, by rw [hp]; exact hPc, by rw [hp]; exact path_idem P, by rw [hp]; exact hPp⟩
          have key : bef 63 (showP p) = pathL P ∧ beh 63 (showP p) = Q ∧ hasB 63 (showP p) = hasB 63 r := by
            rw [hp]
            unfold showP
            cases hb : hasB 63 r with
            | true => exact bef_at 63 hPp
            | false =>
              rw [hhas hb]
              exact bef_none 63 hPp
          obtain ⟨k1, k2, k3⟩ := key
          unfold placeL
          rw [k1, k2, k3, hPc, hQc, show p.host = H from by rw [hp], hHb]
          simp only
          rw [if_pos ⟨hsh, by rw [path_idem]; exact c2, c3⟩, path_idem, hp]
        · cases hr
theorem read_place {t h : List UInt8} {p : PlaceR} (hp : readP t h = some p) : ∃ h' r, placeL h' r = some p := by
  unfold readP at hp
  split at hp
  · exact ⟨_, _, hp⟩
  · exact ⟨_, _, hp⟩
/-- what is read is shown as a target that is read as the same place -/
theorem place_back {t h : List UInt8} {p : PlaceR} (hp : readP t h = some p) : readP (showP p) p.host = some p ∧ readP (leadU ++ p.host ++ showP p) [] = some p := by
  obtain ⟨h', r, hr⟩ := read_place hp
  obtain ⟨h1, h2, h3, h4, h5, h6, h7, h8, _⟩ := place_shown ⟨r, hr⟩
  constructor
  · unfold readP
    rw [own_slash h8, if_neg (by decide)]
    exact h1
  · unfold readP
    rw [List.append_assoc]
    obtain ⟨e1, e2⟩ := own_lead (p.host ++ showP p) leadU (.inr rfl)
    rw [e1, if_pos rfl, e2]
    obtain ⟨a1, a2⟩ := apart_at (a := p.host) (r := showP p) (host_sq h2) (fun c hc => by rw [h8] at hc; cases hc; rfl)
    unfold apartR
    rw [a1, a2, if_pos h8]
    exact h1
/-- a target's own host -/
theorem place_own {a p : List UInt8} (h : ∀ c ∈ a, isSQ c = false) (b : List UInt8) : readP (leadL ++ a ++ 47 :: p) b = readP (47 :: p) a := by
  unfold readP
  rw [List.append_assoc, (own_lead _ leadL (.inl rfl)).1, (own_lead _ leadL (.inl rfl)).2, own_slash (t := 47 :: p) rfl, if_pos rfl, if_neg (by decide)]
  obtain ⟨a1, a2⟩ := apart_at (a := a) (r := 47 :: p) h (fun c hc => by cases hc; rfl)
  unfold apartR
  rw [a1, a2]
  rfl
theorem read_host {t h : List UInt8} (ht : t.head? = some 47) {p : PlaceR} (hp : readP t h = some p) : hostL h = some p.host := by
  unfold readP at hp
  rw [own_slash ht, if_neg (by decide)] at hp
  exact (place_shown ⟨_, hp⟩).2.1
end Go.Pantry
