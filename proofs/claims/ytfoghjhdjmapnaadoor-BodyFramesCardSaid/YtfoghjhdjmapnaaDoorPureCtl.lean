/-
  Directives: the plain mathematics of layer 4. No program is imported.
-/
import Derived.Test.YtfoghjhdjmapnaaDoorPureField2
import Derived.Test.YtfoghjhdjmapnaaDoorPureTwo
import Derived.Test.YtfoghjhdjmapnaaDoorPureEsc
import Derived.Test.YtfoghjhdjmapnaaDoorPureDig
namespace Go.Pantry
open Go.RowKit

/-- a directive: what stands ahead of the first equals sign; behind it; is there one? -/
def nameE (e : List UInt8) : List UInt8 := e.takeWhile (· != 61)
def argE (e : List UInt8) : List UInt8 := (e.dropWhile (· != 61)).tail
def hasE (e : List UInt8) : Bool := e.any (· == 61)
theorem take_all_of {p : UInt8 → Bool} : ∀ {l : List UInt8}, (∀ c ∈ l, p c = true) → l.takeWhile p = l ∧ l.dropWhile p = []
  | [], _ => ⟨rfl, rfl⟩
  | c :: l, h => by
    have hc := h c (List.mem_cons_self ..)
    have ih := take_all_of (l := l) (fun d hd => h d (List.mem_cons_of_mem _ hd))
    rw [List.takeWhile_cons, List.dropWhile_cons, if_pos hc, if_pos hc, ih.1, ih.2]
    exact ⟨rfl, rfl⟩
theorem nameE_none {e : List UInt8} (h : (61 : UInt8) ∉ e) : nameE e = e ∧ argE e = [] ∧ hasE e = false := by
  have h1 : ∀ c ∈ e, (c != 61) = true := fun c hc => by
    have : c ≠ 61 := fun x => h (x ▸ hc)
    simpa using this
  refine ⟨(take_all_of h1).1, ?_, ?_⟩
  · unfold argE
    rw [(take_all_of h1).2]; rfl
  · unfold hasE
    rw [List.any_eq_false]
    intro c hc
    have := h1 c hc
    simpa using this
theorem nameE_at {a b : List UInt8} (h : (61 : UInt8) ∉ a) : nameE (a ++ 61 :: b) = a ∧ argE (a ++ 61 :: b) = b ∧ hasE (a ++ 61 :: b) = true := by
  have h1 : ∀ c ∈ a, (c != 61) = true := fun c hc => by
    have : c ≠ 61 := fun x => h (x ▸ hc)
    simpa using this
  refine ⟨?_, ?_, ?_⟩
  · unfold nameE
    rw [List.takeWhile_append_of_pos h1, List.takeWhile_cons, if_neg (by decide), List.append_nil]
  · unfold argE
    rw [List.dropWhile_append_of_pos h1, List.dropWhile_cons, if_neg (by decide)]; rfl
  · simp [hasE]
/-- the seconds of an argument; other, if it says none -/
def secE (arg : List UInt8) (other : Nat) : Nat := match unquoteL arg with | none => other | some s => (numberL s).getD other
/-- what one directive says of a name -/
def dirE (name : List UInt8) (other bare : Nat) (e : List UInt8) : Option Nat := if lowerL (nameE e) == name then some (if hasE e then secE (argE e) other else bare) else none
/-- the less, or the greater, of what is said -/
def comb (most : Bool) : Option Nat → Option Nat → Option Nat
  | none, b => b
  | a, none => a
  | some a, some b => some (if most then max a b else min a b)
theorem comb_none (m : Bool) (a : Option Nat) : comb m a none = a := by cases a <;> rfl
theorem comb_comm (m : Bool) (a b : Option Nat) : comb m a b = comb m b a := by
  cases a <;> cases b <;> cases m <;> simp [comb, Nat.max_comm, Nat.min_comm]
theorem comb_assoc (m : Bool) (a b c : Option Nat) : comb m (comb m a b) c = comb m a (comb m b c) := by
  cases a <;> cases b <;> cases c <;> cases m <;> simp [comb, Nat.max_assoc, Nat.min_assoc]
/-- what all directives of a name say -/
def toldE (name : List UInt8) (other bare : Nat) (most : Bool) (E : List (List UInt8)) : Option Nat := E.foldl (fun o e => comb most o (dirE name other bare e)) none
theorem toldE_snoc (name : List UInt8) (other bare : Nat) (most : Bool) (E : List (List UInt8)) (e : List UInt8) : toldE name other bare most (E ++ [e]) = comb most (toldE name other bare most E) (dirE name other bare e) := by simp [toldE]
theorem toldE_append (name : List UInt8) (other bare : Nat) (most : Bool) (A : List (List UInt8)) : ∀ B, toldE name other bare most (A ++ B) = comb most (toldE name other bare most A) (toldE name other bare most B) := by
  refine snoc_ind ?_ (fun B e ih => ?_)
  · rw [List.append_nil]; exact (comb_none _ _).symm
  · rw [← List.append_assoc, toldE_snoc, ih, toldE_snoc, comb_assoc]
/-- is there a directive of a name? -/
def saidE (name : List UInt8) (E : List (List UInt8)) : Bool := E.any fun e => lowerL (nameE e) == name
theorem saidE_append (name : List UInt8) (A B : List (List UInt8)) : saidE name (A ++ B) = (saidE name A || saidE name B) := by simp [saidE]

/-- the directives' names -/
def nNoStore : List UInt8 := [110, 111, 45, 115, 116, 111, 114, 101]
def nNoCache : List UInt8 := [110, 111, 45, 99, 97, 99, 104, 101]
def nPrivate : List UInt8 := [112, 114, 105, 118, 97, 116, 101]
def nPublic : List UInt8 := [112, 117, 98, 108, 105, 99]
def nOnly : List UInt8 := [111, 110, 108, 121, 45, 105, 102, 45, 99, 97, 99, 104, 101, 100]
def nMust : List UInt8 := [109, 117, 115, 116, 45, 114, 101, 118, 97, 108, 105, 100, 97, 116, 101]
def nProxy : List UInt8 := [112, 114, 111, 120, 121, 45, 114, 101, 118, 97, 108, 105, 100, 97, 116, 101]
def nMaxAge : List UInt8 := [109, 97, 120, 45, 97, 103, 101]
def nShared : List UInt8 := [115, 45, 109, 97, 120, 97, 103, 101]
def nMinFresh : List UInt8 := [109, 105, 110, 45, 102, 114, 101, 115, 104]
def nMaxStale : List UInt8 := [109, 97, 120, 45, 115, 116, 97, 108, 101]
def nCC : List UInt8 := [99, 97, 99, 104, 101, 45, 99, 111, 110, 116, 114, 111, 108]
def nPragma : List UInt8 := [112, 114, 97, 103, 109, 97]
abbrev farN : Nat := 2147483648

/-- what fields say -/
structure Ctl where
  noStore : Bool
  noCache : Bool
  priv : Bool
  pub : Bool
  must : Bool
  only : Bool
  maxAge : Option Nat
  shared : Option Nat
  minFresh : Option Nat
  maxStale : Option Nat
deriving DecidableEq
def ctlE (E : List (List UInt8)) (prag : Bool) : Ctl :=
  { noStore := saidE nNoStore E, noCache := saidE nNoCache E || prag, priv := saidE nPrivate E, pub := saidE nPublic E, must := saidE nMust E || saidE nProxy E, only := saidE nOnly E
    maxAge := toldE nMaxAge 0 0 false E, shared := toldE nShared 0 0 false E, minFresh := toldE nMinFresh farN farN true E, maxStale := toldE nMaxStale 0 farN false E }
def ctlF (L : List Fld) : Ctl := ctlE (elementsF L nCC) ((allF L nCC).isEmpty && hasF L nPragma nNoCache)
def ctl0 : Ctl := ctlE [] false
theorem ctlE_comm (A B : List (List UInt8)) (p : Bool) : ctlE (A ++ B) p = ctlE (B ++ A) p := by
  unfold ctlE
  simp only [saidE_append, toldE_append, Bool.or_comm (saidE _ A), comb_comm _ (toldE _ _ _ _ A)]


/-! texts and their elements -/
theorem listL_blank (l : List UInt8) : listL (32 :: l) = listL l := by
  have hc : cut false false (32 :: l) = cut false false l + 1 := by rw [cut_other 32 l (by decide) (by decide)]; omega
  rw [listL_step (32 :: l), listL_step l, hc, List.take_succ_cons, List.drop_succ_cons, trim_blank 32 _ (by decide)]
/-- of values without quotes, joined by a comma and a blank -/
theorem listL_joinC : ∀ (l : List (List UInt8)), (∀ a ∈ l, (34 : UInt8) ∉ a) → listL (joinC l) = l.flatMap listL
  | [], _ => rfl
  | [a], _ => by simp [joinC]
  | a :: b :: r, h => by
    have h1 := listL_joinC (b :: r) (fun x hx => h x (List.mem_cons_of_mem _ hx))
    show listL (a ++ 44 :: 32 :: joinC (b :: r)) = _
    rw [listL_two _ a.length a (Nat.le_refl _) (h a (List.mem_cons_self ..)), listL_blank, h1]
    rfl
/-- the same with a last one that may have quotes -/
theorem listL_joinC_snoc : ∀ (l : List (List UInt8)) (s : List UInt8), (∀ a ∈ l, (34 : UInt8) ∉ a) → listL (joinC (l ++ [s])) = l.flatMap listL ++ listL s
  | [], _, _ => by simp [joinC]
  | [a], s, h => by
    show listL (a ++ 44 :: 32 :: s) = _
    rw [listL_two _ a.length a (Nat.le_refl _) (h a (List.mem_cons_self ..)), listL_blank]
    simp
  | a :: b :: r, s, h => by
    have h1 := listL_joinC_snoc (b :: r) s (fun x hx => h x (List.mem_cons_of_mem _ hx))
    show listL (a ++ 44 :: 32 :: joinC ((b :: r) ++ [s])) = _
    rw [listL_two _ a.length a (Nat.le_refl _) (h a (List.mem_cons_self ..)), listL_blank, h1]
    simp
/-- each behind it a comma -/
def commaL (l : List (List UInt8)) : List UInt8 := l.flatMap fun a => a ++ [44]
theorem listL_commaL : ∀ (l : List (List UInt8)), (∀ a ∈ l, (34 : UInt8) ∉ a) → listL (commaL l) = l.flatMap listL
  | [], _ => rfl
  | a :: r, h => by
    have h1 := listL_commaL r (fun x hx => h x (List.mem_cons_of_mem _ hx))
    have e : commaL (a :: r) = a ++ 44 :: commaL r := by simp [commaL]
    rw [e, listL_two _ a.length a (Nat.le_refl _) (h a (List.mem_cons_self ..)), h1]
    rfl
theorem cut_nocomma (l : List UInt8) (h : (44 : UInt8) ∉ l) : ∀ i s, cut i s l = l.length := by
  induction l with
  | nil => intro i s; rfl
  | cons c l ih =>
    intro i s
    have hc : c ≠ 44 := fun e => h (by rw [e]; exact List.mem_cons_self ..)
    rw [cut, if_neg (fun e => hc e.1), ih (fun e => h (List.mem_cons_of_mem _ e)), List.length_cons]
/-- a text without commas is one element, or none -/
theorem listL_single (l : List UInt8) (h : (44 : UInt8) ∉ l) : listL l = if trimL l = [] then [] else [trimL l] := by
  rw [listL_step, cut_nocomma l h, List.take_of_length_le (Nat.le_refl _), List.drop_eq_nil_of_le (by omega), listL_nil]

/-! fields -/
theorem elementsF_of (L : List Fld) (n : List UInt8) : elementsF L n = listL (joinC (allF L n)) := rfl
theorem ctlF_one (n s : List UInt8) (h : lowerL n = nCC) : ctlF [(n, s)] = ctlE (listL s) false := by
  have h1 : allF [(n, s)] nCC = [s] := by
    have : isF nCC (n, s) = true := by unfold isF; rw [h]; decide
    simp [allF, this]
  unfold ctlF
  rw [elementsF_of, h1]
  rfl
/-- fields that say nothing -/
theorem ctlF_nothing (L : List Fld) (h1 : allF L nCC = []) (h2 : allF L nPragma = []) : ctlF L = ctl0 := by
  unfold ctlF hasF
  rw [elementsF_of, elementsF_of, h1, h2]
  rfl
/-- fields with some Cache-Control -/
theorem ctlF_some (L : List Fld) (h : allF L nCC ≠ []) : ctlF L = ctlE (elementsF L nCC) false := by
  unfold ctlF
  cases ha : allF L nCC with
  | nil => exact absurd ha h
  | cons a r => rfl

/-! what a directive more does -/
def lessO (x y : Option Nat) : Prop := ∀ a, x = some a → ∃ b, y = some b ∧ b ≤ a
theorem comb_less (a b : Option Nat) : lessO a (comb false a b) := by
  intro x hx
  subst hx
  cases b with
  | none => exact ⟨x, rfl, Nat.le_refl _⟩
  | some y => exact ⟨min x y, rfl, Nat.min_le_left _ _⟩
theorem comb_more (a b : Option Nat) : ∀ x, a = some x → ∃ y, comb true a b = some y ∧ x ≤ y := by
  intro x hx
  subst hx
  cases b with
  | none => exact ⟨x, rfl, Nat.le_refl _⟩
  | some y => exact ⟨max x y, rfl, Nat.le_max_left _ _⟩
end Go.Pantry
