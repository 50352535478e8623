/-
  Heads: the plain mathematics of layer 5: finding a text in another one, cutting at it, lines; what the statements ask; what is shown is read; the library's searching and cutting; the road that the program takes. No program is imported.
-/
import Derived.Test.YtfoghjhdjmapnaaGreatDoorPureField2
import Derived.Test.YtfoghjhdjmapnaaGreatDoorPureTwo
import Derived.Lib.SplitLaws
import Derived.Lib.CutLaws
namespace Go.Pantry
open Go.RowKit

/-- the first place of w in s -/
def findL (w : List UInt8) : List UInt8 → Option Nat
  | [] => if w.isEmpty then some 0 else none
  | c :: s => if w.isPrefixOf (c :: s) then some 0 else (findL w s).map (· + 1)
/-- s cut at w, at most so often -/
def piecesL (w : List UInt8) : Nat → List UInt8 → List (List UInt8)
  | 0, s => [s]
  | n + 1, s => match findL w s with
    | none => [s]
    | some i => s.take i :: piecesL w n (s.drop (i + w.length))

theorem findL_some {w : List UInt8} : ∀ {s : List UInt8} {i : Nat}, findL w s = some i → i ≤ s.length ∧ w.isPrefixOf (s.drop i) = true ∧ ∀ j, j < i → w.isPrefixOf (s.drop j) = false
  | [], i, h => by
    unfold findL at h
    split at h
    · rename_i hw
      cases h
      have : w = [] := by simpa using hw
      subst this
      exact ⟨Nat.le_refl _, rfl, fun j hj => by omega⟩
    · cases h
  | c :: s, i, h => by
    unfold findL at h
    split at h
    · rename_i hw
      cases h
      exact ⟨Nat.zero_le _, hw, fun j hj => by omega⟩
    · rename_i hw
      cases hf : findL w s with
      | none => rw [hf] at h; cases h
      | some k =>
        rw [hf] at h
        cases h
        obtain ⟨h1, h2, h3⟩ := findL_some hf
        refine ⟨by simp; omega, h2, fun j hj => ?_⟩
        cases j with
        | zero => exact Bool.eq_false_iff.2 hw
        | succ j => exact h3 j (Nat.lt_of_succ_lt_succ hj)
theorem findL_none {w : List UInt8} (hw : w ≠ []) : ∀ {s : List UInt8}, findL w s = none → ∀ j, w.isPrefixOf (s.drop j) = false
  | [], _, j => by
    rw [List.drop_nil]
    cases w with
    | nil => exact absurd rfl hw
    | cons a w => rfl
  | c :: s, h, j => by
    unfold findL at h
    split at h
    · cases h
    · rename_i hp
      cases hf : findL w s with
      | some k => rw [hf] at h; cases h
      | none =>
        cases j with
        | zero => exact Bool.eq_false_iff.2 hp
        | succ j => exact findL_none hw hf j
theorem findL_first {w : List UInt8} (hw : w ≠ []) {s : List UInt8} {i : Nat} (h : w.isPrefixOf (s.drop i) = true) (hf : ∀ j, j < i → w.isPrefixOf (s.drop j) = false) : findL w s = some i := by
  cases hx : findL w s with
  | none => rw [findL_none hw hx i] at h; cases h
  | some k =>
    obtain ⟨_, h2, h3⟩ := findL_some hx
    rcases Nat.lt_trichotomy k i with hk | hk | hk
    · rw [hf k hk] at h2; cases h2
    · rw [hk]
    · rw [h3 i hk] at h; cases h
/-- behind bytes that are not its first one -/
theorem findL_skip (x : UInt8) (w : List UInt8) : ∀ (a s : List UInt8), x ∉ a → findL (x :: w) (a ++ s) = (findL (x :: w) s).map (a.length + ·)
  | [], s, _ => by simp
  | c :: a, s, h => by
    have hc : (x == c) = false := by
      have : x ≠ c := fun e => h (by rw [e]; exact List.mem_cons_self ..)
      simpa using this
    have ih := findL_skip x w a s (fun hm => h (List.mem_cons_of_mem _ hm))
    rw [List.cons_append, findL, ih]
    rw [show (x :: w).isPrefixOf (c :: (a ++ s)) = (x == c && w.isPrefixOf (a ++ s)) from rfl, hc]
    cases findL (x :: w) s with
    | none => rfl
    | some k => simp; omega
theorem isPrefixOf_self (w s : List UInt8) : w.isPrefixOf (w ++ s) = true := by
  induction w with
  | nil => rfl
  | cons c w ih => simp [ih]
theorem findL_at (x : UInt8) (w a b : List UInt8) (h : x ∉ a) : findL (x :: w) (a ++ (x :: w) ++ b) = some a.length := by
  rw [List.append_assoc, findL_skip x w a _ h]
  have : findL (x :: w) ((x :: w) ++ b) = some 0 := by
    show findL (x :: w) (x :: (w ++ b)) = some 0
    have h1 : (x :: w).isPrefixOf (x :: (w ++ b)) = true := isPrefixOf_self (x :: w) b
    rw [findL, if_pos h1]
  rw [this]; rfl
theorem findL_no (x : UInt8) (w a : List UInt8) (h : x ∉ a) : findL (x :: w) a = none := by
  have := findL_skip x w a [] h
  rw [List.append_nil] at this
  rw [this]; rfl

/-- texts with w between them -/
def joinL (w : List UInt8) : List (List UInt8) → List UInt8
  | [] => []
  | [a] => a
  | a :: b :: r => a ++ w ++ joinL w (b :: r)
theorem pieces_joinL (x : UInt8) (w : List UInt8) : ∀ (n : Nat) (l : List (List UInt8)), l ≠ [] → l.length ≤ n + 1 → (∀ a ∈ l, x ∉ a) → (piecesL (x :: w) n (joinL (x :: w) l) = l)
  | _, [], h, _, _ => absurd rfl h
  | n, [a], _, _, h => by
    have hf : findL (x :: w) a = none := findL_no x w a (h a (List.mem_cons_self ..))
    cases n with
    | zero => rfl
    | succ n => show piecesL (x :: w) (n + 1) a = [a]; rw [piecesL, hf]
  | 0, a :: b :: r, _, hl, _ => by simp at hl
  | n + 1, a :: b :: r, _, hl, h => by
    have ih := pieces_joinL x w n (b :: r) (by simp) (by simp at hl ⊢; omega) (fun c hc => h c (List.mem_cons_of_mem _ hc))
    have hf := findL_at x w a (joinL (x :: w) (b :: r)) (h a (List.mem_cons_self ..))
    have h1 : (a ++ (x :: w) ++ joinL (x :: w) (b :: r)).take a.length = a := by rw [List.append_assoc, List.take_left]
    have h2 : (a ++ (x :: w) ++ joinL (x :: w) (b :: r)).drop (a.length + (x :: w).length) = joinL (x :: w) (b :: r) := by
      rw [← List.length_append, List.drop_left]
    show piecesL (x :: w) (n + 1) (a ++ (x :: w) ++ joinL (x :: w) (b :: r)) = _
    rw [piecesL, hf]
    simp only
    rw [h1, h2, ih]

/-! lines -/
def crlf : List UInt8 := [13, 10]
def crlf2 : List UInt8 := [13, 10, 13, 10]
/-- each with its end -/
def linesT (l : List (List UInt8)) : List UInt8 := l.flatMap (· ++ crlf)
theorem linesT_join : ∀ (l : List (List UInt8)), l ≠ [] → linesT l = joinL crlf l ++ crlf
  | [], h => absurd rfl h
  | [a], _ => by simp [linesT, joinL]
  | a :: b :: r, _ => by
    have ih := linesT_join (b :: r) (by simp)
    have e : linesT (a :: b :: r) = a ++ crlf ++ linesT (b :: r) := by simp [linesT]
    rw [e, ih]
    simp [joinL]
/-- a line's end with no other one behind it -/
theorem find2_step (t : List UInt8) (h : t.head? ≠ some 13) : findL crlf2 (13 :: 10 :: t) = (findL crlf2 t).map (· + 2) := by
  have h1 : crlf2.isPrefixOf (13 :: 10 :: t) = false := by
    cases t with
    | nil => rfl
    | cons c t =>
      have : (13 == c) = false := by
        have hc : c ≠ 13 := fun e => h (by rw [e]; rfl)
        simpa using Ne.symm hc
      show ((13 : UInt8) == 13 && ((10 : UInt8) == 10 && ((13 == c) && [10].isPrefixOf t))) = false
      rw [this]; rfl
  have h2 : crlf2.isPrefixOf (10 :: t) = false := rfl
  rw [findL, h1, findL, h2]
  cases findL crlf2 t with
  | none => rfl
  | some k => simp
/-- the first empty line of lines that are not -/
theorem find2_lines : ∀ (l : List (List UInt8)) (rest : List UInt8), l ≠ [] → (∀ a ∈ l, (13 : UInt8) ∉ a ∧ a ≠ []) → findL crlf2 (linesT l ++ crlf ++ rest) = some (joinL crlf l).length
  | [], _, h, _ => absurd rfl h
  | [a], rest, _, h => by
    have e : linesT [a] ++ crlf ++ rest = a ++ crlf2 ++ rest := by simp [linesT, crlf, crlf2]
    rw [e]
    exact findL_at 13 [10, 13, 10] a rest (h a (List.mem_cons_self ..)).1
  | a :: b :: r, rest, _, h => by
    have ih := find2_lines (b :: r) rest (by simp) (fun c hc => h c (List.mem_cons_of_mem _ hc))
    have hb := h b (List.mem_cons_of_mem _ (List.mem_cons_self ..))
    have e : linesT (a :: b :: r) ++ crlf ++ rest = a ++ (13 :: 10 :: (linesT (b :: r) ++ crlf ++ rest)) := by simp [linesT, crlf]
    have hh : (linesT (b :: r) ++ crlf ++ rest).head? ≠ some 13 := by
      obtain ⟨hb1, hb2⟩ := hb
      cases b with
      | nil => exact absurd rfl hb2
      | cons c b =>
        have hc : c ≠ 13 := fun e => hb1 (by rw [e]; exact List.mem_cons_self ..)
        simp [linesT, hc]
    rw [e, show crlf2 = 13 :: [10, 13, 10] from rfl, findL_skip 13 [10, 13, 10] a _ (h a (List.mem_cons_self ..)).1, show (13 : UInt8) :: [10, 13, 10] = crlf2 from rfl, find2_step _ hh, ih]
    show some (a.length + ((joinL crlf (b :: r)).length + 2)) = some (a ++ crlf ++ joinL crlf (b :: r)).length
    rw [List.length_append, List.length_append]
    simp [crlf]; omega
/-- what stands behind plays no part, and less is not enough -/
theorem find2_cut {s : List UInt8} {i : Nat} (h : findL crlf2 s = some i) (rest : List UInt8) : findL crlf2 (s.take (i + 4) ++ rest) = some i ∧ ∀ k, k < i + 4 → findL crlf2 (s.take k) = none := by
  obtain ⟨h1, h2, h3⟩ := findL_some h
  have hp : ∀ t : List UInt8, crlf2.isPrefixOf t = true ↔ crlf2 <+: t := fun t => List.isPrefixOf_iff_prefix
  obtain ⟨u, hu⟩ := (hp _).1 h2
  have hil : i + 4 ≤ s.length := by
    have := congrArg List.length hu
    rw [List.length_append, List.length_drop] at this
    have h4 : crlf2.length = 4 := rfl
    omega
  have take_pre : ∀ (k j : Nat), crlf2 <+: (s.take k).drop j → crlf2 <+: s.drop j := fun k j hx => by
    obtain ⟨v, hv⟩ := hx
    rw [List.drop_take] at hv
    exact ⟨v ++ (s.drop j).drop (k - j), by rw [← List.append_assoc, hv, List.take_append_drop]⟩
  constructor
  · have hs4 : s.take (i + 4) = s.take i ++ crlf2 := by
      rw [List.take_add, ← hu]
      congr 1
    refine findL_first (by decide) ?_ (fun j hj => ?_)
    · rw [hp, hs4, List.append_assoc]
      have : (s.take i).length = i := by rw [List.length_take]; omega
      have hd : (s.take i ++ (crlf2 ++ rest)).drop i = crlf2 ++ rest := by
        have h0 := List.drop_left (l₁ := s.take i) (l₂ := crlf2 ++ rest)
        rw [this] at h0
        exact h0
      rw [hd]
      exact List.prefix_append _ _
    · have h5 := h3 j hj
      rw [Bool.eq_false_iff] at h5 ⊢
      intro hx
      apply h5
      rw [hp] at hx ⊢
      obtain ⟨v, hv⟩ := hx
      have hlen : (s.take (i + 4)).length = i + 4 := by rw [List.length_take]; omega
      rw [List.drop_append_of_le_length (by rw [hlen]; omega)] at hv
      have : crlf2 <+: (s.take (i + 4)).drop j := by
        refine List.prefix_of_prefix_length_le (l₃ := (s.take (i + 4)).drop j ++ rest) ⟨v, hv⟩ (List.prefix_append _ _) ?_
        rw [List.length_drop, hlen]
        show 4 ≤ _
        omega
      exact take_pre _ _ this
  · intro k hk
    cases hf : findL crlf2 (s.take k) with
    | none => rfl
    | some j =>
      obtain ⟨g1, g2, _⟩ := findL_some hf
      have g4 := (hp _).1 g2
      have g3 : crlf2 <+: s.drop j := take_pre k j g4
      have hj : j + 4 ≤ k := by
        have := g4.length_le
        rw [List.length_drop, List.length_take] at this
        have h4 : crlf2.length = 4 := rfl
        omega
      have := h3 j (by omega)
      rw [(hp _).2 g3] at this
      cases this
end Go.Pantry
namespace Go.Pantry
open Go.RowKit

/-- a head: Method and Target, or Reason and nothing; Status is 0 of a request -/
structure Hd where
  first : List UInt8
  second : List UInt8
  status : Nat
  minor : Nat
  flds : List Fld
deriving DecidableEq
def hd0 : Hd := ⟨[], [], 0, 0, []⟩
def v10 : List UInt8 := [72, 84, 84, 80, 47, 49, 46, 48]
def v11 : List UInt8 := [72, 84, 84, 80, 47, 49, 46, 49]
def verL (n : Nat) : List UInt8 := if n = 0 then v10 else v11
def minorL (s : List UInt8) : Option Nat := if s == v10 then some 0 else if s == v11 then some 1 else none
def seenL (s : List UInt8) : Bool := !s.isEmpty && s.all fun c => decide (33 ≤ c.toNat) && decide (c.toNat ≤ 126)
/-- is a head right? -/
def rightReq (h : Hd) : Bool := decide (h.minor ≤ 1) && rightFs h.flds && (tokenL h.first && decide (h.first.length ≤ 16) && seenL h.second && decide (h.second.length ≤ 1024)) && h.status == 0
def rightRes (h : Hd) : Bool := decide (h.minor ≤ 1) && rightFs h.flds && (decide (100 ≤ h.status) && decide (h.status ≤ 599) && decide (h.first.length ≤ 64) && h.first.all okV && trimL h.first == h.first) && h.second == []
/-- the first lines, and the fields' -/
def reqLine (h : Hd) : List UInt8 := h.first ++ 32 :: (h.second ++ 32 :: verL h.minor)
def dig3 (n : Nat) : List UInt8 := [(48 + n / 100).toUInt8, (48 + n / 10 % 10).toUInt8, (48 + n % 10).toUInt8]
def resLine (h : Hd) : List UInt8 := verL h.minor ++ 32 :: (dig3 h.status ++ 32 :: h.first)
def fldLine (f : Fld) : List UInt8 := f.1 ++ 58 :: 32 :: f.2
def textReq (h : Hd) : List UInt8 := linesT (reqLine h :: h.flds.map fldLine) ++ crlf
def textRes (h : Hd) : List UInt8 := linesT (resLine h :: h.flds.map fldLine) ++ crlf
/-- they read: an error's number, or what they are -/
def reqL (s : List UInt8) : Except Nat Hd := match piecesL [32] s.length s with
  | [m, t, v] => if tokenL m && seenL t && (minorL v).isSome then (if 16 < m.length ∨ 1024 < t.length then .error 22 else .ok ⟨m, t, 0, (minorL v).getD 0, []⟩) else .error 21
  | _ => .error 21
def resL (s : List UInt8) : Except Nat Hd := match piecesL [32] 2 s with
  | [v, d, r] => if (minorL v).isSome && d.length == 3 && (numberL d).isSome && decide (100 ≤ (numberL d).getD 0) && decide ((numberL d).getD 0 ≤ 599) && r.all okV && trimL r == r then (if 64 < r.length then .error 22 else .ok ⟨r, [], (numberL d).getD 0, (minorL v).getD 0, []⟩) else .error 21
  | _ => .error 21
def fldL (i : Nat) (a : List UInt8) : Except Nat Fld := match findL [58] a with
  | none => .error 21
  | some k => if tokenL (a.take k) && (trimL (a.drop (k + 1))).all okV then (if 64 < k ∨ 1024 < (trimL (a.drop (k + 1))).length ∨ 64 ≤ i then .error 22 else .ok (a.take k, trimL (a.drop (k + 1)))) else .error 21
def fldsL : Nat → List (List UInt8) → Except Nat (List Fld)
  | _, [] => .ok []
  | i, a :: r => match fldL i a with
    | .error e => .error e
    | .ok f => match fldsL (i + 1) r with
      | .error e => .error e
      | .ok l => .ok (f :: l)
/-- a head and how many bytes it takes -/
def headL (first : List UInt8 → Except Nat Hd) (l : List (List UInt8)) : Except Nat Hd := match l with
  | [] => .error 21
  | a :: r => match first a with
    | .error e => .error e
    | .ok h => match fldsL 0 r with
      | .error e => .error e
      | .ok f => .ok { h with flds := f }
def readL (first : List UInt8 → Except Nat Hd) (s : List UInt8) : Except Nat (Hd × Nat) := match findL crlf2 s with
  | none => if 4096 ≤ s.length then .error 22 else .error 20
  | some n => if 4096 < n + 4 then .error 22 else match headL first (piecesL crlf n (s.take n)) with
    | .error e => .error e
    | .ok h => .ok (h, n + 4)

theorem mem_tok {l : List UInt8} (h : tokenL l = true) {c : UInt8} (hc : c ∈ l) : isTok c = true := by
  unfold tokenL at h
  rw [Bool.and_eq_true] at h
  exact List.all_eq_true.1 h.1 c hc
theorem tok_not {l : List UInt8} (h : tokenL l = true) (c : UInt8) (hc : isTok c = false) : c ∉ l := fun hm => by rw [mem_tok h hm] at hc; cases hc
theorem tok_ne {l : List UInt8} (h : tokenL l = true) : l ≠ [] := fun e => by rw [e] at h; cases h
theorem seen_not {l : List UInt8} (h : seenL l = true) (c : UInt8) (hc : c.toNat < 33) : c ∉ l := fun hm => by
  unfold seenL at h
  rw [Bool.and_eq_true] at h
  have := List.all_eq_true.1 h.2 c hm
  simp at this
  omega
theorem okV_not {l : List UInt8} (h : l.all okV = true) (c : UInt8) (hc : okV c = false) : c ∉ l := fun hm => by rw [List.all_eq_true.1 h c hm] at hc; cases hc
theorem ver_not (n : Nat) (c : UInt8) (hc : c.toNat < 46) : c ∉ verL n := by
  unfold verL
  intro hm
  split at hm
  · simp only [v10, List.mem_cons, List.not_mem_nil, or_false] at hm
    rcases hm with rfl | rfl | rfl | rfl | rfl | rfl | rfl | rfl <;> revert hc <;> decide
  · simp only [v11, List.mem_cons, List.not_mem_nil, or_false] at hm
    rcases hm with rfl | rfl | rfl | rfl | rfl | rfl | rfl | rfl <;> revert hc <;> decide
theorem minor_ver {n : Nat} (h : n ≤ 1) : minorL (verL n) = some n := by
  rcases Nat.le_one_iff_eq_zero_or_eq_one.1 h with rfl | rfl <;> decide
theorem dig3_ok (n : Nat) (h1 : 100 ≤ n) (h2 : n ≤ 599) : numberL (dig3 n) = some n := by
  have key : ∀ k : Fin 600, 100 ≤ k.val → numberL (dig3 k.val) = some k.val := by decide +kernel
  exact key ⟨n, by omega⟩ h1
theorem dig3_not (n : Nat) (h2 : n ≤ 599) (c : UInt8) (hc : c.toNat < 48) : c ∉ dig3 n := by
  have key : ∀ k : Fin 600, ∀ d ∈ dig3 k.val, 48 ≤ d.toNat := by decide +kernel
  intro hm
  have := key ⟨n, by omega⟩ c hm
  omega

/-! what is shown is read -/
theorem fldL_line {i : Nat} {f : Fld} (h : rightF f = true) (hi : i < 64) : fldL i (fldLine f) = .ok f := by
  obtain ⟨n, v⟩ := f
  unfold rightF at h
  simp only [Bool.and_eq_true, decide_eq_true_eq, beq_iff_eq] at h
  obtain ⟨⟨⟨⟨h1, h2⟩, h3⟩, h4⟩, h5⟩ := h
  have hf : findL [58] (n ++ 58 :: 32 :: v) = some n.length := by
    have := findL_at 58 [] n (32 :: v) (tok_not h1 58 (by decide))
    simpa using this
  have t1 : (n ++ 58 :: 32 :: v).take n.length = n := List.take_left ..
  have t2 : (n ++ 58 :: 32 :: v).drop (n.length + 1) = 32 :: v := by
    rw [show n ++ 58 :: 32 :: v = (n ++ [58]) ++ (32 :: v) by simp, show n.length + 1 = (n ++ [58]).length by simp]
    exact List.drop_left ..
  unfold fldL fldLine
  simp only [hf, t1, t2, trim_blank 32 v (by decide), h4, h1, h5, Bool.and_self, if_true]
  rw [if_neg (by omega)]
theorem fldsL_lines : ∀ (L : List Fld) (i : Nat), (∀ f ∈ L, rightF f = true) → i + L.length ≤ 64 → fldsL i (L.map fldLine) = .ok L
  | [], _, _, _ => rfl
  | f :: L, i, h, hi => by
    simp only [List.length_cons] at hi
    have h1 := fldL_line (i := i) (h f (List.mem_cons_self ..)) (by omega)
    have h2 := fldsL_lines L (i + 1) (fun g hg => h g (List.mem_cons_of_mem _ hg)) (by omega)
    rw [List.map_cons, fldsL, h1]
    simp only [h2]
theorem fldLine_clean {f : Fld} (h : rightF f = true) : (13 : UInt8) ∉ fldLine f ∧ fldLine f ≠ [] := by
  obtain ⟨n, v⟩ := f
  unfold rightF at h
  simp only [Bool.and_eq_true, decide_eq_true_eq, beq_iff_eq] at h
  obtain ⟨⟨⟨⟨h1, _⟩, _⟩, _⟩, h5⟩ := h
  refine ⟨fun hm => ?_, by simp [fldLine]⟩
  unfold fldLine at hm
  rcases List.mem_append.1 hm with hm | hm
  · exact tok_not h1 13 (by decide) hm
  · simp only [List.mem_cons] at hm
    rcases hm with hm | hm | hm
    · revert hm; decide
    · revert hm; decide
    · exact okV_not h5 13 (by decide) hm
theorem read_text (first : List UInt8 → Except Nat Hd) (a : List UInt8) (h : Hd) (L : List Fld) (rest : List UInt8) (ha : first a = .ok h) (h13 : (13 : UInt8) ∉ a) (hne : a ≠ []) (hr : rightFs L = true) (hl : (linesT (a :: L.map fldLine) ++ crlf).length ≤ 4096) :
    readL first (linesT (a :: L.map fldLine) ++ crlf ++ rest) = .ok ({ h with flds := L }, (linesT (a :: L.map fldLine) ++ crlf).length) := by
  unfold rightFs at hr
  simp only [Bool.and_eq_true, decide_eq_true_eq, List.all_eq_true] at hr
  have hcl : ∀ x ∈ a :: L.map fldLine, (13 : UInt8) ∉ x ∧ x ≠ [] := by
    intro x hx
    rcases List.mem_cons.1 hx with rfl | hx
    · exact ⟨h13, hne⟩
    · obtain ⟨f, hf, rfl⟩ := List.mem_map.1 hx
      exact fldLine_clean (hr.2 f hf)
  generalize hls : a :: L.map fldLine = ls at *
  have hlne : ls ≠ [] := by rw [← hls]; simp
  have hfind := find2_lines ls rest hlne hcl
  have hj := linesT_join ls hlne
  have hjl : (linesT ls ++ crlf).length = (joinL crlf ls).length + 4 := by rw [hj]; simp [crlf]
  have ht : (linesT ls ++ crlf ++ rest).take (joinL crlf ls).length = joinL crlf ls := by
    rw [hj, List.append_assoc, List.append_assoc]
    exact List.take_left ..
  have hlen : ls.length ≤ (joinL crlf ls).length + 1 := by
    have key : ∀ l : List (List UInt8), l ≠ [] → l.length ≤ (joinL crlf l).length + 1 := by
      intro l
      induction l with
      | nil => intro h; exact absurd rfl h
      | cons x r ih =>
        intro _
        cases r with
        | nil => simp
        | cons y r =>
          have := ih (by simp)
          simp only [joinL, List.length_append, List.length_cons] at this ⊢
          have h2 : crlf.length = 2 := rfl
          omega
    exact key ls hlne
  have hp := pieces_joinL 13 [10] (joinL crlf ls).length ls hlne hlen (fun x hx => (hcl x hx).1)
  have hflds := fldsL_lines L 0 hr.2 (by omega)
  unfold readL
  rw [hfind]
  simp only [ht]
  rw [if_neg (by omega), show piecesL crlf (joinL crlf ls).length (joinL crlf ls) = ls from hp, ← hls]
  simp only [headL, ha, hflds]
  rw [hls, hjl]
end Go.Pantry
namespace Go.Pantry
open Go.RowKit

theorem req_line {h : Hd} (hr : rightReq h = true) : reqL (reqLine h) = .ok { h with flds := [] } ∧ (13 : UInt8) ∉ reqLine h ∧ reqLine h ≠ [] := by
  obtain ⟨m, t, st, n, L⟩ := h
  unfold rightReq at hr
  simp only [Bool.and_eq_true, decide_eq_true_eq, beq_iff_eq] at hr
  obtain ⟨⟨⟨hn, _⟩, ⟨⟨h1, h2⟩, h3⟩, h4⟩, rfl⟩ := hr
  have hp : piecesL [32] (m ++ 32 :: (t ++ 32 :: verL n)).length (m ++ 32 :: (t ++ 32 :: verL n)) = [m, t, verL n] := by
    have e : m ++ 32 :: (t ++ 32 :: verL n) = joinL [32] [m, t, verL n] := by simp [joinL]
    rw [e]
    refine pieces_joinL 32 [] _ [m, t, verL n] (by simp) ?_ ?_
    · simp [joinL]; omega
    · intro a ha
      simp only [List.mem_cons, List.not_mem_nil, or_false] at ha
      rcases ha with rfl | rfl | rfl
      · exact tok_not h1 32 (by decide)
      · exact seen_not h3 32 (by decide)
      · exact ver_not n 32 (by decide)
  refine ⟨?_, ?_, by simp [reqLine]⟩
  · unfold reqL reqLine
    simp only [hp, h1, h3, minor_ver hn, Option.isSome_some, Bool.and_self, if_true, Option.getD_some]
    rw [if_neg (by omega)]
  · intro hm
    unfold reqLine at hm
    rcases List.mem_append.1 hm with hm | hm
    · exact tok_not h1 13 (by decide) hm
    · rcases List.mem_cons.1 hm with hm | hm
      · revert hm; decide
      · rcases List.mem_append.1 hm with hm | hm
        · exact seen_not h3 13 (by decide) hm
        · rcases List.mem_cons.1 hm with hm | hm
          · revert hm; decide
          · exact ver_not n 13 (by decide) hm
theorem res_line {h : Hd} (hr : rightRes h = true) : resL (resLine h) = .ok { h with flds := [] } ∧ (13 : UInt8) ∉ resLine h ∧ resLine h ≠ [] := by
  obtain ⟨r, x, st, n, L⟩ := h
  unfold rightRes at hr
  simp only [Bool.and_eq_true, decide_eq_true_eq, beq_iff_eq] at hr
  obtain ⟨⟨⟨hn, _⟩, ⟨⟨⟨h1, h2⟩, h3⟩, h4⟩, h5⟩, rfl⟩ := hr
  have f1 : findL [32] (verL n ++ 32 :: (dig3 st ++ 32 :: r)) = some (verL n).length := by
    have := findL_at 32 [] (verL n) (dig3 st ++ 32 :: r) (ver_not n 32 (by decide))
    simpa using this
  have d1 : (verL n ++ 32 :: (dig3 st ++ 32 :: r)).drop ((verL n).length + ([32] : List UInt8).length) = dig3 st ++ 32 :: r := by
    rw [show verL n ++ 32 :: (dig3 st ++ 32 :: r) = (verL n ++ [32]) ++ (dig3 st ++ 32 :: r) by simp, ← List.length_append]
    exact List.drop_left ..
  have t1 : (verL n ++ 32 :: (dig3 st ++ 32 :: r)).take (verL n).length = verL n := List.take_left ..
  have f2 : findL [32] (dig3 st ++ 32 :: r) = some (dig3 st).length := by
    have := findL_at 32 [] (dig3 st) r (dig3_not st h2 32 (by decide))
    simpa using this
  have d2 : (dig3 st ++ 32 :: r).drop ((dig3 st).length + ([32] : List UInt8).length) = r := by
    rw [show dig3 st ++ 32 :: r = (dig3 st ++ [32]) ++ r by simp, ← List.length_append]
    exact List.drop_left ..
  have t2 : (dig3 st ++ 32 :: r).take (dig3 st).length = dig3 st := List.take_left ..
  have hp : piecesL [32] 2 (verL n ++ 32 :: (dig3 st ++ 32 :: r)) = [verL n, dig3 st, r] := by
    rw [piecesL, f1]
    simp only
    rw [t1, d1, piecesL, f2]
    simp only
    rw [t2, d2, piecesL]
  have hd : (dig3 st).length = 3 := rfl
  refine ⟨?_, ?_, by simp [resLine]⟩
  · unfold resL resLine
    simp only [hp, minor_ver hn, dig3_ok st h1 h2, hd, h4, h5, Option.isSome_some, Option.getD_some, decide_eq_true h1, decide_eq_true h2, beq_self_eq_true, Bool.and_self, if_true]
    rw [if_neg (by omega)]
  · intro hm
    unfold resLine at hm
    rcases List.mem_append.1 hm with hm | hm
    · exact ver_not n 13 (by decide) hm
    · rcases List.mem_cons.1 hm with hm | hm
      · revert hm; decide
      · rcases List.mem_append.1 hm with hm | hm
        · exact dig3_not st h2 13 (by decide) hm
        · rcases List.mem_cons.1 hm with hm | hm
          · revert hm; decide
          · exact okV_not h4 13 (by decide) hm
/-- what is shown is read as it is, whatever stands behind it -/
theorem read_req {h : Hd} (hr : rightReq h = true) (hl : (textReq h).length ≤ 4096) (rest : List UInt8) : readL reqL (textReq h ++ rest) = .ok (h, (textReq h).length) := by
  obtain ⟨h1, h2, h3⟩ := req_line hr
  have hf : rightFs h.flds = true := by
    unfold rightReq at hr
    simp only [Bool.and_eq_true] at hr
    exact hr.1.1.2
  exact read_text reqL (reqLine h) { h with flds := [] } h.flds rest h1 h2 h3 hf hl
theorem read_res {h : Hd} (hr : rightRes h = true) (hl : (textRes h).length ≤ 4096) (rest : List UInt8) : readL resL (textRes h ++ rest) = .ok (h, (textRes h).length) := by
  obtain ⟨h1, h2, h3⟩ := res_line hr
  have hf : rightFs h.flds = true := by
    unfold rightRes at hr
    simp only [Bool.and_eq_true] at hr
    exact hr.1.1.2
  exact read_text resL (resLine h) { h with flds := [] } h.flds rest h1 h2 h3 hf hl

/-! what is read is right -/
theorem fldL_right {i : Nat} {a : List UInt8} {f : Fld} (h : fldL i a = .ok f) : rightF f = true ∧ i < 64 := by
  unfold fldL at h
  cases hk : findL [58] a with
  | none => rw [hk] at h; cases h
  | some k =>
    rw [hk] at h
    simp only at h
    split at h
    · rename_i h1
      split at h
      · cases h
      · rename_i h2
        cases h
        rw [Bool.and_eq_true] at h1
        have hkl := (findL_some hk).1
        have hl : (a.take k).length = k := by rw [List.length_take]; omega
        refine ⟨?_, by omega⟩
        unfold rightF
        simp only [Bool.and_eq_true, decide_eq_true_eq, beq_iff_eq]
        exact ⟨⟨⟨⟨h1.1, by rw [hl]; omega⟩, by omega⟩, trimL_idem _⟩, h1.2⟩
    · cases h
theorem fldsL_right : ∀ (l : List (List UInt8)) (i : Nat) (L : List Fld), fldsL i l = .ok L → (∀ f ∈ L, rightF f = true) ∧ L.length = l.length ∧ (L ≠ [] → i + L.length ≤ 64)
  | [], _, L, h => by
    cases h
    exact ⟨by simp, rfl, fun h => absurd rfl h⟩
  | a :: r, i, L, h => by
    rw [fldsL] at h
    cases hf : fldL i a with
    | error e => rw [hf] at h; cases h
    | ok f =>
      rw [hf] at h
      simp only at h
      cases hr : fldsL (i + 1) r with
      | error e => rw [hr] at h; cases h
      | ok l =>
        rw [hr] at h
        cases h
        obtain ⟨g1, g2⟩ := fldL_right hf
        obtain ⟨k1, k2, k3⟩ := fldsL_right r (i + 1) l hr
        refine ⟨fun x hx => ?_, by simp [k2], fun _ => ?_⟩
        · rcases List.mem_cons.1 hx with rfl | hx
          · exact g1
          · exact k1 x hx
        · cases l with
          | nil => simp; omega
          | cons y l =>
            have := k3 (by simp)
            simp only [List.length_cons] at this ⊢
            omega
theorem flds_right {l : List (List UInt8)} {L : List Fld} (h : fldsL 0 l = .ok L) : rightFs L = true := by
  obtain ⟨h1, _, h3⟩ := fldsL_right l 0 L h
  unfold rightFs
  simp only [Bool.and_eq_true, decide_eq_true_eq, List.all_eq_true]
  refine ⟨?_, h1⟩
  cases L with
  | nil => simp
  | cons f L => have := h3 (by simp); omega
theorem minorL_le {s : List UInt8} {n : Nat} (h : minorL s = some n) : n ≤ 1 := by
  unfold minorL at h
  split at h
  · cases h; omega
  · split at h
    · cases h; omega
    · cases h
theorem readL_ok {first : List UInt8 → Except Nat Hd} {s : List UInt8} {h : Hd} {n : Nat} (hr : readL first s = .ok (h, n)) :
    ∃ i a l g, findL crlf2 s = some i ∧ n = i + 4 ∧ n ≤ 4096 ∧ piecesL crlf i (s.take i) = a :: l ∧ first a = .ok g ∧ fldsL 0 l = .ok h.flds ∧ h = { g with flds := h.flds } := by
  unfold readL at hr
  cases hf : findL crlf2 s with
  | none => rw [hf] at hr; simp only at hr; split at hr <;> cases hr
  | some i =>
    rw [hf] at hr
    simp only at hr
    split at hr
    · cases hr
    · rename_i hn
      cases hp : piecesL crlf i (s.take i) with
      | nil => rw [hp] at hr; cases hr
      | cons a l =>
        rw [hp] at hr
        simp only [headL] at hr
        cases ha : first a with
        | error e => rw [ha] at hr; cases hr
        | ok g =>
          rw [ha] at hr
          simp only at hr
          cases hl : fldsL 0 l with
          | error e => rw [hl] at hr; cases hr
          | ok f =>
            rw [hl] at hr
            cases hr
            exact ⟨i, a, l, g, rfl, rfl, by omega, hp, ha, hl, rfl⟩
theorem reqL_right {a : List UInt8} {g : Hd} (h : reqL a = .ok g) : (tokenL g.first && decide (g.first.length ≤ 16) && seenL g.second && decide (g.second.length ≤ 1024)) = true ∧ g.minor ≤ 1 ∧ g.status = 0 := by
  unfold reqL at h
  split at h
  · rename_i m t v hp
    split at h
    · rename_i h1
      split at h
      · cases h
      · rename_i h2
        cases h
        simp only [Bool.and_eq_true] at h1
        obtain ⟨⟨g1, g2⟩, g3⟩ := h1
        refine ⟨?_, ?_, rfl⟩
        · simp only [Bool.and_eq_true, decide_eq_true_eq]
          exact ⟨⟨⟨g1, by omega⟩, g2⟩, by omega⟩
        · cases hv : minorL v with
          | none => rw [hv] at g3; cases g3
          | some k => exact minorL_le hv
    · cases h
  · cases h
theorem resL_right {a : List UInt8} {g : Hd} (h : resL a = .ok g) : (decide (100 ≤ g.status) && decide (g.status ≤ 599) && decide (g.first.length ≤ 64) && g.first.all okV && trimL g.first == g.first) = true ∧ g.minor ≤ 1 ∧ g.second = [] := by
  unfold resL at h
  split at h
  · rename_i v d r hp
    split at h
    · rename_i h1
      split at h
      · cases h
      · rename_i h2
        cases h
        simp only [Bool.and_eq_true, decide_eq_true_eq, beq_iff_eq] at h1
        obtain ⟨⟨⟨⟨⟨⟨g1, g2⟩, g3⟩, g4⟩, g5⟩, g6⟩, g7⟩ := h1
        refine ⟨?_, ?_, rfl⟩
        · simp only [Bool.and_eq_true, decide_eq_true_eq, beq_iff_eq]
          exact ⟨⟨⟨⟨g4, g5⟩, by omega⟩, g6⟩, g7⟩
        · cases hv : minorL v with
          | none => rw [hv] at g1; cases g1
          | some k => exact minorL_le hv
    · cases h
  · cases h
theorem readReq_right {s : List UInt8} {h : Hd} {n : Nat} (hr : readL reqL s = .ok (h, n)) : rightReq h = true := by
  obtain ⟨i, a, l, g, -, -, -, -, h5, h6, h7⟩ := readL_ok hr
  obtain ⟨r1, r2, r3⟩ := reqL_right h5
  have hf := flds_right h6
  rw [h7]
  unfold rightReq
  simp only [hf, r1, r3, Bool.and_true, beq_self_eq_true]
  exact decide_eq_true r2
theorem readRes_right {s : List UInt8} {h : Hd} {n : Nat} (hr : readL resL s = .ok (h, n)) : rightRes h = true := by
  obtain ⟨i, a, l, g, -, -, -, -, h5, h6, h7⟩ := readL_ok hr
  obtain ⟨r1, r2, r3⟩ := resL_right h5
  have hf := flds_right h6
  rw [h7]
  unfold rightRes
  simp only [hf, r1, r3, Bool.and_true, beq_self_eq_true]
  exact decide_eq_true r2
/-! parts -/
theorem read_parts {first : List UInt8 → Except Nat Hd} {s : List UInt8} {h : Hd} {n : Nat} (hr : readL first s = .ok (h, n)) (hs : s.length ≤ 4000) (rest : List UInt8) :
    0 < n ∧ n ≤ s.length ∧ (∀ k, k < n → readL first (s.take k) = .error 20) ∧ readL first (s.take n ++ rest) = .ok (h, n) := by
  obtain ⟨i, a, l, g, h1, rfl, h3, h4, h5, h6, h7⟩ := readL_ok hr
  obtain ⟨c1, c2⟩ := find2_cut h1 rest
  have hil : i + 4 ≤ s.length := by
    obtain ⟨u, hu⟩ := List.isPrefixOf_iff_prefix.1 (findL_some h1).2.1
    have := congrArg List.length hu
    rw [List.length_append, List.length_drop] at this
    have h4 : crlf2.length = 4 := rfl
    omega
  refine ⟨by omega, hil, fun k hk => ?_, ?_⟩
  · unfold readL
    rw [c2 k hk]
    simp only
    rw [if_neg (by rw [List.length_take]; omega)]
  · have ht : (s.take (i + 4) ++ rest).take i = s.take i := by
      rw [List.take_append_of_le_length (by rw [List.length_take]; omega), List.take_take]
      congr 1; omega
    unfold readL
    rw [c1]
    simp only [ht, h4, headL, h5, h6]
    rw [if_neg (by omega), ← h7]
/-! kinds -/
theorem read_kinds (s : List UInt8) (x y : Hd × Nat) (h1 : readL reqL s = .ok x) (h2 : readL resL s = .ok y) : False := by
  obtain ⟨h, n⟩ := x
  obtain ⟨k, m⟩ := y
  obtain ⟨i, a, l, g, f1, -, -, p1, q1, -, -⟩ := readL_ok h1
  obtain ⟨i', a', l', g', f2, -, -, p2, q2, -, -⟩ := readL_ok h2
  rw [f1] at f2
  cases f2
  rw [p1] at p2
  cases p2
  unfold reqL at q1
  unfold resL at q2
  cases hf : findL [32] a with
  | none =>
    have : piecesL [32] 2 a = [a] := by rw [piecesL, hf]
    rw [this] at q2
    cases q2
  | some j =>
    have hal : a.length ≠ 0 := fun e => by
      have : a = [] := List.eq_nil_of_length_eq_zero e
      rw [this] at hf
      cases hf
    obtain ⟨N, hN⟩ : ∃ N, a.length = N + 1 := ⟨a.length - 1, by omega⟩
    rw [hN, piecesL, hf] at q1
    rw [piecesL, hf] at q2
    simp only at q1 q2
    have t1 : tokenL (a.take j) = true := by
      split at q1
      · rename_i m t v hp
        rw [← (List.cons.inj hp).1] at q1
        split at q1
        · rename_i hh
          simp only [Bool.and_eq_true] at hh
          exact hh.1.1
        · cases q1
      · cases q1
    have t2 : (minorL (a.take j)).isSome = true := by
      split at q2
      · rename_i v d r hp
        rw [← (List.cons.inj hp).1] at q2
        split at q2
        · rename_i hh
          simp only [Bool.and_eq_true] at hh
          exact hh.1.1.1.1.1.1
        · cases q2
      · cases q2
    unfold minorL at t2
    split at t2
    · rename_i hh
      rw [beq_iff_eq] at hh
      rw [hh] at t1
      revert t1; decide
    · split at t2
      · rename_i hh
        rw [beq_iff_eq] at hh
        rw [hh] at t1
        revert t1; decide
      · cases t2
end Go.Pantry
namespace Go.Pantry
open Go.RowKit

theorem read_lines (first : List UInt8 → Except Nat Hd) (ls : List (List UInt8)) (rest : List UInt8) (hlne : ls ≠ []) (hcl : ∀ x ∈ ls, (13 : UInt8) ∉ x ∧ x ≠ []) (hl : (linesT ls ++ crlf).length ≤ 4096) :
    readL first (linesT ls ++ crlf ++ rest) = match headL first ls with | .error e => .error e | .ok h => .ok (h, (linesT ls ++ crlf).length) := by
  have hfind := find2_lines ls rest hlne hcl
  have hj := linesT_join ls hlne
  have hjl : (linesT ls ++ crlf).length = (joinL crlf ls).length + 4 := by rw [hj]; simp [crlf]
  have ht : (linesT ls ++ crlf ++ rest).take (joinL crlf ls).length = joinL crlf ls := by
    rw [hj, List.append_assoc, List.append_assoc]
    exact List.take_left ..
  have hlen : ls.length ≤ (joinL crlf ls).length + 1 := by
    have key : ∀ l : List (List UInt8), l ≠ [] → l.length ≤ (joinL crlf l).length + 1 := by
      intro l
      induction l with
      | nil => intro h; exact absurd rfl h
      | cons x r ih =>
        intro _
        cases r with
        | nil => simp
        | cons y r =>
          have := ih (by simp)
          simp only [joinL, List.length_append, List.length_cons] at this ⊢
          have h2 : crlf.length = 2 := rfl
          omega
    exact key ls hlne
  have hp := pieces_joinL 13 [10] (joinL crlf ls).length ls hlne hlen (fun x hx => (hcl x hx).1)
  unfold readL
  rw [hfind]
  simp only [ht]
  rw [if_neg (by omega), show piecesL crlf (joinL crlf ls).length (joinL crlf ls) = ls from hp, hjl]
  all_goals (cases headL first ls <;> rfl)

/-- blanks -/
def blL : Nat → List UInt8
  | 0 => []
  | 1 => [32]
  | 2 => [9]
  | _ => [32, 9, 32]
theorem blL_all (n : Nat) : ∀ c ∈ blL n, isBl c = true := by
  intro c hc
  unfold blL at hc
  split at hc <;> simp at hc
  · subst hc; decide
  · subst hc; decide
  · rcases hc with h | h | h <;> rw [h] <;> decide
/-- a field's line with blanks: ahead of the value, behind it; which: 1: ahead of the colon; 2: at the beginning -/
def blLine (a b w : Nat) (f : Fld) : List UInt8 := (if w = 2 then [32] else []) ++ f.1 ++ (if w = 1 then [32] else []) ++ [58] ++ blL a ++ f.2 ++ blL b
theorem trim_ahead : ∀ (p v : List UInt8), (∀ c ∈ p, isBl c = true) → trimL (p ++ v) = trimL v
  | [], _, _ => rfl
  | c :: p, v, h => by
    rw [List.cons_append, trim_blank c _ (h c (List.mem_cons_self ..))]
    exact trim_ahead p v (fun d hd => h d (List.mem_cons_of_mem _ hd))
theorem trim_behind (v q : List UInt8) (hq : ∀ c ∈ q, isBl c = true) (hv : trimL v = v) : trimL (v ++ q) = v := by
  cases v with
  | nil =>
    rw [List.nil_append]
    have := trim_ahead q [] hq
    rw [List.append_nil] at this
    rw [this, trimL_nil]
  | cons c v =>
    have h1 := trim_head (c :: v) c (by rw [hv]; rfl)
    have h2 : ∀ d, (c :: v).getLast? = some d → isBl d = false := fun d hd => trim_last (c :: v) d (by rw [hv]; exact hd)
    have key := trim_of ((c :: v) ++ q) 0 (c :: v).length (Nat.zero_le _) (by rw [List.length_append]; omega) (fun j x hj => by omega)
      (fun j x h3 hx => by
        rw [List.getElem?_append_right h3] at hx
        exact hq x (List.mem_of_getElem? hx))
      (fun _ x hx => by
        have : c = x := by simpa using hx
        rw [← this]; exact h1)
      (fun _ x hx => by
        rw [List.getElem?_append_left (by simp)] at hx
        exact h2 x (by rw [List.getLast?_eq_getElem?]; exact hx))
    rw [key, List.drop_zero, Nat.sub_zero]
    exact List.take_left ..
theorem blLine_clean {a b w : Nat} {f : Fld} (h : rightF f = true) : (13 : UInt8) ∉ blLine a b w f ∧ blLine a b w f ≠ [] := by
  obtain ⟨n, v⟩ := f
  unfold rightF at h
  simp only [Bool.and_eq_true, decide_eq_true_eq, beq_iff_eq] at h
  obtain ⟨⟨⟨⟨h1, _⟩, _⟩, _⟩, h5⟩ := h
  have hb : ∀ k, (13 : UInt8) ∉ blL k := fun k hm => by
    have := blL_all k 13 hm
    revert this; decide
  refine ⟨fun hm => ?_, by simp [blLine]⟩
  unfold blLine at hm
  simp only [List.mem_append] at hm
  rcases hm with (((((hm | hm) | hm) | hm) | hm) | hm) | hm
  · split at hm
    · revert hm; decide
    · cases hm
  · exact tok_not h1 13 (by decide) hm
  · split at hm
    · revert hm; decide
    · cases hm
  · revert hm; decide
  · exact hb a hm
  · exact okV_not h5 13 (by decide) hm
  · exact hb b hm
theorem fldL_blanks {i a b : Nat} {f : Fld} (h : rightF f = true) (hi : i < 64) : fldL i (blLine a b 0 f) = .ok f := by
  obtain ⟨n, v⟩ := f
  unfold rightF at h
  simp only [Bool.and_eq_true, decide_eq_true_eq, beq_iff_eq] at h
  obtain ⟨⟨⟨⟨h1, h2⟩, h3⟩, h4⟩, h5⟩ := h
  have e : blLine a b 0 (n, v) = n ++ [58] ++ (blL a ++ (v ++ blL b)) := by simp [blLine]
  have hf : findL [58] (n ++ [58] ++ (blL a ++ (v ++ blL b))) = some n.length := findL_at 58 [] n _ (tok_not h1 58 (by decide))
  have t1 : (n ++ [58] ++ (blL a ++ (v ++ blL b))).take n.length = n := by rw [List.append_assoc]; exact List.take_left ..
  have t2 : (n ++ [58] ++ (blL a ++ (v ++ blL b))).drop (n.length + 1) = blL a ++ (v ++ blL b) := by
    have h0 := List.drop_left (l₁ := n ++ [58]) (l₂ := blL a ++ (v ++ blL b))
    rw [List.length_append] at h0
    exact h0
  have ht : trimL (blL a ++ (v ++ blL b)) = v := by rw [trim_ahead _ _ (blL_all a), trim_behind _ _ (blL_all b) h4]
  rw [e]
  unfold fldL
  simp only [hf, t1, t2, ht, h1, h5, Bool.and_self, if_true]
  rw [if_neg (by omega)]
theorem fldL_wrong {i a b w : Nat} {f : Fld} (h : rightF f = true) (hw : w = 1 ∨ w = 2) : fldL i (blLine a b w f) = .error 21 := by
  obtain ⟨n, v⟩ := f
  unfold rightF at h
  simp only [Bool.and_eq_true, decide_eq_true_eq, beq_iff_eq] at h
  obtain ⟨⟨⟨⟨h1, _⟩, _⟩, _⟩, _⟩ := h
  obtain ⟨p, hp, h32, e⟩ : ∃ p : List UInt8, (58 : UInt8) ∉ p ∧ (32 : UInt8) ∈ p ∧ blLine a b w (n, v) = p ++ [58] ++ (blL a ++ (v ++ blL b)) := by
    rcases hw with rfl | rfl
    · refine ⟨n ++ [32], ?_, by simp, by simp [blLine]⟩
      intro hm
      rcases List.mem_append.1 hm with hm | hm
      · exact tok_not h1 58 (by decide) hm
      · revert hm; decide
    · refine ⟨32 :: n, ?_, by simp, by simp [blLine]⟩
      intro hm
      rcases List.mem_cons.1 hm with hm | hm
      · revert hm; decide
      · exact tok_not h1 58 (by decide) hm
  have hf : findL [58] (p ++ [58] ++ (blL a ++ (v ++ blL b))) = some p.length := findL_at 58 [] p _ hp
  have t1 : (p ++ [58] ++ (blL a ++ (v ++ blL b))).take p.length = p := by rw [List.append_assoc]; exact List.take_left ..
  have hno : tokenL p = false := by
    cases ht : tokenL p with
    | false => rfl
    | true => exact absurd h32 (tok_not ht 32 (by decide))
  rw [e]
  unfold fldL
  simp only [hf, t1, hno, Bool.false_and, Bool.false_eq_true, if_false]
theorem fldsL_blanks (a b : Nat) : ∀ (L : List Fld) (i : Nat), (∀ f ∈ L, rightF f = true) → i + L.length ≤ 64 → fldsL i (L.map (blLine a b 0)) = .ok L
  | [], _, _, _ => rfl
  | f :: L, i, h, hi => by
    simp only [List.length_cons] at hi
    have h1 := fldL_blanks (i := i) (a := a) (b := b) (h f (List.mem_cons_self ..)) (by omega)
    have h2 := fldsL_blanks a b L (i + 1) (fun g hg => h g (List.mem_cons_of_mem _ hg)) (by omega)
    rw [List.map_cons, fldsL, h1]
    simp only [h2]
end Go.Pantry
namespace Go.Pantry
open Go.RowKit

/-- GET / HTTP/1.1 -/
def getL : List UInt8 := [71, 69, 84, 32, 47, 32, 72, 84, 84, 80, 47, 49, 46, 49]
def getH : Hd := ⟨[71, 69, 84], [47], 0, 1, []⟩
theorem get_reads : reqL getL = .ok getH ∧ (13 : UInt8) ∉ getL ∧ getL ≠ [] := by
  refine ⟨?_, by decide, by decide⟩
  have h := (req_line (h := getH) (by decide)).1
  exact h
theorem blanks_ok (L : List Fld) (a b : Nat) (h : rightFs L = true) (hl : (linesT (getL :: L.map (blLine a b 0)) ++ crlf).length ≤ 4096) :
    readL reqL (linesT (getL :: L.map (blLine a b 0)) ++ crlf) = .ok ({ getH with flds := L }, (linesT (getL :: L.map (blLine a b 0)) ++ crlf).length) := by
  unfold rightFs at h
  simp only [Bool.and_eq_true, decide_eq_true_eq, List.all_eq_true] at h
  have h1 := read_lines reqL (getL :: L.map (blLine a b 0)) [] (by simp) (fun x hx => by
    rcases List.mem_cons.1 hx with rfl | hx
    · exact get_reads.2
    · obtain ⟨f, hf, rfl⟩ := List.mem_map.1 hx
      exact blLine_clean (h.2 f hf)) hl
  rw [List.append_nil] at h1
  rw [h1]
  simp only [headL, get_reads.1, fldsL_blanks a b L 0 h.2 (by omega)]
theorem blanks_wrong (f : Fld) (L : List Fld) (a b w : Nat) (hw : w = 1 ∨ w = 2) (h : rightFs (f :: L) = true) (hl : (linesT (getL :: (f :: L).map (blLine a b w)) ++ crlf).length ≤ 4096) :
    readL reqL (linesT (getL :: (f :: L).map (blLine a b w)) ++ crlf) = .error 21 := by
  unfold rightFs at h
  simp only [Bool.and_eq_true, decide_eq_true_eq, List.all_eq_true] at h
  have h1 := read_lines reqL (getL :: (f :: L).map (blLine a b w)) [] (by simp) (fun x hx => by
    rcases List.mem_cons.1 hx with rfl | hx
    · exact get_reads.2
    · obtain ⟨g, hg, rfl⟩ := List.mem_map.1 hx
      exact blLine_clean (h.2 g hg)) hl
  rw [List.append_nil] at h1
  rw [h1]
  simp only [headL, get_reads.1, List.map_cons, fldsL, fldL_wrong (h.2 f (List.mem_cons_self ..)) hw]
theorem blanks_none (a b w : Nat) : readL reqL (linesT (getL :: ([] : List Fld).map (blLine a b w)) ++ crlf) = .ok (getH, 18) := by
  have h := blanks_ok [] a b (by decide) (show (linesT [getL] ++ crlf).length ≤ 4096 by decide)
  exact h

/-! cutting as often as it is there -/
theorem findL_lt {w : List UInt8} (hw : w ≠ []) {s : List UInt8} {i : Nat} (h : findL w s = some i) : i + w.length ≤ s.length := by
  obtain ⟨h1, h2, _⟩ := findL_some h
  obtain ⟨u, hu⟩ := List.isPrefixOf_iff_prefix.1 h2
  have := congrArg List.length hu
  rw [List.length_append, List.length_drop] at this
  have : 0 < w.length := List.length_pos_iff.2 hw
  omega
theorem pieces_fuel {w : List UInt8} (hw : w ≠ []) : ∀ (n m : Nat) (s : List UInt8), s.length ≤ n → s.length ≤ m → piecesL w n s = piecesL w m s := by
  intro n
  induction n with
  | zero =>
    intro m s h _
    have hs : s = [] := List.eq_nil_of_length_eq_zero (by omega)
    subst hs
    cases m with
    | zero => rfl
    | succ m =>
      have : findL w [] = none := by
        cases hf : findL w [] with
        | none => rfl
        | some i =>
          have := findL_lt hw hf
          have h2 : 0 < w.length := List.length_pos_iff.2 hw
          simp at this
          exact absurd this.2 hw
      rw [piecesL, piecesL, this]
  | succ n ih =>
    intro m s h1 h2
    have hw1 : 0 < w.length := List.length_pos_iff.2 hw
    cases m with
    | zero =>
      have hs : s = [] := List.eq_nil_of_length_eq_zero (by omega)
      subst hs
      have : findL w [] = none := by
        cases hf : findL w [] with
        | none => rfl
        | some i =>
          have := findL_lt hw hf
          simp at this
          exact absurd this.2 hw
      rw [piecesL, piecesL, this]
    | succ m =>
      rw [piecesL, piecesL]
      cases hf : findL w s with
      | none => rfl
      | some i =>
        have := findL_lt hw hf
        simp only
        rw [ih m (s.drop (i + w.length)) (by rw [List.length_drop]; omega) (by rw [List.length_drop]; omega)]
/-- one step of the cutting, from a place on -/
theorem pieces_step {w : List UInt8} (hw : w ≠ []) (s : List UInt8) : piecesL w s.length s = match findL w s with
    | none => [s]
    | some i => s.take i :: piecesL w (s.drop (i + w.length)).length (s.drop (i + w.length)) := by
  cases hf : findL w s with
  | none =>
    cases h : s.length with
    | zero => rfl
    | succ n => rw [piecesL, hf]
  | some i =>
    have := findL_lt hw hf
    have hw1 : 0 < w.length := List.length_pos_iff.2 hw
    obtain ⟨n, hn⟩ : ∃ n, s.length = n + 1 := ⟨s.length - 1, by omega⟩
    rw [hn, piecesL, hf]
    simp only
    rw [pieces_fuel hw n (s.drop (i + w.length)).length _ (by rw [List.length_drop]; omega) (Nat.le_refl _)]
end Go.Pantry
namespace Go.Pantry
open Go.RowKit

theorem index_find (w : List UInt8) : ∀ s : List UInt8, Lib.index s w = match findL w s with | none => -1 | some i => (i : Int)
  | [] => by
    unfold Lib.index findL
    split <;> rfl
  | c :: s => by
    have ih := index_find w s
    unfold Lib.index findL
    split
    · rfl
    · rw [ih]
      cases findL w s with
      | none => rfl
      | some i =>
        have h1 : ¬ ((i : Int) == -1) = true := by simp
        simp only [Option.map_some]
        rw [if_neg h1]
        exact (Int.natCast_add i 1).symm
theorem index_at {w s : List UInt8} {i : Nat} (h : findL w s = some i) : Lib.index s w = (i : Int) := by rw [index_find, h]
theorem index_no {w s : List UInt8} (h : findL w s = none) : Lib.index s w = -1 := by rw [index_find, h]
theorem splitK_pieces (w : List UInt8) : ∀ (n : Nat) (s : List UInt8), Lib.splitK w 0 n s = piecesL w n s
  | 0, _ => rfl
  | n + 1, s => by
    cases hf : findL w s with
    | none =>
      have hi := index_no hf
      rw [Lib.splitK, piecesL, hf, hi]
      rfl
    | some i =>
      have hi := index_at hf
      have h1 : ¬ ((i : Int) == -1) = true := by simp
      rw [Lib.splitK, piecesL, hf, hi, if_neg h1, splitK_pieces w n]
      simp
theorem pieces_count {w : List UInt8} (hw : w ≠ []) : ∀ (n : Nat) (s : List UInt8), s.length ≤ n → piecesL w (Lib.count s w) s = piecesL w n s := by
  intro n
  induction n with
  | zero =>
    intro s h
    have : s = [] := List.eq_nil_of_length_eq_zero (by omega)
    subst this
    cases hf : findL w [] with
    | none => rw [Lib.count_miss (index_no hf)]
    | some i =>
      have h3 : i + w.length ≤ 0 := findL_lt hw hf
      have h2 : 0 < w.length := List.length_pos_iff.2 hw
      omega
  | succ n ih =>
    intro s h
    cases hf : findL w s with
    | none =>
      rw [Lib.count_miss (index_no hf)]
      rw [piecesL, piecesL, hf]
    | some i =>
      have hlt := findL_lt hw hf
      have h2 : 0 < w.length := List.length_pos_iff.2 hw
      rw [Lib.count_hit hw (index_at hf), Nat.add_comm, piecesL, piecesL, hf]
      simp only
      rw [ih _ (by rw [List.length_drop]; omega)]
theorem pieces_len (w : List UInt8) : ∀ (n : Nat) (s : List UInt8), (piecesL w n s).length ≤ n + 1
  | 0, s => by simp [piecesL]
  | n + 1, s => by
    rw [piecesL]
    cases findL w s with
    | none => simp
    | some i =>
      have := pieces_len w n (s.drop (i + w.length))
      simp only [List.length_cons]
      omega
theorem pieces_pos (w : List UInt8) (n : Nat) (s : List UInt8) : 0 < (piecesL w n s).length := by
  cases n with
  | zero => simp [piecesL]
  | succ n =>
    rw [piecesL]
    cases findL w s with
    | none => simp
    | some i => simp
theorem pieces_size (w : List UInt8) : ∀ (n : Nat) (s : List UInt8), ∀ a ∈ piecesL w n s, a.length ≤ s.length
  | 0, s, a, h => by simp [piecesL] at h; subst h; exact Nat.le_refl _
  | n + 1, s, a, h => by
    rw [piecesL] at h
    cases hf : findL w s with
    | none => rw [hf] at h; simp at h; subst h; exact Nat.le_refl _
    | some i =>
      rw [hf] at h
      simp only [List.mem_cons] at h
      rcases h with rfl | h
      · rw [List.length_take]; omega
      · have := pieces_size w n _ a h
        rw [List.length_drop] at this
        omega
/-- the pieces of all of a text: their number is bounded by its length -/
theorem pieces_num {w : List UInt8} (hw : w ≠ []) : ∀ (n : Nat) (s : List UInt8), s.length ≤ n → (piecesL w n s).length ≤ s.length + 1 := by
  intro n
  induction n with
  | zero => intro s h; simp [piecesL]
  | succ n ih =>
    intro s h
    rw [piecesL]
    cases hf : findL w s with
    | none => simp
    | some i =>
      have hlt := findL_lt hw hf
      have h2 : 0 < w.length := List.length_pos_iff.2 hw
      have := ih (s.drop (i + w.length)) (by rw [List.length_drop]; omega)
      rw [List.length_drop] at this
      simp only [List.length_cons]
      omega

/-! the program's road: the first 4096 bytes alone are looked at -/
def cutL (s : List UInt8) : Except Nat (List (List UInt8) × Nat) := match findL crlf2 (s.take 4096) with
  | none => if (s.take 4096).length = 4096 then .error 22 else .error 20
  | some n => .ok (piecesL crlf n (s.take n), n + 4)
theorem find2_whole {s : List UInt8} {k i : Nat} (h : findL crlf2 (s.take k) = some i) : findL crlf2 s = some i := by
  have h1 := findL_lt (by decide) h
  have h4 : crlf2.length = 4 := rfl
  rw [h4, List.length_take] at h1
  have h2 := (find2_cut h (s.drop (i + 4))).1
  rw [List.take_take, show min (i + 4) k = i + 4 by omega, List.take_append_drop] at h2
  exact h2
theorem readL_cut (first : List UInt8 → Except Nat Hd) (s : List UInt8) : readL first s = match cutL s with
    | .error e => .error e
    | .ok (l, n) => match headL first l with | .error e => .error e | .ok h => .ok (h, n) := by
  unfold readL cutL
  cases hc : findL crlf2 (s.take 4096) with
  | some i =>
    have hf := find2_whole hc
    have h1 := findL_lt (by decide) hc
    have h4 : crlf2.length = 4 := rfl
    rw [h4, List.length_take] at h1
    rw [hf]
    simp only
    rw [if_neg (by omega)]
    all_goals (cases headL first (piecesL crlf i (s.take i)) <;> rfl)
  | none =>
    simp only
    cases hf : findL crlf2 s with
    | none =>
      simp only
      by_cases hl : 4096 ≤ s.length
      · rw [if_pos hl, if_pos (by rw [List.length_take]; omega)]
      · rw [if_neg hl, if_neg (by rw [List.length_take]; omega)]
    | some i =>
      simp only
      have h1 := findL_lt (by decide) hf
      have h4 : crlf2.length = 4 := rfl
      rw [h4] at h1
      have hlt : 4096 < i + 4 := by
        rcases Nat.lt_or_ge 4096 (i + 4) with h | h
        · exact h
        · exfalso
          have h2 := (find2_cut hf ((s.take 4096).drop (i + 4))).1
          have h3 : s.take (i + 4) ++ (s.take 4096).drop (i + 4) = s.take 4096 := by
            have := List.take_append_drop (i + 4) (s.take 4096)
            rw [List.take_take, show min (i + 4) 4096 = i + 4 by omega] at this
            exact this
          rw [h3, hc] at h2
          cases h2
      rw [if_pos hlt, if_pos (by rw [List.length_take]; omega)]
theorem cutL_pos {s : List UInt8} {l : List (List UInt8)} {n : Nat} (h : cutL s = .ok (l, n)) : 0 < l.length ∧ l.length ≤ 4096 ∧ (∀ a ∈ l, a.length ≤ 4096) ∧ n ≤ 4096 ∧ n ≤ s.length := by
  unfold cutL at h
  cases hc : findL crlf2 (s.take 4096) with
  | none => rw [hc] at h; simp only at h; split at h <;> cases h
  | some i =>
    rw [hc] at h
    cases h
    have h1 := findL_lt (by decide) hc
    have h4 : crlf2.length = 4 := rfl
    rw [h4, List.length_take] at h1
    have hl : (s.take i).length = i := by rw [List.length_take]; omega
    have h5 := pieces_num (w := crlf) (by decide) i (s.take i) (by omega)
    refine ⟨pieces_pos _ _ _, by omega, fun a ha => ?_, by omega, by omega⟩
    have := pieces_size _ _ _ a ha
    omega
theorem seen_all (t : List UInt8) : seenL t = (!t.isEmpty && t.all fun c => decide (33 ≤ c.toNat) && decide (c.toNat ≤ 126)) := rfl
end Go.Pantry
