/-
  Plain mathematics of layer 1 (signs): no program is imported.
-/
import Derived.Test.YtfoghjhdjmapnaaDoorBase
namespace Go.Pantry

/-- From all numbers below 256 to all bytes. -/
theorem byte_all {p : UInt8 → Bool} (h : (List.range 256).all (fun n => p n.toUInt8) = true) (c : UInt8) : p c = true := by
  have := List.all_eq_true.1 h c.toNat (by simpa using c.toNat_lt)
  simpa using this

def isUp (c : UInt8) : Bool := 65 ≤ c.toNat && c.toNat ≤ 90
def isLow (c : UInt8) : Bool := 97 ≤ c.toNat && c.toNat ≤ 122
def isDig (c : UInt8) : Bool := 48 ≤ c.toNat && c.toNat ≤ 57
def marks : List UInt8 := [33, 35, 36, 37, 38, 39, 42, 43, 45, 46, 94, 95, 124, 96, 126]
def isTok (c : UInt8) : Bool := isLow c || isUp c || isDig c || marks.contains c
def isBl (c : UInt8) : Bool := c.toNat == 32 || c.toNat == 9
def tokenL (l : List UInt8) : Bool := l.all isTok && !l.isEmpty
def lowC (c : UInt8) : UInt8 := if isUp c then c + 32 else c
def lowerL (l : List UInt8) : List UInt8 := l.map lowC
def trimL (l : List UInt8) : List UInt8 := Lib.trimS l [32, 9]

theorem isUp_int (c : UInt8) : (decide (65 ≤ (c.toNat : Int)) && decide ((c.toNat : Int) ≤ 90)) = isUp c := by
  unfold isUp; congr 1 <;> simp <;> omega
theorem isDig_int (c : UInt8) : (decide (48 ≤ (c.toNat : Int)) && decide ((c.toNat : Int) ≤ 57)) = isDig c := by
  unfold isDig; congr 1 <;> simp <;> omega

theorem isLow_int (c : UInt8) : (decide (97 ≤ (c.toNat : Int)) && decide ((c.toNat : Int) ≤ 122)) = isLow c := by
  unfold isLow; congr 1 <;> simp <;> omega
theorem isBl_int (c : UInt8) : (((c.toNat : Int) == 32) || ((c.toNat : Int) == 9)) = isBl c := by
  unfold isBl; rw [Bool.eq_iff_iff]; simp; omega

theorem marks_int (c : UInt8) : marks.contains c = (c.toNat == 33 || c.toNat == 35 || c.toNat == 36 || c.toNat == 37 || c.toNat == 38 || c.toNat == 39 || c.toNat == 42 || c.toNat == 43 || c.toNat == 45 || c.toNat == 46 || c.toNat == 94 || c.toNat == 95 || c.toNat == 124 || c.toNat == 96 || c.toNat == 126) := by
  have h := byte_all (p := fun c => marks.contains c == (c.toNat == 33 || c.toNat == 35 || c.toNat == 36 || c.toNat == 37 || c.toNat == 38 || c.toNat == 39 || c.toNat == 42 || c.toNat == 43 || c.toNat == 45 || c.toNat == 46 || c.toNat == 94 || c.toNat == 95 || c.toNat == 124 || c.toNat == 96 || c.toNat == 126)) (by decide +kernel) c
  simpa using h

theorem indexByte_nonneg (l : List UInt8) (c : UInt8) : decide (0 ≤ Lib.indexByte l c) = l.contains c := by
  induction l with
  | nil => rfl
  | cons x l ih =>
    have hge := Lib.indexByte_ge l c
    rw [List.contains_cons, ← ih, Lib.indexByte]
    by_cases h : x == c
    · have h' : c == x := by simpa using (beq_iff_eq.1 h).symm
      simp [h, h']
    · have h' : (c == x) = false := by
        rw [Bool.eq_false_iff]; intro e; exact h (by simpa using (beq_iff_eq.1 e).symm)
      rw [if_neg h, h', Bool.false_or]
      by_cases h2 : Lib.indexByte l c == -1
      · have := beq_iff_eq.1 h2
        simp [this]
      · have hne : Lib.indexByte l c ≠ -1 := fun e => h2 (beq_iff_eq.2 e)
        rw [if_neg h2]
        have e1 : (0 ≤ Lib.indexByte l c + 1) = True := by simp; omega
        have e2 : (0 ≤ Lib.indexByte l c) = True := by simp; omega
        simp [e1, e2]

theorem isTok_of (c : UInt8) : isTok c = (isLow c || isUp c || isDig c || marks.contains c) := rfl
theorem all_take_succ {α : Type} (l : List α) (p : α → Bool) (k : Nat) (h : k < l.length) : (l.take (k + 1)).all p = ((l.take k).all p && p l[k]) := by
  rw [List.take_succ_eq_append_getElem h, List.all_append]; simp
theorem isLow_yes {c : UInt8} (h1 : 97 ≤ (c.toNat : Int)) (h2 : (c.toNat : Int) ≤ 122) : isLow c = true := by unfold isLow; simp; omega
theorem isLow_no1 {c : UInt8} (h : (c.toNat : Int) < 97) : isLow c = false := by unfold isLow; simp; omega
theorem isLow_no2 {c : UInt8} (h : 122 < (c.toNat : Int)) : isLow c = false := by unfold isLow; simp; omega
theorem tokenL_no (s : ByteArray) (k : Nat) (h : k < s.size) (hn : isTok s[k] = false) : tokenL s.data.toList = false := by
  have hm : s[k] ∈ s.data.toList := by
    rw [← getElem_list s k h]; exact List.getElem_mem _
  unfold tokenL
  have : s.data.toList.all isTok = false := by
    rw [List.all_eq_false]; exact ⟨s[k], hm, by simp [hn]⟩
  rw [this]; rfl
theorem isBl_contains (c : UInt8) : [32, 9].contains c = isBl c := by
  have h := byte_all (p := fun c => [32, 9].contains c == isBl c) (by decide +kernel) c
  simpa using h
theorem trim_of (l : List UInt8) (a b : Nat) (hab : a ≤ b) (hb : b ≤ l.length) (h1 : ∀ (j : Nat) x, j < a → l[j]? = some x → isBl x = true)
    (h2 : ∀ (j : Nat) x, b ≤ j → l[j]? = some x → isBl x = true) (h3 : a < b → ∀ x, l[a]? = some x → isBl x = false) (h4 : a < b → ∀ x, l[b - 1]? = some x → isBl x = false) :
    trimL l = (l.drop a).take (b - a) := by
  unfold trimL Lib.trimS
  by_cases h : a < b
  · have e1 : Lib.trimRightS l [32, 9] = l.take b :=
      Lib.trimRightS_take l _ b hb (fun j x hj hx => by rw [isBl_contains]; exact h2 j x hj hx) (fun x _ hx => by rw [isBl_contains]; exact h4 h x hx)
    rw [e1, Lib.trimLeftS_drop (l.take b) _ a (by simp; omega) (fun j x hj hx => ?_) (fun x hx => ?_), List.drop_take]
    · rw [isBl_contains]; refine h1 j x hj ?_
      rw [List.getElem?_take] at hx; split at hx <;> first | exact hx | exact absurd hx (by simp)
    · rw [isBl_contains]; refine h3 h x ?_
      rw [List.getElem?_take] at hx; split at hx <;> first | exact hx | exact absurd hx (by simp)
  · have e1 : Lib.trimRightS l [32, 9] = l.take 0 :=
      Lib.trimRightS_take l _ 0 (Nat.zero_le _) (fun j x _ hx => by rw [isBl_contains]; by_cases hj : j < a; exact h1 j x hj hx; exact h2 j x (by omega) hx) (fun x h0 _ => absurd h0 (Nat.lt_irrefl _))
    rw [e1, List.take_zero, Lib.trimLeftS_nil, show b - a = 0 by omega, List.take_zero]
theorem some_list (s : ByteArray) (j : Nat) (x : UInt8) (h : s.data.toList[j]? = some x) : ∃ hj : j < s.size, s[j] = x := by
  obtain ⟨hj, e⟩ := List.getElem?_eq_some_iff.1 h
  exact ⟨by rw [← size_list]; exact hj, e⟩
theorem lower_mid (s : ByteArray) (k : Nat) (h : k < s.size) : (lowerL (s.data.toList.take k) ++ s.data.toList.drop k)[k]? = some s[k] := by
  have hl : (lowerL (s.data.toList.take k)).length = k := by simp [lowerL]; omega
  rw [List.getElem?_append_right (by omega), hl, Nat.sub_self, drop_cons s k h]; rfl
theorem lower_len (s : ByteArray) (k : Nat) (h : k < s.size) : k < (lowerL (s.data.toList.take k) ++ s.data.toList.drop k).length := (List.getElem?_eq_some_iff.1 (lower_mid s k h)).1
theorem lower_step (s : ByteArray) (k : Nat) (h : k < s.size) : (lowerL (s.data.toList.take k) ++ s.data.toList.drop k).set k (lowC s[k]) = lowerL (s.data.toList.take (k + 1)) ++ s.data.toList.drop (k + 1) := by
  have hl : (lowerL (s.data.toList.take k)).length = k := by simp [lowerL]; omega
  rw [List.set_append, if_neg (by omega), hl, Nat.sub_self, drop_cons s k h, take_succ_list s k h]
  simp [lowerL]
theorem lower_same (s : ByteArray) (k : Nat) (h : k < s.size) (hu : isUp s[k] = false) : lowerL (s.data.toList.take k) ++ s.data.toList.drop k = lowerL (s.data.toList.take (k + 1)) ++ s.data.toList.drop (k + 1) := by
  rw [drop_cons s k h, take_succ_list s k h]
  simp [lowerL, lowC, hu]
theorem low_int {c : UInt8} (h : isUp c = true) : ((c.toNat : Int) + 97 - 65) % 256 = ((lowC c).toNat : Int) := by
  have hh : 65 ≤ c.toNat ∧ c.toNat ≤ 90 := by simpa [isUp] using h
  have e : (lowC c).toNat = c.toNat + 32 := by
    unfold lowC; rw [if_pos h, UInt8.toNat_add]; simp; omega
  omega
theorem lower_snoc (l : List UInt8) (c : UInt8) : lowerL (l ++ [c]) = lowerL l ++ [lowC c] := by simp [lowerL]
theorem low_any (c : UInt8) : ((lowC c).toNat : Int) = if 65 ≤ (c.toNat : Int) ∧ (c.toNat : Int) ≤ 90 then (c.toNat : Int) + 32 else (c.toNat : Int) := by
  by_cases h : 65 ≤ (c.toNat : Int) ∧ (c.toNat : Int) ≤ 90
  · have hu : isUp c = true := by simp [isUp]; omega
    rw [if_pos h, ← low_int hu]; omega
  · have hu : isUp c = false := by rw [Bool.eq_false_iff]; intro e; apply h; simp [isUp] at e; omega
    rw [if_neg h]; simp [lowC, hu]
theorem lowC_idem (c : UInt8) : lowC (lowC c) = lowC c := by
  have h := byte_all (p := fun c => lowC (lowC c) == lowC c) (by decide +kernel) c
  simpa using h
theorem lowerL_idem (l : List UInt8) : lowerL (lowerL l) = lowerL l := by simp [lowerL, lowC_idem]
end Go.Pantry
