/-
  Disks: Flush and Crash, a sector at a time. No program is imported.
-/
import Derived.Test.YtgdeiokaicjkdaaPureDisk
set_option linter.unusedVariables false
set_option linter.unusedSimpArgs false
namespace Go.Pantry
open Go.RowKit

theorem standDkL_snoc : ∀ (xs ys : List (List UInt8)) (s p : List UInt8), xs.length = ys.length → standDkL (xs ++ [s]) (ys ++ [p]) = standDkL xs ys ++ [if p = [] then s else p]
  | [], [], s, p, _ => by simp [standDkL]
  | [], _ :: _, _, _, h => by cases h
  | _ :: _, [], _, _, h => by cases h
  | x :: xs, y :: ys, s, p, h => by
    rw [List.cons_append, List.cons_append, standDkL, standDkL, standDkL_snoc xs ys s p (by simpa using h)]
    rfl
/-- how many are pending -/
def cntDk : List (List UInt8) → Nat
  | [] => 0
  | p :: pp => if p = [] then cntDk pp else cntDk pp + 1
theorem cntDk_snoc : ∀ (ys : List (List UInt8)) (p : List UInt8), cntDk (ys ++ [p]) = if p = [] then cntDk ys else cntDk ys + 1
  | [], p => by simp [cntDk]
  | y :: ys, p => by
    rw [List.cons_append, cntDk, cntDk, cntDk_snoc ys p]
    split
    · rfl
    · split <;> rfl
theorem cntDk_le : ∀ (ys : List (List UInt8)), cntDk ys ≤ ys.length
  | [] => Nat.le_refl _
  | y :: ys => by
    have := cntDk_le ys
    rw [cntDk, List.length_cons]
    split <;> omega
theorem crashDkL_snoc : ∀ (xs ys : List (List UInt8)) (s p : List UInt8) (keep : List Bool), xs.length = ys.length → crashDkL (xs ++ [s]) (ys ++ [p]) keep = crashDkL xs ys keep ++ [if p = [] then s else if keep.getD (cntDk ys) false then p else s]
  | [], [], s, p, keep, _ => by
    cases keep with
    | nil => simp [crashDkL, cntDk]
    | cons a l => simp [crashDkL, cntDk]; split <;> rfl
  | [], _ :: _, _, _, _, h => by cases h
  | _ :: _, [], _, _, _, h => by cases h
  | x :: xs, y :: ys, s, p, keep, h => by
    have h' : xs.length = ys.length := by simpa using h
    rw [List.cons_append, List.cons_append, crashDkL, crashDkL, cntDk]
    split
    · rw [crashDkL_snoc xs ys s p keep h']; rfl
    · rw [crashDkL_snoc xs ys s p keep.tail h']
      have e : keep.tail.getD (cntDk ys) false = keep.getD (cntDk ys + 1) false := by cases keep <;> rfl
      rw [e]
      rfl
def stepDk (m : DiskM) (k : Nat) : DiskM :=
  if m.pend.getD k [] = [] then m else { m with stands := m.stands.set k (m.pend.getD k []), pend := m.pend.set k [] }
def runDk (m : DiskM) : Nat → DiskM
  | 0 => m
  | k + 1 => stepDk (runDk m k) k
theorem set_at {α : Type} (A R : List α) (s p : α) (k : Nat) (hA : A.length = k) : (A ++ s :: R).set k p = A ++ p :: R := by
  subst hA
  rw [List.set_append_right _ _ (Nat.le_refl _), Nat.sub_self]
  rfl
theorem getD_mid {α : Type} (A R : List α) (s d : α) (k : Nat) (hA : A.length = k) : (A ++ s :: R).getD k d = s := by
  subst hA
  rw [List.getD_eq_getElem?_getD, List.getElem?_append_right (Nat.le_refl _), Nat.sub_self]
  rfl
theorem take_snoc {α : Type} {l : List α} {k : Nat} (hk : k < l.length) : l.take (k + 1) = l.take k ++ [l[k]] := by
  rw [List.take_add_one, List.getElem?_eq_getElem hk]; rfl
theorem runDk_form {n : Nat} {m : DiskM} (h : DiskOk n m) : ∀ k, k ≤ n → runDk m k = { m with stands := standDkL (m.stands.take k) (m.pend.take k) ++ m.stands.drop k, pend := List.replicate k [] ++ m.pend.drop k }
  | 0, _ => by
    cases m
    simp [runDk, standDkL]
  | k + 1, hk => by
    have hs : k < m.stands.length := by rw [h.len]; omega
    have hp : k < m.pend.length := by rw [h.lenP]; omega
    have hl : (standDkL (m.stands.take k) (m.pend.take k)).length = k := by rw [standDkL_len, List.length_take]; omega
    have hr : (List.replicate k ([] : List UInt8)).length = k := List.length_replicate ..
    rw [runDk, runDk_form h k (by omega), stepDk, take_snoc hs, take_snoc hp, standDkL_snoc _ _ _ _ (by rw [List.length_take, List.length_take]; omega), List.drop_eq_getElem_cons hs, List.drop_eq_getElem_cons hp]
    simp only
    rw [getD_mid _ _ _ _ k hr]
    have er : List.replicate (k + 1) ([] : List UInt8) = List.replicate k [] ++ [[]] := List.replicate_succ'
    rw [er]
    by_cases e : m.pend[k] = []
    · rw [if_pos e, if_pos e, e]
      simp
    · rw [if_neg e, if_neg e, set_at _ _ _ _ k hl, set_at _ _ _ _ k hr]
      simp
theorem runDk_all {n : Nat} {m : DiskM} (h : DiskOk n m) : runDk m n = { m with stands := standDkL m.stands m.pend, pend := List.replicate m.pend.length [] } := by
  rw [runDk_form h n (Nat.le_refl _), List.take_of_length_le (by rw [h.len]; exact Nat.le_refl _), List.take_of_length_le (by rw [h.lenP]; exact Nat.le_refl _), List.drop_eq_nil_of_le (by rw [h.len]; exact Nat.le_refl _), List.drop_eq_nil_of_le (by rw [h.lenP]; exact Nat.le_refl _), List.append_nil, List.append_nil, h.lenP]
theorem DiskOk.step {n : Nat} {m : DiskM} (h : DiskOk n m) (k : Nat) : DiskOk n (stepDk m k) := by
  unfold stepDk
  split
  · exact h
  rename_i hp
  refine ⟨by rw [List.length_set]; exact h.len, by rw [List.length_set]; exact h.lenP, h.lenB, fun s hs => ?_, fun s hs => ?_⟩
  · rcases List.mem_or_eq_of_mem_set hs with hs | rfl
    · exact h.full s hs
    · have hk : k < m.pend.length := by
        refine Decidable.byContradiction fun hk => hp ?_
        rw [List.getD_eq_getElem?_getD, List.getElem?_eq_none (by omega)]; rfl
      rw [List.getD_eq_getElem?_getD, List.getElem?_eq_getElem hk] at hp ⊢
      exact (h.fullP _ (List.getElem_mem hk)).resolve_left hp
  · rcases List.mem_or_eq_of_mem_set hs with hs | rfl
    · exact h.fullP s hs
    · exact .inl rfl
theorem DiskOk.run {n : Nat} {m : DiskM} (h : DiskOk n m) : ∀ k, DiskOk n (runDk m k)
  | 0 => h
  | k + 1 => (h.run k).step k
/-- a crash, a sector at a time -/
def stepCr (keep : List Bool) (x : DiskM × Nat) (k : Nat) : DiskM × Nat :=
  if x.1.pend.getD k [] = [] then x else ({ x.1 with stands := if keep.getD x.2 false then x.1.stands.set k (x.1.pend.getD k []) else x.1.stands, pend := x.1.pend.set k [] }, x.2 + 1)
def runCr (keep : List Bool) (m : DiskM) : Nat → DiskM × Nat
  | 0 => (m, 0)
  | k + 1 => stepCr keep (runCr keep m k) k
theorem runCr_form {n : Nat} {m : DiskM} (h : DiskOk n m) (keep : List Bool) : ∀ k, k ≤ n → runCr keep m k = ({ m with stands := crashDkL (m.stands.take k) (m.pend.take k) keep ++ m.stands.drop k, pend := List.replicate k [] ++ m.pend.drop k }, cntDk (m.pend.take k))
  | 0, _ => by
    cases m
    simp [runCr, crashDkL, cntDk]
  | k + 1, hk => by
    have hs : k < m.stands.length := by rw [h.len]; omega
    have hp : k < m.pend.length := by rw [h.lenP]; omega
    have hl : (crashDkL (m.stands.take k) (m.pend.take k) keep).length = k := by rw [crashDkL_len, List.length_take]; omega
    have hr : (List.replicate k ([] : List UInt8)).length = k := List.length_replicate ..
    rw [runCr, runCr_form h keep k (by omega), stepCr, take_snoc hs, take_snoc hp, crashDkL_snoc _ _ _ _ _ (by rw [List.length_take, List.length_take]; omega), cntDk_snoc, List.drop_eq_getElem_cons hs, List.drop_eq_getElem_cons hp]
    simp only
    rw [getD_mid _ _ _ _ k hr]
    have er : List.replicate (k + 1) ([] : List UInt8) = List.replicate k [] ++ [[]] := List.replicate_succ'
    rw [er]
    by_cases e : m.pend[k] = []
    · rw [if_pos e, if_pos e, if_pos e, e]
      simp
    · rw [if_neg e, if_neg e, if_neg e, set_at _ _ _ _ k hl, set_at _ _ _ _ k hr]
      split <;> simp
theorem runCr_all {n : Nat} {m : DiskM} (h : DiskOk n m) (keep : List Bool) : { (runCr keep m n).1 with arm := none, down := false } = crashDk m keep := by
  rw [runCr_form h keep n (Nat.le_refl _), List.take_of_length_le (by rw [h.len]; exact Nat.le_refl _), List.take_of_length_le (by rw [h.lenP]; exact Nat.le_refl _), List.drop_eq_nil_of_le (by rw [h.len]; exact Nat.le_refl _), List.drop_eq_nil_of_le (by rw [h.lenP]; exact Nat.le_refl _), List.append_nil, List.append_nil]
  unfold crashDk
  rw [h.lenP]
theorem runCr_le (keep : List Bool) (m : DiskM) : ∀ k, (runCr keep m k).2 ≤ k
  | 0 => Nat.le_refl _
  | k + 1 => by
    have := runCr_le keep m k
    rw [runCr, stepCr]
    split
    · omega
    · show (runCr keep m k).2 + 1 ≤ k + 1
      omega
theorem stepCr_ok {n : Nat} {keep : List Bool} {x : DiskM × Nat} (h : DiskOk n x.1) (k : Nat) : DiskOk n (stepCr keep x k).1 := by
  unfold stepCr
  split
  · exact h
  rename_i hp
  refine ⟨?_, by simp only [List.length_set]; exact h.lenP, h.lenB, fun s hs => ?_, fun s hs => ?_⟩
  · simp only
    split
    · rw [List.length_set]; exact h.len
    · exact h.len
  · simp only at hs
    split at hs
    · rcases List.mem_or_eq_of_mem_set hs with hs | rfl
      · exact h.full s hs
      · have hk : k < x.1.pend.length := by
          refine Decidable.byContradiction fun hk => hp ?_
          rw [List.getD_eq_getElem?_getD, List.getElem?_eq_none (by omega)]; rfl
        rw [List.getD_eq_getElem?_getD, List.getElem?_eq_getElem hk] at hp ⊢
        exact (h.fullP _ (List.getElem_mem hk)).resolve_left hp
    · exact h.full s hs
  · rcases List.mem_or_eq_of_mem_set hs with hs | rfl
    · exact h.fullP s hs
    · exact .inl rfl
theorem runCr_ok {n : Nat} {m : DiskM} (h : DiskOk n m) (keep : List Bool) : ∀ k, DiskOk n (runCr keep m k).1
  | 0 => h
  | k + 1 => stepCr_ok (runCr_ok h keep k) k
end Go.Pantry
