/-
  A journal over a disk: jobs, what is written, what is found; whatever the power leaves. No program is imported.
-/
import Derived.Test.YtgdeiokaicjkdaaPureDisk2
import Derived.Test.YtgdeiokaicjkdaaPureEntry
set_option linter.unusedVariables false
set_option linter.unusedSimpArgs false
namespace Go.Pantry
open Go.RowKit

abbrev ChgM := Int × List UInt8
/-- are changes a job over n data sectors? -/
structure RightJ (n : Nat) (l : List ChgM) : Prop where
  pos : 1 ≤ l.length
  most : l.length ≤ 96
  each : ∀ c ∈ l, 0 ≤ c.1 ∧ c.1 < (n : Int) ∧ c.2.length ≤ 64
  once : (l.map (·.1)).Nodup
instance (n : Nat) (l : List ChgM) : Decidable (RightJ n l) :=
  decidable_of_iff (1 ≤ l.length ∧ l.length ≤ 96 ∧ (∀ c ∈ l, 0 ≤ c.1 ∧ c.1 < (n : Int) ∧ c.2.length ≤ 64) ∧ (l.map (·.1)).Nodup) ⟨fun ⟨a, b, c, d⟩ => ⟨a, b, c, d⟩, fun ⟨a, b, c, d⟩ => ⟨a, b, c, d⟩⟩
def placeB (l : List ChgM) : List UInt8 := l.flatMap fun c => numB c.1.toNat 2
def placesJ (l : List ChgM) : List UInt8 := placeB l ++ List.replicate (192 - (placeB l).length) 0
def sumJ (l : List ChgM) : Nat := sumL (numB l.length 2 ++ (placesJ l ++ l.flatMap fun c => padS c.2))
def headJ (l : List ChgM) : List UInt8 := padS ([82, 68] ++ (numB l.length 2 ++ numB (sumJ l) 4))
/-! the steps of a job -/
def andE (x : Nat × DiskM) (f : DiskM → Nat × DiskM) : Nat × DiskM := if x.1 = 0 then f x.2 else x
def writesM (m : DiskM) : List (Int × List UInt8) → Nat × DiskM
  | [] => (0, m)
  | x :: W => andE (writeDk m x.1 x.2) fun m => writesM m W
def placeW (l : List ChgM) : List (Int × List UInt8) := [(1, (placesJ l).take 64), (2, ((placesJ l).drop 64).take 64), (3, ((placesJ l).drop 128).take 64)]
def imageW : Nat → List ChgM → List (Int × List UInt8)
  | _, [] => []
  | k, c :: l => ((k : Int), c.2) :: imageW (k + 1) l
def dataW (l : List ChgM) : List (Int × List UInt8) := l.map fun c => (100 + c.1, c.2)
def layM (m : DiskM) (l : List ChgM) : Nat × DiskM :=
  andE (writesM m (placeW l ++ imageW 4 l)) fun m => andE (flushDk m) fun m => andE (writeDk m 0 (headJ l)) flushDk
def finishM (m : DiskM) (l : List ChgM) : Nat × DiskM :=
  andE (writesM m (dataW l)) fun m => andE (flushDk m) fun m => andE (writeDk m 0 []) flushDk
def doM (m : DiskM) (l : List ChgM) : Nat × DiskM :=
  if RightJ (m.stands.length - 100) l then andE (layM m l) (fun m => finishM m l) else (10, m)
/-! what stands, and is pending, at a sector -/
def stK (m : DiskM) (k : Nat) : List UInt8 := m.stands.getD k []
def peK (m : DiskM) (k : Nat) : List UInt8 := m.pend.getD k []
theorem padS_full {b : List UInt8} (h : b.length = 64) : padS b = b := by unfold padS; rw [h]; simp
theorem getD_set' {l : List (List UInt8)} {i k : Nat} {x : List UInt8} (hi : i < l.length) : (l.set i x).getD k [] = if k = i then x else l.getD k [] := by
  rw [List.getD_eq_getElem?_getD, List.getElem?_set, List.getD_eq_getElem?_getD]
  by_cases h : i = k
  · subst h; simp [hi]
  · rw [if_neg h, if_neg (fun e => h e.symm)]
theorem stand_get : ∀ (ss pp : List (List UInt8)) (k : Nat), ss.length = pp.length → (standDkL ss pp).getD k [] = if pp.getD k [] = [] then ss.getD k [] else pp.getD k []
  | [], [], k, _ => by simp [standDkL]
  | [], _ :: _, _, h => by cases h
  | _ :: _, [], _, h => by cases h
  | s :: ss, p :: pp, 0, _ => by simp [standDkL]
  | s :: ss, p :: pp, k + 1, h => by
    have := stand_get ss pp k (by simpa using h)
    simp only [standDkL, List.getD_cons_succ]
    exact this
theorem crash_get : ∀ (ss pp : List (List UInt8)) (keep : List Bool) (k : Nat), ss.length = pp.length → (crashDkL ss pp keep).getD k [] = ss.getD k [] ∨ (pp.getD k [] ≠ [] ∧ (crashDkL ss pp keep).getD k [] = pp.getD k [])
  | [], [], _, k, _ => .inl (by simp [crashDkL])
  | [], _ :: _, _, _, h => by cases h
  | _ :: _, [], _, _, h => by cases h
  | s :: ss, p :: pp, keep, 0, _ => by
    unfold crashDkL
    by_cases hp : p = []
    · rw [if_pos hp]; exact .inl rfl
    · rw [if_neg hp]
      by_cases hk : keep.headD false = true
      · rw [if_pos hk]; exact .inr ⟨hp, rfl⟩
      · rw [if_neg hk]; exact .inl rfl
  | s :: ss, p :: pp, keep, k + 1, h => by
    have h' : ss.length = pp.length := by simpa using h
    unfold crashDkL
    by_cases hp : p = []
    · rw [if_pos hp]; exact crash_get ss pp keep k h'
    · rw [if_neg hp]; exact crash_get ss pp keep.tail k h'
theorem getD_replicate_nil (n k : Nat) : (List.replicate n ([] : List UInt8)).getD k [] = [] := by
  rw [List.getD_eq_getElem?_getD, List.getElem?_replicate]; split <;> rfl
/-- what a write, a flush, a crash does to sectors -/
theorem write_up {n : Nat} {m : DiskM} (h : DiskOk n m) (hu : m.down = false) {i : Nat} (hi : i < n) {b : List UInt8} (hb : b.length ≤ 64) :
    ((writeDk m i b).1 = 0 ∧ (writeDk m i b).2.down = false ∧ (∀ k, stK (writeDk m i b).2 k = stK m k) ∧ ∀ k, peK (writeDk m i b).2 k = if k = i then padS b else peK m k) ∨
    ((writeDk m i b).1 = 40 ∧ m.arm = some 0 ∧ (∀ k, stK (writeDk m i b).2 k = stK m k) ∧ ∀ k, peK (writeDk m i b).2 k = peK m k) := by
  have ht : ¬ (¬ ThereDk m i ∨ 64 < b.length) := by
    rintro (h1 | h1)
    · exact h1 ⟨by omega, by rw [h.len]; omega⟩
    · omega
  unfold writeDk
  rw [hu, if_neg (by decide), if_neg ht]
  by_cases ha : m.arm = some 0
  · rw [if_pos ha]; exact .inr ⟨rfl, ha, fun _ => rfl, fun _ => rfl⟩
  · rw [if_neg ha]
    exact .inl ⟨rfl, hu, fun _ => rfl, fun k => getD_set' (by rw [h.lenP]; simpa using hi)⟩
theorem flush_up {n : Nat} {m : DiskM} (h : DiskOk n m) (hu : m.down = false) :
    ((flushDk m).1 = 0 ∧ (flushDk m).2.down = false ∧ (∀ k, stK (flushDk m).2 k = if peK m k = [] then stK m k else peK m k) ∧ ∀ k, peK (flushDk m).2 k = []) ∨
    ((flushDk m).1 = 40 ∧ m.arm = some 0 ∧ (∀ k, stK (flushDk m).2 k = stK m k) ∧ ∀ k, peK (flushDk m).2 k = peK m k) := by
  unfold flushDk
  rw [hu, if_neg (by decide)]
  by_cases ha : m.arm = some 0
  · rw [if_pos ha]; exact .inr ⟨rfl, ha, fun _ => rfl, fun _ => rfl⟩
  · rw [if_neg ha]
    exact .inl ⟨rfl, hu, fun k => stand_get _ _ _ (h.len.trans h.lenP.symm), fun k => getD_replicate_nil _ _⟩
theorem crash_up {n : Nat} {m : DiskM} (h : DiskOk n m) (keep : List Bool) :
    (crashDk m keep).down = false ∧ (crashDk m keep).arm = none ∧ (∀ k, stK (crashDk m keep) k = stK m k ∨ (peK m k ≠ [] ∧ stK (crashDk m keep) k = peK m k)) ∧ ∀ k, peK (crashDk m keep) k = [] :=
  ⟨rfl, rfl, fun k => crash_get _ _ _ k (h.len.trans h.lenP.symm), fun k => getD_replicate_nil _ _⟩
theorem write_arm {m : DiskM} (i : Int) (b : List UInt8) (h : m.arm = none) (hu : m.down = false) : (writeDk m i b).2.arm = none ∧ (writeDk m i b).2.bad = m.bad := by
  unfold writeDk
  rw [hu, if_neg (by decide), h]
  by_cases h1 : ¬ ThereDk m i ∨ 64 < b.length
  · rw [if_pos h1]; exact ⟨h, rfl⟩
  · rw [if_neg h1, if_neg (by decide)]; exact ⟨by simp [lessDk, h], rfl⟩
theorem flush_arm {m : DiskM} (h : m.arm = none) (hu : m.down = false) : (flushDk m).2.arm = none ∧ (flushDk m).2.bad = m.bad := by
  unfold flushDk
  rw [hu, if_neg (by decide), h, if_neg (by decide)]; exact ⟨by simp [lessDk, h], rfl⟩
theorem write_bad (m : DiskM) (i : Int) (b : List UInt8) : (writeDk m i b).2.bad = m.bad := by
  unfold writeDk; split; · rfl
  split; · rfl
  split <;> rfl
theorem flush_bad (m : DiskM) : (flushDk m).2.bad = m.bad := by
  unfold flushDk; split; · rfl
  split <;> rfl
theorem write_len (m : DiskM) (i : Int) (b : List UInt8) : (writeDk m i b).2.stands.length = m.stands.length := by
  unfold writeDk; split; · rfl
  split; · rfl
  split <;> rfl
end Go.Pantry
