/-
  Disks: sectors that stand, that are pending, that are bad; power that goes. No program is imported.
-/
import Derived.Test.YtgdeiokaicjkdaaPureAll1
set_option linter.unusedVariables false
set_option linter.unusedSimpArgs false
namespace Go.Pantry
open Go.RowKit

/-- a disk: an empty row in pend is no pending sector; arm none is not armed -/
structure DiskM where
  stands : List (List UInt8)
  pend : List (List UInt8)
  bad : List Bool
  arm : Option Nat
  down : Bool
def padS (b : List UInt8) : List UInt8 := b ++ List.replicate (64 - b.length) 0
def blankS : List UInt8 := List.replicate 64 0
def newDk (n : Nat) : DiskM := ⟨List.replicate n blankS, List.replicate n [], List.replicate n false, none, false⟩
structure DiskOk (n : Nat) (m : DiskM) : Prop where
  len : m.stands.length = n
  lenP : m.pend.length = n
  lenB : m.bad.length = n
  full : ∀ s, s ∈ m.stands → s.length = 64
  fullP : ∀ s, s ∈ m.pend → s = [] ∨ s.length = 64
/-- is there a sector? -/
def ThereDk (m : DiskM) (i : Int) : Prop := 0 ≤ i ∧ i < m.stands.length
instance (m : DiskM) (i : Int) : Decidable (ThereDk m i) := inferInstanceAs (Decidable (_ ∧ _))
def valueDk (m : DiskM) (k : Nat) : List UInt8 := if m.pend.getD k [] = [] then m.stands.getD k [] else m.pend.getD k []
def readDk (m : DiskM) (i : Int) : Nat × List UInt8 :=
  if m.down then (40, []) else if ¬ ThereDk m i then (11, []) else if m.bad.getD i.toNat false then (41, []) else (0, valueDk m i.toNat)
def fellDk (m : DiskM) : DiskM := { m with arm := none, down := true }
def lessDk (m : DiskM) : DiskM := { m with arm := m.arm.map (· - 1) }
def writeDk (m : DiskM) (i : Int) (b : List UInt8) : Nat × DiskM :=
  if m.down then (40, m) else if ¬ ThereDk m i ∨ 64 < b.length then (11, m) else if m.arm = some 0 then (40, fellDk m) else
    (0, { lessDk m with pend := m.pend.set i.toNat (padS b) })
def standDkL : List (List UInt8) → List (List UInt8) → List (List UInt8)
  | s :: ss, p :: pp => (if p = [] then s else p) :: standDkL ss pp
  | ss, _ => ss
def flushDk (m : DiskM) : Nat × DiskM :=
  if m.down then (40, m) else if m.arm = some 0 then (40, fellDk m) else
    (0, { lessDk m with stands := standDkL m.stands m.pend, pend := List.replicate m.pend.length [] })
def badDk (m : DiskM) (i : Int) (on : Bool) : Nat × DiskM := if ThereDk m i then (0, { m with bad := m.bad.set i.toNat on }) else (11, m)
def armDk (m : DiskM) (n : Int) : DiskM := { m with arm := if n < 0 then none else some n.toNat }
def crashDkL : List (List UInt8) → List (List UInt8) → List Bool → List (List UInt8)
  | s :: ss, p :: pp, k => if p = [] then s :: crashDkL ss pp k else (if k.headD false then p else s) :: crashDkL ss pp k.tail
  | ss, _, _ => ss
def crashDk (m : DiskM) (k : List Bool) : DiskM := ⟨crashDkL m.stands m.pend k, List.replicate m.pend.length [], m.bad, none, false⟩
/-- the numbers of those that are pending, from k on -/
def pendDkL : Nat → List (List UInt8) → List Nat
  | _, [] => []
  | k, p :: pp => if p = [] then pendDkL (k + 1) pp else k :: pendDkL (k + 1) pp

theorem padS_len {b : List UInt8} (h : b.length ≤ 64) : (padS b).length = 64 := by
  unfold padS; rw [List.length_append, List.length_replicate]; omega
theorem padS_ne {b : List UInt8} (h : b.length ≤ 64) : padS b ≠ [] := fun e => by
  have := padS_len h; rw [e] at this; simp at this
theorem standDkL_len : ∀ (ss pp : List (List UInt8)), (standDkL ss pp).length = ss.length
  | [], _ => rfl
  | _ :: _, [] => rfl
  | s :: ss, p :: pp => by unfold standDkL; rw [List.length_cons, List.length_cons, standDkL_len ss pp]
theorem crashDkL_len : ∀ (ss pp : List (List UInt8)) (k : List Bool), (crashDkL ss pp k).length = ss.length
  | [], _, _ => rfl
  | _ :: _, [], _ => rfl
  | s :: ss, p :: pp, k => by
    unfold crashDkL
    split
    · rw [List.length_cons, List.length_cons, crashDkL_len ss pp]
    · rw [List.length_cons, List.length_cons, crashDkL_len ss pp]
theorem standDkL_full : ∀ (ss pp : List (List UInt8)), (∀ s, s ∈ ss → s.length = 64) → (∀ s, s ∈ pp → s = [] ∨ s.length = 64) → ∀ s, s ∈ standDkL ss pp → s.length = 64
  | [], _, h, _, s, hs => h s hs
  | _ :: _, [], h, _, s, hs => h s hs
  | s :: ss, p :: pp, h, h2, x, hx => by
    unfold standDkL at hx
    rcases List.mem_cons.1 hx with rfl | hx
    · by_cases hp : p = []
      · rw [if_pos hp]; exact h _ (List.mem_cons_self ..)
      · rw [if_neg hp]; exact (h2 p (List.mem_cons_self ..)).resolve_left hp
    · exact standDkL_full ss pp (fun s hs => h s (List.mem_cons_of_mem _ hs)) (fun s hs => h2 s (List.mem_cons_of_mem _ hs)) x hx
theorem crashDkL_full : ∀ (ss pp : List (List UInt8)) (k : List Bool), (∀ s, s ∈ ss → s.length = 64) → (∀ s, s ∈ pp → s = [] ∨ s.length = 64) → ∀ s, s ∈ crashDkL ss pp k → s.length = 64
  | [], _, _, h, _, s, hs => h s hs
  | _ :: _, [], _, h, _, s, hs => h s hs
  | s :: ss, p :: pp, k, h, h2, x, hx => by
    have hr := fun k => crashDkL_full ss pp k (fun s hs => h s (List.mem_cons_of_mem _ hs)) (fun s hs => h2 s (List.mem_cons_of_mem _ hs)) x
    unfold crashDkL at hx
    by_cases hp : p = []
    · rw [if_pos hp] at hx
      rcases List.mem_cons.1 hx with rfl | hx
      · exact h _ (List.mem_cons_self ..)
      · exact hr _ hx
    · rw [if_neg hp] at hx
      rcases List.mem_cons.1 hx with rfl | hx
      · split
        · exact (h2 p (List.mem_cons_self ..)).resolve_left hp
        · exact h _ (List.mem_cons_self ..)
      · exact hr _ hx
theorem ok_new (n : Nat) : DiskOk n (newDk n) :=
  ⟨List.length_replicate .., List.length_replicate .., List.length_replicate .., fun s hs => by rw [(List.mem_replicate.1 hs).2]; rfl, fun s hs => .inl (List.mem_replicate.1 hs).2⟩
theorem DiskOk.fell {n : Nat} {m : DiskM} (h : DiskOk n m) : DiskOk n (fellDk m) := ⟨h.len, h.lenP, h.lenB, h.full, h.fullP⟩
theorem DiskOk.write {n : Nat} {m : DiskM} (h : DiskOk n m) (i : Int) (b : List UInt8) : DiskOk n (writeDk m i b).2 := by
  unfold writeDk
  split
  · exact h
  split
  · exact h
  rename_i hi
  split
  · exact h.fell
  refine ⟨h.len, by rw [List.length_set]; exact h.lenP, h.lenB, h.full, fun s hs => ?_⟩
  rcases List.mem_or_eq_of_mem_set hs with hs | rfl
  · exact h.fullP s hs
  · exact .inr (padS_len (by omega))
theorem DiskOk.flush {n : Nat} {m : DiskM} (h : DiskOk n m) : DiskOk n (flushDk m).2 := by
  unfold flushDk
  split
  · exact h
  split
  · exact h.fell
  exact ⟨(standDkL_len _ _).trans h.len, (List.length_replicate ..).trans h.lenP, h.lenB, standDkL_full _ _ h.full h.fullP, fun s hs => .inl (List.mem_replicate.1 hs).2⟩
theorem DiskOk.turned {n : Nat} {m : DiskM} (h : DiskOk n m) (i : Int) (on : Bool) : DiskOk n (badDk m i on).2 := by
  unfold badDk
  split
  · exact ⟨h.len, h.lenP, by rw [List.length_set]; exact h.lenB, h.full, h.fullP⟩
  · exact h
theorem DiskOk.armed {n : Nat} {m : DiskM} (h : DiskOk n m) (k : Int) : DiskOk n (armDk m k) := ⟨h.len, h.lenP, h.lenB, h.full, h.fullP⟩
theorem DiskOk.crash {n : Nat} {m : DiskM} (h : DiskOk n m) (k : List Bool) : DiskOk n (crashDk m k) :=
  ⟨(crashDkL_len _ _ _).trans h.len, (List.length_replicate ..).trans h.lenP, h.lenB, crashDkL_full _ _ _ h.full h.fullP, fun s hs => .inl (List.mem_replicate.1 hs).2⟩
theorem valueDk_len {n : Nat} {m : DiskM} (h : DiskOk n m) {k : Nat} (hk : k < n) : (valueDk m k).length = 64 := by
  unfold valueDk
  split
  · have h1 : k < m.stands.length := by rw [h.len]; exact hk
    rw [List.getD_eq_getElem?_getD, List.getElem?_eq_getElem h1]
    exact h.full _ (List.getElem_mem h1)
  · rename_i hp
    have h1 : k < m.pend.length := by rw [h.lenP]; exact hk
    rw [List.getD_eq_getElem?_getD, List.getElem?_eq_getElem h1] at hp ⊢
    exact (h.fullP _ (List.getElem_mem h1)).resolve_left hp
theorem readDk_ok {n : Nat} {m : DiskM} (h : DiskOk n m) {i : Int} {b : List UInt8} (hr : readDk m i = (0, b)) : b.length = 64 := by
  unfold readDk at hr
  split at hr
  · cases hr
  split at hr
  · cases hr
  rename_i hi
  split at hr
  · cases hr
  have hi' : ThereDk m i := Decidable.not_not.1 hi
  have e : b = valueDk m i.toNat := (Prod.mk.inj hr).2.symm
  rw [e]
  exact valueDk_len h (by have := hi'.2; have := h.len; have := hi'.1; omega)
theorem readDk_err {m : DiskM} {i : Int} {b : List UInt8} {k : Nat} (hr : readDk m i = (k, b)) (hk : k ≠ 0) : b = [] := by
  unfold readDk at hr
  repeat' split at hr
  all_goals first
    | exact (Prod.mk.inj hr).2.symm
    | exact absurd (Prod.mk.inj hr).1.symm hk
theorem pendDkL_lt : ∀ (k : Nat) (pp : List (List UInt8)) (i : Nat), i ∈ pendDkL k pp → k ≤ i ∧ i < k + pp.length
  | _, [], _, h => by cases h
  | k, p :: pp, i, h => by
    unfold pendDkL at h
    rw [List.length_cons]
    split at h
    · have := pendDkL_lt (k + 1) pp i h; omega
    · rcases List.mem_cons.1 h with rfl | h
      · omega
      · have := pendDkL_lt (k + 1) pp i h; omega
theorem pendDkL_len : ∀ (k : Nat) (pp : List (List UInt8)), (pendDkL k pp).length ≤ pp.length
  | _, [] => Nat.le_refl _
  | k, p :: pp => by
    have := pendDkL_len (k + 1) pp
    unfold pendDkL
    split
    · rw [List.length_cons]; omega
    · rw [List.length_cons, List.length_cons]; omega
theorem pendDkL_none : ∀ (k n : Nat), pendDkL k (List.replicate n []) = []
  | _, 0 => rfl
  | k, n + 1 => by rw [List.replicate_succ, pendDkL, if_pos rfl, pendDkL_none (k + 1) n]
end Go.Pantry
