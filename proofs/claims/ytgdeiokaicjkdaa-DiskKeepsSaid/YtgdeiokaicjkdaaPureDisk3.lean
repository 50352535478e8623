/-
  Disks: what is written to sector after sector, flushed, and what a crash leaves of it. No program is imported.
-/
import Derived.Test.YtgdeiokaicjkdaaPureDisk2
set_option linter.unusedVariables false
set_option linter.unusedSimpArgs false
namespace Go.Pantry
open Go.RowKit

/-- the first k of b are pending, of twenty sectors -/
def pdK (b : List (List UInt8)) (k : Nat) : List (List UInt8) := (b.take k).map padS ++ List.replicate (20 - k) []
theorem pdK_write {M : DiskM} (hd : M.down = false) (ha : M.arm = none) (hl : M.stands.length = 20) {b : List (List UInt8)} {k : Nat} (hk : k < b.length) (hb : b.length ≤ 20) (h64 : (b[k]).length ≤ 64) :
    writeDk { M with pend := pdK b k } (k : Int) b[k] = (0, { M with pend := pdK b (k + 1) }) := by
  have hx : ((b.take k).map padS).length = k := by rw [List.length_map, List.length_take]; omega
  have e1 : List.replicate (20 - k) ([] : List UInt8) = [] :: List.replicate (20 - (k + 1)) [] := by
    rw [show 20 - k = (20 - (k + 1)) + 1 by omega, List.replicate_succ]
  have e2 : (pdK b k).set k (padS b[k]) = pdK b (k + 1) := by
    unfold pdK
    rw [e1, set_at _ _ _ _ k hx, take_snoc hk, List.map_append]
    simp
  unfold writeDk
  rw [if_neg (by simp [hd]), if_neg (by intro h; rcases h with h | h; exact h ⟨by omega, by show (k : Int) < (M.stands.length : Int); omega⟩; omega), if_neg (by simp [ha])]
  show (0, _) = _
  unfold lessDk
  simp only [Int.toNat_natCast, e2, ha, Option.map_none]
theorem standDkL_first : ∀ (ss L R : List (List UInt8)) (i : Nat), (∀ p, p ∈ L → p ≠ []) → (∀ p, p ∈ R → p = []) → L.length ≤ ss.length → (standDkL ss (L ++ R)).getD i [] = if i < L.length then L.getD i [] else ss.getD i []
  | [], L, R, i, _, _, h => by
    have : L = [] := List.length_eq_zero_iff.1 (by simpa using h)
    subst this
    cases R <;> simp [standDkL]
  | s :: ss, [], R, i, h1, h2, h => by
    cases R with
    | nil => simp [standDkL]
    | cons p R =>
      have hp := h2 p (List.mem_cons_self ..)
      rw [List.nil_append, standDkL, if_pos hp]
      cases i with
      | zero => rfl
      | succ i =>
        have := standDkL_first ss [] R i (fun p hp => by cases hp) (fun p hp => h2 p (List.mem_cons_of_mem _ hp)) (Nat.zero_le _)
        simpa using this
  | s :: ss, p :: L, R, i, h1, h2, h => by
    rw [List.cons_append, standDkL, if_neg (h1 p (List.mem_cons_self ..))]
    cases i with
    | zero => simp
    | succ i =>
      have := standDkL_first ss L R i (fun p hp => h1 p (List.mem_cons_of_mem _ hp)) h2 (by simpa using h)
      simpa using this
theorem crashDkL_first : ∀ (ss L R : List (List UInt8)) (keep : List Bool) (i : Nat), (∀ p, p ∈ L → p ≠ []) → (∀ p, p ∈ R → p = []) → L.length ≤ ss.length → (crashDkL ss (L ++ R) keep).getD i [] = if i < L.length ∧ keep.getD i false = true then L.getD i [] else ss.getD i []
  | [], L, R, keep, i, _, _, h => by
    have : L = [] := List.length_eq_zero_iff.1 (by simpa using h)
    subst this
    cases R <;> simp [crashDkL]
  | s :: ss, [], R, keep, i, h1, h2, h => by
    cases R with
    | nil => simp [crashDkL]
    | cons p R =>
      have hp := h2 p (List.mem_cons_self ..)
      rw [List.nil_append, crashDkL, if_pos hp]
      cases i with
      | zero => simp
      | succ i =>
        have := crashDkL_first ss [] R keep i (fun p hp => by cases hp) (fun p hp => h2 p (List.mem_cons_of_mem _ hp)) (Nat.zero_le _)
        simpa using this
  | s :: ss, p :: L, R, keep, i, h1, h2, h => by
    rw [List.cons_append, crashDkL, if_neg (h1 p (List.mem_cons_self ..))]
    cases i with
    | zero =>
      cases keep with
      | nil => simp
      | cons a l => cases a <;> simp
    | succ i =>
      have := crashDkL_first ss L R keep.tail i (fun p hp => h1 p (List.mem_cons_of_mem _ hp)) h2 (by simpa using h)
      cases keep with
      | nil => simpa using this
      | cons a l => simpa using this
/-- written, flushed, written, crashed -/
def kpF (a : List (List UInt8)) : DiskM := (flushDk { newDk 20 with pend := pdK a a.length }).2
def kpE (a b : List (List UInt8)) (keep : List Bool) : DiskM := crashDk { kpF a with pend := pdK b b.length } keep
def wantK (a b : List (List UInt8)) (keep : List Bool) (i : Nat) : List UInt8 := if i < b.length ∧ keep.getD i false = true then b.getD i [] else if i < a.length then a.getD i [] else []
theorem pdK_len {a : List (List UInt8)} (ha : a.length ≤ 20) : (pdK a a.length).length = 20 := by
  unfold pdK
  rw [List.take_length, List.length_append, List.length_map, List.length_replicate]
  omega
theorem kpF_eq {a : List (List UInt8)} (ha : a.length ≤ 20) : flushDk { newDk 20 with pend := pdK a a.length } = (0, kpF a) ∧ kpF a = { newDk 20 with stands := standDkL (newDk 20).stands (pdK a a.length), pend := List.replicate 20 [] } := by
  have e : flushDk { newDk 20 with pend := pdK a a.length } = (0, { newDk 20 with stands := standDkL (newDk 20).stands (pdK a a.length), pend := List.replicate 20 [] }) := by
    unfold flushDk
    rw [if_neg (by simp [newDk]), if_neg (by simp [newDk])]
    simp only [pdK_len ha]
    rfl
  unfold kpF
  rw [e]
  exact ⟨rfl, rfl⟩
theorem kpF_facts {a : List (List UInt8)} (ha : a.length ≤ 20) : (kpF a).down = false ∧ (kpF a).arm = none ∧ (kpF a).stands.length = 20 ∧ kpF a = { kpF a with pend := pdK a 0 } := by
  rw [(kpF_eq ha).2]
  refine ⟨rfl, rfl, ?_, ?_⟩
  · show (standDkL _ _).length = 20
    rw [standDkL_len]
    rfl
  · unfold pdK
    simp
theorem kp_read {a b : List (List UInt8)} (ha : a.length ≤ 20) (hb : b.length ≤ 20) (ha64 : ∀ x, x ∈ a → x.length ≤ 64) (hb64 : ∀ x, x ∈ b → x.length ≤ 64) (keep : List Bool) {i : Nat} (hi : i < 20) : readDk (kpE a b keep) (i : Int) = (0, padS (wantK a b keep i)) := by
  have hA : ∀ p, p ∈ a.map padS → p ≠ [] := fun p hp => by
    obtain ⟨x, hx, rfl⟩ := List.mem_map.1 hp
    exact padS_ne (ha64 x hx)
  have hB : ∀ p, p ∈ b.map padS → p ≠ [] := fun p hp => by
    obtain ⟨x, hx, rfl⟩ := List.mem_map.1 hp
    exact padS_ne (hb64 x hx)
  have hR : ∀ n p, p ∈ List.replicate n ([] : List UInt8) → p = [] := fun n p hp => (List.mem_replicate.1 hp).2
  have hgd : ∀ (c : List (List UInt8)) (j : Nat), j < c.length → (c.map padS).getD j [] = padS (c.getD j []) := fun c j hj => by
    rw [List.getD_eq_getElem?_getD, List.getD_eq_getElem?_getD, List.getElem?_map, List.getElem?_eq_getElem hj]
    rfl
  have hs : (kpF a).stands.getD i [] = padS (if i < a.length then a.getD i [] else []) := by
    rw [(kpF_eq ha).2]
    show (standDkL (newDk 20).stands (pdK a a.length)).getD i [] = _
    unfold pdK
    rw [List.take_length, standDkL_first _ _ _ i hA (hR _) (by rw [List.length_map]; exact ha), List.length_map]
    by_cases h : i < a.length
    · rw [if_pos h, if_pos h, hgd a i h]
    · rw [if_neg h, if_neg h]
      show (List.replicate 20 blankS).getD i [] = _
      rw [List.getD_eq_getElem?_getD, List.getElem?_replicate, if_pos hi]
      rfl
  have hst : (kpE a b keep).stands.getD i [] = padS (wantK a b keep i) := by
    show (crashDkL (kpF a).stands (pdK b b.length) keep).getD i [] = _
    unfold pdK
    rw [List.take_length, crashDkL_first _ _ _ keep i hB (hR _) (by rw [List.length_map, (kpF_facts ha).2.2.1]; exact hb), List.length_map, hs]
    unfold wantK
    by_cases h : i < b.length ∧ keep.getD i false = true
    · rw [if_pos h, if_pos h, hgd b i h.1]
    · rw [if_neg h, if_neg h]
  have hp : (kpE a b keep).pend.getD i [] = [] := by
    show (List.replicate _ ([] : List UInt8)).getD i [] = []
    rw [List.getD_eq_getElem?_getD, List.getElem?_replicate]
    split <;> rfl
  have hbad : (kpE a b keep).bad.getD i false = false := by
    show (kpF a).bad.getD i false = false
    rw [(kpF_eq ha).2]
    show (List.replicate 20 false).getD i false = false
    rw [List.getD_eq_getElem?_getD, List.getElem?_replicate]
    split <;> rfl
  have hlen : (kpE a b keep).stands.length = 20 := by
    show (crashDkL (kpF a).stands (pdK b b.length) keep).length = 20
    rw [crashDkL_len]
    exact (kpF_facts ha).2.2.1
  unfold readDk valueDk
  rw [if_neg (by simp [kpE, crashDk]), if_neg (by intro h; exact h ⟨by omega, by omega⟩), Int.toNat_natCast, hbad, if_neg (by simp), if_pos hp, hst]
end Go.Pantry
