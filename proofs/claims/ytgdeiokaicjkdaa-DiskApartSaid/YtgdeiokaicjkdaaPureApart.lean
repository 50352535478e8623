/-
  Disks: sectors that have nothing to do with each other. No program is imported.
-/
import Derived.Test.YtgdeiokaicjkdaaPureRedo3
set_option linter.unusedVariables false
set_option linter.unusedSimpArgs false
namespace Go.Pantry
open Go.RowKit

/-- what stands behind k writes of one byte, each flushed or none -/
structure ApAt (fl : Bool) (m : DiskM) (W : List UInt8) (k : Nat) : Prop where
  dsk : Dsk 16 m
  up : m.down = false
  arm : m.arm = none
  len : W.length = 16
  val : ∀ i, i < 16 → valueDk m i = padS [W.getD i 0]
  none : fl = true → ∀ i, peK m i = []
  some : fl = false → 0 < k → ∃ i, i < 16 ∧ peK m i ≠ []
theorem valueDk_eq (m : DiskM) (k : Nat) : valueDk m k = if peK m k = [] then stK m k else peK m k := rfl
theorem padS_zero : padS [0] = blankS := by decide
theorem ap_new (fl : Bool) : ApAt fl (newDk 16) (List.replicate 16 0) 0 := by
  refine ⟨Dsk.new 16, rfl, rfl, rfl, fun i hi => ?_, fun _ i => getD_replicate_nil _ _, fun _ h => absurd h (Nat.lt_irrefl 0)⟩
  have e1 : peK (newDk 16) i = [] := getD_replicate_nil _ _
  have e2 : stK (newDk 16) i = blankS := by
    show (List.replicate 16 blankS).getD i [] = blankS
    rw [List.getD_eq_getElem?_getD, List.getElem?_replicate, if_pos hi]; rfl
  rw [valueDk_eq, if_pos e1, e2, List.getD_eq_getElem?_getD, List.getElem?_replicate, if_pos hi]
  exact padS_zero.symm
theorem getD_setU {l : List UInt8} {i k : Nat} {x : UInt8} (hi : i < l.length) : (l.set i x).getD k 0 = if k = i then x else l.getD k 0 := by
  rw [List.getD_eq_getElem?_getD, List.getElem?_set, List.getD_eq_getElem?_getD]
  by_cases h : i = k
  · subst h; simp [hi]
  · rw [if_neg h, if_neg (fun e => h e.symm)]
theorem ap_write {fl : Bool} {m : DiskM} {W : List UInt8} {k : Nat} (h : ApAt fl m W k) {i : Nat} (hi : i < 16) (c : UInt8) :
    (writeDk m i [c]).1 = 0 ∧ (fl = false → ApAt fl (writeDk m i [c]).2 (W.set i c) (k + 1)) ∧ (fl = true → (flushDk (writeDk m i [c]).2).1 = 0 ∧ ApAt fl (flushDk (writeDk m i [c]).2).2 (W.set i c) (k + 1)) := by
  have hw := write_up h.dsk.ok h.up (i := i) (by omega) (b := [c]) (by simp)
  have ha := write_arm (i : Int) [c] h.arm h.up
  have hd := h.dsk.write (i : Int) [c]
  rcases hw with ⟨e, hu, hs, hp⟩ | ⟨-, h0, -⟩
  rotate_left
  · rw [h.arm] at h0; cases h0
  generalize writeDk m i [c] = r at e hu hs hp ha hd ⊢
  obtain ⟨e1, m1⟩ := r
  simp only at e hu hs hp ha hd ⊢
  have hl : (W.set i c).length = 16 := by rw [List.length_set]; exact h.len
  have hv : ∀ j, j < 16 → valueDk m1 j = padS [(W.set i c).getD j 0] := fun j hj => by
    rw [valueDk_eq, hp j, getD_setU (by rw [h.len]; exact hi)]
    by_cases hji : j = i
    · rw [if_pos hji, if_pos hji, if_neg (padS_ne (by simp))]
    · rw [if_neg hji, if_neg hji, hs j, ← valueDk_eq]; exact h.val j hj
  refine ⟨e, fun hf => ⟨hd, hu, ha.1, hl, hv, (fun ht => by rw [ht] at hf; cases hf), fun _ _ => ⟨i, hi, by rw [hp i, if_pos rfl]; exact padS_ne (by simp)⟩⟩, fun ht => ?_⟩
  have hf := flush_up hd.ok hu
  have hfa := flush_arm ha.1 hu
  rcases hf with ⟨e2, hu2, hs2, hp2⟩ | ⟨-, h0, -⟩
  · refine ⟨e2, hd.flush, hu2, hfa.1, hl, fun j hj => ?_, fun _ => hp2, fun hff => by rw [ht] at hff; cases hff⟩
    rw [valueDk_eq, if_pos (hp2 j), hs2 j, ← valueDk_eq]
    exact hv j hj
  · rw [ha.1] at h0; cases h0
theorem ap_read {fl : Bool} {m : DiskM} {W : List UInt8} {k : Nat} (h : ApAt fl m W k) {i : Nat} (hi : i < 16) : readDk m (i : Int) = (0, padS [W.getD i 0]) := by
  unfold readDk
  rw [h.up, if_neg (by decide), if_neg (fun hh => hh ⟨by omega, by rw [h.dsk.ok.len]; omega⟩), Int.toNat_natCast, h.dsk.good, if_neg (by decide), h.val i hi]
theorem pendDkL_some : ∀ (k : Nat) (pp : List (List UInt8)), (∃ i, pp.getD i [] ≠ []) → pendDkL k pp ≠ []
  | _, [], ⟨i, h⟩ => absurd (by simp) h
  | k, p :: pp, ⟨i, h⟩ => by
    unfold pendDkL
    by_cases hp : p = []
    · rw [if_pos hp]
      cases i with
      | zero => exact absurd hp (by simpa using h)
      | succ i => exact pendDkL_some (k + 1) pp ⟨i, by simpa using h⟩
    · rw [if_neg hp]; exact List.cons_ne_nil _ _
theorem pendDkL_nil {n : Nat} {m : DiskM} (hd : Dsk n m) (h : ∀ i, peK m i = []) : pendDkL 0 m.pend = [] := by
  have e : m.pend = List.replicate n [] := by
    apply List.ext_getElem
    · rw [hd.ok.lenP, List.length_replicate]
    · intro i h1 h2
      have := h i
      unfold peK at this
      rw [List.getD_eq_getElem?_getD, List.getElem?_eq_getElem h1] at this
      rw [List.getElem_replicate]; exact this
  rw [e]; exact pendDkL_none 0 n
theorem ap_pend {fl : Bool} {m : DiskM} {W : List UInt8} {k : Nat} (h : ApAt fl m W k) (hk : 0 < k) : decide ((pendDkL 0 m.pend).length = 0) = fl := by
  cases fl with
  | true => rw [pendDkL_nil h.dsk (h.none rfl)]; rfl
  | false =>
    obtain ⟨i, -, hi⟩ := h.some rfl hk
    have := pendDkL_some 0 m.pend ⟨i, hi⟩
    exact decide_eq_false (fun e => this (List.eq_nil_of_length_eq_zero e))
/-- the bytes of a sector of one byte -/
theorem padS_one (c : UInt8) : padS [c] = c :: List.replicate 63 0 := rfl
end Go.Pantry
