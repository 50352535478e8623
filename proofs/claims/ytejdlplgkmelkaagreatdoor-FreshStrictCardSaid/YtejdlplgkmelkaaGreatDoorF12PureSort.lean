/-
  Texts that are sorted, and each of them once; what a sort, and a cut, leave of a slice that the call made. No program is imported.
-/
import Derived.Test.YtejdlplgkmelkaaGreatDoorF1201
import Derived.Lib.SlicesCompact
import Derived.Sort.EncStr
import Derived.Sort.Grow
set_option linter.unusedVariables false
set_option linter.unusedSimpArgs false

namespace Go.Pantry
open Go.RowKit Go.Lib

theorem compactUpTo_rise (d : Array (List UInt8)) (hs : ∀ i j, i ≤ j → j < d.size → d[i]! ≤ d[j]!) : ∀ m, m ≤ d.size →
    (∀ x, x ∈ compactUpTo d m ↔ ∃ j, j < m ∧ d[j]! = x) ∧ (compactUpTo d m).Pairwise (· < ·)
  | 0, _ => by simp [compactUpTo]
  | m + 1, hm => by
    obtain ⟨h1, h2⟩ := compactUpTo_rise d hs m (by omega)
    rw [compactUpTo_succ]
    by_cases hk : keeps d m = true
    · rw [if_pos hk]
      constructor
      · intro x
        rw [List.mem_append, h1, List.mem_singleton]
        constructor
        · rintro (⟨j, hj, e⟩ | e)
          · exact ⟨j, by omega, e⟩
          · exact ⟨m, by omega, e.symm⟩
        · rintro ⟨j, hj, e⟩
          by_cases hjm : j = m
          · subst hjm; exact .inr e.symm
          · exact .inl ⟨j, by omega, e⟩
      · rw [List.pairwise_append]
        refine ⟨h2, List.pairwise_singleton _ _, fun a ha b hb => ?_⟩
        rw [List.mem_singleton] at hb
        subst hb
        obtain ⟨j, hj, e⟩ := (h1 a).1 ha
        subst e
        have hk2 : d[m]! ≠ d[m - 1]! := by
          have hk' := of_decide_eq_true hk
          rcases hk' with hk' | hk'
          · omega
          · exact hk'
        have l1 := hs j (m - 1) (by omega) (by omega)
        have l2 := hs (m - 1) m (by omega) (by omega)
        rcases List.le_iff_lt_or_eq.1 l2 with g | g
        · exact List.lt_of_le_of_lt l1 g
        · exact absurd g.symm hk2
    · rw [if_neg hk, List.append_nil]
      refine ⟨fun x => ?_, h2⟩
      rw [h1]
      constructor
      · rintro ⟨j, hj, e⟩; exact ⟨j, by omega, e⟩
      · rintro ⟨j, hj, e⟩
        by_cases hjm : j = m
        · subst hjm
          have hk2 : ¬ (j = 0 ∨ d[j]! ≠ d[j - 1]!) := fun h => hk (decide_eq_true h)
          have h0 : j ≠ 0 := fun h => hk2 (.inl h)
          have h3 : d[j]! = d[j - 1]! := Classical.byContradiction fun h => hk2 (.inr h)
          exact ⟨j - 1, by omega, h3.symm.trans e⟩
        · exact ⟨j, by omega, e⟩
/-- sorted texts, each once -/
theorem compact_sort (ss : List (List UInt8)) : compact (ss.mergeSort fun x y => decide (x ≤ y)) = ss.foldl riseL [] := by
  have tr : ∀ a b c : List UInt8, decide (a ≤ b) = true → decide (b ≤ c) = true → decide (a ≤ c) = true := fun a b c h1 h2 => by simp only [decide_eq_true_eq] at *; exact List.le_trans h1 h2
  have to : ∀ a b : List UInt8, (decide (a ≤ b) || decide (b ≤ a)) = true := fun a b => by simp only [Bool.or_eq_true, decide_eq_true_eq]; exact List.le_total a b
  have hp := List.pairwise_mergeSort tr to ss
  have hm : ∀ x, x ∈ ss.mergeSort (fun x y => decide (x ≤ y)) ↔ x ∈ ss := fun x => List.mem_mergeSort
  generalize ss.mergeSort (fun x y => decide (x ≤ y)) = zs at hp hm ⊢
  obtain ⟨h1, h2⟩ := compactUpTo_rise zs.toArray (fun i j hij hj => by
    have hj' : j < zs.length := by simpa using hj
    rw [getElem!_pos zs.toArray i (by simp; omega), getElem!_pos zs.toArray j hj]
    simp only [List.getElem_toArray]
    by_cases e : i = j
    · subst e; exact List.le_refl _
    · have := List.pairwise_iff_getElem.1 hp i j (by omega) hj' (by omega)
      simpa using this) zs.length (by simp)
  refine sorted_ext h2 (foldPut_sorted _ _ List.Pairwise.nil) fun x => ?_
  rw [foldPut_mem]
  show x ∈ compactUpTo zs.toArray zs.length ↔ _
  rw [h1, ← hm]
  simp only [List.not_mem_nil, or_false]
  constructor
  · rintro ⟨j, hj, e⟩
    rw [getElem!_pos zs.toArray j (by simpa using hj)] at e
    rw [← e]; simp
  · intro hx
    obtain ⟨j, hj, e⟩ := List.getElem_of_mem hx
    exact ⟨j, hj, by rw [getElem!_pos zs.toArray j (by simpa using hj)]; simpa using e⟩
/-- how many texts compact leaves -/
theorem compact_len (zs : List (List UInt8)) : (compact zs).length ≤ zs.length := by
  unfold compact compactUpTo
  rw [List.length_map]
  exact Nat.le_trans (List.length_filter_le _ _) (by simp)
end Go.Pantry
namespace Go.Pantry
open Go.RowKit Go.Sort Go.Proofs

theorem own_holds {w : World} {B n g cap : Nat} {e : TypeId} {xs : List (List UInt8)} (ho : w.ownsRow B e 1 (.slice (some ⟨g, 0, none⟩) n cap) n (xs.map strV)) : xs.length = n ∧ Holds encStr w g 0 xs.toArray ∧ B ≤ g ∧ g < w.heap.size ∧ n ≤ cap ∧ cap ≤ maxLen := by
  have hr := ho.row
  obtain ⟨h1, h2⟩ := ho
  rw [List.length_map, Nat.mul_one] at h1
  rcases h2 with ⟨h, -⟩ | ⟨g', cap', cur, hv, hb, hg, hnc, hcm, hcs, htake⟩
  · cases h
  · cases hv
    refine ⟨h1, fun j hj => ?_, hb, (Array.getElem?_eq_some_iff.1 hg).1, hnc, hcm⟩
    have hj' : j < xs.length := by simpa using hj
    have c := hr.cell j (strV xs[j]) (by rw [List.getElem?_map, List.getElem?_eq_getElem hj']; rfl)
    rw [Nat.zero_add]
    refine ⟨by rw [c, getElem!_pos xs.toArray j hj]; rfl, ?_⟩
    unfold World.frozen?
    rw [hg]
    simp
theorem own_put {w : World} {B n g cap : Nat} {e : TypeId} {xs : List (List UInt8)} (ho : w.ownsRow B e 1 (.slice (some ⟨g, 0, none⟩) n cap) n (xs.map strV)) (d : List (List UInt8)) (hd : d.length = n) (q : Nat) (os : Array Obj) :
    (grow (putRow encStr (Go.Sort.ahead w q) g 0 d.toArray) os).ownsRow B e 1 (.slice (some ⟨g, 0, none⟩) n cap) n (d.map strV) ∧ Go.RowKit.Below B w (grow (putRow encStr (Go.Sort.ahead w q) g 0 d.toArray) os) ∧ w.heap.size ≤ (grow (putRow encStr (Go.Sort.ahead w q) g 0 d.toArray) os).heap.size := by
  obtain ⟨h1, h2⟩ := ho
  rcases h2 with ⟨h, -⟩ | ⟨g', cap', cur, hv, hb, hg, hnc, hcm, hcs, htake⟩
  · cases h
  · cases hv
    have hgl : g < w.heap.size := (Array.getElem?_eq_some_iff.1 hg).1
    have hsz : (putRow encStr (Go.Sort.ahead w q) g 0 d.toArray).heap.size = w.heap.size := by
      unfold putRow mapBlock Go.Sort.ahead
      simp
    rw [Nat.mul_one] at htake hcs
    refine ⟨⟨by rw [List.length_map, Nat.mul_one]; exact hd, .inr ⟨g, cap, putCells encStr 0 d.toArray cur, rfl, hb, ?_, hnc, hcm, by unfold putCells; simp [hcs], ?_⟩⟩, ⟨rfl, rfl, rfl, by rw [size_grow, hsz]; omega, fun k hk => ?_⟩, by rw [size_grow, hsz]; omega⟩
    · rw [heap_grow_old _ _ (by rw [hsz]; exact hgl)]
      unfold putRow mapBlock Go.Sort.ahead
      simp only [Array.getElem?_modify, if_true, hg, Option.map_some]
      rfl
    · rw [Nat.mul_one]
      apply List.ext_getElem?
      intro j
      rw [List.getElem?_take, Array.getElem?_toList, List.getElem?_map]
      unfold putCells
      rw [Array.getElem?_mapIdx]
      by_cases hj : j < n
      · rw [if_pos hj, Array.getElem?_eq_getElem (by omega), List.getElem?_eq_getElem (by omega)]
        simp only [Option.map_some, Nat.zero_le, true_and, Nat.zero_add, Nat.sub_zero]
        rw [if_pos (by simp; omega), getElem!_pos _ j (by simp; omega)]
        simp only [List.getElem_toArray]
      · rw [if_neg hj, List.getElem?_eq_none (by omega), Option.map_none]
    · rw [heap_grow_old _ _ (by rw [hsz]; omega)]
      unfold putRow mapBlock Go.Sort.ahead
      simp only [Array.getElem?_modify]
      rw [if_neg (by omega)]
theorem own_cut {w : World} {B n g cap : Nat} {e : TypeId} {xs : List Value} (ho : w.ownsRow B e 1 (.slice (some ⟨g, 0, none⟩) n cap) n xs) (m : Nat) (hm : m ≤ n) :
    w.ownsRow B e 1 (.slice (some ⟨g, 0, none⟩) m cap) m (xs.take m) := by
  obtain ⟨h1, h2⟩ := ho
  rcases h2 with ⟨h, -⟩ | ⟨g', cap', cur, hv, hb, hg, hnc, hcm, hcs, htake⟩
  · cases h
  · cases hv
    rw [Nat.mul_one] at h1 htake
    refine ⟨by rw [List.length_take, Nat.mul_one]; omega, .inr ⟨g, cap, cur, rfl, hb, hg, by omega, hcm, hcs, ?_⟩⟩
    rw [Nat.mul_one, ← htake, List.take_take, Nat.min_eq_left hm]
end Go.Pantry
