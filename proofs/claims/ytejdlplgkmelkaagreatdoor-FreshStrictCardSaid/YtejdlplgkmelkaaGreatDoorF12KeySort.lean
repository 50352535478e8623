/-
  slices.Sort and slices.Compact of a slice of texts that the call made.
-/
import Derived.Test.YtejdlplgkmelkaaGreatDoorIterShelf
import Derived.Test.YtejdlplgkmelkaaGreatDoorF12PureSort
import Derived.Shelf.SortM.Plain
import Derived.Shelf.SortM.SortNone
import Derived.Shelf.SlicesG.CompactS
set_option linter.unusedVariables false
set_option linter.unusedSimpArgs false

namespace Go.Proofs.YtejdlplgkmelkaaGreatDoor
open Go.RowKit Go.Sort Go.Shelf Go.Pantry

theorem sort_made {B : Nat} {e : TypeId} (v : Value) (ss : List (List UInt8)) (w : World) (ho : w.ownsRow B e 1 v ss.length (ss.map strV)) (hl : ss.length ≤ 1000000) :
    Calls Tryz.prog 54 #[v] w fun e' w' => e' = .returned (.tuple #[]) ∧ w'.ownsRow B e 1 v ss.length ((ss.mergeSort fun x y => decide (x ≤ y)).map strV) ∧ Go.RowKit.Below B w w' ∧ w.heap.size ≤ w'.heap.size := by
  have ho0 := ho
  rcases ho.2 with ⟨rfl, hn⟩ | ⟨g, cap, cur, rfl, hb, hg, hnc, hcm, hcs, htake⟩
  · have : ss = [] := List.eq_nil_of_length_eq_zero hn
    subst this
    refine (AnyM.slices_Sort_string_none Tryz.sortM none 0 w).mono ?_
    rintro e' w' ⟨rfl, rfl⟩
    exact ⟨rfl, by simpa using ho0, Below.refl _ _, Nat.le_refl _⟩
  · obtain ⟨-, hH, -, hgl, -, -⟩ := own_holds ho0
    refine (AnyM.slices_Sort_string Tryz.sortM g 0 cap ss w hH hgl (by omega)).mono ?_
    rintro e' w' ⟨rfl, q, os, rfl⟩
    obtain ⟨h1, h2, h3⟩ := own_put ho0 (ss.mergeSort fun x y => decide (x ≤ y)) (by simp) q os
    exact ⟨rfl, h1, h2, h3⟩
theorem compact_made {B : Nat} {e : TypeId} (v : Value) (ss : List (List UInt8)) (w : World) (ho : w.ownsRow B e 1 v ss.length (ss.map strV)) (hl : ss.length ≤ 1000000) :
    Calls Tryz.prog 55 #[v] w fun e' w' => ∃ v', e' = .returned v' ∧ w'.ownsRow B e 1 v' (Lib.compact ss).length ((Lib.compact ss).map strV) ∧ Go.RowKit.Below B w w' ∧ w.heap.size ≤ w'.heap.size := by
  have ho0 := ho
  rcases ho.2 with ⟨rfl, hn⟩ | ⟨g, cap, cur, rfl, hb, hg, hnc, hcm, hcs, htake⟩
  · have : ss = [] := List.eq_nil_of_length_eq_zero hn
    subst this
    refine (AnyG.slices_Compact_string_empty Tryz.compactN none 0 w).mono ?_
    rintro e' w' ⟨rfl, rfl⟩
    exact ⟨_, rfl, ho0, Below.refl _ _, Nat.le_refl _⟩
  · obtain ⟨-, hH, -, hgl, -, -⟩ := own_holds ho0
    refine (AnyG.slices_Compact_string Tryz.compactN g 0 cap ss w hH (by omega) hnc).mono ?_
    rintro e' w' ⟨rfl, q, rfl⟩
    have hc := compact_len ss
    obtain ⟨h1, h2, h3⟩ := own_put ho0 (Lib.compact ss ++ List.replicate (ss.length - (Lib.compact ss).length) []) (by simp; omega) q #[]
    rw [grow_empty] at h1 h2 h3
    have h4 := own_cut h1 (Lib.compact ss).length hc
    refine ⟨_, rfl, ?_, h2, h3⟩
    rw [List.map_append, List.take_left' (by simp)] at h4
    exact h4
end Go.Proofs.YtejdlplgkmelkaaGreatDoor
