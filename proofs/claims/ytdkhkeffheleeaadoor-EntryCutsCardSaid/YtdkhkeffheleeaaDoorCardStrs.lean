/-
  From data to values: a cell that is read as a slice of texts. No program is imported.
-/
import Derived.Test.YtdkhkeffheleeaaDoorCardAll
import Derived.Test.YtdkhkeffheleeaaDoorPureRoom
set_option linter.unusedVariables false
set_option linter.unusedSimpArgs false
namespace Go.Pantry
open Go.RowKit Go.ChangeShapes Go.WideShapes Go.ChangeAt Go.Deep

/-- a cell that is read as a slice of texts -/
theorem strs_cell {H : Type} {enc : TypeId × Value → H} {P : Program} {W : World} {base : Nat} {sp : Nat → Bool} {held : Bool} {n : Nat} {e u : TypeId} {V : Value} {x : DataW H × List MemPlace} (he : P.underlying e = some (.slice u)) (hu : P.underlying u = some .string) (hc : P.cellsOf u = 1)
    (h : DataW.trod enc P W base sp held n e [V] = some x) : ∃ l : List (List UInt8), Reads W V (l.map strV) ∧ (∀ y ∈ l, y.length ≤ maxLen) ∧ l.length ≤ maxLen ∧ Room V := by
  rcases open_strings he hu hc h with ⟨hcs, _⟩ | ⟨a, len, cap, ss, hcs, _, hl, hm, hz, _, hcell, hws⟩
  · simp at hcs
    subst hcs
    exact ⟨[], ⟨none, 0, rfl, fun j u hj => by simp at hj, fun _ => rfl⟩, by simp, by simp, room_of (Nat.le_refl _)⟩
  · simp at hcs
    subst hcs
    have hzl : len ≤ ss.length := by rw [hz]; split <;> omega
    refine ⟨(ss.take len).map (fun s => s.data.toList), reads_of (by simp; omega) ?_, ?_, ?_⟩
    · intro i u hi
      rw [List.map_map, List.getElem?_map] at hi
      obtain ⟨s, hs, rfl⟩ := Option.map_eq_some_iff.1 hi
      have hs' : ss[i]? = some s := by
        rw [List.getElem?_take] at hs
        split at hs
        · exact hs
        · cases hs
      have hil : i < ss.length := (List.getElem?_eq_some_iff.1 hs').1
      rw [hcell i hil]
      simp [List.getD, hs', strV]
    · intro x hx
      obtain ⟨s, hs, rfl⟩ := List.mem_map.1 hx
      rw [size_list]
      exact hws s (List.mem_of_mem_take hs)
    · exact ⟨by simp; omega, room_of hl⟩
end Go.Pantry
