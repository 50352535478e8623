/-
  From a row's condition on its listed variables to the cells of a table of texts: no program is imported.
-/
import Derived.Test.YtoolboafbkikjaaDoorPureAll1
import Derived.Lib.LaidTab
import Derived.FnData
set_option linter.unusedVariables false
set_option linter.unusedSimpArgs false
namespace Go.Pantry
open Go.RowKit

/-- A table of texts, as a row lists it. -/
def strsData {H : Type} (ls : List (List UInt8)) : DataW H := .agg (ls.map fun l => .lit (.string l))
/-- An array of texts that reads as the table holds its texts, cell for cell. -/
theorem cells_of_strs {H : Type} {enc : TypeId × Value → H} {P : Program} {w : World} {base : Nat} {sp : Nat → Bool} {held : Bool} {fuel : Nat} {t e : TypeId} {n : Nat} {cs : List Value} {ls : List (List UInt8)} {p : List MemPlace}
    (ht : P.underlying t = some (.array n e)) (he : P.underlying e = some .string) (hce : P.cellsOf e = 1) (hct : P.cellsOf t = n)
    (h : DataW.trod enc P w base sp held fuel t cs = some (strsData ls, p)) (j : Nat) (l : List UInt8) (hj : ls[j]? = some l) : cs[j]? = some (strV l) := by
  cases fuel with
  | zero => simp [DataW.trod] at h
  | succ fuel =>
    simp only [DataW.trod, ht, hce, hct, Nat.mul_one] at h
    split at h
    · obtain ⟨xs, hm, hx⟩ := Option.map_eq_some_iff.1 h
      have h0 : xs.map (·.1) = ls.map fun l => (DataW.lit (.string l) : DataW H) := by simpa [strsData] using congrArg Prod.fst hx
      have hxl : xs.length = n := by simpa using Lib.mapM_length hm
      have hll : ls.length = n := by
        have := congrArg List.length h0
        simp at this
        omega
      have hjn : j < n := by have := (List.getElem?_eq_some_iff.1 hj).1; omega
      obtain ⟨b, hb, hf⟩ := Lib.mapM_at hm j j (by simp [hjn])
      obtain ⟨s, hc, rfl, _⟩ := DataW.trod_string he hf
      have h2 : (xs.map (·.1))[j]? = some (DataW.lit (.string s.data.toList) : DataW H) := by simp [hb]
      rw [h0, List.getElem?_map, hj] at h2
      have hsl : l = s.data.toList := by simpa using h2
      have h1 : cs[j]? = some (.string s) := by
        have := congrArg (·[0]?) hc
        simpa [List.getElem?_take, List.getElem?_drop] using this
      rw [h1, hsl]
    · cases h
/-- What a row's condition says of the first variable that it lists. -/
theorem strs_of_laid {P : Program} {w : World} {x : String} {ls : List (List UInt8)} {r : List (String × DataW Unit)} {ps : List MemPlace} {g : Nat} {t e : TypeId} {n : Nat}
    (hg : P.globalNamed x = some g) (hty : (P.globals[g]?).map (·.type) = some t) (ht : P.underlying t = some (.array n e)) (he : P.underlying e = some .string) (hce : P.cellsOf e = 1) (hct : P.cellsOf t = n)
    (h : DataW.LaidVars P w ((x, strsData ls) :: r) ps) : (∀ (j : Nat) l, ls[j]? = some l → w.cell? ⟨g, j, none⟩ = some (strV l)) ∧ ∃ qs, DataW.LaidVars P w r qs := by
  obtain ⟨g', t', cs, fuel, p, q, h1, h2, h3, h4, h5, -⟩ := h
  obtain rfl := Option.some.inj (hg.symm.trans h1)
  obtain rfl := Option.some.inj (hty.symm.trans h2)
  refine ⟨fun j l hj => ?_, q, h5⟩
  rw [World.var?_cell hg h3 j]
  have := cells_of_strs ht he hce hct h4 j l hj
  simpa using this
end Go.Pantry
