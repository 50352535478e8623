/-
  PassGood over package pass as it is.
-/
import Derived.Test.YtoolboafbkikjaaDoorF13Law13G
import Derived.Test.YtoolboafbkikjaaDoorF13PassF
set_option linter.unusedVariables false
set_option linter.unusedSimpArgs false

namespace Go.Proofs.YtoolboafbkikjaaDoor
open Go.RowKit Go.Pantry

theorem passGood_walk (rv : Value) (req : List Fld) (cv : Value) (came : List Fld) (m : ByteArray) (st : Int) (w : World) (ht : Tables w) (hr : FieldsAt13 w rv req) (hc : FieldsAt13 w cv came) (hm : m.size ≤ maxLen) (hst : (Lit.int .i64 st).wf = true) :
    Calls Tryd.prog 6 #[rv, cv, .string m, .int .i64 st] w fun e w' => e = .returned (.bool true) ∧ Below w.heap.size w w' := by
  have h := passGood_over passes_ok rv req cv came m.data.toList st w ht ⟨hr.1, hr.2.2⟩ ⟨hc.1, hc.2.2⟩ (show m.data.toList.length ≤ maxLen from by rw [Array.length_toList]; exact hm) (by simp [Lit.wf, IntKind.min, IntKind.max, IntKind.signed, IntKind.bits] at hst; exact ⟨by omega, by omega⟩)
  exact h
end Go.Proofs.YtoolboafbkikjaaDoor
