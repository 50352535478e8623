/-
  What the statements of layer 12 share over package fresh as it is.
-/
import Derived.Test.YtejdlplgkmelkaaGreatDoorF12FreshK
import Derived.Test.YtejdlplgkmelkaaGreatDoorF1216
set_option linter.unusedVariables false
set_option linter.unusedSimpArgs false

namespace Go.Proofs.YtejdlplgkmelkaaGreatDoor
open Go.RowKit Go.Pantry

abbrev FieldsAt (w : World) (lv : Value) (l : List Fld) : Prop := Reads2 w lv l ∧ (∀ f ∈ l, f.1.length ≤ maxLen ∧ f.2.length ≤ maxLen) ∧ l.length ≤ maxLen
abbrev SiteAt (w : World) (hv : Value) (s : SiteZ) : Prop := Reads w hv (s.heads.map strV) ∧ SiteFit s hv
theorem inI_wf {x : Int} (h : (Lit.int .i64 x).wf = true) : InI x := by
  simp [Lit.wf, IntKind.min, IntKind.max, IntKind.signed, IntKind.bits] at h
  exact ⟨by omega, by omega⟩
end Go.Proofs.YtejdlplgkmelkaaGreatDoor
