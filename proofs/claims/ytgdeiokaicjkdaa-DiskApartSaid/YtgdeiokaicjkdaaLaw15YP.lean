/-
  DiskApart over package disk as it is.
-/
import Derived.Test.YtgdeiokaicjkdaaLaw15F
import Derived.Test.YtgdeiokaicjkdaaDiskK
set_option linter.unusedVariables false
set_option linter.unusedSimpArgs false
namespace Go.Proofs.Ytgdeiokaicjkdaa
open Go.RowKit Go.Pantry
theorem in15p {x : Int} (h : (Lit.int .i64 x).wf = true) : In15 x := by
  simp [Lit.wf, IntKind.min, IntKind.max, IntKind.signed, IntKind.bits] at h
  exact ⟨by omega, by omega⟩
theorem diskApart_walk (jv : Value) (xs : List Int) (fl : Bool) (w : World) (hJ : Reads w jv (xs.map (Value.int .i64)) ∧ (∀ y ∈ xs, (Lit.int .i64 y).wf = true) ∧ xs.length ≤ maxLen) :
    Calls Try.prog 7 #[jv, .bool fl] w fun e w' => e = .returned (.bool true) ∧ Below w.heap.size w w' :=
  diskApart_over disks_ok jv xs fl w trivial hJ.1 (fun y hy => in15p (hJ.2.1 y hy)) hJ.2.2
end Go.Proofs.Ytgdeiokaicjkdaa
