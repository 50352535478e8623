/-
  DiskArms over package disk as it is.
-/
import Derived.Test.YtgdeiokaicjkdaaLaw15C
import Derived.Test.YtgdeiokaicjkdaaDiskK
set_option linter.unusedVariables false
set_option linter.unusedSimpArgs false
namespace Go.Proofs.Ytgdeiokaicjkdaa
open Go.RowKit Go.Pantry
theorem in15a {x : Int} (h : (Lit.int .i64 x).wf = true) : In15 x := by
  simp [Lit.wf, IntKind.min, IntKind.max, IntKind.signed, IntKind.bits] at h
  exact ⟨by omega, by omega⟩
theorem diskArms_walk (n mo : Int) (w : World) (hn : (Lit.int .i64 n).wf = true) (hm : (Lit.int .i64 mo).wf = true) :
    Calls Try.prog 6 #[.int .i64 n, .int .i64 mo] w fun e w' => e = .returned (.bool true) ∧ Below w.heap.size w w' :=
  diskArms_over disks_ok n mo w trivial (in15a hn) (in15a hm)
end Go.Proofs.Ytgdeiokaicjkdaa
