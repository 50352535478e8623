/-
  DiskPlays over package disk as it is.
-/
import Derived.Test.YtgdeiokaicjkdaaLaw15P
import Derived.Test.YtgdeiokaicjkdaaDiskK
set_option linter.unusedVariables false
set_option linter.unusedSimpArgs false
namespace Go.Proofs.Ytgdeiokaicjkdaa
open Go.RowKit Go.Pantry
theorem in15d {x : Int} (h : (Lit.int .i64 x).wf = true) : In15 x := by
  simp [Lit.wf, IntKind.min, IntKind.max, IntKind.signed, IntKind.bits] at h
  exact ⟨by omega, by omega⟩
theorem diskPlays_walk (n : Int) (vo : Value) (M : List OpD) (w : World) (hn : (Lit.int .i64 n).wf = true) (hM : ReadsOpD w vo M ∧ (∀ o ∈ M, (Lit.int .i64 o.kind).wf = true ∧ (Lit.int .i64 o.n).wf = true) ∧ M.length ≤ maxLen) :
    Calls Try.prog 3 #[.int .i64 n, vo] w fun e w' => e = .returned (.bool true) ∧ Below w.heap.size w w' :=
  diskPlays_over disks_ok n vo M w trivial (in15d hn) hM.1 (fun o ho => ⟨in15d (hM.2.1 o ho).1, in15d (hM.2.1 o ho).2⟩)
end Go.Proofs.Ytgdeiokaicjkdaa
