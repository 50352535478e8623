/-
  DiskOwn over package disk as it is.
-/
import Derived.Test.YtgdeiokaicjkdaaLaw15D
import Derived.Test.YtgdeiokaicjkdaaDiskK
set_option linter.unusedVariables false
set_option linter.unusedSimpArgs false
namespace Go.Proofs.Ytgdeiokaicjkdaa
open Go.RowKit Go.Pantry
theorem diskOwn_walk (v : Value) (l : List UInt8) (w : World) (hl : Reads w v (l.map byteV) ∧ (∀ ao n cap, v = .slice ao n cap → n ≤ cap) ∧ l.length ≤ 9223372036854775807) :
    Calls Try.prog 5 #[v] w fun e w' => e = .returned (.bool true) ∧ Below w.heap.size w w' :=
  diskOwn_over disks_ok v l w trivial hl.1 hl.2.2
end Go.Proofs.Ytgdeiokaicjkdaa
