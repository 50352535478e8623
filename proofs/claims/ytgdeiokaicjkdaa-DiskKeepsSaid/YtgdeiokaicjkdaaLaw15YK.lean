/-
  DiskKeeps over package disk as it is.
-/
import Derived.Test.YtgdeiokaicjkdaaLaw15E
import Derived.Test.YtgdeiokaicjkdaaDiskK
set_option linter.unusedVariables false
set_option linter.unusedSimpArgs false
namespace Go.Proofs.Ytgdeiokaicjkdaa
open Go.RowKit Go.Pantry
theorem diskKeeps_walk (va : Value) (a : List (List UInt8)) (vb : Value) (b : List (List UInt8)) (vk : Value) (keep : List Bool) (w : World) (hA : ReadsBB w va a ∧ a.length ≤ maxLen) (hB : ReadsBB w vb b ∧ b.length ≤ maxLen) (hK : Reads w vk (keep.map Value.bool) ∧ keep.length ≤ maxLen) :
    Calls Try.prog 4 #[va, vb, vk] w fun e w' => e = .returned (.bool true) ∧ Below w.heap.size w w' :=
  diskKeeps_over disks_ok va vb vk a b keep w trivial hA.1 hB.1 hK.1
end Go.Proofs.Ytgdeiokaicjkdaa
