/-
  What a host's bytes are; two steps of a world.
-/
import Derived.Test.YtenijpcjemdhfaaGreatDoorPlaceA
import Derived.Test.YtenijpcjemdhfaaGreatDoorShelf
import Derived.IntWalk
import Derived.WalkMore
namespace Go.Pantry
open Go.RowKit
theorem isHC_of (c : UInt8) : (isAl c || ([45, 46] : List UInt8).contains c) = isHC c := by
  have h := byte_all (p := fun c => (isAl c || ([45, 46] : List UInt8).contains c) == isHC c) (by decide +kernel) c
  exact beq_iff_eq.1 h
end Go.Pantry
namespace Go.Proofs.YtenijpcjemdhfaaGreatDoor
open Go.RowKit Go.Pantry

theorem chainP {w a b : World} (h1 : Below w.heap.size w a) (h2 : Below a.heap.size a b) : Below w.heap.size w b := h1.trans (h2.mono h1.size)
end Go.Proofs.YtenijpcjemdhfaaGreatDoor
