/-
  Fields without some: what is left of them.
-/
import Derived.Test.YtefplhkjcclppaaDoorPureAll2
import Derived.Test.YtefplhkjcclppaaDoorFieldC
namespace Go.Proofs.YtefplhkjcclppaaDoor
open Go.RowKit Go.Pantry
theorem all_outs {L : List Fld} {ns : List (List UInt8)} {n : List UInt8} (h : n ∈ ns) : allF (outsF L ns) n = [] := by
  unfold allF outsF
  rw [List.filter_filter]
  have e : (L.filter fun f => isF n f && !ns.any fun m => isF m f) = [] := by
    rw [List.filter_eq_nil_iff]
    intro f _ hf
    simp only [Bool.and_eq_true, Bool.not_eq_true'] at hf
    have := List.any_eq_false.1 hf.2 n h
    exact this hf.1
  rw [e]
  rfl
theorem frameX_outs (L : List Fld) (z : Int) (o : Nat) : frameX z o (outsF L [clN, teN]) = .ok (o, 0) := by
  unfold frameX
  rw [all_outs (by simp), all_outs (by simp)]
  rfl
theorem okFs_outs {L : List Fld} {ns : List (List UInt8)} (h : okFs L) : okFs (outsF L ns) :=
  ⟨Nat.le_trans (List.length_filter_le ..) h.1, fun f hf => h.2 f (List.mem_filter.1 hf).1⟩
end Go.Proofs.YtefplhkjcclppaaDoor
