/-
  Fields that keys are made of: how much they hold.
-/
import Derived.Test.YtbjgbkbhalibdaaDoorPureKey
namespace Go.Proofs.YtbjgbkbhalibdaaDoor
open Go.RowKit Go.Pantry

/-- fields that keys are made of -/
structure SmallF (l : List Fld) : Prop where
  len : l.length ≤ 60
  name : ∀ f ∈ l, f.1.length ≤ 100
  val : ∀ f ∈ l, f.2.length ≤ 300
theorem SmallF.get {l : List Fld} (h : SmallF l) (n : List UInt8) : (getF l n).length ≤ 18120 := by
  have h1 := joinC_len 300 (allF l n) (fun x hx => by obtain ⟨f, hf, rfl⟩ := allF_mem hx; exact h.val f hf)
  have h2 := allF_len l n
  have h3 := h.len
  unfold getF
  have h4 : (300 + 2) * (allF l n).length ≤ (300 + 2) * 60 := Nat.mul_le_mul_left _ (by omega)
  omega
end Go.Proofs.YtbjgbkbhalibdaaDoor
