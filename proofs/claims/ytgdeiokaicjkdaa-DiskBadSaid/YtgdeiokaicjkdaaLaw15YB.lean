/-
  DiskBad over package disk as it is.
-/
import Derived.Test.YtgdeiokaicjkdaaLaw15B
import Derived.Test.YtgdeiokaicjkdaaDiskK
set_option linter.unusedVariables false
set_option linter.unusedSimpArgs false
namespace Go.Proofs.Ytgdeiokaicjkdaa
open Go.RowKit Go.Pantry
theorem in15b {x : Int} (h : (Lit.int .i64 x).wf = true) : In15 x := by
  simp [Lit.wf, IntKind.min, IntKind.max, IntKind.signed, IntKind.bits] at h
  exact ⟨by omega, by omega⟩
theorem byte15 {x : Int} (h : (Lit.int .u8 x).wf = true) : ∃ c : UInt8, Value.int .u8 x = byteV c := by
  simp [Lit.wf, IntKind.min, IntKind.max, IntKind.signed, IntKind.bits] at h
  refine ⟨UInt8.ofNat x.toNat, ?_⟩
  have e : (((UInt8.ofNat x.toNat).toNat : Nat) : Int) = x := by rw [UInt8.toNat_ofNat']; omega
  show Value.int .u8 x = Value.int .u8 _
  rw [e]
theorem diskBad_walk (i x y : Int) (w : World) (hi : (Lit.int .i64 i).wf = true) (hx : (Lit.int .u8 x).wf = true) (hy : (Lit.int .u8 y).wf = true) :
    Calls Try.prog 8 #[.int .i64 i, .int .u8 x, .int .u8 y] w fun e w' => e = .returned (.bool true) ∧ Below w.heap.size w w' := by
  obtain ⟨a, ha⟩ := byte15 hx
  obtain ⟨b, hb⟩ := byte15 hy
  rw [ha, hb]
  exact diskBad_over disks_ok i a b w trivial (in15b hi)
end Go.Proofs.Ytgdeiokaicjkdaa
