/-
  copy into 64 noughts. No program is imported.
-/
import Derived.Test.YtgdeiokaicjkdaaPureAll2
import Derived.Test.YtgdeiokaicjkdaaPureDisk
import Derived.Laws.CopyRow
import Derived.Lib.SlBuf
set_option linter.unusedVariables false
set_option linter.unusedSimpArgs false
namespace Go.Pantry
open Go.RowKit
theorem addr_add0 {b off i : Nat} : (⟨b, off, none⟩ : Addr).add i = ⟨b, off + i, none⟩ := by unfold Addr.add; split <;> simp_all
/-- bytes are copied into a row of 64 noughts -/
theorem copy_pad {P : Program} (dT sT ty elem : TypeId) (hu : P.underlying dT = some (.slice elem)) (hs : (P.info? elem).map (·.size) = some 1) {w : World} {g : Nat} {t : TypeId} (hg : rowIs w g (Array.replicate 64 (.int .u8 0)) t) {v : Value} {b : List UInt8} (hb : Reads w v (b.map byteV)) (hl : b.length ≤ 64) :
    ∃ W, (Builtin.copy_ #[dT, sT] ty #[.slice (some ⟨g, 0, none⟩) 64 64, v]).run P w = .ok (goInt b.length) W ∧ rowIs W g ((padS b).map byteV).toArray t ∧ Kept (fun k => k = g) w W ∧ W.heap.size = w.heap.size := by
  obtain ⟨ao, cap, rfl, hc, hz⟩ := hb
  have hz0 : List.map byteV (padS b) = b.map byteV ++ List.replicate (64 - b.length) (.int .u8 0) := by
    unfold padS
    rw [List.map_append, List.map_replicate]
    rfl
  rw [List.length_map]
  cases ao with
  | none =>
    cases hz rfl
    have hb0 : b = [] := by
      cases b with
      | nil => rfl
      | cons c l => obtain ⟨_, _, h, _⟩ := hc 0 (byteV c) rfl; cases h
    subst hb0
    refine ⟨w, run_copy_nil P w dT sT ty elem _ 64 64 hu (by rw [Option.isSome_map]; cases hq : P.info? elem with | none => rw [hq] at hs; cases hs | some i => rfl), ?_, Kept.refl _ _, rfl⟩
    rw [hz0]
    exact hg
  | some a =>
    have h1 := run_copy_row P w dT sT ty elem g 0 64 64 a b.length cap (Array.replicate 64 (.int .u8 0)) t (b.map byteV) hu hs hg (by rw [List.length_map]; exact (Nat.min_eq_left hl).symm) (fun j u hj => by
      obtain ⟨bb, off, he, hcell⟩ := hc j u hj
      cases he
      rw [addr_add0]
      exact hcell) (by rw [List.length_map]; simp; omega) (fun u hu => by
      obtain ⟨c, -, rfl⟩ := List.mem_map.1 hu
      rfl)
    rw [List.length_map] at h1
    refine ⟨_, h1, ?_, (Kept.refl (fun k => k = g) w).setRow (.inl rfl) _, by simp [World.setRow]⟩
    have e : (List.take 0 (Array.replicate 64 (Value.int .u8 0)).toList ++ b.map byteV ++ List.drop (0 + b.length) (Array.replicate 64 (Value.int .u8 0)).toList) = List.map byteV (padS b) := by
      rw [hz0, Array.toList_replicate, List.take_zero, List.nil_append, Nat.zero_add, List.drop_replicate]
    rw [e]
    exact hg.setRow _
theorem bytes_padded {w : World} {g : Nat} {b : List UInt8} {t : TypeId} (h : rowIs w g ((padS b).map byteV).toArray t) (hb : b.length ≤ 64) : Bytes w (.slice (some ⟨g, 0, none⟩) 64 64) (padS b) := by
  have hl := padS_len hb
  refine ⟨some ⟨g, 0, none⟩, 64, by rw [hl], by omega, ⟨some ⟨g, 0, none⟩, 64, by rw [List.length_map, hl], fun j u hj => ⟨g, 0, rfl, ?_⟩, fun e => by cases e⟩⟩
  rw [Nat.zero_add, h.cell]
  simpa using hj
end Go.Pantry
