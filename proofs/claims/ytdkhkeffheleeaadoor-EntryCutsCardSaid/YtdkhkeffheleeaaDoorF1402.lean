/-
  Several texts in one: Info, Info3, RefFieldM, RefSignB, FieldOk.
-/
import Derived.Test.YtdkhkeffheleeaaDoorProg
import Derived.Test.YtdkhkeffheleeaaDoorPureAll1
set_option linter.unusedVariables false
set_option linter.unusedSimpArgs false
/-
  Facts on types that several texts want.
-/
namespace Go.Proofs.YtdkhkeffheleeaaDoor
open Go.RowKit
theorem infoU8 : (Tryd.prog.info? 5).map (fun i => (i.zero, i.size, i.bytes)) = some (some (.int .u8 0), 1, 1) := by kernel_rfl
theorem infoStr : (Tryd.prog.info? 9).map (fun i => (i.zero, i.size, i.bytes)) = some (some (.string ⟨#[]⟩), 1, 16) := by kernel_rfl
theorem infoBool : (Tryd.prog.info? 4).map (fun i => (i.zero, i.size, i.bytes)) = some (some (.bool false), 1, 1) := by kernel_rfl
end Go.Proofs.YtdkhkeffheleeaaDoor
/-
  The size of a field as the document has it.
-/
namespace Go.Proofs.YtdkhkeffheleeaaDoor
open Go.RowKit Go.Pantry

theorem infoFld3 : (Tryd.prog.info? 74).map (fun i => (i.zero, i.size, i.bytes)) = some (some (.agg #[.string ⟨#[]⟩, .string ⟨#[]⟩]), 2, 32) := by kernel_rfl
end Go.Proofs.YtdkhkeffheleeaaDoor
/-
  Contract of pantrymade.Fields.
-/
namespace Go.Proofs.YtdkhkeffheleeaaDoor
open Go.RowKit Go.Pantry

set_option maxHeartbeats 1000000 in
theorem Fields_any (v : Value) (L : List Fld) (w : World) (hr : Reads2 w v L) (hn : L.length < 1000000) :
    Calls Tryd.prog 24 #[v] w fun e w' => ∃ v', e = .returned v' ∧ w'.ownsRow w.heap.size 74 2 v' L.length (fldCells L) ∧ Below w.heap.size w w' := by
  obtain ⟨ao, cap, rfl⟩ := hr.form
  have HR := hid hr
  clear hr
  go_enter Tryd.func24, Tryd.ntmps24
  go_wp2
  go_loopw [3, 8] (fun v' i wr => ∃ (k : Nat), k ≤ L.length ∧ i = .int .i64 k ∧ wr.ownsRow w.heap.size 74 2 v' k (fldCells (L.take k)) ∧ Below w.heap.size w wr) (fun _ i _ => L.length - (intOf i).toNat)
  case atStart => exact ⟨0, Nat.zero_le _, rfl, World.ownsRow_nil _ _ _ _, Below.refl _ _⟩
  case round =>
    obtain ⟨k, hk, rfl, ho, hb⟩ := hrel
    have hs := hb.size
    by_cases hlt : k < L.length
    · obtain ⟨f, hf⟩ : ∃ f, L[k]? = some f := ⟨_, List.getElem?_eq_getElem hlt⟩
      obtain ⟨b, off, rfl, hc1, hc2⟩ := (HR.out.below hb).fld hf
      have HT := hid (take_fld hf)
      clear hf
      have ho1 := ho.alloc (.cells #[strV f.1, strV f.2] 53)
      have hb1 := hb.trans ((below_alloc wr (.cells #[strV f.1, strV f.2] 53)).mono hs)
      have hs1 := hb1.size
      go_wp2_with ((at_builtin; go_must (refine wpList_append_fld _ rfl _ _ 30 rfl w.heap.size 74 Tryd.underlying30 infoFld3 rfl (by decide) rfl ho1 f rfl (by first | rfl | simp) (by omega) hs1 ?_); intro v' w3 hown3 hb3))
      go_roundw
      case rel => exact ⟨k + 1, hlt, by go_num, by rw [HT.out]; exact hown3, hb1.trans hb3⟩
      case measure => simp [intOf]; omega
    · have hk2 : k = L.length := by omega
      subst hk2
      rw [List.take_length] at ho
      go_wp2
      go_ret
      exact ⟨_, rfl, ho, hb⟩
end Go.Proofs.YtdkhkeffheleeaaDoor
/-
  Contracts of the document's answers of layer 1: Lower.
-/
namespace Go.Proofs.YtdkhkeffheleeaaDoor
open Go.RowKit Go.Pantry


set_option maxRecDepth 4000 in
theorem refLower_any (s : ByteArray) (w : World) (hs : s.size < 4294967296) :
    Calls Tryd.prog 56 #[.string s] w fun e w' => e = .returned (.string ⟨(lowerL s.data.toList).toArray⟩) ∧ Below w.heap.size w w' := by
  go_enter Tryd.func56, Tryd.ntmps56
  go_wp2
  go_loopw [3, 4] (fun v i wr => ∃ k : Nat, k ≤ s.size ∧ i = .int .i64 k ∧ wr.ownsRow w.heap.size 5 1 v k ((lowerL (s.data.toList.take k)).map byteV) ∧ Below w.heap.size w wr) (fun _ i _ => s.size - (intOf i).toNat)
  case atStart => exact ⟨0, Nat.zero_le _, rfl, World.ownsRow_nil _ _ _ _, Below.refl _ _⟩
  case round =>
    obtain ⟨k, hk, rfl, hown, hb⟩ := hrel
    have hB := hb.size
    have hcv := ownsRow_string hown 25 9 Tryd.underlying25 Tryd.underlying5 Tryd.underlying9
    go_wp2_with ((at_builtin; refine wpList_append_one _ rfl _ _ 25 rfl w.heap.size 5 Tryd.underlying25 infoU8 rfl (by decide) rfl hown rfl rfl (by omega) hB ?_; intro v' w1 hown1 hg1 hb1))
    iterate 3
      · go_roundw
        case rel =>
          have hlt : k < s.size := by assumption
          refine ⟨k + 1, by omega, by go_num, ?_, hb.trans hb1⟩
          rw [take_succ_list s k hlt, lower_snoc, List.map_append]
          have e := low_any s[k]
          first
            | (rw [if_pos (by omega)] at e; simpa [byteV, e] using hown1)
            | (rw [if_neg (by omega)] at e; simpa [byteV, e] using hown1)
        case measure => simp [intOf]; omega
    · have hlt : ¬ k < s.size := by assumption
      go_ret
      refine ⟨ret_str ?_, hb⟩
      rw [take_all s k hlt]
end Go.Proofs.YtdkhkeffheleeaaDoor
/-
  Fields that can be gone through with.
-/
namespace Go.Proofs.YtdkhkeffheleeaaDoor
open Go.RowKit Go.Pantry

/-- fields that can be gone through with -/
def okFs (L : List Fld) : Prop := L.length ≤ 1000 ∧ ∀ f ∈ L, f.1.length ≤ 100000 ∧ f.2.length ≤ 100000

theorem infoFld : (Tryd.prog.info? 53).map (fun i => (i.zero, i.size, i.bytes)) = some (some (.agg #[.string ⟨#[]⟩, .string ⟨#[]⟩]), 2, 32) := by kernel_rfl

end Go.Proofs.YtdkhkeffheleeaaDoor
