/-
  Contract of pantrymade.Fields.
-/
import Derived.Test.YtejdlplgkmelkaaGreatDoorProg
import Derived.Test.YtejdlplgkmelkaaGreatDoorPureAll1
import Derived.Test.YtejdlplgkmelkaaGreatDoorF1202
set_option linter.unusedVariables false
set_option linter.unusedSimpArgs false

namespace Go.Proofs.YtejdlplgkmelkaaGreatDoor
open Go.RowKit Go.Pantry

set_option maxHeartbeats 1000000 in
theorem Fields_any (v : Value) (L : List Fld) (w : World) (hr : Reads2 w v L) (hn : L.length < 1000000) :
    Calls Tryz.prog 16 #[v] w fun e w' => ∃ v', e = .returned v' ∧ w'.ownsRow w.heap.size 71 2 v' L.length (fldCells L) ∧ Below w.heap.size w w' := by
  obtain ⟨ao, cap, rfl⟩ := hr.form
  have HR := hid hr
  clear hr
  go_enter Tryz.func16, Tryz.ntmps16
  go_wp2
  go_loopw [3, 8] (fun v' i wr => ∃ (k : Nat), k ≤ L.length ∧ i = .int .i64 k ∧ wr.ownsRow w.heap.size 71 2 v' k (fldCells (L.take k)) ∧ Below w.heap.size w wr) (fun _ i _ => L.length - (intOf i).toNat)
  case atStart => exact ⟨0, Nat.zero_le _, rfl, World.ownsRow_nil _ _ _ _, Below.refl _ _⟩
  case round =>
    obtain ⟨k, hk, rfl, ho, hb⟩ := hrel
    have hs := hb.size
    by_cases hlt : k < L.length
    · obtain ⟨f, hf⟩ : ∃ f, L[k]? = some f := ⟨_, List.getElem?_eq_getElem hlt⟩
      obtain ⟨b, off, rfl, hc1, hc2⟩ := (HR.out.below hb).fld hf
      have HT := hid (take_fld hf)
      clear hf
      have ho1 := ho.alloc (.cells #[strV f.1, strV f.2] 46)
      have hb1 := hb.trans ((below_alloc wr (.cells #[strV f.1, strV f.2] 46)).mono hs)
      have hs1 := hb1.size
      go_wp2_with ((at_builtin; go_must (refine wpList_append_fld _ rfl _ _ 34 rfl w.heap.size 71 Tryz.underlying34 infoFld3 rfl (by decide) rfl ho1 f rfl (by first | rfl | simp) (by omega) hs1 ?_); intro v' w3 hown3 hb3))
      go_roundw
      case rel => exact ⟨k + 1, hlt, by go_num, by rw [HT.out]; exact hown3, hb1.trans hb3⟩
      case measure => simp [intOf]; omega
    · have hk2 : k = L.length := by omega
      subst hk2
      rw [List.take_length] at ho
      go_wp2
      go_ret
      exact ⟨_, rfl, ho, hb⟩
end Go.Proofs.YtejdlplgkmelkaaGreatDoor
