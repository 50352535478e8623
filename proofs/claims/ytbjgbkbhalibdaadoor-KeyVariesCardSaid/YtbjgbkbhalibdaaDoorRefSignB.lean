/-
  Contracts of the document's answers of layer 1: Lower.
-/
import Derived.Test.YtbjgbkbhalibdaaDoorProg
import Derived.Test.YtbjgbkbhalibdaaDoorInfo
import Derived.Test.YtbjgbkbhalibdaaDoorPureAll1
namespace Go.Proofs.YtbjgbkbhalibdaaDoor
open Go.RowKit Go.Pantry


set_option maxRecDepth 4000 in
theorem refLower_any (s : ByteArray) (w : World) (hs : s.size < 4294967296) :
    Calls Tryd.prog 29 #[.string s] w fun e w' => e = .returned (.string ⟨(lowerL s.data.toList).toArray⟩) ∧ Below w.heap.size w w' := by
  go_enter Tryd.func29, Tryd.ntmps29
  go_wp2
  go_loopw [3, 4] (fun v i wr => ∃ k : Nat, k ≤ s.size ∧ i = .int .i64 k ∧ wr.ownsRow w.heap.size 5 1 v k ((lowerL (s.data.toList.take k)).map byteV) ∧ Below w.heap.size w wr) (fun _ i _ => s.size - (intOf i).toNat)
  case atStart => exact ⟨0, Nat.zero_le _, rfl, World.ownsRow_nil _ _ _ _, Below.refl _ _⟩
  case round =>
    obtain ⟨k, hk, rfl, hown, hb⟩ := hrel
    have hB := hb.size
    have hcv := ownsRow_string hown 47 9 Tryd.underlying47 Tryd.underlying5 Tryd.underlying9
    go_wp2_with ((at_builtin; refine wpList_append_one _ rfl _ _ 47 rfl w.heap.size 5 Tryd.underlying47 infoU8 rfl (by decide) rfl hown rfl rfl (by omega) hB ?_; intro v' w1 hown1 hg1 hb1))
    iterate 3
      · go_roundw
        case rel =>
          have hlt : k < s.size := by assumption
          refine ⟨k + 1, by omega, by go_num, ?_, hb.trans hb1⟩
          rw [take_succ_list s k hlt, lower_snoc, List.map_append]
          have e := low_any s[k]
          first
            | (rw [if_pos (by omega)] at e; simpa [byteV, e] using hown1)
            | (rw [if_neg (by omega)] at e; simpa [byteV, e] using hown1)
        case measure => simp [intOf]; omega
    · have hlt : ¬ k < s.size := by assumption
      go_ret
      refine ⟨ret_str ?_, hb⟩
      rw [take_all s k hlt]
end Go.Proofs.YtbjgbkbhalibdaaDoor
