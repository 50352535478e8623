/-
  The walks of the statements of layer 8: text, digits of a number.
-/
import Derived.Test.YthokpbpnecdgpaaDoorPureAll2
import Derived.Test.YthokpbpnecdgpaaDoorInfo
import Derived.Deep.RegionWith
import Derived.IntWalk
namespace Go.Proofs.YthokpbpnecdgpaaDoor
open Go.RowKit Go.Pantry

set_option maxRecDepth 4000 in
theorem text_any (f : Nat) : ∀ (n : Nat) (z : Int) (w : World), z = (n : Int) → n < 10 ^ (f + 1) → f ≤ 17 →
    Calls Tryd.prog 13 #[.int .i64 z] w fun e w' => e = .returned (strV (digF (f + 1) n)) ∧ Below w.heap.size w w' := by
  induction f with
  | zero =>
    intro n z w hz h _
    subst hz
    simp at h
    have hcv := run_one_byte (P := Tryd.prog) 31 9 5 Tryd.underlying31 Tryd.underlying5 Tryd.underlying9 (w.alloc (.cells #[.int .u8 (48 + (n : Int))] 5)) w.heap.size (48 + (n : Int)) (World.cell?_alloc_at _ _ _ _ rfl)
    go_enter Tryd.func13, Tryd.ntmps13
    go_wp2
    go_ret
    refine ⟨ret_str ?_, below_alloc _ _⟩
    rw [digF, if_pos (by omega)]
  | succ f ih =>
    intro n z w hz h hf
    subst hz
    by_cases hn : n < 10
    · have hcv := run_one_byte (P := Tryd.prog) 31 9 5 Tryd.underlying31 Tryd.underlying5 Tryd.underlying9 (w.alloc (.cells #[.int .u8 (48 + (n : Int))] 5)) w.heap.size (48 + (n : Int)) (World.cell?_alloc_at _ _ _ _ rfl)
      clear h ih
      go_enter Tryd.func13, Tryd.ntmps13
      go_wp2
      go_ret
      refine ⟨ret_str ?_, below_alloc _ _⟩
      rw [digF, if_pos (by omega)]
    · have h1 : n / 10 < 10 ^ (f + 1) := by rw [Nat.pow_succ] at h; omega
      have hnb : n < 1000000000000000000 := Nat.lt_of_lt_of_le h (by
        have := Nat.pow_le_pow_right (n := 10) (by decide) (show f + 1 + 1 ≤ 18 by omega)
        simpa using this)
      have hadd := fun (W : World) (y : UInt8) => run_string_add_lists (P := Tryd.prog) W (digF (f + 1) (n / 10)) [y] (by have := digF_len (f + 1) (n / 10); omega) (by simp)
      have IH := hid ih
      have H1 := hid h1
      clear h h1 ih
      have hcv := fun (W : World) (b : Nat) (c : Int) => run_one_byte (P := Tryd.prog) 31 9 5 Tryd.underlying31 Tryd.underlying5 Tryd.underlying9 W b c
      have w1 : IntKind.i64.wrap ((n : Int) / 10) = (n : Int) / 10 := IntWalk.i64_in _ (by omega)
      go_enter Tryd.func13, Tryd.ntmps13
      go_wp2_with fail
      go_region_with (go_at_call 13; go_must (refine (IH.out (n / 10) _ _ (by omega) H1.out (by omega)).mono ?_); rintro e w' ⟨rfl, hb⟩; first | have hcc := kept_new hb rfl | skip)
      all_goals go_wp2
      all_goals go_ret
      all_goals
        refine ⟨ret_str ?_, ?_⟩
        · rw [digit_byte, show digF (f + 1 + 1) n = digF (f + 1) (n / 10) ++ [(48 + n % 10).toUInt8] from by rw [digF, if_neg hn]]
        · first
            | exact (below_of_drew hb).alloc (below_of_drew hb).size _
            | exact below_of_new hb
            | exact below_of_drew hb
end Go.Proofs.YthokpbpnecdgpaaDoor
