/-
  The walks of the statements of layer 6: digits.
-/
import Derived.Test.YtefplhkjcclppaaDoorPureAll2
import Derived.Test.YtefplhkjcclppaaDoorInfo
import Derived.Deep.RegionWith
import Derived.IntWalk
namespace Go.Proofs.YtefplhkjcclppaaDoor
open Go.RowKit Go.Pantry

set_option maxRecDepth 4000 in
theorem digits_any (f : Nat) : ∀ (n : Nat) (z : Int) (w : World), z = (n : Int) → n < 10 ^ (f + 1) → f ≤ 17 →
    Calls Tryd.prog 8 #[.int .i64 z] w fun e w' => e = .returned (strV (digF (f + 1) n)) ∧ Below w.heap.size w w' := by
  induction f with
  | zero =>
    intro n z w hz h _
    subst hz
    simp at h
    have hcv := run_one_byte (P := Tryd.prog) 41 9 5 Tryd.underlying41 Tryd.underlying5 Tryd.underlying9 (w.alloc (.cells #[.int .u8 (48 + (n : Int))] 5)) w.heap.size (48 + (n : Int)) (World.cell?_alloc_at _ _ _ _ rfl)
    go_enter Tryd.func8, Tryd.ntmps8
    go_wp2
    go_ret
    refine ⟨ret_str ?_, below_alloc _ _⟩
    rw [digF, if_pos (by omega)]
  | succ f ih =>
    intro n z w hz h hf
    subst hz
    by_cases hn : n < 10
    · have hcv := run_one_byte (P := Tryd.prog) 41 9 5 Tryd.underlying41 Tryd.underlying5 Tryd.underlying9 (w.alloc (.cells #[.int .u8 (48 + (n : Int))] 5)) w.heap.size (48 + (n : Int)) (World.cell?_alloc_at _ _ _ _ rfl)
      clear h ih
      go_enter Tryd.func8, Tryd.ntmps8
      go_wp2
      go_ret
      refine ⟨ret_str ?_, below_alloc _ _⟩
      rw [digF, if_pos (by omega)]
    · have h1 : n / 10 < 10 ^ (f + 1) := by rw [Nat.pow_succ] at h; omega
      have hnb : n < 1000000000000000000 := Nat.lt_of_lt_of_le h (by
        have := Nat.pow_le_pow_right (n := 10) (by decide) (show f + 1 + 1 ≤ 18 by omega)
        simpa using this)
      have hadd := fun (W : World) (y : UInt8) => run_string_add_lists (P := Tryd.prog) W (digF (f + 1) (n / 10)) [y] (by have := digF_len (f + 1) (n / 10); omega) (by simp)
      have IH := hid ih
      have H1 := hid h1
      clear h h1 ih
      have hcv := fun (W : World) (b : Nat) (c : Int) => run_one_byte (P := Tryd.prog) 41 9 5 Tryd.underlying41 Tryd.underlying5 Tryd.underlying9 W b c
      have w1 : IntKind.i64.wrap ((n : Int) / 10) = (n : Int) / 10 := IntWalk.i64_in _ (by omega)
      go_enter Tryd.func8, Tryd.ntmps8
      go_wp2_with fail
      go_region_with (go_at_call 8; go_must (refine (IH.out (n / 10) _ _ (by omega) H1.out (by omega)).mono ?_); rintro e w' ⟨rfl, hb⟩; first | have hcc := kept_new hb rfl | skip)
      all_goals go_wp2
      all_goals go_ret
      all_goals
        refine ⟨ret_str ?_, ?_⟩
        · rw [digit_byte, show digF (f + 1 + 1) n = digF (f + 1) (n / 10) ++ [(48 + n % 10).toUInt8] from by rw [digF, if_neg hn]]
        · first
            | exact (below_of_drew hb).alloc (below_of_drew hb).size _
            | exact below_of_new hb
            | exact below_of_drew hb
set_option maxRecDepth 100000 in
set_option maxHeartbeats 4000000 in
theorem length_any (n : Nat) (hn : n ≤ 2000) (w : World) :
    Calls Tryd.prog 7 #[.int .i64 (n : Int)] w fun e w' => e = .returned (.agg #[strV clL, strV (digF 5 n)]) ∧ Below w.heap.size w w' := by
  obtain ⟨W0, hW0⟩ : ∃ W, W = w.alloc (.cells #[.string ⟨#[]⟩, .string ⟨#[]⟩] 28) := ⟨_, rfl⟩
  have hb0 : Below w.heap.size w W0 := by rw [hW0]; exact below_alloc _ _
  have hr0 : rowIs W0 w.heap.size #[.string ⟨#[]⟩, .string ⟨#[]⟩] 28 := by rw [hW0]; exact rowIs_new _ _ _
  have C1 := hid (fun W => digits_any 4 n (n : Int) W rfl (by omega) (by decide))
  go_enter Tryd.func7, Tryd.ntmps7
  go_wp2_with fail
  rw [← hW0]
  clear hW0
  refine (C1.out _).mono ?_
  rintro e w1 ⟨rfl, hb1⟩
  have hr1 := hr0.below hb1
  have hbb := chain2 hb0 hb0.size hb1
  clear hr0 hb0 hb1 C1
  have hi : (Tryd.prog.info? 28).map (·.size) = some 2 := by kernel_rfl
  have h1 : (#[strV clL, strV (digF 5 n)] : Array Value).all (·.oneCell') = true := by simp [Value.oneCell']
  go_wp2_with (refine wpList_store_row rfl 28 _ _ rfl w.heap.size _ rfl rfl 28 #[.string ⟨#[]⟩, .string ⟨#[]⟩] hr1 hi rfl h1 ?_)
  refine bodyPost_ret (results_row Tryd.results7 _ _ w.heap.size _ rfl (hr1.setRow _) Tryd.underlying28 rfl hi) rfl ?_
  exact ⟨rfl, below_setRow hbb (Nat.le_refl _) _⟩
end Go.Proofs.YtefplhkjcclppaaDoor
