/-
  The statements' anchor, layer 1.
-/
import Derived.Test.YtonbhaimdfpkpaaDoorLaw01A
import Derived.Deep.RegionWith
import Derived.IntWalk
namespace Go.Proofs.YtonbhaimdfpkpaaDoor
open Go.RowKit Go.Pantry

theorem anchor_unquote (w : World) :
    Calls Tryd.prog 22 #[.string ⟨#[34, 97, 92, 34, 98, 34]⟩] w fun e w' => e = .returned (.tuple #[.string ⟨#[97, 34, 98]⟩, .bool true]) ∧ Below w.heap.size w w' := by
  refine (Unquote_any _ _ (by decide)).mono ?_
  rintro e w' ⟨rfl, hb⟩
  refine ⟨?_, hb⟩
  have h : unquoteL (⟨#[34, 97, 92, 34, 98, 34]⟩ : ByteArray).data.toList = some [97, 34, 98] := by decide +kernel
  rw [h]; rfl
theorem anchor_number (w : World) :
    Calls Tryd.prog 24 #[.string ⟨#[48, 48, 48, 49, 50]⟩] w fun e w' => e = .returned (.tuple #[.int .i64 12, .bool true]) ∧ w = w' := by
  refine (Number_any _ _ (by decide)).mono ?_
  rintro e w' ⟨rfl, hb⟩
  refine ⟨?_, hb⟩
  have h : numberL (⟨#[48, 48, 48, 49, 50]⟩ : ByteArray).data.toList = some 12 := by decide +kernel
  rw [h]; rfl
theorem anchor_list (w : World) :
    Calls Tryd.prog 19 #[.string ⟨#[97, 44, 32, 34, 98, 44, 99, 34, 32, 44, 44, 32, 100]⟩] w fun e w' => ∃ v, e = .returned v ∧ Reads w' v (([[97], [34, 98, 44, 99, 34], [100]] : List (List UInt8)).map strV) ∧ Below w.heap.size w w' := by
  refine (List_any _ _ (by decide)).mono ?_
  rintro e w' ⟨v, rfl, ho, hb⟩
  refine ⟨v, rfl, ?_, hb⟩
  have h : listL (⟨#[97, 44, 32, 34, 98, 44, 99, 34, 32, 44, 44, 32, 100]⟩ : ByteArray).data.toList = [[97], [34, 98, 44, 99, 34], [100]] := by decide +kernel
  rw [h] at ho
  exact ho.reads

theorem anchor_any (w : World) :
    Calls Tryd.prog 11 #[] w fun e w' => e = .returned (.bool true) ∧ Below w.heap.size w w' := by
  go_enter Tryd.func11, Tryd.ntmps11
  go_wp2_with fail
  refine (anchor_unquote _).mono ?_
  rintro e w1 ⟨rfl, hb1⟩
  go_wp2_with fail
  refine (anchor_number _).mono ?_
  rintro e w' ⟨rfl, rfl⟩
  go_wp2_with fail
  refine (anchor_list _).mono ?_
  rintro e w2 ⟨v, rfl, hr, hb2⟩
  have hb := hb1.trans (hb2.mono hb1.size)
  clear hb1 hb2
  go_wp2_with fail
  refine (same_any _ _ [[97], [34, 98, 44, 99, 34], [100]] [[97], [34, 98, 44, 99, 34], [100]] _ (hr.below (below_alloc _ _)) (reads_new w2 (([[97], [34, 98, 44, 99, 34], [100]] : List (List UInt8)).map strV) _ _) (by decide)).mono ?_
  rintro e w' ⟨rfl, rfl⟩
  have hs : (([[97], [34, 98, 44, 99, 34], [100]] : List (List UInt8)) == [[97], [34, 98, 44, 99, 34], [100]]) = true := by decide
  rw [hs]
  go_wp2
  go_ret
  exact ⟨rfl, hb.alloc hb.size _⟩

theorem digits_any (f : Nat) : ∀ (n : Nat) (z : Int) (w : World), z = (n : Int) → n < 10 ^ (f + 1) → f ≤ 17 →
    Calls Tryd.prog 26 #[.int .i64 z] w fun e w' => e = .returned (strV (digF (f + 1) n)) ∧ Below w.heap.size w w' := by
  induction f with
  | zero =>
    intro n z w hz h _
    subst hz
    simp at h
    have hcv := run_one_byte (P := Tryd.prog) 36 9 5 Tryd.underlying36 Tryd.underlying5 Tryd.underlying9 (w.alloc (.cells #[.int .u8 (48 + (n : Int))] 5)) w.heap.size (48 + (n : Int)) (World.cell?_alloc_at _ _ _ _ rfl)
    go_enter Tryd.func26, Tryd.ntmps26
    go_wp2
    go_ret
    refine ⟨ret_str ?_, below_alloc _ _⟩
    rw [digF, if_pos (by omega)]
  | succ f ih =>
    intro n z w hz h hf
    subst hz
    by_cases hn : n < 10
    · have hcv := run_one_byte (P := Tryd.prog) 36 9 5 Tryd.underlying36 Tryd.underlying5 Tryd.underlying9 (w.alloc (.cells #[.int .u8 (48 + (n : Int))] 5)) w.heap.size (48 + (n : Int)) (World.cell?_alloc_at _ _ _ _ rfl)
      clear h ih
      go_enter Tryd.func26, Tryd.ntmps26
      go_wp2
      go_ret
      refine ⟨ret_str ?_, below_alloc _ _⟩
      rw [digF, if_pos (by omega)]
    · have h1 : n / 10 < 10 ^ (f + 1) := by rw [Nat.pow_succ] at h; omega
      have hnb : n < 1000000000000000000 := Nat.lt_of_lt_of_le h (by
        have := Nat.pow_le_pow_right (n := 10) (by decide) (show f + 1 + 1 ≤ 18 by omega)
        simpa using this)
      have hadd := fun (W : World) (y : UInt8) => run_string_add_lists (P := Tryd.prog) W (digF (f + 1) (n / 10)) [y] (by have := digF_len (f + 1) (n / 10); omega) (by simp)
      have IH := hid ih
      have H1 := hid h1
      clear h h1 ih
      have hcv := fun (W : World) (b : Nat) (c : Int) => run_one_byte (P := Tryd.prog) 36 9 5 Tryd.underlying36 Tryd.underlying5 Tryd.underlying9 W b c
      have w1 : IntKind.i64.wrap ((n : Int) / 10) = (n : Int) / 10 := IntWalk.i64_in _ (by omega)
      go_enter Tryd.func26, Tryd.ntmps26
      go_wp2_with fail
      go_region_with (go_at_call 26; go_must (refine (IH.out (n / 10) _ _ (by omega) H1.out (by omega)).mono ?_); rintro e w' ⟨rfl, hb⟩; first | have hcc := kept_new hb rfl | skip)
      all_goals go_wp2
      all_goals go_ret
      all_goals
        refine ⟨ret_str ?_, ?_⟩
        · rw [digit_byte, show digF (f + 1 + 1) n = digF (f + 1) (n / 10) ++ [(48 + n % 10).toUInt8] from by rw [digF, if_neg hn]]
        · first
            | exact (below_of_drew hb).alloc (below_of_drew hb).size _
            | exact below_of_new hb
            | exact below_of_drew hb
end Go.Proofs.YtonbhaimdfpkpaaDoor
