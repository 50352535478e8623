/-
  The walk of the statement SignDigits.
-/
import Derived.Test.YtonbhaimdfpkpaaDoorLaw01W
import Derived.Test.YtonbhaimdfpkpaaDoorPureDig
namespace Go.Proofs.YtonbhaimdfpkpaaDoor
open Go.RowKit Go.Pantry

set_option maxRecDepth 100000 in
theorem signDigits_walk (n z d : Int) (w : World) (_wn : (Lit.int .i64 n).wf = true) (_wz : (Lit.int .i64 z).wf = true) (_wd : (Lit.int .i64 d).wf = true) :
    Calls Tryd.prog 8 #[.int .i64 n, .int .i64 z, .int .i64 d] w fun e w' => e = .returned (.bool true) ∧ Below w.heap.size w w' := by
  clear _wn _wz _wd
  by_cases hin : 0 ≤ n ∧ n ≤ 1099511627776 ∧ 0 ≤ z ∧ z ≤ 50 ∧ 0 ≤ d ∧ d ≤ 9
  · obtain ⟨a1, a2, a3, a4, a5, a6⟩ := hin
    obtain ⟨N, rfl⟩ := Int.eq_ofNat_of_zero_le a1
    obtain ⟨Z, rfl⟩ := Int.eq_ofNat_of_zero_le a3
    obtain ⟨D, rfl⟩ := Int.eq_ofNat_of_zero_le a5
    go_enter Tryd.func8, Tryd.ntmps8
    go_wp2_with (first
        | (go_at_call 11; refine (anchor_any _).mono ?_; rintro e w1 ⟨rfl, HB⟩)
        | (go_at_call 26; go_must (refine (digits_any 12 N _ _ rfl (by omega) (by omega)).mono ?_); rintro e w2 ⟨rfl, hb⟩; replace HB := chain HB hb; clear hb))
    go_loop [7, 39] (fun s i => ∃ k : Nat, k ≤ Z ∧ i = .int .i64 k ∧ s = strV (List.replicate k 48 ++ digF 13 N)) (fun _ i => Z - (intOf i).toNat)
    case atStart => exact ⟨0, Nat.zero_le _, rfl, rfl⟩
    case round =>
      obtain ⟨k, hk, rfl, rfl⟩ := hrel
      have hdl := digF_len 13 N
      by_cases hlt : k < Z
      · have hadd := fun (W : World) => run_string_add_lists (P := Tryd.prog) W [48] (List.replicate k 48 ++ digF 13 N) (by simp) (by simp; omega)
        go_wp2
        go_round
        case rel => exact ⟨k + 1, by omega, by go_num, by rw [List.replicate_succ]; rfl⟩
        case measure => simp [intOf]; omega
      · obtain rfl : k = Z := by omega
        have c1 := number_zeros k N (by omega)
        have c2 := number_more k N D (by omega) (by omega)
        obtain ⟨l, hl⟩ : ∃ l, List.replicate k 48 ++ digF 13 N = l := ⟨_, rfl⟩
        have hll : l.length ≤ 63 := by rw [← hl]; simp; omega
        rw [hl] at c1 c2 ⊢
        clear hl hdl
        have hcv := run_one_byte (P := Tryd.prog) 36 9 5 Tryd.underlying36 Tryd.underlying5 Tryd.underlying9 (w2.alloc (.cells #[.int .u8 (48 + (D : Int))] 5)) w2.heap.size (48 + (D : Int)) (World.cell?_alloc_at _ _ _ _ rfl)
        have e1 : UInt8.ofNat (48 + (D : Int)).toNat = (48 + D).toUInt8 := by
          have : (48 + (D : Int)).toNat = 48 + D := by omega
          rw [this]
        obtain ⟨x, hx⟩ : ∃ x, (48 + D).toUInt8 = x := ⟨_, rfl⟩
        rw [hx] at e1 c2
        rw [e1] at hcv
        clear hx
        have hadd := fun (W : World) => run_string_add_lists (P := Tryd.prog) W l [x] (by omega) (by simp)
        have C1 := hid c1
        have C2 := hid c2
        clear c1 c2 e1
        go_wp2_with fail
        refine (Number_any _ _ (by simp [ByteArray.size]; omega)).mono ?_
        have e : (⟨l.toArray⟩ : ByteArray).data.toList = l := by simp
        rw [e, C1.out]
        rintro e w3 ⟨rfl, rfl⟩
        go_wp2_with fail
        refine (Number_any _ _ (by simp [ByteArray.size]; omega)).mono ?_
        have e : (⟨(l ++ [x]).toArray⟩ : ByteArray).data.toList = l ++ [x] := by simp
        rw [e, C2.out]
        rintro e w3 ⟨rfl, rfl⟩
        clear hcv hadd
        go_wp2_with fail
        go_ret
        exact ⟨ret_bool (by simp; omega), HB.alloc HB.size _⟩
  · go_enter Tryd.func8, Tryd.ntmps8
    go_wp2_with (first
        | (go_at_call 11; refine (anchor_any _).mono ?_; rintro e w1 ⟨rfl, HB⟩))
    all_goals go_ret
    all_goals exact ⟨rfl, HB⟩
end Go.Proofs.YtonbhaimdfpkpaaDoor
