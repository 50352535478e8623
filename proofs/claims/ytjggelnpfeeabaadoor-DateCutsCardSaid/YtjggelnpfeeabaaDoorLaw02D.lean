/-
  The walk of the statement DateCuts.
-/
import Derived.Test.YtjggelnpfeeabaaDoorLaw02A
namespace Go.Proofs.YtjggelnpfeeabaaDoor
open Go.RowKit Go.Pantry

theorem dateCuts_walk (t cut : Int) (more : ByteArray) (w : World) (hT : Tables w) (hm : more.size ≤ maxLen) :
    Calls Tryd.prog 9 #[.int .i64 t, .int .i64 cut, .string more] w fun e w' => e = .returned (.bool true) ∧ Below w.heap.size w w' := by
  unfold maxLen at hm
  by_cases hv : t < 0 ∨ 253402300799 < t
  · have HV := hid hv
    clear hv
    go_enter Tryd.func9, Tryd.ntmps9
    go_wp2_with fail
    refine (anchor_any _ hT).mono ?_
    rintro e w1 ⟨rfl, hb⟩
    go_wp2_with fail
    refine (Show_no t _ HV.out).mono ?_
    rintro e w2 ⟨rfl, rfl⟩
    go_wp2_with fail
    go_ret
    exact ⟨rfl, hb⟩
  · have h0 : 0 ≤ t := by omega
    have h1 : t ≤ 253402300799 := by omega
    have hl := showL_len t h0 h1
    have HR := hid (readL_show t h0 h1)
    obtain ⟨l, hle⟩ : ∃ l, showL t = l := ⟨_, rfl⟩
    have c1 := fun W h => Show_yes t W h0 h1 h
    rw [hle] at hl HR c1
    have C1 := hid c1
    clear hle hv c1
    by_cases hg : cut < 0 ∨ 100 < (more.size : Int)
    · have hg' : cut < 0 ∨ (0 ≤ cut ∧ 100 < (more.size : Int)) := by omega
      clear hg
      have HL := hid hl
      clear hl
      rcases hg' with a | ⟨a, b⟩
      all_goals
        go_enter Tryd.func9, Tryd.ntmps9
        go_wp2_with fail
        refine (anchor_any _ hT).mono ?_
        rintro e w1 ⟨rfl, hb⟩
        have hT1 := hT.below hb hT.lt
        go_wp2_with fail
        refine (C1.out _ hT1).mono ?_
        rintro e w2 ⟨rfl, hb2⟩
        replace hb := chainB hb hb.size hb2
        clear hb2 hT1
        go_wp2_with fail
        go_ret
        exact ⟨rfl, hb⟩
    · have a : 0 ≤ cut := by omega
      have b : (more.size : Int) ≤ 100 := by omega
      clear hg
      obtain ⟨S, hS⟩ : ∃ S : ByteArray, S = ⟨l.toArray⟩ := ⟨_, rfl⟩
      have hSl : S.data.toList = l := by rw [hS]
      have hSz : S.size = 29 := by rw [← size_list, hSl, hl]
      have hz : (S.size : Int) = 29 := by omega
      have hc0 : 0 ≤ cut % 29 := by omega
      have hc1 : cut % 29 < 29 := by omega
      have hc2 : cut % 29 ≤ (S.size : Int) := by omega
      have hsum := fun W : World => run_string_add_sum (P := Tryd.prog) W S more (by omega)
      have hcut : (((S.extract 0 (cut % 29).toNat).size : Nat) : Int) ≠ 29 := by
        rw [← size_list, Lib.extract_eq]
        simp
        omega
      have c1 := C1.out
      rw [show strV l = .string S by rw [hS]] at c1
      have C1' := hid c1
      have HC := hid hcut
      have HSl := hid hSl
      clear hS c1 C1 hcut hSl hSz hl
      have hz1 : (29 : Int) ≤ (S.size : Int) := by omega
      have HZ := hid hz
      clear hz
      go_enter Tryd.func9, Tryd.ntmps9
      go_wp2_with fail
      refine (anchor_any _ hT).mono ?_
      rintro e w1 ⟨rfl, hb⟩
      have hT1 := hT.below hb hT.lt
      go_wp2_with fail
      refine (C1'.out _ hT1).mono ?_
      rintro e w2 ⟨rfl, hb2⟩
      have hT2 := hT1.below hb2 hT1.lt
      replace hb := chainB hb hb.size hb2
      clear hb2 hT1
      go_wp2_with fail
      refine (Read_short _ _ HC.out).mono ?_
      rintro e w3 ⟨rfl, rfl⟩
      go_wp2_with fail
      clear hsum
      by_cases hm0 : more.size = 0
      · have hn : more.data.toList = [] := List.eq_nil_of_length_eq_zero (by rw [size_list]; exact hm0)
        have hSm : S ++ more = S := by
          apply bytes_ext
          simp [hn]
        have hemp : more.toList.isEmpty = true := by rw [Lib.toList_data, hn]; rfl
        have hRS : readL (S ++ more).data.toList = some t := by rw [hSm, HSl.out]; exact HR.out
        clear hn hSm hm0
        refine (Read_some _ t _ hT2 hRS).mono ?_
        rintro e w4 ⟨rfl, hb4⟩
        replace hb := chainB hb hb.size hb4
        clear hb4 hRS
        go_wp2_with fail
        go_ret
        exact ⟨rfl, hb⟩
      · have hSm : (((S ++ more).size : Nat) : Int) ≠ 29 := by
          have := HZ.out
          rw [ByteArray.size_append]
          omega
        have hemp : more.toList.isEmpty = false := by
          rw [Lib.toList_data]
          have := drop_cons more 0 (by omega)
          simp at this
          rw [this]; rfl
        refine (Read_short _ _ hSm).mono ?_
        rintro e w4 ⟨rfl, rfl⟩
        clear hSm hm0
        go_wp2_with fail
        go_ret
        exact ⟨rfl, hb⟩
end Go.Proofs.YtjggelnpfeeabaaDoor
