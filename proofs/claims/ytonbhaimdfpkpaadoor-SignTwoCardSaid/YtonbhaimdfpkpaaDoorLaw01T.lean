/-
  The walk of the statement SignTwo.
-/
import Derived.Test.YtonbhaimdfpkpaaDoorLaw01W
import Derived.Test.YtonbhaimdfpkpaaDoorPureTwo
namespace Go.Proofs.YtonbhaimdfpkpaaDoor
open Go.RowKit Go.Pantry

theorem signTwo_walk (s t : ByteArray) (w : World) (hs : s.size ≤ maxLen) (ht : t.size ≤ maxLen) :
    Calls Tryd.prog 10 #[.string s, .string t] w fun e w' => e = .returned (.bool true) ∧ Below w.heap.size w w' := by
  unfold maxLen at hs ht
  by_cases h1 : 500 < (s.size : Int) ∨ 500 < (t.size : Int)
  · by_cases h1a : 500 < (s.size : Int)
    · go_enter Tryd.func10, Tryd.ntmps10
      go_wp2_with (go_at_call 11; refine (anchor_any _).mono ?_; rintro e w1 ⟨rfl, HB⟩)
      go_ret
      exact ⟨rfl, HB⟩
    · have h2 : 500 < (t.size : Int) := by omega
      go_enter Tryd.func10, Tryd.ntmps10
      go_wp2_with (go_at_call 11; refine (anchor_any _).mono ?_; rintro e w1 ⟨rfl, HB⟩)
      go_ret
      exact ⟨rfl, HB⟩
  · have h1a : ¬ 500 < (s.size : Int) := by omega
    have h2 : ¬ 500 < (t.size : Int) := by omega
    clear h1
    go_enter Tryd.func10, Tryd.ntmps10
    go_wp2_with (go_at_call 11; refine (anchor_any _).mono ?_; rintro e w1 ⟨rfl, HB⟩)
    go_loop [18] (fun i => ∃ k : Nat, k ≤ s.size ∧ i = .int .i64 k ∧ (34 : UInt8) ∉ s.data.toList.take k) (fun i => s.size - (intOf i).toNat)
    case atStart => exact ⟨0, Nat.zero_le _, rfl, by simp⟩
    case round =>
      obtain ⟨k, hk, rfl, hq⟩ := hrel
      have HQ := hid hq
      clear hq
      by_cases hlt : k < s.size
      · go_wp2
        · go_ret
          exact ⟨rfl, HB⟩
        · have hne : s[k] ≠ 34 := byte_no 34 (z := 34) (by assumption) rfl
          go_round
          case rel =>
            refine ⟨k + 1, by omega, by go_num, ?_⟩
            rw [take_succ_list s k hlt]
            intro e
            rcases List.mem_append.1 e with e | e
            · exact HQ.out e
            · exact hne (List.mem_singleton.1 e).symm
          case measure => simp [intOf]; omega
      · have hl2 : Hid (listL (s.data.toList ++ 44 :: t.data.toList) = listL s.data.toList ++ listL t.data.toList) := by
          have h := HQ.out
          rw [take_all s k hlt] at h
          exact listL_two _ _ _ (Nat.le_refl _) h
        clear HQ
        have ha1 := fun (W : World) => run_string_add_sum (P := Tryd.prog) W s ⟨#[44]⟩ (by rw [show (⟨#[44]⟩ : ByteArray).size = 1 from rfl]; omega)
        have hsz : (s ++ (⟨#[44]⟩ : ByteArray)).size = s.size + 1 := by rw [ByteArray.size_append]; rfl
        have ha2 := fun (W : World) => run_string_add_sum (P := Tryd.prog) W (s ++ ⟨#[44]⟩) t (by omega)
        have hd : (s ++ (⟨#[44]⟩ : ByteArray) ++ t).data.toList = s.data.toList ++ 44 :: t.data.toList := by simp
        have hzz : (s ++ (⟨#[44]⟩ : ByteArray) ++ t).size = s.size + 1 + t.size := by rw [ByteArray.size_append, hsz]
        obtain ⟨u, hu⟩ : ∃ u, s ++ (⟨#[44]⟩ : ByteArray) ++ t = u := ⟨_, rfl⟩
        rw [hu] at ha2 hd hzz
        have HZ := hid hzz
        have cu := fun w => List_any u w (by omega)
        rw [hd, hl2.out] at cu
        have CU := hid cu
        clear hu hd hzz cu hsz
        have n1 := listL_len s.data.toList
        have n2 := listL_len t.data.toList
        rw [size_list] at n1 n2
        go_wp2_with fail
        refine (CU.out _).mono ?_
        rintro e w2 ⟨v1, rfl, ho1, hb1⟩
        replace HB := chain HB hb1
        have hr1 := ho1.reads
        have hsz2 := HB.size
        clear ho1 hb1
        go_wp2_with fail
        refine (List_any s _ (by omega)).mono ?_
        rintro e w3 ⟨v2, rfl, ho2, hb2⟩
        replace HB := chain HB hb2
        go_wp2_with fail
        refine (List_any t _ (by omega)).mono ?_
        rintro e w4 ⟨v3, rfl, ho3, hb3⟩
        replace HB := chain HB hb3
        have hb24 := chain hb2 hb3
        have ho2' := ho2.below hb3
        have hr3 := ho3.reads
        clear ho3 ho2 hb2 hb3
        have hb24s := hb24.size
        go_wp2_with ((at_builtin; go_must (refine wpList_append_all _ rfl _ _ 26 rfl w2.heap.size 9 Tryd.underlying26 infoStr rfl (by decide) rfl ho2' hr3 (strs_oneCell _) rfl (by rw [List.length_map]; omega) hb24s ?_); intro v5 w5 ho5 hg5 hb5))
        have hr5 := ho5.reads
        rw [← List.map_append] at hr5
        have hr1' := hr1.below (hb24.trans hb5)
        have hb5' := HB.trans (hb5.mono (by omega))
        clear hr1 HB hb24 ho5 hg5 hb5
        go_wp2_with fail
        refine (same_any _ _ _ _ _ hr1' hr5 (by simp; omega)).mono ?_
        rintro e w6 ⟨rfl, rfl⟩
        go_wp2_with fail
        go_ret
        exact ⟨ret_bool (by simp), hb5'⟩
end Go.Proofs.YtonbhaimdfpkpaaDoor
