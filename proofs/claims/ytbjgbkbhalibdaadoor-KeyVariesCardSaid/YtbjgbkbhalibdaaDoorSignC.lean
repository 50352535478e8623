/-
  Contracts of package sign: quotesEnd, elementEnd.
-/
import Derived.Test.YtbjgbkbhalibdaaDoorSignB
import Derived.Test.YtbjgbkbhalibdaaDoorPureAll1
namespace Go.Proofs.YtbjgbkbhalibdaaDoor
open Go.RowKit Go.Pantry

theorem quotesEnd_any (s : ByteArray) (i : Nat) (w : World) (hs : s.size ≤ 140737488351232) (hi : i ≤ s.size) :
    Calls Tryd.prog 60 #[.string s, .int .i64 (i : Int)] w fun e w' => e = .returned (.int .i64 ((i + qe (s.data.toList.drop i) : Nat) : Int)) ∧ w = w' := by
  obtain ⟨r, hr⟩ : ∃ r, r = i + qe (s.data.toList.drop i) := ⟨_, rfl⟩
  rw [← hr]
  have HR := hid hr
  clear hr
  go_enter Tryd.func60, Tryd.ntmps60
  go_wp2
  go_loop [1] (fun v => ∃ k : Nat, k ≤ s.size + 1 ∧ v = .int .i64 k ∧ (k ≤ s.size → r = k + qe (s.data.toList.drop k)) ∧ (s.size < k → r = s.size)) (fun v => s.size + 1 - (intOf v).toNat)
  case atStart => exact ⟨i, by omega, rfl, fun _ => HR.out, fun h => by omega⟩
  case round =>
    obtain ⟨k, hk, rfl, h1, h2⟩ := hrel
    have H1 := hid h1
    have H2 := hid h2
    clear h1 h2
    by_cases hlt : k < s.size
    · have hd := hid (drop_cons s k hlt)
      go_wp2
      · have e : s[k] = 34 := byte_yes 34 (z := 34) (by assumption) rfl
        go_ret
        refine ⟨ret_int ?_, rfl⟩
        rw [H1.out (by omega), hd.out, e, qe_quote]; omega
      · have e : s[k] = 92 := byte_yes 92 (z := 92) (by assumption) rfl
        go_round
        case rel =>
          refine ⟨k + 2, by omega, by go_num, fun h => ?_, fun h => ?_⟩
          · rw [H1.out (by omega), hd.out, e, drop_cons s (k + 1) (by omega), qe_back, Nat.add_assoc]; omega
          · rw [H1.out (by omega), hd.out, e, drop_nil s (k + 1) (by omega)]; simp [qe]; omega
        case measure => simp [intOf]; omega
      · have e1 : s[k] ≠ 34 := byte_no 34 (z := 34) (by assumption) rfl
        have e2 : s[k] ≠ 92 := byte_no 92 (z := 92) (by assumption) rfl
        go_round
        case rel =>
          refine ⟨k + 1, by omega, by go_num, fun h => ?_, fun h => by omega⟩
          rw [H1.out (by omega), hd.out, qe_other _ _ e1 e2]; omega
        case measure => simp [intOf]; omega
    · go_wp2
      go_ret
      refine ⟨ret_int ?_, rfl⟩
      by_cases e : k ≤ s.size
      · rw [H1.out e, drop_nil s k hlt]; simp [qe]; omega
      · rw [H2.out (by omega)]

theorem elementEnd_any (s : ByteArray) (i : Nat) (w : World) (hs : s.size ≤ 140737488351232) (hi : i ≤ s.size) :
    Calls Tryd.prog 44 #[.string s, .int .i64 (i : Int)] w fun e w' => e = .returned (.int .i64 ((i + cut false false (s.data.toList.drop i) : Nat) : Int)) ∧ w = w' := by
  obtain ⟨r, hr⟩ : ∃ r, r = i + cut false false (s.data.toList.drop i) := ⟨_, rfl⟩
  rw [← hr]
  have HR := hid hr
  clear hr
  go_enter Tryd.func44, Tryd.ntmps44
  go_wp2
  go_loop [1] (fun v => ∃ k : Nat, k ≤ s.size ∧ v = .int .i64 k ∧ r = k + cut false false (s.data.toList.drop k)) (fun v => s.size - (intOf v).toNat)
  case atStart => exact ⟨i, by omega, rfl, HR.out⟩
  case round =>
    obtain ⟨k, hk, rfl, h1⟩ := hrel
    have H1 := hid h1
    clear h1
    by_cases hlt : k < s.size
    · have hd := hid (drop_cons s k hlt)
      have hq : k + 1 + qe (s.data.toList.drop (k + 1)) ≤ s.size := by
        have := qe_le _ (s.data.toList.drop (k + 1)) (Nat.le_refl _)
        rw [List.length_drop, size_list] at this; omega
      have ek : ((k + 1 : Nat) : Int) = (k : Int) + 1 := by omega
      go_wp2_with (go_at_call 60; rw [← ek]; refine (quotesEnd_any s (k + 1) _ hs (by omega)).mono ?_; rintro e w' ⟨rfl, rfl⟩)
      · have e : s[k] = 34 := byte_yes 34 (z := 34) (by assumption) rfl
        go_round
        case rel =>
          refine ⟨k + 1 + qe (s.data.toList.drop (k + 1)), by omega, by go_num, ?_⟩
          rw [H1.out, hd.out, e, cut_quote, List.drop_drop]; omega
        case measure => simp [intOf]; omega
      · have e1 : s[k] ≠ 44 := byte_ne_yes 44 (z := 44) (by assumption) rfl
        have e2 : s[k] ≠ 34 := byte_no 34 (z := 34) (by assumption) rfl
        go_round
        case rel =>
          refine ⟨k + 1, by omega, by go_num, ?_⟩
          rw [H1.out, hd.out, cut_other _ _ e1 e2]; omega
        case measure => simp [intOf]; omega
      · have e : s[k] = 44 := byte_ne_no 44 (z := 44) (by assumption) rfl
        go_ret
        refine ⟨ret_int ?_, rfl⟩
        rw [H1.out, hd.out, e, cut_comma]; omega
    · go_wp2
      go_ret
      refine ⟨ret_int ?_, rfl⟩
      rw [H1.out, drop_nil s k hlt, cut]; omega

theorem List_any (s : ByteArray) (w : World) (hs : s.size < 4294967296) :
    Calls Tryd.prog 35 #[.string s] w fun e w' => ∃ v, e = .returned v ∧ w'.ownsRow w.heap.size 9 1 v (listL s.data.toList).length ((listL s.data.toList).map strV) ∧ Below w.heap.size w w' := by
  go_enter Tryd.func35, Tryd.ntmps35
  go_wp2
  go_loopw [3, 4] (fun v i wr => ∃ (k : Nat) (E : List (List UInt8)), k ≤ s.size + 1 ∧ i = .int .i64 k ∧ E.length ≤ k ∧ E ++ listL (s.data.toList.drop k) = listL s.data.toList ∧ wr.ownsRow w.heap.size 9 1 v E.length (E.map strV) ∧ Below w.heap.size w wr) (fun _ i _ => s.size + 1 - (intOf i).toNat)
  case atStart => exact ⟨0, [], Nat.zero_le _, rfl, Nat.le_refl _, rfl, World.ownsRow_nil _ _ _ _, Below.refl _ _⟩
  case round =>
    obtain ⟨k, E, hk, rfl, hEk, hE, hown, hb⟩ := hrel
    have HE := hid hE
    clear hE
    have hB := hb.size
    by_cases hlt : k < s.size
    · have hc : k + cut false false (s.data.toList.drop k) ≤ s.size := by
        have := cut_le (s.data.toList.drop k) false false
        rw [List.length_drop, size_list] at this; omega
      obtain ⟨m, hm⟩ : ∃ m, m = k + cut false false (s.data.toList.drop k) := ⟨_, rfl⟩
      have HM := hid hm
      rw [← hm] at hc
      clear hm
      have hkm : k ≤ m := by have := HM.out; omega
      go_wp2_with fail
      refine (elementEnd_any s k _ (by omega) (by omega)).mono ?_
      rw [← HM.out]
      rintro e w' ⟨rfl, rfl⟩
      go_wp2_with fail
      refine (Trim_any _ _ (by rw [ByteArray.size_extract]; unfold maxLen; omega)).mono ?_
      rw [Lib.extract_data]
      obtain ⟨t, ht⟩ : ∃ t, t = trimL ((s.data.toList.drop k).take (m - k)) := ⟨_, rfl⟩
      rw [← ht]
      have HT := hid ht
      clear ht
      rintro e w2 ⟨rfl, hb2⟩
      have hown2 := hown.below hb2
      have hb2' := hb.trans (hb2.mono hB)
      have hB2 := hb2'.size
      clear hown hb hb2 hB
      go_wp2_with ((at_builtin; go_must (refine wpList_append_one _ rfl _ _ 22 rfl w.heap.size 9 Tryd.underlying22 infoStr rfl (by decide) rfl hown2 rfl rfl (by omega) hB2 ?_); intro v' w3 hown3 hg3 hb3))
      · have ht : t ≠ [] := not_empty (by assumption)
        go_roundw
        case rel =>
          refine ⟨m + 1, E ++ [t], by omega, by go_num, by simp; omega, ?_, by simpa using hown3, hb2'.trans hb3⟩
          have HT' := HT.out; have e : m - k = cut false false (s.data.toList.drop k) := by (have := HM.out; omega)
          rw [e] at HT'
          rw [← HE.out, list_step s k hlt, ← HT', if_neg ht, HM.out]; simp [Nat.add_assoc]
        case measure => simp [intOf]; omega
      · have ht : t = [] := is_empty (by assumption)
        go_roundw
        case rel =>
          refine ⟨m + 1, E, by omega, by go_num, by omega, ?_, hown2, hb2'⟩
          have HT' := HT.out; have e : m - k = cut false false (s.data.toList.drop k) := by (have := HM.out; omega)
          rw [e] at HT'
          rw [← HE.out, list_step s k hlt, ← HT', if_pos ht, HM.out]; simp [Nat.add_assoc]
        case measure => simp [intOf]; omega
    · go_wp2
      go_ret
      have e : listL s.data.toList = E := by rw [← HE.out, drop_nil s k hlt, listL_nil, List.append_nil]
      rw [e]
      exact ⟨_, rfl, hown, hb⟩
end Go.Proofs.YtbjgbkbhalibdaaDoor
