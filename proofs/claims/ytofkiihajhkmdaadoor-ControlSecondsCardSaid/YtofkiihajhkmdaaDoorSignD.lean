/-
  Contracts of package sign: Number, Unquote.
-/
import Derived.Test.YtofkiihajhkmdaaDoorSignC
namespace Go.Proofs.YtofkiihajhkmdaaDoor
open Go.RowKit Go.Pantry

theorem Number_any (s : ByteArray) (w : World) (hs : s.size ≤ 140737488351232) :
    Calls Tryd.prog 53 #[.string s] w fun e w' => e = .returned (.tuple #[.int .i64 (((numberL s.data.toList).getD 0 : Nat) : Int), .bool (numberL s.data.toList).isSome]) ∧ w = w' := by
  go_enter Tryd.func53, Tryd.ntmps53
  go_wp2
  go_loop [4, 5] (fun n i => ∃ k m : Nat, k ≤ s.size ∧ i = .int .i64 k ∧ n = .int .i64 m ∧ m ≤ 2147483648 ∧ m = min (valL (s.data.toList.take k)) 2147483648 ∧ (s.data.toList.take k).all isDig = true) (fun _ i => s.size - (intOf i).toNat)
  case atStart => exact ⟨0, 0, Nat.zero_le _, rfl, rfl, by omega, rfl, rfl⟩
  case round =>
    obtain ⟨k, m, hk, rfl, rfl, hm, hv, hall⟩ := hrel
    have HV := hid hv
    have HA := hid hall
    clear hv hall
    by_cases hlt : k < s.size
    · go_wp2_with (go_at_call 64; refine (digit_any _ _).mono ?_; rintro e w' ⟨rfl, rfl⟩)
      · go_ret2
        have h : isDig s[k] = false := by simpa using (by assumption : (!isDig s[k]) = true)
        exact ⟨by rw [numberL_no s k hlt h]; rfl, rfl⟩
      · have h : isDig s[k] = true := by simpa using (by assumption : (!isDig s[k]) = false)
        go_round
        case rel =>
          refine ⟨k + 1, min (valL (s.data.toList.take (k + 1))) 2147483648, by omega, by go_num, ?_, by omega, rfl, by rw [take_succ_list s k hlt, List.all_append, HA.out]; simp [h]⟩
          rw [take_succ_list s k hlt, number_step _ _ _ h HV.out]
        case measure => simp [intOf]; omega
    · go_wp2
      go_ret2
      have hy := numberL_yes s.data.toList m (by rw [← take_all s k hlt]; exact HA.out) (by rw [← take_all s k hlt]; exact HV.out)
      refine ⟨?_, rfl⟩
      rw [hy.1, hy.2, Lib.toList_data]; rfl

set_option maxRecDepth 4000 in
theorem Unquote_any (s : ByteArray) (w : World) (hs : s.size < 4294967296) :
    Calls Tryd.prog 52 #[.string s] w fun e w' => e = .returned (.tuple #[strV ((unquoteL s.data.toList).getD []), .bool (unquoteL s.data.toList).isSome]) ∧ Below w.heap.size w w' := by
  by_cases htok : tokenL s.data.toList = true
  · go_enter Tryd.func52, Tryd.ntmps52
    go_wp2_with (go_at_call 63; refine (Token_any _ _ (by unfold maxLen; omega)).mono ?_; rintro e w' ⟨rfl, rfl⟩)
    go_ret2
    exact ⟨by simp [unquoteL, htok, strV], Below.refl _ _⟩
  · have htok' : tokenL s.data.toList = false := by simpa using htok
    clear htok
    by_cases h0 : s.size = 0
    · have he : s.data.toList = [] := List.eq_nil_of_length_eq_zero (by rw [size_list]; exact h0)
      have hemp : s.toList.isEmpty = true := by rw [Lib.toList_data, he]; rfl
      have HE := hid he
      clear h0 he
      go_enter Tryd.func52, Tryd.ntmps52
      go_wp2_with (go_at_call 63; refine (Token_any _ _ (by unfold maxLen; omega)).mono ?_; rintro e w' ⟨rfl, rfl⟩)
      go_ret2
      refine ⟨?_, Below.refl _ _⟩
      have e : unquoteL s.data.toList = none := by rw [HE.out]; rfl
      rw [e]; rfl
    · have hpos : 0 < s.size := by omega
      have hemp : s.toList.isEmpty = false := by
        rw [Lib.toList_data]; have := drop_cons s 0 hpos; simp at this; rw [this]; rfl
      have hd := hid (drop_cons s 0 hpos)
      clear h0
      go_enter Tryd.func52, Tryd.ntmps52
      go_wp2_with (go_at_call 63; refine (Token_any _ _ (by unfold maxLen; omega)).mono ?_; rintro e w' ⟨rfl, rfl⟩)
      · go_ret2
        have hq : s[0] ≠ 34 := byte_ne_yes 34 (z := 34) (by assumption) rfl
        refine ⟨?_, Below.refl _ _⟩
        have hd0 := hd.out
        rw [List.drop_zero] at hd0
        have e : unquoteL s.data.toList = none := by
          unfold unquoteL
          rw [htok', hd0]; simp [hq]
        rw [e]; rfl
      · have hq : s[0] = 34 := byte_ne_no 34 (z := 34) (by assumption) rfl
        have HU : Hid (unquoteL s.data.toList = unq (s.data.toList.drop 1)) := by
          have hd0 := hd.out
          rw [List.drop_zero] at hd0
          show unquoteL s.data.toList = _
          unfold unquoteL
          rw [htok']
          conv => lhs; rw [hd0]
          simp [hq]
        clear hd hq htok'
        rename ((s[0].toNat : Int) != 34) = false => hx
        have HX := hid hx
        clear hx
        go_loopw [4, 5] (fun v i wr => ∃ (k : Nat) (E : List UInt8), 1 ≤ k ∧ k ≤ s.size ∧ i = .int .i64 k ∧ E.length ≤ k ∧ unquoteL s.data.toList = (unq (s.data.toList.drop k)).map (E ++ ·) ∧ wr.ownsRow w.heap.size 5 1 v E.length (E.map byteV) ∧ Below w.heap.size w wr) (fun _ i _ => s.size - (intOf i).toNat)
        case atStart => exact ⟨1, [], by omega, by omega, rfl, by simp, by rw [HU.out]; simp, World.ownsRow_nil _ _ _ _, Below.refl _ _⟩
        case round =>
          obtain ⟨k, E, h1k, hk, rfl, hEk, hE, hown, hb⟩ := hrel
          have HE := hid hE
          clear hE
          have hB := hb.size
          have hcv := ownsRow_string hown 50 9 Tryd.underlying50 Tryd.underlying5 Tryd.underlying9
          by_cases hlt : k < s.size
          · have hd := hid (drop_cons s k hlt)
            go_wp2_with ((at_builtin; go_must (refine wpList_append_one _ rfl _ _ 50 rfl w.heap.size 5 Tryd.underlying50 infoU8 rfl (by decide) rfl hown rfl rfl (by omega) hB ?_); intro v' w1 hown1 hg1 hb1))
            · have e : s[k] = 34 := byte_yes 34 (z := 34) (by assumption) rfl
              go_ret2
              refine ⟨?_, hb⟩
              have hn : unquoteL s.data.toList = none := by
                rw [HE.out, hd.out, e, unq_quote, if_neg (by rw [drop_cons s (k + 1) (by omega)]; simp)]; rfl
              rw [hn]; rfl
            · have e : s[k] = 34 := byte_yes 34 (z := 34) (by assumption) rfl
              go_ret2
              refine ⟨?_, hb⟩
              have hn : unquoteL s.data.toList = some E := by
                rw [HE.out, hd.out, e, unq_quote, if_pos (drop_nil s (k + 1) (by omega))]; simp
              rw [hn]; rfl
            · have e : s[k] = 92 := byte_yes 92 (z := 92) (by assumption) rfl
              have hq : ((k : Int) + 1 == (s.size : Int)) = true := by assumption
              have hq' := beq_iff_eq.1 hq
              go_ret2
              refine ⟨?_, hb⟩
              have hn : unquoteL s.data.toList = none := by
                rw [HE.out, hd.out, e, drop_nil s (k + 1) (by omega), unq_back_end]; rfl
              rw [hn]; rfl
            · have e : s[k] = 92 := byte_yes 92 (z := 92) (by assumption) rfl
              have hq : 0 ≤ (k : Int) + 1 ∧ (k : Int) + 1 < (s.size : Int) := by assumption
              have hlt' : k + 1 < s.size := by omega
              go_roundw
              case rel =>
                refine ⟨k + 2, E ++ [s[k + 1]], by omega, by omega, by go_num, by simp; omega, ?_, by simpa using hown1, hb.trans hb1⟩
                rw [HE.out, hd.out, e, drop_cons s (k + 1) hlt', unq_back]; simp [Option.map_map, Function.comp_def]
              case measure => simp [intOf]; omega
            · exfalso
              have hq : ((k : Int) + 1 == (s.size : Int)) = false := by assumption
              simp at hq
              omega
            · have e1 : s[k] ≠ 34 := byte_no 34 (z := 34) (by assumption) rfl
              have e2 : s[k] ≠ 92 := byte_no 92 (z := 92) (by assumption) rfl
              go_roundw
              case rel =>
                refine ⟨k + 1, E ++ [s[k]], by omega, by omega, by go_num, by simp; omega, ?_, by simpa using hown1, hb.trans hb1⟩
                rw [HE.out, hd.out, unq_other _ _ e1 e2]; simp [Option.map_map, Function.comp_def]
              case measure => simp [intOf]; omega
          · go_wp2
            go_ret2
            refine ⟨?_, hb⟩
            have hn : unquoteL s.data.toList = none := by
              rw [HE.out, drop_nil s k hlt]; rfl
            rw [hn]; rfl
end Go.Proofs.YtofkiihajhkmdaaDoor
