/-
  The document's answers of layer 8: Path.
-/
import Derived.Test.YthokpbpnecdgpaaGreatDoorRef8D
namespace Go.Proofs.YthokpbpnecdgpaaGreatDoor
open Go.RowKit Go.Pantry

set_option maxRecDepth 100000 in
set_option maxHeartbeats 8000000 in
theorem refPath_any (s : ByteArray) (w : World) (h0 : 1 ≤ s.size) (hs : s.size ≤ 100000) :
    Calls Tryz.prog 18 #[.string s] w fun e w' => e = .returned (strV (pathL s.data.toList)) ∧ Below w.heap.size w w' := by
  have cs := refSegments_any s w h0 hs
  have hpath := path_slash s.data.toList
  obtain ⟨T, hT⟩ : ∃ T, s.data.toList.tail = T := ⟨_, rfl⟩
  rw [hT] at cs hpath
  have hTl : T.length ≤ 100000 := by rw [← hT, List.length_tail, size_list]; omega
  have hLw := wS_seg T
  have hLn := wS_len (segL T)
  have hSw := wS_settle (segL T) []
  obtain ⟨L, hL⟩ : ∃ L, segL T = L := ⟨_, rfl⟩
  rw [hL] at hLw hLn hSw cs hpath
  have hw0 : wS ([] : List (List UInt8)) = 0 := rfl
  have hne : 0 < L.length := by rw [← hL]; exact List.length_pos_iff.2 (seg_ne T)
  have hL1 : L.length ≤ 100001 := by omega
  obtain ⟨R, hR⟩ : ∃ R, settleL [] L = R := ⟨_, rfl⟩
  rw [hR] at hSw hpath
  have hRn := wS_len R
  have hRw : wS R ≤ 100001 := by omega
  have hR1 : R.length ≤ 100001 := by omega
  have CS := hid cs
  have HR := hid hR
  have HPA := hid hpath
  clear hL hR cs hs hT hTl hLw hLn hSw hw0 hRn hpath h0
  go_enter Tryz.func18, Tryz.ntmps18
  go_wp2_with (go_at_call 34; refine CS.out.mono ?_; rintro e w1 ⟨⟨vs, rfl, hos⟩, hb1⟩)
  have hrd := hos.reads
  obtain ⟨aos, caps, rfl⟩ := hos.reads.form
  rw [List.length_map] at *
  have HRD := hid hos.reads
  clear CS hos hrd
  go_loopw [4, 5] (fun v i wr => ∃ (k : Nat) (acc : List (List UInt8)), k ≤ L.length ∧ i = .int .i64 k ∧ wr.ownsRow w1.heap.size 9 1 v acc.length (acc.map strV) ∧ acc.length ≤ k ∧ settleL acc (L.drop k) = R ∧ Below w1.heap.size w1 wr) (fun _ i _ => L.length - (intOf i).toNat)
  case atStart => exact ⟨0, [], Nat.zero_le _, rfl, World.ownsRow_nil _ _ _ _, Nat.le_refl _, by rw [List.drop_zero]; exact HR.out, Below.refl _ _⟩
  case round =>
    obtain ⟨k, acc, hk, rfl, ho, hlen, hj, hb⟩ := hrel
    have HO := hid ho
    have HJ := hid hj
    clear ho hj
    by_cases hlt : k < L.length
    · have f1 : decide ((k : Int) < (L.length : Int)) = true := by simp; omega
      obtain ⟨x, hx⟩ : ∃ x, L[k]? = some x := ⟨_, List.getElem?_eq_getElem hlt⟩
      obtain ⟨bz, oz, cz, hvz, hcz⟩ := HRD.out.at_some (by rw [List.length_map]; omega)
      simp only [List.length_map, Value.slice.injEq] at hvz
      obtain ⟨rfl, -, rfl⟩ := hvz
      have hcell1 := hcz k (strV x) (by rw [List.getElem?_map, hx]; rfl)
      have hcell := kept hcell1 hb
      have HC1 := hid hcell1
      clear hcell1
      clear hcz
      have hb1s := hb.size
      have hstep : settleL (stepS acc x (L.drop (k + 1)).isEmpty) (L.drop (k + 1)) = R := by
        rw [← HJ.out]
        have hd : L.drop k = x :: L.drop (k + 1) := by
          obtain ⟨hlt2, hg⟩ := List.getElem?_eq_some_iff.1 hx
          have h3 := List.drop_eq_getElem_cons hlt2
          rwa [hg] at h3
        rw [hd, settleL]
      have hemp : (L.drop (k + 1)).isEmpty = decide (k + 1 = L.length) := by
        rw [Bool.eq_iff_iff]; simp; omega
      rw [hemp] at hstep
      have k1 : IntKind.i64.wrap ((L.length : Int) - 1) = (L.length : Int) - 1 := IntWalk.i64_in _ (by omega)
      have tl : ((k : Int) == (L.length : Int) - 1) = decide (k + 1 = L.length) := by
        rw [Bool.eq_iff_iff]; simp; omega
      obtain ⟨lb, hlb⟩ : ∃ lb, decide (k + 1 = L.length) = lb := ⟨_, rfl⟩
      rw [hlb] at hstep tl
      clear hlb hemp
      obtain ⟨ao, cap, hv⟩ := HO.out.reads.form
      rw [List.length_map] at hv
      subst hv
      by_cases h2 : x = [46, 46]
      · subst h2
        have hst : stepS acc [46, 46] lb = acc.dropLast ++ (if lb then [[]] else []) := by
          unfold stepS isDots; rfl
        rw [hst] at hstep
        by_cases hacc : acc.length = 0
        · have hnil : acc = [] := List.eq_nil_of_length_eq_zero hacc
          subst hnil
          have fa : decide ((0 : Int) < 0) = false := by decide
          clear hx hst hacc
          cases lb
          · have HST := hid hstep
            clear hstep
            go_wp2_with fail
            go_roundw
            case rel => exact ⟨k + 1, [], by omega, by go_num, HO.out, by simp, by simpa using HST.out, hb⟩
            case measure => simp [intOf]; omega
          · have HST := hid hstep
            clear hstep
            go_wp2_with (at_builtin; go_must (refine wpList_append_one _ rfl _ _ 49 rfl w1.heap.size 9 Tryz.underlying49 infoStr rfl (by decide) rfl HO.out rfl (by first | rfl | simp) (by omega) hb1s ?_); intro v' w3 ho3 hg3 hb3)
            go_roundw
            case rel => exact ⟨k + 1, [[]], by omega, by go_num, by simpa using ho3, by simp, by simpa using HST.out, hb.trans hb3⟩
            case measure => simp [intOf]; omega
        · have fa : decide ((0 : Int) < (acc.length : Int)) = true := by simp; omega
          have k2 : IntKind.i64.wrap ((acc.length : Int) - 1) = ((acc.length - 1 : Nat) : Int) := by rw [IntWalk.i64_in _ (by omega)]; omega
          have hhi := ownsRow_high HO.out (acc.length - 1) (by omega)
          obtain ⟨ho2, hcap⟩ := hhi
          have hcap2 : acc.length ≤ cap + 1 := by omega
          have hdl : acc.dropLast.length = acc.length - 1 := List.length_dropLast
          have ho3 : wr.ownsRow w1.heap.size 9 1 (.slice ao (acc.length - 1) cap) acc.dropLast.length (acc.dropLast.map strV) := by
            rw [hdl, List.dropLast_eq_take, List.map_take]; exact ho2
          have HO2 := hid ho3
          have hdl2 : acc.dropLast.length ≤ k := by omega
          clear hx hst hdl ho2 ho3
          cases lb
          · have HST := hid hstep
            clear hstep
            go_wp2_with fail
            go_roundw
            case rel => exact ⟨k + 1, acc.dropLast, by omega, by go_num, HO2.out, by omega, by simpa using HST.out, hb⟩
            case measure => simp [intOf]; omega
          · have HST := hid hstep
            clear hstep
            go_wp2_with (at_builtin; go_must (refine wpList_append_one _ rfl _ _ 49 rfl w1.heap.size 9 Tryz.underlying49 infoStr rfl (by decide) rfl HO2.out rfl (by first | rfl | simp) (by omega) hb1s ?_); intro v' w3 ho3 hg3 hb3)
            go_roundw
            case rel => exact ⟨k + 1, acc.dropLast ++ [[]], by omega, by go_num, by simpa using ho3, by rw [List.length_append]; simp only [List.length_singleton]; omega, HST.out, hb.trans hb3⟩
            case measure => simp [intOf]; omega
      · have e2 : (x == [46, 46]) = false := beq_eq_false_iff_ne.2 h2
        by_cases h1 : x = [46]
        · subst h1
          have hst : stepS acc [46] lb = acc ++ (if lb then [[]] else []) := by
            unfold stepS isDots; rfl
          rw [hst] at hstep
          have HST := hid hstep
          clear hx hst hstep h2
          cases lb
          · go_wp2_with fail
            go_roundw
            case rel => exact ⟨k + 1, acc, by omega, by go_num, HO.out, by omega, by simpa using HST.out, hb⟩
            case measure => simp [intOf]; omega
          · go_wp2_with (at_builtin; go_must (refine wpList_append_one _ rfl _ _ 49 rfl w1.heap.size 9 Tryz.underlying49 infoStr rfl (by decide) rfl HO.out rfl (by first | rfl | simp) (by omega) hb1s ?_); intro v' w3 ho3 hg3 hb3)
            go_roundw
            case rel => exact ⟨k + 1, acc ++ [[]], by omega, by go_num, by simpa using ho3, by simp; omega, HST.out, hb.trans hb3⟩
            case measure => simp [intOf]; omega
        · have e1 : (x == [46]) = false := beq_eq_false_iff_ne.2 h1
          have hst : stepS acc x lb = acc ++ [x] := by
            unfold stepS isDots
            rw [if_neg (by simp [h1, h2])]
          rw [hst] at hstep
          have HST := hid hstep
          clear hx hst hstep h1 h2
          go_wp2_with (at_builtin; go_must (refine wpList_append_one _ rfl _ _ 49 rfl w1.heap.size 9 Tryz.underlying49 infoStr rfl (by decide) rfl HO.out rfl (by first | rfl | simp) (by omega) hb1s ?_); intro v' w3 ho3 hg3 hb3; have hcell3 := kept HC1.out (hb.trans hb3))
          go_roundw
          case rel => exact ⟨k + 1, acc ++ [x], by omega, by go_num, by simpa using ho3, by simp; omega, HST.out, hb.trans hb3⟩
          case measure => simp [intOf]; omega
    · have f1 : decide ((k : Int) < (L.length : Int)) = false := by rw [decide_eq_false_iff_not]; omega
      have hacc : acc = R := by
        rw [← HJ.out, List.drop_eq_nil_of_le (by omega)]; rfl
      subst hacc
      obtain ⟨ao, cap, hv⟩ := HO.out.reads.form
      rw [List.length_map] at hv
      subst hv
      have HRR := hid HO.out.reads
      clear HO HJ HR f1
      go_wp2_with fail
      go_loop [7, 8] (fun r i => ∃ j : Nat, j ≤ acc.length ∧ i = .int .i64 j ∧ r = strV (slashL (acc.take j))) (fun _ i => acc.length - (intOf i).toNat)
      case atStart => exact ⟨0, Nat.zero_le _, rfl, rfl⟩
      case round =>
        obtain ⟨j, hj, rfl, rfl⟩ := hrel
        by_cases hjt : j < acc.length
        · have fj : decide ((j : Int) < (acc.length : Int)) = true := by simp; omega
          obtain ⟨y, hy⟩ : ∃ y, acc[j]? = some y := ⟨_, List.getElem?_eq_getElem hjt⟩
          obtain ⟨bz, oz, cz, hvz, hcz⟩ := HRR.out.at_some (by rw [List.length_map]; omega)
          simp only [List.length_map, Value.slice.injEq] at hvz
          obtain ⟨rfl, -, rfl⟩ := hvz
          have hcell := hcz j (strV y) (by rw [List.getElem?_map, hy]; rfl)
          have hsn := slash_snoc hy
          have hl1 := slash_take acc (j + 1)
          have hl0 := slash_take acc j
          rw [hsn] at hl1
          have hyl : y.length ≤ 100001 := by
            have h := hl1
            rw [List.length_append, List.length_append] at h
            omega
          have s1 := fun W => run_string_add_lists (P := Tryz.prog) W [47] y (by simp) (by omega)
          have s2 := fun W => run_string_add_lists (P := Tryz.prog) W (slashL (acc.take j)) ([47] ++ y) (by omega) (by simp; omega)
          rw [← hsn] at s2
          obtain ⟨Y, hY⟩ : ∃ Y, [47] ++ y = Y := ⟨_, rfl⟩
          rw [hY] at s1 s2
          have s1' : ∀ W, (Op.stringOp BinOp.add ⟨#[47]⟩ ⟨y.toArray⟩).run Tryz.prog W = .ok (.string ⟨Y.toArray⟩) W := s1
          obtain ⟨Q, hQ⟩ : ∃ Q, slashL (acc.take j) = Q := ⟨_, rfl⟩
          obtain ⟨Q2, hQ2⟩ : ∃ Q, slashL (acc.take (j + 1)) = Q := ⟨_, rfl⟩
          rw [hQ] at s2 ⊢
          rw [hQ2] at s2
          have HQ2 := hid hQ2
          clear hcz hy hsn hl1 hl0 s1 hY hQ hQ2
          go_wp2_with fail
          go_round
          case rel => exact ⟨j + 1, by omega, by go_num, by rw [HQ2.out]⟩
          case measure => simp [intOf]; omega
        · have fj : decide ((j : Int) < (acc.length : Int)) = false := by rw [decide_eq_false_iff_not]; omega
          rw [List.take_of_length_le (by omega)]
          have hp := HPA.out
          by_cases hn : slashL acc = []
          · rw [if_pos hn] at hp
            have HP := hid hp
            rw [hn]
            clear hp hn HPA
            go_wp2_with fail
            go_ret
            exact ⟨by rw [HP.out]; rfl, chainP hb1 hb⟩
          · rw [if_neg hn] at hp
            have HP := hid hp
            obtain ⟨Q, hQ⟩ : ∃ Q, slashL acc = Q := ⟨_, rfl⟩
            rw [hQ] at hn ⊢
            have hqe : Q.isEmpty = false := by rw [List.isEmpty_eq_false_iff]; exact hn
            have HQ := hid hQ
            clear hp HPA hQ
            go_wp2_with fail
            go_ret
            exact ⟨by rw [HP.out, HQ.out]; rfl, chainP hb1 hb⟩
end Go.Proofs.YthokpbpnecdgpaaGreatDoor
