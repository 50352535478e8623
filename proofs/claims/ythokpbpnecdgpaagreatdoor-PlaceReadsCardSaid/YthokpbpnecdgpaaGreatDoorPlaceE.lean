/-
  Contract of package place: settle.
-/
import Derived.Test.YthokpbpnecdgpaaGreatDoorPurePlace2
import Derived.Test.YthokpbpnecdgpaaGreatDoorMaxCut
import Derived.Test.YthokpbpnecdgpaaGreatDoorPlaceQ
import Derived.Test.YthokpbpnecdgpaaGreatDoorInfo
import Derived.IntWalk
import Derived.WalkMore
namespace Go.Pantry
open Go.RowKit
/-- x[:k] of a slice of the call's own -/
theorem ownsRow_high {w : World} {B : Nat} {e : TypeId} {ao : Option Addr} {n cap : Nat} {xs : List Value} (h : w.ownsRow B e 1 (.slice ao n cap) n xs) (k : Nat) (hk : k ≤ n) :
    w.ownsRow B e 1 (.slice ao k cap) k (xs.take k) ∧ n ≤ cap := by
  obtain ⟨hl, h⟩ := h
  rcases h with ⟨hv, rfl⟩ | ⟨g, c2, cur, hv, hb, hg, hnc, hcm, hcs, htake⟩
  · obtain rfl : k = 0 := by omega
    cases hv
    exact ⟨⟨by simp, .inl ⟨rfl, rfl⟩⟩, Nat.le_refl _⟩
  · cases hv
    refine ⟨⟨?_, .inr ⟨g, cap, cur, rfl, hb, hg, by omega, hcm, hcs, ?_⟩⟩, hnc⟩
    · rw [List.length_take]; omega
    · rw [← htake, List.take_take]; congr 1; omega
theorem strs_one (l : List (List UInt8)) : ∀ u ∈ l.map strV, u.oneCell' = true := by
  intro u hu
  obtain ⟨x, _, rfl⟩ := List.mem_map.1 hu
  rfl
end Go.Pantry
namespace Go.Proofs.YthokpbpnecdgpaaGreatDoor
open Go.RowKit Go.Pantry

/-- strings.Join of a slice that the call made, with "/" -/
theorem join47 {B : Nat} {e : TypeId} (v : Value) (l : List (List UInt8)) (w : World) (ho : w.ownsRow B e 1 v l.length (l.map strV)) (hl : l.length ≤ 140737488355328) (hj : (joinL [47] l).length ≤ 140737488355328) :
    Calls Tryz.prog 32 #[v, .string ⟨#[47]⟩] w fun e w' => e = .returned (strV (joinL [47] l)) ∧ Below w.heap.size w w' := by
  rcases ho.2 with ⟨rfl, hn⟩ | ⟨g, cap, cur, rfl, hb, hg, hnc, hcm, hcs, htake⟩
  · have : l = [] := List.eq_nil_of_length_eq_zero hn
    subst this
    refine (Tryz.strings_Join_none none 0 ⟨#[47]⟩ w).mono ?_
    rintro e w' ⟨rfl, rfl⟩
    exact ⟨rfl, Below.refl _ _⟩
  · have hx : (l.map fun x => (⟨x.toArray⟩ : ByteArray)).map (·.data.toList) = l := by rw [List.map_map]; exact List.map_id' _
    have hxl : (l.map fun x => (⟨x.toArray⟩ : ByteArray)).length = l.length := by simp
    have c := Tryz.strings_Join g 0 cap (l.map fun x => (⟨x.toArray⟩ : ByteArray)) ⟨#[47]⟩ w (fun j x hx => by
        have h1 := ho.row.cell j (.string x) (by
          rw [List.getElem?_map, Option.map_eq_some_iff] at hx
          obtain ⟨y, hy, rfl⟩ := hx
          rw [List.getElem?_map, hy]; rfl)
        rw [Nat.zero_add]; exact h1) (Array.getElem?_eq_some_iff.1 hg).1 (by omega) (by omega) (by
        rw [hx]
        show (Lib.join l [47]).length ≤ _
        rw [join_lib]; exact hj)
    rw [hx, hxl] at c
    refine c.mono ?_
    rintro e w' ⟨rfl, hb'⟩
    refine ⟨?_, hb'⟩
    show Ending.returned (strV (Lib.join l [47])) = _
    rw [join_lib]

set_option maxRecDepth 100000 in
theorem settle_any (s : ByteArray) (w : World) (hs : s.size ≤ 100000) (h0 : 1 ≤ s.size) (hm : MaxOk w) :
    Calls Tryz.prog 13 #[.string s] w fun e w' => e = .returned (strV (pathL s.data.toList)) ∧ Below w.heap.size w w' := by
  obtain ⟨D, hD⟩ : ∃ D, s.extract 1 s.size = D := ⟨_, rfl⟩
  have hDl : D.data.toList = s.data.toList.tail := by
    rw [← hD, Lib.extract_eq, ← size_list, ← List.drop_one]
    exact List.take_of_length_le (by rw [List.length_drop]; exact Nat.le_refl _)
  have hDs : D.data.toList.length ≤ 100000 := by rw [hDl, List.length_tail, size_list]; omega
  obtain ⟨T, hT⟩ : ∃ T, s.data.toList.tail = T := ⟨_, rfl⟩
  rw [hT] at hDl
  have hp : pathL s.data.toList = 47 :: joinL [47] (settleL [] (segL T)) := by unfold pathL; rw [hT]
  rw [hp]
  have hTl : T.length ≤ 100000 := by rw [← hDl]; exact hDs
  have hLw := wS_seg T
  have hLn := wS_len (segL T)
  have hSw := wS_settle (segL T) []
  obtain ⟨L, hL⟩ : ∃ L, segL T = L := ⟨_, rfl⟩
  have cs : ∀ W, MaxOk W → Calls Tryz.prog 31 #[.string D, .string ⟨#[47]⟩] W fun r w' => r = .returned (.slice (some ⟨W.heap.size, 0, none⟩) L.length L.length) ∧ Below W.heap.size W w' ∧ W.heap.size < w'.heap.size ∧ Hid (∀ (j : Nat) a, L[j]? = some a → w'.cell? ⟨W.heap.size, j, none⟩ = some (strV a)) := by
    intro W hW
    have c := Split2_any T [47] W (by simp) hW (by omega)
    rw [seg_pieces T _ (Nat.le_refl _), hL] at c
    have e : (.string D : Value) = strV T := by
      show Value.string D = Value.string ⟨T.toArray⟩
      rw [← hDl, Lib.mk_data]
    rw [e]
    refine c.mono ?_
    rintro r w' ⟨h1, rfl⟩
    refine ⟨h1, below_alloc _ _, by simp, fun j a hj => ?_⟩
    rw [World.cell?_alloc_at _ _ _ _ rfl, List.getElem?_toArray, List.getElem?_map, hj]; rfl
  rw [hL] at hLw hLn hSw ⊢
  have hw0 : wS ([] : List (List UInt8)) = 0 := rfl
  have hne : 0 < L.length := by rw [← hL]; exact List.length_pos_iff.2 (seg_ne T)
  have hL1 : L.length ≤ 100001 := by omega
  obtain ⟨R, hR⟩ : ∃ R, settleL [] L = R := ⟨_, rfl⟩
  rw [hR] at hSw ⊢
  have hRn := wS_len R
  have hRj := wS_join R
  have hR1 : R.length ≤ 100001 := by omega
  have hR2 : (joinL [47] R).length ≤ 100001 := by omega
  have CS := hid (cs w hm)
  have HR := hid hR
  clear hL hR cs hm hDl hDs hT hp hTl hLw hLn hSw hw0 hRn hRj
  go_enter Tryz.func13, Tryz.ntmps13
  go_wp2_with fail
  go_step3
  go_wp2_with (go_at_call 31; refine CS.out.mono ?_; rintro e w1 ⟨rfl, hb1, hw1s, HC⟩)
  go_step3
  go_wp2_with fail
  clear CS
  go_loopw [4, 12] (fun v i wr => ∃ (k : Nat) (acc : List (List UInt8)), k ≤ L.length ∧ i = .int .i64 k ∧ wr.ownsRow w1.heap.size 9 1 v acc.length (acc.map strV) ∧ acc.length ≤ k ∧ settleL acc (L.drop k) = R ∧ Below w1.heap.size w1 wr) (fun _ i _ => L.length - (intOf i).toNat)
  case atStart => exact ⟨0, [], Nat.zero_le _, rfl, World.ownsRow_nil _ _ _ _, Nat.le_refl _, by rw [List.drop_zero]; exact HR.out, Below.refl _ _⟩
  case round =>
    obtain ⟨k, acc, hk, rfl, ho, hlen, hj, hb⟩ := hrel
    have HO := hid ho
    have HJ := hid hj
    clear ho hj
    by_cases hlt : k < L.length
    · obtain ⟨x, hx⟩ : ∃ x, L[k]? = some x := ⟨_, List.getElem?_eq_getElem hlt⟩
      have hcell : wr.cell? ⟨w.heap.size, k, none⟩ = some (strV x) := by
        exact kept (HC.out k x hx) hb
      have hb1s := hb.size
      have hstep : settleL (stepS acc x (L.drop (k + 1)).isEmpty) (L.drop (k + 1)) = R := by
        rw [← HJ.out]
        have hd : L.drop k = x :: L.drop (k + 1) := by
          obtain ⟨hlt2, hg⟩ := List.getElem?_eq_some_iff.1 hx
          have h3 := List.drop_eq_getElem_cons hlt2
          rwa [hg] at h3
        rw [hd, settleL]
      have hemp : (L.drop (k + 1)).isEmpty = decide (k + 1 = L.length) := by
        rw [Bool.eq_iff_iff]; simp; omega
      rw [hemp] at hstep
      have k1 : IntKind.i64.wrap ((L.length : Int) - 1) = (L.length : Int) - 1 := IntWalk.i64_in _ (by omega)
      have tl : ((k : Int) == (L.length : Int) - 1) = decide (k + 1 = L.length) := by
        rw [Bool.eq_iff_iff]; simp; omega
      have k2 : IntKind.i64.wrap ((acc.length : Int) - 1) = (acc.length : Int) - 1 := IntWalk.i64_in _ (by omega)
      obtain ⟨lb, hlb⟩ : ∃ lb, decide (k + 1 = L.length) = lb := ⟨_, rfl⟩
      rw [hlb] at hstep tl
      clear hlb hemp
      obtain ⟨ao, cap, hv⟩ := HO.out.reads.form
      rw [List.length_map] at hv
      subst hv
      have hhi := ownsRow_high HO.out (acc.length - 1) (by omega)
      obtain ⟨ho2, hcap⟩ := hhi
      have hcap2 : acc.length ≤ cap + 1 := by omega
      by_cases h2 : x = [46, 46]
      · subst h2
        have hM : max (0 : Int) ((acc.length : Int) - 1) = ((acc.length - 1 : Nat) : Int) := by omega
        have hdl : acc.dropLast.length = acc.length - 1 := List.length_dropLast
        have ho3 : wr.ownsRow w1.heap.size 9 1 (.slice ao (acc.length - 1) cap) acc.dropLast.length (acc.dropLast.map strV) := by
          rw [hdl, List.dropLast_eq_take, List.map_take]; exact ho2
        have HO2 := hid ho3
        have hst : stepS acc [46, 46] lb = acc.dropLast ++ (if lb then [[]] else []) := by
          unfold stepS isDots; rfl
        rw [hst] at hstep
        have hdl2 : acc.dropLast.length ≤ k := by omega
        clear hx hst hdl ho2 ho3
        cases lb
        · have HST := hid hstep
          clear hstep
          go_wp2_with fail
          go_roundw
          case rel => exact ⟨k + 1, acc.dropLast, by omega, by go_num, HO2.out, by omega, by simpa using HST.out, hb⟩
          case measure => simp [intOf]; omega
        · have HST := hid hstep
          clear hstep
          go_wp2_with (at_builtin; go_must (refine wpList_append_one _ rfl _ _ 49 rfl w1.heap.size 9 Tryz.underlying49 infoStr rfl (by decide) rfl HO2.out rfl (by first | rfl | simp) (by omega) hb1s ?_); intro v' w3 ho3 hg3 hb3)
          go_roundw
          case rel => exact ⟨k + 1, acc.dropLast ++ [[]], by omega, by go_num, by simpa using ho3, by rw [List.length_append]; simp only [List.length_singleton]; omega, HST.out, hb.trans hb3⟩
          case measure => simp [intOf]; omega
      · have e2 : (x == [46, 46]) = false := beq_eq_false_iff_ne.2 h2
        by_cases h1 : x = [46]
        · subst h1
          have hst : stepS acc [46] lb = acc ++ (if lb then [[]] else []) := by
            unfold stepS isDots; rfl
          rw [hst] at hstep
          have HST := hid hstep
          clear hx hst hstep h2 ho2
          cases lb
          · go_wp2_with fail
            go_roundw
            case rel => exact ⟨k + 1, acc, by omega, by go_num, HO.out, by omega, by simpa using HST.out, hb⟩
            case measure => simp [intOf]; omega
          · go_wp2_with (at_builtin; go_must (refine wpList_append_one _ rfl _ _ 49 rfl w1.heap.size 9 Tryz.underlying49 infoStr rfl (by decide) rfl HO.out rfl (by first | rfl | simp) (by omega) hb1s ?_); intro v' w3 ho3 hg3 hb3)
            go_roundw
            case rel => exact ⟨k + 1, acc ++ [[]], by omega, by go_num, by simpa using ho3, by simp; omega, HST.out, hb.trans hb3⟩
            case measure => simp [intOf]; omega
        · have e1 : (x == [46]) = false := beq_eq_false_iff_ne.2 h1
          have hst : stepS acc x lb = acc ++ [x] := by
            unfold stepS isDots
            rw [if_neg (by simp [h1, h2])]
          rw [hst] at hstep
          have HST := hid hstep
          clear hx hst hstep h1 h2 ho2
          go_wp2_with (at_builtin; go_must (refine wpList_append_one _ rfl _ _ 49 rfl w1.heap.size 9 Tryz.underlying49 infoStr rfl (by decide) rfl HO.out rfl (by first | rfl | simp) (by omega) hb1s ?_); intro v' w3 ho3 hg3 hb3)
          go_roundw
          case rel => exact ⟨k + 1, acc ++ [x], by omega, by go_num, by simpa using ho3, by simp; omega, HST.out, hb.trans hb3⟩
          case measure => simp [intOf]; omega
    · have hacc : acc = R := by
        rw [← HJ.out, List.drop_eq_nil_of_le (by omega)]; rfl
      subst hacc
      have cj := join47 u4 acc wr HO.out (by omega) (by omega)
      have hadd := fun W => run_string_add_lists (P := Tryz.prog) W [47] (joinL [47] acc) (by simp) (by omega)
      obtain ⟨ao, cap, hv⟩ := HO.out.reads.form
      rw [List.length_map] at hv
      subst hv
      have CJ := hid cj
      clear cj HJ HO HR
      go_wp2_with (go_at_call 32; refine CJ.out.mono ?_; rintro e w2 ⟨rfl, hb2⟩)
      rw [Exit.noGoto_ret]
      go_ret
      exact ⟨rfl, chainP (chainP hb1 hb) hb2⟩
end Go.Proofs.YthokpbpnecdgpaaGreatDoor
