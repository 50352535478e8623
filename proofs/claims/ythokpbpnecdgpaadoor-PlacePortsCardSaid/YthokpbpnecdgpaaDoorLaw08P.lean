/-
  The walk of the statement PlacePorts.
-/
import Derived.Test.YthokpbpnecdgpaaDoorLaw08L
import Derived.Test.YthokpbpnecdgpaaDoorLaw08X
import Derived.Test.YthokpbpnecdgpaaDoorPurePlace3
namespace Go.Pantry
open Go.RowKit
/-- what the four hosts come to -/
def FinP (n : Nat) (S h1 h2 h3 h4 : List UInt8) (z1 z2 z3 z4 : Int) : Prop :=
  (z1 = 25 ∧ z2 = 25 ∧ z3 = 25 ∧ z4 = 25) ∨ (z1 = 0 ∧ z2 = 0 ∧ z3 = 0 ∧ h2 = h1 ∧ h3 = h1 ∧ h1.length ≤ 46 ∧ ((5 < S.length ∧ z4 = 25) ∨ (S.length ≤ 5 ∧ z4 = 0 ∧ ((n = 80 ∧ h4 = h1) ∨ (n ≠ 80 ∧ h4 = h1 ++ [58] ++ digF 5 n)))))
theorem finP {N : List UInt8} (h : (58 : UInt8) ∉ N) (k : Nat) {n : Nat} (hn : n < 100000) :
    FinP n (zdL k n) ((hostL N).getD []) ((hostL (N ++ [58])).getD []) ((hostL (N ++ [58, 56, 48])).getD []) ((hostL (N ++ [58] ++ zdL k n)).getD []) (if (hostL N).isSome then 0 else 25) (if (hostL (N ++ [58])).isSome then 0 else 25) (if (hostL (N ++ [58, 56, 48])).isSome then 0 else 25) (if (hostL (N ++ [58] ++ zdL k n)).isSome then 0 else 25) := by
  obtain ⟨e1, e2⟩ := host_name h
  have e3 := e2 [56, 48]
  have e4 := e2 (zdL k n)
  have e5 := e2 []
  obtain ⟨q1, q2, q3, q4⟩ := zdL_ok k hn
  rw [List.append_assoc, List.singleton_append, e1, e3, e4, e5]
  cases hO : hostN N [] with
  | none =>
    left
    rw [hostN_none hO [56, 48], hostN_none hO (zdL k n)]
    exact ⟨rfl, rfl, rfl, rfl⟩
  | some H =>
    right
    have hl : H.length ≤ 46 := host_len (s := N) (by rw [e1]; exact hO)
    rw [hostN_some hO (s := [56, 48]) (by simp) (by decide), if_neg (show ¬ 5 < ([56, 48] : List UInt8).length by decide), port_80, List.append_nil, hostN_some hO q1 q2]
    refine ⟨rfl, rfl, rfl, rfl, rfl, hl, ?_⟩
    by_cases h5 : 5 < (zdL k n).length
    · rw [if_pos h5]; exact .inl ⟨h5, rfl⟩
    · rw [if_neg h5, port_zd k hn]
      refine .inr ⟨by omega, rfl, ?_⟩
      by_cases h80 : n = 80
      · rw [if_pos h80]; exact .inl ⟨h80, by simp⟩
      · rw [if_neg h80]; exact .inr ⟨h80, by simp⟩
theorem zdL_more (k n : Nat) : zdL (k + 1) n = [48] ++ zdL k n := by unfold zdL; rw [List.replicate_succ]; rfl
end Go.Pantry
namespace Go.Proofs.YthokpbpnecdgpaaDoor
open Go.RowKit Go.Pantry

set_option maxRecDepth 100000 in
set_option maxHeartbeats 8000000 in
theorem placePorts_walk (a : ByteArray) (zn zz : Int) (w : World) (hm : MaxOk w) (hl : LaidP w) (ha : a.size ≤ maxLen) :
    Calls Tryd.prog 6 #[.string a, .int .i64 zn, .int .i64 zz] w fun e w' => e = .returned (.bool true) ∧ Below w.heap.size w w' := by
  have ok : PlaceOk w := ⟨hm, hl.1, hl.2⟩
  have ca := anchor_any w ok
  have CA := hid ca
  have OK := hid ok
  clear ca ok hm hl ha
  by_cases hout : 40 < a.size ∨ zn < 0 ∨ 99999 < zn ∨ zz < 0 ∨ 4 < zz
  · have e : (decide ((40 : Int) < (a.size : Int)) = true) ∨ (decide ((40 : Int) < (a.size : Int)) = false ∧ decide (zn < 0) = true) ∨ (decide ((40 : Int) < (a.size : Int)) = false ∧ decide (zn < 0) = false ∧ decide ((99999 : Int) < zn) = true) ∨ (decide ((40 : Int) < (a.size : Int)) = false ∧ decide (zn < 0) = false ∧ decide ((99999 : Int) < zn) = false ∧ decide (zz < 0) = true) ∨ (decide ((40 : Int) < (a.size : Int)) = false ∧ decide (zn < 0) = false ∧ decide ((99999 : Int) < zn) = false ∧ decide (zz < 0) = false ∧ decide ((4 : Int) < zz) = true) := by
      simp only [decide_eq_true_eq, decide_eq_false_iff_not]
      omega
    clear hout
    rcases e with e1 | ⟨e1, e2⟩ | ⟨e1, e2, e3⟩ | ⟨e1, e2, e3, e4⟩ | ⟨e1, e2, e3, e4, e5⟩
    all_goals
      go_enter Tryd.func6, Tryd.ntmps6
      go_wp2_with (go_at_call 9; refine CA.out.mono ?_; rintro e w1 ⟨rfl, HB⟩)
      go_ret
      exact ⟨rfl, HB⟩
  · obtain ⟨n, rfl⟩ : ∃ n : Nat, zn = (n : Int) := ⟨zn.toNat, by omega⟩
    obtain ⟨z, rfl⟩ : ∃ z : Nat, zz = (z : Int) := ⟨zz.toNat, by omega⟩
    have l1 : a.size ≤ 40 := by omega
    have hn : n < 100000 := by omega
    have hz : z ≤ 4 := by omega
    have e1 : decide ((40 : Int) < (a.size : Int)) = false := by rw [decide_eq_false_iff_not]; omega
    have e2 : decide ((n : Int) < 0) = false := by rw [decide_eq_false_iff_not]; omega
    have e3 : decide ((99999 : Int) < (n : Int)) = false := by rw [decide_eq_false_iff_not]; omega
    have e4 : decide ((z : Int) < 0) = false := by rw [decide_eq_false_iff_not]; omega
    have e5 : decide ((4 : Int) < (z : Int)) = false := by rw [decide_eq_false_iff_not]; omega
    clear hout
    have z1 := size_list a
    obtain ⟨N, hN⟩ : ∃ N, a.data.toList = N := ⟨_, rfl⟩
    have va : strV N = .string a := by rw [← hN]
    have ma : (⟨N.toArray⟩ : ByteArray) = a := by rw [← hN]
    rw [hN] at z1
    have q4 := (zdL_ok z hn).2.2.2
    have s1 := fun W => run_string_add_lists (P := Tryd.prog) W N [58] (by omega) (by simp)
    have s2 := fun W => run_string_add_lists (P := Tryd.prog) W N [58, 56, 48] (by omega) (by simp)
    have s4 := fun W => run_string_add_lists (P := Tryd.prog) W (N ++ [58]) (zdL z n) (by simp; omega) (by omega)
    have sz := fun k (hk : k < z) W => run_string_add_lists (P := Tryd.prog) W [48] (zdL k n) (by simp) (by have := (zdL_ok k hn).2.2.2; omega)
    have fin := fun h => @finP N h z n hn
    have c1 := fun W (hW : PlaceOk W) => Host_any N W (by omega) hW.max hW.tab
    have c2 := fun W (hW : PlaceOk W) => Host_any (N ++ [58]) W (by simp; omega) hW.max hW.tab
    have c3 := fun W (hW : PlaceOk W) => Host_any (N ++ [58, 56, 48]) W (by simp; omega) hW.max hW.tab
    have c4 := fun W (hW : PlaceOk W) => Host_any (N ++ [58] ++ zdL z n) W (by simp; omega) hW.max hW.tab
    have ct := fun W => text_any 4 n (n : Int) W rfl (by omega) (by decide)
    have ct' : ∀ W, Calls Tryd.prog 13 #[.int .i64 (n : Int)] W fun e w' => e = .returned (strV (digF 5 n)) ∧ Below W.heap.size W w' := ct
    unfold errZ at c1 c2 c3 c4
    obtain ⟨h1, hh1⟩ : ∃ h, (hostL N).getD [] = h := ⟨_, rfl⟩
    obtain ⟨h2, hh2⟩ : ∃ h, (hostL (N ++ [58])).getD [] = h := ⟨_, rfl⟩
    obtain ⟨h3, hh3⟩ : ∃ h, (hostL (N ++ [58, 56, 48])).getD [] = h := ⟨_, rfl⟩
    obtain ⟨h4, hh4⟩ : ∃ h, (hostL (N ++ [58] ++ zdL z n)).getD [] = h := ⟨_, rfl⟩
    obtain ⟨i1, hi1⟩ : ∃ i : Int, (if (hostL N).isSome then (0 : Int) else 25) = i := ⟨_, rfl⟩
    obtain ⟨i2, hi2⟩ : ∃ i : Int, (if (hostL (N ++ [58])).isSome then (0 : Int) else 25) = i := ⟨_, rfl⟩
    obtain ⟨i3, hi3⟩ : ∃ i : Int, (if (hostL (N ++ [58, 56, 48])).isSome then (0 : Int) else 25) = i := ⟨_, rfl⟩
    obtain ⟨i4, hi4⟩ : ∃ i : Int, (if (hostL (N ++ [58] ++ zdL z n)).isSome then (0 : Int) else 25) = i := ⟨_, rfl⟩
    simp only [hh1, hh2, hh3, hh4, hi1, hi2, hi3, hi4] at fin
    simp only [hh1, hi1] at c1
    simp only [hh2, hi2] at c2
    simp only [hh3, hi3] at c3
    simp only [hh4, hi4] at c4
    rw [va] at c1
    obtain ⟨X4, hX4⟩ : ∃ X, N ++ [58] ++ zdL z n = X := ⟨_, rfl⟩
    rw [hX4] at c4 s4
    obtain ⟨X1, hX1⟩ : ∃ X, N ++ [58] = X := ⟨_, rfl⟩
    rw [hX1] at s1 s4 c2
    obtain ⟨X2, hX2⟩ : ∃ X, N ++ [58, 56, 48] = X := ⟨_, rfl⟩
    rw [hX2] at s2 c3
    rw [ma] at s1 s2
    have s1' : ∀ W, (Op.stringOp BinOp.add a ⟨#[58]⟩).run Tryd.prog W = .ok (.string ⟨X1.toArray⟩) W := s1
    have s2' : ∀ W, (Op.stringOp BinOp.add a ⟨#[58, 56, 48]⟩).run Tryd.prog W = .ok (.string ⟨X2.toArray⟩) W := s2
    have fin' : (∀ x ∈ a.data.toList, x ≠ 58) → FinP n (zdL z n) h1 h2 h3 h4 i1 i2 i3 i4 := fun h => fin (fun hm => h 58 (by rw [hN]; exact hm) rfl)
    obtain ⟨D, hD⟩ : ∃ D, digF 5 n = D := ⟨_, rfl⟩
    have hDl : D.length ≤ 5 := by rw [← hD]; exact digF_len 5 n
    have hz0 : zdL 0 n = D := by rw [← hD]; rfl
    rw [hD] at ct'
    have FIN := hid fin'
    have HDD := hid hD
    have HZ0 := hid hz0
    have C1 := hid c1
    have C2 := hid c2
    have C3 := hid c3
    have C4 := hid c4
    have CT := hid ct'
    have SZ := hid sz
    clear c1 c2 c3 c4 ct ct' s1 s2 fin fin' hN va ma hh1 hh2 hh3 hh4 hi1 hi2 hi3 hi4 hX4 hX1 hX2 sz hD hz0 z1
    go_enter Tryd.func6, Tryd.ntmps6
    go_wp2_with (first
      | (go_at_call 9; refine CA.out.mono ?_; rintro e w1 ⟨rfl, HB⟩)
      | (go_at_call 12; with_reducible refine (C1.out _ (OK.out.below HB)).mono ?_; rintro e w2 ⟨rfl, hb2⟩; replace HB := HB.trans (hb2.mono HB.size); clear hb2)
      | (go_at_call 12; with_reducible refine (C2.out _ (OK.out.below HB)).mono ?_; rintro e w3 ⟨rfl, hb2⟩; replace HB := HB.trans (hb2.mono HB.size); clear hb2)
      | (go_at_call 12; with_reducible refine (C3.out _ (OK.out.below HB)).mono ?_; rintro e w4 ⟨rfl, hb2⟩; replace HB := HB.trans (hb2.mono HB.size); clear hb2)
      | (go_at_call 13; with_reducible refine (CT.out _).mono ?_; rintro e w5 ⟨rfl, hb2⟩; replace HB := HB.trans (hb2.mono HB.size); clear hb2))
    go_loop [13, 58] (fun s i => ∃ k : Nat, k ≤ z ∧ i = .int .i64 k ∧ s = strV (zdL k n)) (fun _ i => z - (intOf i).toNat)
    case atStart => exact ⟨0, Nat.zero_le _, rfl, by rw [HZ0.out]⟩
    case round =>
      obtain ⟨k, hk, rfl, rfl⟩ := hrel
      by_cases hlt : k < z
      · have sk := SZ.out k hlt
        have sk' : ∀ W, (Op.stringOp BinOp.add ⟨#[48]⟩ ⟨(zdL k n).toArray⟩).run Tryd.prog W = .ok (.string ⟨([48] ++ zdL k n).toArray⟩) W := sk
        have f1 : decide ((k : Int) < (z : Int)) = true := by simp; omega
        clear sk
        go_wp2_with fail
        go_round
        case rel => exact ⟨k + 1, by omega, by go_num, by rw [zdL_more]; rfl⟩
        case measure => simp [intOf]; omega
      · obtain rfl : k = z := by omega
        have f1 : decide ((k : Int) < (k : Int)) = false := by simp
        obtain ⟨S, hS⟩ : ∃ S, zdL k n = S := ⟨_, rfl⟩
        rw [hS] at s4 q4 ⊢
        have HFIN := FIN.out
        rw [hS] at HFIN
        have HF := hid HFIN
        clear HFIN FIN hS hlt hk
        go_wp2_with (go_at_call 12; with_reducible refine (C4.out _ (OK.out.below HB)).mono ?_; rintro e w6 ⟨rfl, hb2⟩; replace HB := HB.trans (hb2.mono HB.size); clear hb2)
        go_loop [73] (fun i => ∃ j : Nat, j ≤ a.size ∧ i = .int .i64 j ∧ ((a.data.toList.take j).all fun x => x != 58) = true) (fun i => a.size - (intOf i).toNat)
        case atStart => exact ⟨0, Nat.zero_le _, rfl, rfl⟩
        case round =>
          obtain ⟨j, hj, rfl, hp⟩ := hrel
          have HP := hid hp
          clear hp
          by_cases hlt : j < a.size
          · have hstep := all_take_succ a.data.toList (fun x => x != 58) j (by rw [size_list]; exact hlt)
            rw [getElem_list a j hlt] at hstep
            have hsq : (a[j] != 58) = !((a[j].toNat : Int) == 58) := by
              rw [← byte_beq a[j] 58 (z := 58) rfl]; rfl
            obtain ⟨q1, hq1⟩ : ∃ q1, ((a[j].toNat : Int) == 58) = q1 := ⟨_, rfl⟩
            rw [hq1] at hsq
            have HS := hid hstep
            have HQ := hid hsq
            clear hstep hsq
            cases q1
            · go_wp2
              go_round
              case rel => exact ⟨j + 1, by omega, by go_num, by rw [HS.out, HP.out, HQ.out]; rfl⟩
              case measure => simp [intOf]; omega
            · go_wp2
              go_ret
              exact ⟨rfl, HB⟩
          · have hall : ∀ x ∈ a.data.toList, x ≠ 58 := by
              have h := HP.out
              rw [take_all a j hlt] at h
              intro x hx
              have := List.all_eq_true.1 h x hx
              simpa using this
            rcases HF.out hall with ⟨rfl, rfl, rfl, rfl⟩ | ⟨rfl, rfl, rfl, rfl, rfl, hh, ⟨h5, rfl⟩ | ⟨h5, rfl, ⟨h80, rfl⟩ | ⟨h80, rfl⟩⟩⟩
            · clear hall HF
              go_wp2_with fail
              go_ret
              exact ⟨rfl, HB⟩
            · have f5 : decide ((5 : Int) < (S.length : Int)) = true := by simp; omega
              clear hall HF h5
              go_wp2_with fail
              go_ret
              exact ⟨rfl, HB⟩
            · have f5 : decide ((5 : Int) < (S.length : Int)) = false := by rw [decide_eq_false_iff_not]; omega
              have f8 : ((n : Int) == 80) = true := by simp; omega
              clear hall HF h5 h80
              go_wp2_with fail
              go_ret
              exact ⟨rfl, HB⟩
            · have f5 : decide ((5 : Int) < (S.length : Int)) = false := by rw [decide_eq_false_iff_not]; omega
              have f8 : ((n : Int) == 80) = false := by rw [beq_eq_false_iff_ne]; omega
              have f9 : ((n : Int) != 80) = true := by rw [bne_iff_ne]; omega
              rw [HDD.out] at *
              have s5 := fun W => run_string_add_lists (P := Tryd.prog) W h3 [58] (by omega) (by simp)
              have s6 := fun W => run_string_add_lists (P := Tryd.prog) W (h3 ++ [58]) D (by simp; omega) (by omega)
              obtain ⟨X6, hX6⟩ : ∃ X, h3 ++ [58] ++ D = X := ⟨_, rfl⟩
              rw [hX6] at s6 ⊢
              obtain ⟨X5, hX5⟩ : ∃ X, h3 ++ [58] = X := ⟨_, rfl⟩
              rw [hX5] at s5 s6
              have s5' : ∀ W, (Op.stringOp BinOp.add ⟨h3.toArray⟩ ⟨#[58]⟩).run Tryd.prog W = .ok (.string ⟨X5.toArray⟩) W := s5
              clear hall HF h5 h80 s5 hX6 hX5
              go_wp2_with (go_at_call 13; with_reducible refine (CT.out _).mono ?_; rintro e w7 ⟨rfl, hb2⟩; replace HB := HB.trans (hb2.mono HB.size); clear hb2)
              go_ret
              exact ⟨rfl, HB⟩
end Go.Proofs.YthokpbpnecdgpaaDoor
