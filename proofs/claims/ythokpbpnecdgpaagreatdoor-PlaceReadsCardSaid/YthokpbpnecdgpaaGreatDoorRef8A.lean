/-
  The document's answers of layer 8: letters, small letters, digits, a hexadecimal digit's value; cut, apart.
-/
import Derived.Test.YthokpbpnecdgpaaGreatDoorSignLow
import Derived.Test.YthokpbpnecdgpaaGreatDoorLaw08A
import Derived.Test.YthokpbpnecdgpaaGreatDoorPurePlace3
import Derived.Test.YthokpbpnecdgpaaGreatDoorInfo
import Derived.Deep.RegionWith
import Derived.IntWalk
import Derived.Deep.QuietTactic
import Derived.BigQuiet
namespace Go.Pantry
open Go.RowKit
def valZ (c : UInt8) : Int := match hexV c with | some v => (v : Int) | none => -1
theorem valZ_small {c : UInt8} (h : 48 ≤ c.toNat ∧ c.toNat ≤ 57) : valZ c = (c.toNat : Int) - 48 := by
  unfold valZ hexV; rw [if_pos h]; simp only; omega
theorem valZ_low {c : UInt8} (h : 97 ≤ c.toNat ∧ c.toNat ≤ 102) : valZ c = (c.toNat : Int) - 97 + 10 := by
  unfold valZ hexV; rw [if_neg (by omega), if_pos h]; simp only; omega
theorem valZ_up {c : UInt8} (h : 65 ≤ c.toNat ∧ c.toNat ≤ 70) : valZ c = (c.toNat : Int) - 65 + 10 := by
  unfold valZ hexV; rw [if_neg (by omega), if_neg (by omega), if_pos h]; simp only; omega
theorem valZ_no {c : UInt8} (h1 : ¬ (48 ≤ c.toNat ∧ c.toNat ≤ 57)) (h2 : ¬ (97 ≤ c.toNat ∧ c.toNat ≤ 102)) (h3 : ¬ (65 ≤ c.toNat ∧ c.toNat ≤ 70)) : valZ c = -1 := by
  unfold valZ hexV; rw [if_neg h1, if_neg h2, if_neg h3]
theorem ext_take (s : ByteArray) (k : Nat) : s.extract 0 k = ⟨(s.data.toList.take k).toArray⟩ := by rw [Lib.extract_eq]; simp
theorem ext_drop (s : ByteArray) (k : Nat) : s.extract k s.size = ⟨(s.data.toList.drop k).toArray⟩ := by
  rw [Lib.extract_eq, ← size_list]
  congr 2
  exact List.take_of_length_le (by rw [List.length_drop]; exact Nat.le_refl _)
theorem split_at {s : ByteArray} {k : Nat} (h : k < s.size) : s.data.toList = s.data.toList.take k ++ s[k] :: s.data.toList.drop (k + 1) := by
  conv => lhs; rw [← List.take_append_drop k s.data.toList]
  rw [List.drop_eq_getElem_cons (by rw [size_list]; exact h), getElem_list s k h]
end Go.Pantry
namespace Go.Proofs.YthokpbpnecdgpaaGreatDoor
open Go.RowKit Go.Pantry

theorem refLetter_any (c : UInt8) (w : World) :
    Calls Tryz.prog 23 #[.int .u8 (c.toNat : Int)] w fun e w' => e = .returned (.bool (isLow c || isUp c || isDig c)) ∧ w = w' := by
  go_enter Tryz.func23, Tryz.ntmps23
  go_wp2
  all_goals go_ret
  all_goals exact ⟨ret_bool (by rw [Bool.eq_iff_iff]; simp [isLow, isUp, isDig]; omega), rfl⟩

set_option maxRecDepth 4000 in
theorem refLower_any (s : ByteArray) (w : World) (hs : s.size < 4294967296) :
    Calls Tryz.prog 14 #[.string s] w fun e w' => e = .returned (.string ⟨(lowerL s.data.toList).toArray⟩) ∧ Below w.heap.size w w' := by
  go_enter Tryz.func14, Tryz.ntmps14
  go_wp2
  go_loopw [3, 4] (fun v i wr => ∃ k : Nat, k ≤ s.size ∧ i = .int .i64 k ∧ wr.ownsRow w.heap.size 5 1 v k ((lowerL (s.data.toList.take k)).map byteV) ∧ Below w.heap.size w wr) (fun _ i _ => s.size - (intOf i).toNat)
  case atStart => exact ⟨0, Nat.zero_le _, rfl, World.ownsRow_nil _ _ _ _, Below.refl _ _⟩
  case round =>
    obtain ⟨k, hk, rfl, hown, hb⟩ := hrel
    have hB := hb.size
    have hcv := ownsRow_string hown 48 9 Tryz.underlying48 Tryz.underlying5 Tryz.underlying9
    go_wp2_with ((at_builtin; refine wpList_append_one _ rfl _ _ 48 rfl w.heap.size 5 Tryz.underlying48 infoU8 rfl (by decide) rfl hown rfl rfl (by omega) hB ?_; intro v' w1 hown1 hg1 hb1))
    iterate 3
      · go_roundw
        case rel =>
          have hlt : k < s.size := by assumption
          refine ⟨k + 1, by omega, by go_num, ?_, hb.trans hb1⟩
          rw [take_succ_list s k hlt, lower_snoc, List.map_append]
          have e := low_any s[k]
          first
            | (rw [if_pos (by omega)] at e; simpa [byteV, e] using hown1)
            | (rw [if_neg (by omega)] at e; simpa [byteV, e] using hown1)
        case measure => simp [intOf]; omega
    · have hlt : ¬ k < s.size := by assumption
      go_ret
      refine ⟨ret_str ?_, hb⟩
      rw [take_all s k hlt]
set_option maxRecDepth 4000 in
theorem refDigits_any (f : Nat) : ∀ (n : Nat) (z : Int) (w : World), z = (n : Int) → n < 10 ^ (f + 1) → f ≤ 17 →
    Calls Tryz.prog 25 #[.int .i64 z] w fun e w' => e = .returned (strV (digF (f + 1) n)) ∧ Below w.heap.size w w' := by
  induction f with
  | zero =>
    intro n z w hz h _
    subst hz
    simp at h
    have hcv := run_one_byte (P := Tryz.prog) 48 9 5 Tryz.underlying48 Tryz.underlying5 Tryz.underlying9 (w.alloc (.cells #[.int .u8 (48 + (n : Int))] 5)) w.heap.size (48 + (n : Int)) (World.cell?_alloc_at _ _ _ _ rfl)
    go_enter Tryz.func25, Tryz.ntmps25
    go_wp2
    go_ret
    refine ⟨ret_str ?_, below_alloc _ _⟩
    rw [digF, if_pos (by omega)]
  | succ f ih =>
    intro n z w hz h hf
    subst hz
    by_cases hn : n < 10
    · have hcv := run_one_byte (P := Tryz.prog) 48 9 5 Tryz.underlying48 Tryz.underlying5 Tryz.underlying9 (w.alloc (.cells #[.int .u8 (48 + (n : Int))] 5)) w.heap.size (48 + (n : Int)) (World.cell?_alloc_at _ _ _ _ rfl)
      clear h ih
      go_enter Tryz.func25, Tryz.ntmps25
      go_wp2
      go_ret
      refine ⟨ret_str ?_, below_alloc _ _⟩
      rw [digF, if_pos (by omega)]
    · have h1 : n / 10 < 10 ^ (f + 1) := by rw [Nat.pow_succ] at h; omega
      have hnb : n < 1000000000000000000 := Nat.lt_of_lt_of_le h (by
        have := Nat.pow_le_pow_right (n := 10) (by decide) (show f + 1 + 1 ≤ 18 by omega)
        simpa using this)
      have hadd := fun (W : World) (y : UInt8) => run_string_add_lists (P := Tryz.prog) W (digF (f + 1) (n / 10)) [y] (by have := digF_len (f + 1) (n / 10); omega) (by simp)
      have IH := hid ih
      have H1 := hid h1
      clear h h1 ih
      have hcv := fun (W : World) (b : Nat) (c : Int) => run_one_byte (P := Tryz.prog) 48 9 5 Tryz.underlying48 Tryz.underlying5 Tryz.underlying9 W b c
      have w1 : IntKind.i64.wrap ((n : Int) / 10) = (n : Int) / 10 := IntWalk.i64_in _ (by omega)
      go_enter Tryz.func25, Tryz.ntmps25
      go_wp2_with fail
      go_region_with (go_at_call 25; go_must (refine (IH.out (n / 10) _ _ (by omega) H1.out (by omega)).mono ?_); rintro e w' ⟨rfl, hb⟩; first | have hcc := kept_new hb rfl | skip)
      all_goals go_wp2
      all_goals go_ret
      all_goals
        refine ⟨ret_str ?_, ?_⟩
        · rw [digit_byte, show digF (f + 1 + 1) n = digF (f + 1) (n / 10) ++ [(48 + n % 10).toUInt8] from by rw [digF, if_neg hn]]
        · first
            | exact (below_of_drew hb).alloc (below_of_drew hb).size _
            | exact below_of_new hb
            | exact below_of_drew hb
theorem refVal_any (c : UInt8) (w : World) :
    Calls Tryz.prog 33 #[.int .u8 (c.toNat : Int)] w fun e w' => e = .returned (.int .i64 (valZ c)) ∧ w = w' := by
  have hc := c.toNat_lt
  have h1 := @valZ_small c
  have h2 := @valZ_low c
  have h3 := @valZ_up c
  have h4 := @valZ_no c
  have H1 := hid h1
  have H2 := hid h2
  have H3 := hid h3
  have H4 := hid h4
  clear h1 h2 h3 h4
  generalize hn : c.toNat = n at *
  go_enter Tryz.func33, Tryz.ntmps33
  by_cases g1 : 48 ≤ n ∧ n ≤ 57
  · have e := H1.out g1
    have a1 : decide ((48 : Int) ≤ (n : Int)) = true := by simp; omega
    have a2 : decide ((n : Int) ≤ 57) = true := by simp; omega
    rw [e]
    clear e H1 H2 H3 H4
    go_wp2_with fail
    go_ret
    exact ⟨rfl, rfl⟩
  · have b : (decide ((48 : Int) ≤ (n : Int)) = true ∧ decide ((n : Int) ≤ 57) = false) ∨ decide ((48 : Int) ≤ (n : Int)) = false := by
      simp only [decide_eq_true_eq, decide_eq_false_iff_not]; omega
    by_cases g2 : 97 ≤ n ∧ n ≤ 102
    · have e := H2.out g2
      have a1 : decide ((97 : Int) ≤ (n : Int)) = true := by simp; omega
      have a2 : decide ((n : Int) ≤ 102) = true := by simp; omega
      rw [e]
      clear e H1 H2 H3 H4
      rcases b with ⟨b1, b2⟩ | b1
      all_goals
        go_wp2_with fail
        go_ret
        exact ⟨rfl, rfl⟩
    · have d : (decide ((97 : Int) ≤ (n : Int)) = true ∧ decide ((n : Int) ≤ 102) = false) ∨ decide ((97 : Int) ≤ (n : Int)) = false := by
        simp only [decide_eq_true_eq, decide_eq_false_iff_not]; omega
      by_cases g3 : 65 ≤ n ∧ n ≤ 70
      · have e := H3.out g3
        have a1 : decide ((65 : Int) ≤ (n : Int)) = true := by simp; omega
        have a2 : decide ((n : Int) ≤ 70) = true := by simp; omega
        rw [e]
        clear e H1 H2 H3 H4
        rcases b with ⟨b1, b2⟩ | b1
        all_goals rcases d with ⟨d1, d2⟩ | d1
        all_goals
          go_wp2_with fail
          go_ret
          exact ⟨rfl, rfl⟩
      · have e := H4.out g1 g2 g3
        have k : (decide ((65 : Int) ≤ (n : Int)) = true ∧ decide ((n : Int) ≤ 70) = false) ∨ decide ((65 : Int) ≤ (n : Int)) = false := by
          simp only [decide_eq_true_eq, decide_eq_false_iff_not]; omega
        rw [e]
        clear e H1 H2 H3 H4
        rcases b with ⟨b1, b2⟩ | b1
        all_goals rcases d with ⟨d1, d2⟩ | d1
        all_goals rcases k with ⟨k1, k2⟩ | k1
        all_goals
          go_wp2_with fail
          go_ret
          exact ⟨rfl, rfl⟩
set_option maxRecDepth 100000 in
theorem refCut_any (s : ByteArray) (w : World) (hs : s.size ≤ 100000) :
    Calls Tryz.prog 16 #[.string s] w fun e w' => e = .returned (.tuple #[strV (bef 63 s.data.toList), strV (beh 63 s.data.toList), .bool (hasB 63 s.data.toList)]) ∧ Below w.heap.size w w' := by
  go_enter Tryz.func16, Tryz.ntmps16
  go_wp2_with fail
  go_loop [5] (fun i => ∃ k : Nat, k ≤ s.size ∧ i = .int .i64 k ∧ ((s.data.toList.take k).all fun x => x != 63) = true) (fun i => s.size - (intOf i).toNat)
  case atStart => exact ⟨0, Nat.zero_le _, rfl, rfl⟩
  case round =>
    obtain ⟨k, hk, rfl, hp⟩ := hrel
    have hno : (63 : UInt8) ∉ s.data.toList.take k := fun hm => by
      have := List.all_eq_true.1 hp 63 hm
      simp at this
    have HNO := hid hno
    have HP := hid hp
    clear hp hno
    by_cases hlt : k < s.size
    · have f1 : decide ((k : Int) < (s.size : Int)) = true := by simp; omega
      by_cases hq : s[k] = 63
      · have fq : ((s[k].toNat : Int) == 63) = true := by rw [hq]; rfl
        have hsp := split_at hlt
        rw [hq] at hsp
        obtain ⟨b1, b2, b3⟩ := bef_at 63 (b := s.data.toList.drop (k + 1)) HNO.out
        rw [← hsp] at b1 b2 b3
        have B := hid (And.intro b1 (And.intro b2 b3))
        have x1 := ext_take s k
        have x2 := ext_drop s (k + 1)
        have X := hid (And.intro x1 x2)
        clear b1 b2 b3 hsp hq x1 x2
        go_wp2_with fail
        go_quiet (fail)
        go_wp2_with fail
        go_ret3
        exact ⟨by rw [B.out.1, B.out.2.1, B.out.2.2, X.out.1, X.out.2]; rfl, below_drewN (Below.refl _ _) _⟩
      · have fq : ((s[k].toNat : Int) == 63) = false := by
          rw [← byte_beq s[k] 63 (z := 63) rfl]; simpa using hq
        have hstep := all_take_succ s.data.toList (fun x => x != 63) k (by rw [size_list]; exact hlt)
        rw [getElem_list s k hlt] at hstep
        have HS := hid hstep
        have HQ := hid hq
        clear hstep hq
        go_wp2_with fail
        go_round
        case rel => exact ⟨k + 1, by omega, by go_num, by rw [HS.out, HP.out]; simpa using HQ.out⟩
        case measure => simp [intOf]; omega
    · have f1 : decide ((k : Int) < (s.size : Int)) = false := by rw [decide_eq_false_iff_not]; omega
      have hno := HNO.out
      rw [take_all s k hlt] at hno
      obtain ⟨b1, b2, b3⟩ := bef_none 63 hno
      have B := hid (And.intro b1 (And.intro b2 b3))
      clear b1 b2 b3 hno
      go_wp2_with fail
      go_ret3
      exact ⟨by rw [B.out.1, B.out.2.1, B.out.2.2, strV_self]; rfl, Below.refl _ _⟩
set_option maxRecDepth 100000 in
theorem refApart_any (s : ByteArray) (w : World) (hs : s.size ≤ 100000) :
    Calls Tryz.prog 15 #[.string s] w fun e w' => e = .returned (.tuple #[strV (apartH s.data.toList), strV (apartR s.data.toList)]) ∧ Below w.heap.size w w' := by
  go_enter Tryz.func15, Tryz.ntmps15
  go_wp2_with fail
  go_loop [4] (fun i => ∃ k : Nat, k ≤ s.size ∧ i = .int .i64 k ∧ (∀ c ∈ s.data.toList.take k, isSQ c = false)) (fun i => s.size - (intOf i).toNat)
  case atStart => exact ⟨0, Nat.zero_le _, rfl, by simp⟩
  case round =>
    obtain ⟨k, hk, rfl, hp⟩ := hrel
    have HP := hid hp
    clear hp
    have x1 := ext_take s k
    have x2 := ext_drop s k
    obtain ⟨r, hr⟩ : ∃ r, s.data.toList.drop k = r := ⟨_, rfl⟩
    obtain ⟨RB, hRB⟩ : ∃ RB, s.extract k s.size = RB := ⟨_, rfl⟩
    rw [hr] at x2
    rw [hRB] at x2
    have hrl : RB.data.toList = r := by rw [x2]
    have key : (∀ c, r.head? = some c → isSQ c = true) → apartH s.data.toList = s.data.toList.take k ∧ apartB s.data.toList = r := fun h => by
      have := apart_at (a := s.data.toList.take k) (r := r) HP.out h
      rw [show s.data.toList.take k ++ r = s.data.toList from by rw [← hr, List.take_append_drop]] at this
      exact this
    have hrs : r.length = s.size - k := by rw [← hr, List.length_drop, size_list]
    by_cases hlt : k < s.size
    · have f1 : decide ((k : Int) < (s.size : Int)) = true := by simp; omega
      have hrc : r = s[k] :: s.data.toList.drop (k + 1) := by
        rw [← hr, List.drop_eq_getElem_cons (by rw [size_list]; exact hlt), getElem_list s k hlt]
      have hsz : RB.size = r.length := by rw [← size_list, hrl]
      have h0 : 0 < RB.size := by omega
      have hR0 : RB[0] = s[k] := by
        rw [← getElem_list RB 0 h0]
        have : RB.data.toList[0]? = some s[k] := by rw [hrl, hrc]; rfl
        rw [List.getElem?_eq_getElem (by rw [size_list]; exact h0)] at this
        exact Option.some.inj this
      have hne : ¬ RB.toList = [] := by rw [Lib.toList_data, hrl, hrc]; simp
      have hie : RB.toList.isEmpty = false := by rw [List.isEmpty_eq_false_iff]; exact hne
      by_cases q1 : s[k] = 47
      · have fq : ((s[k].toNat : Int) != 47) = false := by rw [q1]; rfl
        have fr : ((RB[0].toNat : Int) == 63) = false := by rw [hR0, q1]; rfl
        obtain ⟨k1, k2⟩ := key (fun c hc => by rw [hrc] at hc; simp at hc; rw [← hc, q1]; rfl)
        have k3 : apartR s.data.toList = r := by unfold apartR; rw [k2, if_pos (by rw [hrc, q1]; rfl)]
        have KK := hid (And.intro k1 k3)
        have X := hid (And.intro x1 x2)
        clear k1 k2 k3 key x1 x2 hrc q1 hrl hr hR0 HP
        go_wp2_with fail
        go_ret2
        exact ⟨by rw [KK.out.1, KK.out.2, show strV r = .string RB from by rw [X.out.2], X.out.1]; rfl, Below.refl _ _⟩
      · have fq : ((s[k].toNat : Int) != 47) = true := by
          rw [bne_iff_ne]; intro h; apply q1; rw [← UInt8.toNat_inj]; show s[k].toNat = 47; omega
        by_cases q2 : s[k] = 63
        · have fq2 : ((s[k].toNat : Int) != 63) = false := by rw [q2]; rfl
          have fr : ((RB[0].toNat : Int) == 63) = true := by rw [hR0, q2]; rfl
          obtain ⟨k1, k2⟩ := key (fun c hc => by rw [hrc] at hc; simp at hc; rw [← hc, q2]; rfl)
          have k3 : apartR s.data.toList = 47 :: r := by unfold apartR; rw [k2, if_neg (by rw [hrc, q2]; simp)]
          have KK := hid (And.intro k1 k3)
          have s1 := fun W => run_string_add_lists (P := Tryz.prog) W [47] r (by simp) (by omega)
          rw [← x2] at s1
          have s1' : ∀ W, (Op.stringOp BinOp.add ⟨#[47]⟩ RB).run Tryz.prog W = .ok (.string ⟨(47 :: r).toArray⟩) W := s1
          have X := hid x1
          clear k1 k2 k3 key x1 x2 hrc q1 q2 hrl hr hR0 HP s1
          go_wp2_with fail
          go_ret2
          exact ⟨by rw [KK.out.1, KK.out.2, X.out]; rfl, Below.refl _ _⟩
        · have fq2 : ((s[k].toNat : Int) != 63) = true := by
            rw [bne_iff_ne]; intro h; apply q2; rw [← UInt8.toNat_inj]; show s[k].toNat = 63; omega
          have hmore : ∀ c ∈ s.data.toList.take (k + 1), isSQ c = false := fun c hc => by
            rw [List.take_succ_eq_append_getElem (by rw [size_list]; exact hlt), getElem_list s k hlt] at hc
            rcases List.mem_append.1 hc with hc | hc
            · exact HP.out c hc
            · simp at hc; subst hc; unfold isSQ; simp [q1, q2]
          have HM := hid hmore
          clear key x1 x2 hrc q1 q2 hrl hr hR0 HP hmore
          go_wp2_with fail
          go_round
          case rel => exact ⟨k + 1, by omega, by go_num, HM.out⟩
          case measure => simp [intOf]; omega
    · have f1 : decide ((k : Int) < (s.size : Int)) = false := by rw [decide_eq_false_iff_not]; omega
      have hr0 : r = [] := List.eq_nil_of_length_eq_zero (by omega)
      obtain ⟨k1, k2⟩ := key (fun c hc => by rw [hr0] at hc; cases hc)
      have k3 : apartR s.data.toList = [47] := by unfold apartR; rw [k2, hr0]; rfl
      have KK := hid (And.intro k1 k3)
      have hne : RB.toList = [] := by rw [Lib.toList_data, hrl, hr0]
      have hie : RB.toList.isEmpty = true := by rw [hne]; rfl
      have s1 := fun W => run_string_add_lists (P := Tryz.prog) W [47] [] (by simp) (by simp)
      rw [show (⟨([] : List UInt8).toArray⟩ : ByteArray) = RB from by rw [x2, hr0]] at s1
      have s1' : ∀ W, (Op.stringOp BinOp.add ⟨#[47]⟩ RB).run Tryz.prog W = .ok (.string ⟨#[47]⟩) W := s1
      have X := hid x1
      clear k1 k2 k3 key x1 x2 hrl hr HP s1 hr0
      go_wp2_with fail
      go_ret2
      exact ⟨by rw [KK.out.1, KK.out.2, X.out]; rfl, Below.refl _ _⟩
end Go.Proofs.YthokpbpnecdgpaaGreatDoor
