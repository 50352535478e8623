/-
  The document's reader: number.
-/
import Derived.Test.YtenijpcjemdhfaaGreatDoorP10dRef9M
import Derived.Test.YtenijpcjemdhfaaGreatDoorP10dConfE
import Derived.Deep.Cut
namespace Go.Pantry
open Go.RowKit
theorem numM_off {lo hi : Nat} {p : Ps} (h : p.code ≠ 0) : numM lo hi p = stp p := by unfold numM; rw [chk_off h, chk_off h]
theorem valT_bound (l : List UInt8) (h : l.all isDig = true) (h10 : l.length ≤ 10) : valL l < 10000000000 := by
  have h1 := valL_bound l 0 h
  have h2 : 10 ^ l.length ≤ 10 ^ 10 := Nat.pow_le_pow_right (by decide) h10
  unfold valL
  have h3 : (10 : Nat) ^ 10 = 10000000000 := by decide
  omega
theorem allD_take {l : List UInt8} {k : Nat} (h : l.all isDig = true) : (l.take k).all isDig = true := List.all_eq_true.2 fun x hx => List.all_eq_true.1 h x (List.mem_of_mem_take hx)
theorem numM_bad {lo hi : Nat} {p : Ps} (h0 : p.code = 0) (hb : okD (hdW p) = false) : numM lo hi p = stp (chk false 30 p) := by
  unfold numM
  rw [hb, chk_off (show (chk false 30 p).code ≠ 0 by rw [chk_no h0]; exact (by decide : (30 : Nat) ≠ 0))]
theorem okD_no {l : List UInt8} {k : Nat} {c : UInt8} (hc : l[k]? = some c) (hb : isDig c = false) : okD l = false := by
  unfold okD
  have : l.all isDig = false := by
    rw [List.all_eq_false]
    exact ⟨c, List.mem_of_getElem? hc, by rw [hb]; decide⟩
  rw [this]; rfl
end Go.Pantry
namespace Go.Proofs.YtenijpcjemdhfaaGreatDoor
open Go.RowKit Go.Pantry

/-- what number leaves -/
def NPost (w : World) (g D : Nat) (T : List UInt8) (p q : Ps) (e : Ending) (w' : World) : Prop :=
  (∃ n : Nat, e = .returned (.int .i64 (n : Int)) ∧ n < 10000000000 ∧ (q.code = 0 → n = valD (hdW p))) ∧ Dc w' g D T q ∧ Kept (fun k => k = g) w w'
set_option maxRecDepth 100000 in
theorem docNumber_any (g D lo hi : Nat) (T : List UInt8) (p : Ps) (w : World) (h : Dc w g D T p) (hlo : lo < 10000000000) (hhi : hi < 10000000000) :
    Calls Tryz.prog 82 #[.pointer (some ⟨g, 0, none⟩), .int .i64 (lo : Int), .int .i64 (hi : Int)] w (NPost w g D T p (numM lo hi p)) := by
  have HD := hid h
  obtain ⟨c, hc⟩ : ∃ c, p.code = c := ⟨_, rfl⟩
  have c3 : w.cell? ⟨g, 3, none⟩ = some (.int .i64 (c : Int)) := by rw [← hc]; exact h.code
  have CW := hid (docWord_any g D T p w h)
  have HLH := hid (And.intro hlo hhi)
  by_cases h0 : c = 0
  rotate_left
  · have z1 : ((c : Int) == 0) = false := by simp; omega
    have z2 : ((c : Int) != 0) = true := by simp; omega
    have HO := hid (And.intro (show numM lo hi p = stp p from numM_off (by rw [hc]; exact h0)) (h.off (q := stp p) (by rw [hc]; exact h0) rfl rfl))
    have HC0 := hid (show (stp p).code ≠ 0 by show p.code ≠ 0; rw [hc]; exact h0)
    clear h hc h0 hlo hhi
    go_enter Tryz.func82, Tryz.ntmps82
    go_wp2_with fail
    go_ret
    refine ⟨⟨0, rfl, by decide, fun e => ?_⟩, by rw [HO.out.1]; exact HO.out.2, Kept.refl _ _⟩
    rw [HO.out.1] at e
    exact absurd e HC0.out
  subst h0
  have HC := hid hc
  clear h hc hlo hhi
  go_enter Tryz.func82, Tryz.ntmps82
  go_wp2_with fail
  refine CW.out.mono ?_
  rintro e w1 ⟨⟨y, rfl, hy, hyl⟩, hb1⟩
  have hyy := hy HC.out
  obtain ⟨s, hs⟩ : ∃ s : ByteArray, s.data.toList = y := ⟨⟨y.toArray⟩, rfl⟩
  have hsz : s.size = y.length := by rw [← hs, size_list]
  have hsv : strV y = .string s := by rw [← hs]
  rw [hsv]
  have hs4 : s.size ≤ 4096 := by omega
  have HB1 := hid hb1
  have HS := hid (show s.data.toList = hdW p from hs.trans hyy)
  clear hb1 c3 hy hyl hyy hs hsz hsv CW
  go_wp2_with fail
  go_loopw [8, 9] (fun n i wr => ∃ k m : Nat, k ≤ s.size ∧ i = .int .i64 (k : Int) ∧ n = .int .i64 (m : Int) ∧ m = valL ((s.data.toList.take k).take 10) ∧ (s.data.toList.take k).all isDig = true ∧ wr = w1) (fun _ i _ => s.size - (intOf i).toNat)
  case atStart => exact ⟨0, 0, Nat.zero_le _, rfl, rfl, rfl, rfl, rfl⟩
  case round =>
    obtain ⟨k, m, hk, rfl, rfl, hv, hall, rfl⟩ := hrel
    have HV := hid hv
    have HA := hid hall
    have HM := hid (show m < 10000000000 by rw [hv]; exact valT_bound _ (allD_take hall) (by rw [List.length_take]; omega))
    clear hv hall
    by_cases hlt : k < s.size
    · have hkw : IntKind.i64.wrap ((k : Int) + 1) = (k : Int) + 1 := IntWalk.i64_in _ (by omega)
      have hx : s.data.toList[k]? = some s[k] := by rw [List.getElem?_eq_getElem (by rw [size_list]; exact hlt)]; rfl
      have HX := hid hx
      clear hx
      go_wp2_with fail
      · have hbad : isDig s[k] = false := by
          have h : (s[k].toNat : Int) < 48 ∨ 57 < (s[k].toNat : Int) := by assumption
          rw [Bool.eq_false_iff]; intro e; have := isDig_bounds e; omega
        have HO := hid (numM_bad (lo := lo) (hi := hi) HC.out (by rw [← HS.out]; exact okD_no HX.out hbad))
        refine (docFail_any g D 30 T p wr (HD.out.below HB1.out) (by decide)).mono ?_
        rintro e w2 ⟨⟨u, rfl⟩, hd1, hk1⟩
        have H1 := hid (And.intro hd1 ((Kept.of_below (X := fun k => k = g) HB1.out).trans hk1 (fun k h _ => h)))
        clear hd1 hk1 hbad
        go_wp2_with fail
        go_ret
        have hcd : (chk false 30 p).code ≠ 0 := by rw [chk_no HC.out]; exact (by decide : (30 : Nat) ≠ 0)
        refine ⟨⟨0, rfl, by decide, fun e => ?_⟩, ?_, H1.out.2⟩
        · rw [HO.out] at e
          exact absurd e hcd
        · rw [HO.out]
          exact H1.out.1.off hcd rfl rfl
      · have hk10 : (k : Int) < 10 := by assumption
        have hgood : isDig s[k] = true := by
          have h : 48 ≤ (s[k].toNat : Int) ∧ (s[k].toNat : Int) ≤ 57 := by assumption
          simp [isDig]; omega
        have hbd := isDig_bounds hgood
        have hall : (s.data.toList.take (k + 1)).all isDig = true := by rw [take_succ_list s k hlt, List.all_append, HA.out]; simp [hgood]
        have hz : wrap64 (wrap64 (10 * (m : Int)) + ((s[k].toNat : Int) - 48)) = ((10 * m + (s[k].toNat - 48) : Nat) : Int) := by
          have := HM.out
          rw [IntWalk.wrap64_in (10 * (m : Int)) (by omega), IntWalk.wrap64_in _ (by omega)]
          omega
        go_roundw
        case rel =>
          refine ⟨k + 1, 10 * m + (s[k].toNat - 48), by omega, by go_num, by rw [hz], ?_, hall, trivial⟩
          have hv := HV.out
          rw [List.take_of_length_le (by rw [List.length_take]; omega)] at hv
          rw [List.take_of_length_le (by rw [List.length_take]; omega), take_succ_list s k hlt, valL_snoc, ← hv]
        case measure => simp [intOf]; omega
      · have hk10 : ¬ (k : Int) < 10 := by omega
        have hgood : isDig s[k] = true := by
          have h : 48 ≤ (s[k].toNat : Int) ∧ (s[k].toNat : Int) ≤ 57 := by assumption
          simp [isDig]; omega
        have hbd := isDig_bounds hgood
        have hall : (s.data.toList.take (k + 1)).all isDig = true := by rw [take_succ_list s k hlt, List.all_append, HA.out]; simp [hgood]
        go_roundw
        case rel =>
          refine ⟨k + 1, m, by omega, by go_num, rfl, ?_, hall, trivial⟩
          rw [HV.out, List.take_take, List.take_take, Nat.min_eq_left (by omega), Nat.min_eq_left (by omega)]
        case measure => simp [intOf]; omega
      · have hbad : isDig s[k] = false := by
          have h : ¬ 48 ≤ (s[k].toNat : Int) := by omega
          rw [Bool.eq_false_iff]; intro e; have := isDig_bounds e; omega
        have HO := hid (numM_bad (lo := lo) (hi := hi) HC.out (by rw [← HS.out]; exact okD_no HX.out hbad))
        refine (docFail_any g D 30 T p wr (HD.out.below HB1.out) (by decide)).mono ?_
        rintro e w2 ⟨⟨u, rfl⟩, hd1, hk1⟩
        have H1 := hid (And.intro hd1 ((Kept.of_below (X := fun k => k = g) HB1.out).trans hk1 (fun k h _ => h)))
        clear hd1 hk1 hbad
        go_wp2_with fail
        go_ret
        have hcd : (chk false 30 p).code ≠ 0 := by rw [chk_no HC.out]; exact (by decide : (30 : Nat) ≠ 0)
        refine ⟨⟨0, rfl, by decide, fun e => ?_⟩, ?_, H1.out.2⟩
        · rw [HO.out] at e
          exact absurd e hcd
        · rw [HO.out]
          exact H1.out.1.off hcd rfl rfl
    · have hke : k = s.size := by omega
      have hkI : ¬ (k : Int) < (s.size : Int) := by omega
      have htk : s.data.toList.take k = s.data.toList := List.take_of_length_le (by rw [size_list]; omega)
      have hA := HA.out
      have hV := HV.out
      rw [htk] at hA hV
      have HAV := hid (And.intro hA hV)
      clear hA hV htk
      by_cases h1 : s.size < 1 ∨ 10 < s.size
      · have hbad : okD (hdW p) = false := by
          rw [← HS.out]
          unfold okD
          rcases h1 with h1 | h1
          · have : s.data.toList = [] := List.length_eq_zero_iff.1 (by rw [size_list]; omega)
            rw [this]; rfl
          · rw [size_list, decide_eq_false (by omega : ¬ s.size ≤ 10), Bool.and_false]
        have HO := hid (numM_bad (lo := lo) (hi := hi) HC.out hbad)
        have hcd : (chk false 30 p).code ≠ 0 := by rw [chk_no HC.out]; exact (by decide : (30 : Nat) ≠ 0)
        have HCD := hid hcd
        clear hbad hcd
        have FIN : Hid (∀ W', Dc W' g D T (chk false 30 p) → Kept (fun k => k = g) w W' → NPost w g D T p (numM lo hi p) (.returned (.int .i64 0)) W') := fun W' a b => by
          refine ⟨⟨0, rfl, by decide, fun e => ?_⟩, ?_, b⟩
          · rw [HO.out] at e
            exact absurd e HCD.out
          · rw [HO.out]
            exact a.off HCD.out rfl rfl
        have CFL := hid (docFail_any g D 30 T p wr (HD.out.below HB1.out) (by decide))
        rcases h1 with h1 | h1
        · have d1 : decide ((s.size : Int) < 1) = true := decide_eq_true (by omega)
          clear h1 hke
          go_wp2_with fail
          refine CFL.out.mono ?_
          rintro e w2 ⟨⟨u, rfl⟩, hd1, hk1⟩
          have H1 := hid (FIN.out w2 hd1 ((Kept.of_below (X := fun k => k = g) HB1.out).trans hk1 (fun k h _ => h)))
          clear hd1 hk1
          go_wp2_with fail
          go_ret
          exact H1.out
        · have d1 : decide ((s.size : Int) < 1) = false := decide_eq_false (by omega)
          have d2 : decide ((10 : Int) < (s.size : Int)) = true := decide_eq_true (by omega)
          clear h1 hke
          go_wp2_with fail
          refine CFL.out.mono ?_
          rintro e w2 ⟨⟨u, rfl⟩, hd1, hk1⟩
          have H1 := hid (FIN.out w2 hd1 ((Kept.of_below (X := fun k => k = g) HB1.out).trans hk1 (fun k h _ => h)))
          clear hd1 hk1
          go_wp2_with fail
          go_ret
          exact H1.out
      · have d1 : decide ((s.size : Int) < 1) = false := decide_eq_false (by omega)
        have d2 : decide ((10 : Int) < (s.size : Int)) = false := decide_eq_false (by omega)
        have hok : okD (hdW p) = true := by
          rw [← HS.out]
          unfold okD
          have hne : s.data.toList.isEmpty = false := by
            rw [List.isEmpty_eq_false_iff]; intro e
            have hh : s.data.toList.length = s.size := size_list s
            rw [e, List.length_nil] at hh
            omega
          rw [HAV.out.1, hne, size_list, decide_eq_true (by omega : s.size ≤ 10)]; rfl
        have hmv : m = valD (hdW p) := by
          unfold valD
          rw [if_pos hok, ← HS.out, HAV.out.2, List.take_of_length_le (by rw [size_list]; omega)]
        have HN := hid (And.intro hok hmv)
        have HM2 := hid HM.out
        clear h1 hke hok hmv hlt hk
        by_cases hr : lo ≤ m ∧ m ≤ hi
        · have d3 : decide ((m : Int) < (lo : Int)) = false := decide_eq_false (by omega)
          have d3n : decide (m < lo) = false := decide_eq_false (by omega)
          have d4 : decide ((hi : Int) < (m : Int)) = false := decide_eq_false (by omega)
          have d4n : decide (hi < m) = false := decide_eq_false (by omega)
          have HO := hid (show numM lo hi p = stp p by
            unfold numM
            rw [HN.out.1, chk_true, ← HN.out.2, decide_eq_true hr.1, decide_eq_true hr.2]; exact congrArg stp (chk_true _ _))
          clear hr
          go_wp2_with fail
          refine (docStep_any g D T p wr (HD.out.below HB1.out)).mono ?_
          rintro e w2 ⟨⟨u, rfl⟩, hd1, hk1⟩
          have H1 := hid (And.intro hd1 ((Kept.of_below (X := fun k => k = g) HB1.out).trans hk1 (fun k h _ => h)))
          clear hd1 hk1
          go_wp2_with fail
          go_ret
          exact ⟨⟨m, rfl, HM2.out, fun _ => HN.out.2⟩, by rw [HO.out]; exact H1.out.1, H1.out.2⟩
        · have HO := hid (show numM lo hi p = stp (chk false 11 p) by
            unfold numM
            rw [HN.out.1, chk_true, ← HN.out.2]
            have : (decide (lo ≤ m) && decide (m ≤ hi)) = false := by
              rw [Bool.and_eq_false_iff, decide_eq_false_iff_not, decide_eq_false_iff_not]; omega
            rw [this])
          have FIN : Hid (∀ W1 W', Dc W1 g D T (chk false 11 p) → Kept (fun k => k = g) wr W1 → Dc W' g D T (stp (chk false 11 p)) → Kept (fun k => k = g) W1 W' → NPost w g D T p (numM lo hi p) (.returned (.int .i64 (m : Int))) W') := fun W1 W' a b c d =>
            ⟨⟨m, rfl, HM2.out, fun _ => HN.out.2⟩, by rw [HO.out]; exact c, ((Kept.of_below (X := fun k => k = g) HB1.out).trans b (fun k h _ => h)).trans d (fun k h _ => h)⟩
          have CFL := hid (docFail_any g D 11 T p wr (HD.out.below HB1.out) (by decide))
          by_cases h3 : m < lo
          · have d3 : decide ((m : Int) < (lo : Int)) = true := decide_eq_true (by omega)
            have d3n : decide (m < lo) = true := decide_eq_true (by omega)
            clear hr h3
            go_wp2_with fail
            refine CFL.out.mono ?_
            rintro e w2 ⟨⟨u, rfl⟩, hd1, hk1⟩
            have H1 := hid (And.intro hd1 hk1)
            clear hd1 hk1
            go_wp2_with fail
            refine (docStep_any g D T _ w2 H1.out.1).mono ?_
            rintro e w3 ⟨⟨u3, rfl⟩, hd1, hk1⟩
            have H2 := hid (FIN.out w2 w3 H1.out.1 H1.out.2 hd1 hk1)
            clear hd1 hk1
            go_wp2_with fail
            go_ret
            exact H2.out
          · have d3 : decide ((m : Int) < (lo : Int)) = false := decide_eq_false (by omega)
            have d3n : decide (m < lo) = false := decide_eq_false (by omega)
            have d4 : decide ((hi : Int) < (m : Int)) = true := decide_eq_true (by omega)
            have d4n : decide (hi < m) = true := decide_eq_true (by omega)
            clear hr h3
            go_wp2_with fail
            refine CFL.out.mono ?_
            rintro e w2 ⟨⟨u, rfl⟩, hd1, hk1⟩
            have H1 := hid (And.intro hd1 hk1)
            clear hd1 hk1
            go_wp2_with fail
            refine (docStep_any g D T _ w2 H1.out.1).mono ?_
            rintro e w3 ⟨⟨u3, rfl⟩, hd1, hk1⟩
            have H2 := hid (FIN.out w2 w3 H1.out.1 H1.out.2 hd1 hk1)
            clear hd1 hk1
            go_wp2_with fail
            go_ret
            exact H2.out
end Go.Proofs.YtenijpcjemdhfaaGreatDoor
