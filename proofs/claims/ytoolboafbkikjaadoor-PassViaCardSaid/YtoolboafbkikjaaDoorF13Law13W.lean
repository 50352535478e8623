/-
  The walk of PassVia.
-/
import Derived.Test.YtoolboafbkikjaaDoorF13Law13V
set_option linter.unusedVariables false
set_option linter.unusedSimpArgs false

namespace Go.Proofs.YtoolboafbkikjaaDoor
open Go.RowKit Go.Pantry

set_option maxRecDepth 8000 in
set_option maxHeartbeats 4000000 in
theorem passVia_over {Ok : World → Prop} (K : Moves Ok) (lv : Value) (l : List Fld) (tz : Int) (w : World) (ok : Ok w) (hl : Reads2 w lv l ∧ l.length ≤ maxLen) :
    Calls Tryd.prog 8 #[lv, .int .i64 tz] w fun e w' => e = .returned (.bool true) ∧ Below w.heap.size w w' := by
  have cA := hid (anchor13_any K w ok)
  have cSl := hid (fun (w' : World) (h : Below w.heap.size w w') => smallK_any lv l w' (hl.1.below h) (by have := hl.2; unfold maxLen at this; omega))
  have HRl := hid hl.1
  have OK := hid ok
  clear ok hl
  go_enter Tryd.func8, Tryd.ntmps8
  go_wp2_with fail
  refine cA.out.mono ?_
  rintro e w1 ⟨rfl, hb1⟩
  have HB1 := hid hb1
  clear hb1 cA
  go_wp2_with fail
  refine (cSl.out _ HB1.out).mono ?_
  rintro e w2 ⟨rfl, hb2⟩
  have HB2 := hid (chain2 HB1.out HB1.out.size hb2)
  clear hb2 HB1 cSl
  cases hsl : smallK l with
  | false =>
    go_wp2_with fail
    go_ret
    exact ⟨rfl, HB2.out⟩
  | true =>
  have Sl := hid (smallK_ok hsl)
  have Nl := hid (smallK_len hsl)
  clear hsl
  by_cases t1 : tz < 1
  · have d1 : decide (tz < 1) = true := decide_eq_true t1
    go_wp2_with fail
    go_ret
    exact ⟨rfl, HB2.out⟩
  have d1 : decide (tz < 1) = false := decide_eq_false t1
  by_cases t2 : (10 : Int) < tz
  · have d2 : decide ((10 : Int) < tz) = true := decide_eq_true t2
    go_wp2_with fail
    go_ret
    exact ⟨rfl, HB2.out⟩
  have d2 : decide ((10 : Int) < tz) = false := decide_eq_false t2
  obtain ⟨t, rfl⟩ : ∃ t : Nat, tz = ((t + 1 : Nat) : Int) := ⟨tz.toNat - 1, by omega⟩
  have ht : t + 1 ≤ 10 := by omega
  clear t1 t2
  have c1 := hid (fun (W : World) (h : Below w.heap.size w W) => K.strip lv l W (K.keep _ _ OK.out h) (HRl.out.below h) Sl.out.wide)
  have c2 := hid (fun (W : World) (x : Value) (h : Reads2 W x (stripF l)) => lGetW_any x (stripF l) sViaP W h Sl.out.wide.strip (by decide))
  have c3 := hid (fun (W : World) (h : Below w.heap.size w W) => lGetW_any lv l sViaP W (HRl.out.below h) Sl.out.wide (by decide))
  go_wp2_with fail
  refine (c1.out _ HB2.out).mono ?_
  rintro e w3 ⟨⟨v3, rfl, hr3⟩, hb⟩
  have d3 := hid (c2.out _ _ hr3)
  have HB3 := hid (chain2 HB2.out HB2.out.size hb)
  clear hb hr3 HB2
  go_wp2_with fail
  refine d3.out.mono ?_
  rintro e w4 ⟨rfl, hb⟩
  have HB4 := hid (chain2 HB3.out HB3.out.size hb)
  clear hb d3 HB3
  go_wp2_with fail
  refine (c3.out _ HB4.out).mono ?_
  rintro e w5 ⟨rfl, hb⟩
  have HB5 := hid (chain2 HB4.out HB4.out.size hb)
  clear hb HB4
  have hW0 : wasK l 0 = getF (stripF l) sViaP := rfl
  have hO0 : okK l 0 = !(allF (stripF l) sViaP).isEmpty := rfl
  have hsu := wasK_succ (l := l)
  rw [← hW0, ← hO0] at hsu
  rw [← hW0, ← hO0]
  clear hW0 hO0
  obtain ⟨b2, hb2⟩ : ∃ b, (!(allF l sViaP).isEmpty) = b := ⟨_, rfl⟩
  obtain ⟨G2, hG2⟩ : ∃ g, getF l sViaP = g := ⟨_, rfl⟩
  rw [hb2, hG2] at hsu ⊢
  have HSU := hid hsu
  clear hsu hb2 hG2
  obtain ⟨b, hbb⟩ : ∃ b, okK l 0 = b := ⟨_, rfl⟩
  obtain ⟨G, hGG⟩ : ∃ g, wasK l 0 = g := ⟨_, rfl⟩
  rw [hbb, hGG] at HSU ⊢
  have HBB := hid hbb
  have HGG := hid hGG
  clear hbb hGG
  obtain ⟨q, hq⟩ : ∃ q, (b2 == b) = q := ⟨_, rfl⟩
  have hqn : (!(b2 == b)) = !q := by rw [hq]
  have hqm : (b2 != b) = !q := by rw [bne, hq]
  cases q
  · simp only [Bool.not_false] at hqn hqm
    go_wp2_with fail
    go_ret
    exact ⟨rfl, HB5.out⟩
  simp only [Bool.not_true] at hqn hqm
  obtain ⟨q2, hq2⟩ : ∃ q, (G2 == G) = q := ⟨_, rfl⟩
  have hq2n : (!(G2 == G)) = !q2 := by rw [hq2]
  have hq2m : (G2 != G) = !q2 := by rw [bne, hq2]
  cases q2
  · simp only [Bool.not_false] at hq2n hq2m
    go_wp2_with fail
    go_ret
    exact ⟨rfl, HB5.out⟩
  simp only [Bool.not_true] at hq2n hq2m
  have hs1 := HSU.out (by simpa using hq) (by simpa using hq2)
  have HS := hid hs1
  clear hs1 HSU
  go_wp2_with fail
  have hL0 := HRl.out.below HB5.out
  go_loopw [5, 6, 9, 46] (fun was okv x i wr => ∃ k : Nat, i = .int .i64 (k : Int) ∧ k ≤ t + 1 ∧ was = strV (wasK l k) ∧ okv = .bool (okK l k) ∧ Reads2 wr x (onwardN k l) ∧ Below w.heap.size w wr) (fun _ _ _ i _ => t + 1 - (intOf i).toNat)
  case atStart => exact ⟨0, rfl, Nat.zero_le _, by rw [HGG.out], by rw [HBB.out], hL0, HB5.out⟩
  case round =>
    obtain ⟨k, rfl, hk, rfl, rfl, hrx, hb⟩ := hrel
    have HB := hid hb
    have HX := hid hrx
    by_cases hlt : k < t + 1
    · have hkI : (k : Int) < ((t + 1 : Nat) : Int) := by omega
      have hkd : decide ((k : Int) < ((t + 1 : Nat) : Int)) = true := decide_eq_true hkI
      have hk0 : (0 : Int) ≤ (k : Int) := by omega
      have hkw : IntKind.i64.wrap ((k : Int) + 1) = (k : Int) + 1 := IntWalk.i64_in _ (by omega)
      have cO := hid (K.onward _ (onwardN k l) wr (K.keep _ _ OK.out HB.out) HX.out (wide_onwardN Sl.out (by omega)))
      have hwl := wasK_len Sl.out (show k ≤ 10 by omega)
      have cN := hid (fun (W : World) => next13_any (wasK l k) (okK l k) W (by omega))
      rw [← HS.out k] at cN
      clear hb hrx
      go_wp2_with fail
      refine cO.out.mono ?_
      rintro e w6 ⟨⟨v6, rfl, hr6⟩, hb6⟩
      have HX6 := hid hr6
      have HB6 := hid (chain2 HB.out HB.out.size hb6)
      clear hb6 hr6 cO
      go_wp2_with fail
      refine (cN.out _).mono ?_
      rintro e w7 ⟨rfl, hb7⟩
      have HX7 := hid (HX6.out.below hb7)
      have HB7 := hid (chain2 HB6.out HB6.out.size hb7)
      clear hb7
      go_wp2_with fail
      go_roundw
      case rel => exact ⟨k + 1, by go_num, hlt, rfl, rfl, HX7.out, HB7.out⟩
      case measure => simp [intOf]; omega
    · have hkt : k = t + 1 := by omega
      subst hkt
      have hkd : decide (((t + 1 : Nat) : Int) < ((t + 1 : Nat) : Int)) = false := decide_eq_false (by omega)
      have hw : WideF (onwardN (t + 1) l) := wide_onwardN Sl.out ht
      have ha : allF (onwardN (t + 1) l) sViaP = [nextN t (viaL l)] := by rw [allF_eq via_low]; exact onwardN_get l t
      have hg : getF (onwardN (t + 1) l) sViaP = nextN t (viaL l) := by unfold getF; rw [ha]; rfl
      have hlen : (onwardN (t + 1) l).length = (outsF (stripF l) [sViaP]).length + 1 := by
        rw [onwardN_form, outsF_one, List.length_append]
        have : outF (stripF l) sViaP = outF (stripF l) nViaP := by unfold outF; rw [isF_eq via_low]
        rw [this]; rfl
      have hW : wasK l (t + 1) = nextN t (viaL l) := rfl
      have hO : okK l (t + 1) = true := rfl
      rw [hW, hO]
      clear hW hO HX HS hb
      generalize onwardN (t + 1) l = X at hrx hw ha hg hlen
      generalize nextN t (viaL l) = V at ha hg ⊢
      obtain ⟨xo, xc, rfl⟩ := hrx.form
      have cg := lGetW_any _ X sViaP wr hrx hw (by decide)
      rw [ha, hg] at cg
      have cG := hid cg
      have c4 := hid (fun (W : World) (x y : Value) (h : Reads2 W x (stripF l)) (h2 : Reads W y ([sViaP].map strV)) => lWithout_any x y (stripF l) [sViaP] W h Sl.out.wide.strip.okFs h2 ⟨by decide, by decide⟩)
      have hM : (outsF (stripF l) [sViaP]).length ≤ 1000 := (Sl.out.wide.strip.outs _).len
      generalize X.length = n at hlen cG ⊢
      generalize outsF (stripF l) [sViaP] = M at c4 hlen hM
      have qv : (V == V) = true := beq_self_eq_true V
      have hne : ((n : Int) == (M.length : Int) + 1) = true := by rw [hlen]; simp
      have hnM : ((n : Int) == ((M.length + 1 : Nat) : Int)) = true := by rw [hlen]; simp
      have HLEN := hid hlen
      clear ha hg hw hrx cg hlen
      go_wp2_with fail
      refine cG.out.mono ?_
      rintro e w6 ⟨rfl, hb6⟩
      have HB6 := hid (chain2 HB.out HB.out.size hb6)
      clear hb6 cG
      go_wp2_with fail
      refine (c1.out _ HB6.out).mono ?_
      rintro e w7 ⟨⟨v7, rfl, hr7⟩, hb7⟩
      have HB7 := hid (chain2 HB6.out HB6.out.size hb7)
      have hb8 := below_alloc w7 (.cells ([sViaP].map strV).toArray 9)
      have hr8 := reads_new w7 ([sViaP].map strV) 9 1
      have d4 := hid (c4.out _ _ _ (hr7.below hb8) hr8)
      have HB8 := hid (chain2 HB7.out HB7.out.size hb8)
      clear hb7 hr7 hb8 hr8 c4
      go_wp2_with fail
      refine d4.out.mono ?_
      rintro e w9 ⟨⟨v9, k9, rfl, ho9⟩, hb9⟩
      have HB9 := hid (chain2 HB8.out HB8.out.size hb9)
      obtain ⟨mo, mc, rfl⟩ := ho9.reads2.2.form
      clear hb9 ho9 d4
      have hml : IntKind.i64.wrap ((M.length : Int) + 1) = (M.length : Int) + 1 := IntWalk.i64_in _ (by omega)
      go_wp2_with fail
      go_ret
      exact ⟨ret_bool (by have := HLEN.out; subst this; simp), HB9.out⟩
end Go.Proofs.YtoolboafbkikjaaDoor
