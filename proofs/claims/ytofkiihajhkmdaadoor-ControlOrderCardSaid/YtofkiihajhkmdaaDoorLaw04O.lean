/-
  The walk of the statement ControlOrder.
-/
import Derived.Test.YtofkiihajhkmdaaDoorLaw04A
import Derived.Test.YtofkiihajhkmdaaDoorCtlEq
import Derived.Test.YtofkiihajhkmdaaDoorBase4
import Derived.Test.YtofkiihajhkmdaaDoorFieldC
import Derived.Deep.QuietTactic
import Derived.BigQuiet
import Derived.IntWalk
namespace Go.Pantry
open Go.RowKit
def nCCo : List UInt8 := [67, 97, 99, 104, 101, 45, 67, 111, 110, 116, 114, 111, 108]
def nPRo : List UInt8 := [80, 114, 97, 103, 109, 97]
/-- each in a field of its own -/
def apF (l : List (List UInt8)) : List Fld := l.map fun a => (nCCo, a)
theorem apF_len (l : List (List UInt8)) : (apF l).length = l.length := by simp [apF]
theorem isF_cco (a : List UInt8) : isF nCC (nCCo, a) = true := by unfold isF; show (lowerL nCCo == lowerL nCC) = true; decide
theorem apF_all (l : List (List UInt8)) : allF (apF l) nCC = l := by
  induction l with
  | nil => rfl
  | cons a l ih =>
    have h : allF (apF (a :: l)) nCC = (if isF nCC (nCCo, a) then [a] else []) ++ allF (apF l) nCC := by
      simp only [apF, allF, List.map_cons, List.filter_cons]
      cases isF nCC (nCCo, a) <;> simp
    rw [h, isF_cco, ih]; rfl
theorem apF_snoc (l : List (List UInt8)) (a : List UInt8) : apF (l ++ [a]) = apF l ++ [(nCCo, a)] := by simp [apF]
theorem commaL_snoc (l : List (List UInt8)) (a : List UInt8) : commaL (l ++ [a]) = commaL l ++ a ++ [44] := by simp [commaL]
theorem commaL_len (l : List (List UInt8)) (h : ∀ a ∈ l, a.length ≤ 60) : (commaL l).length ≤ 61 * l.length := by
  induction l with
  | nil => simp [commaL]
  | cons a l ih =>
    have h1 := h a (List.mem_cons_self ..)
    have h2 := ih (fun x hx => h x (List.mem_cons_of_mem _ hx))
    have e : commaL (a :: l) = a ++ [44] ++ commaL l := by simp [commaL]
    rw [e]
    simp only [List.length_append, List.length_cons, List.length_nil]
    omega
theorem rotL_len (l : List (List UInt8)) (r : Nat) : (rotL l r).length = l.length := by
  unfold rotL
  rw [List.length_append, List.length_drop, List.length_take]
  omega
theorem rotL_mem {l : List (List UInt8)} {r : Nat} {x : List UInt8} (h : x ∈ rotL l r) : x ∈ l := by
  unfold rotL at h
  rcases List.mem_append.1 h with h | h
  · exact List.mem_of_mem_drop h
  · exact List.mem_of_mem_take h
/-- what is left without the two names says nothing -/
theorem rest_says (L : List Fld) : allF (outsF L [nCCo, nPRo]) nCC = [] ∧ ctlF (outsF L [nCCo, nPRo]) = ctl0 := by
  have h1 : allF (outsF L [nCCo, nPRo]) nCC = [] := by
    rw [← (elementsF_same (show lowerL nCCo = lowerL nCC by decide) _).2]
    exact outsF_all L _ _ (List.mem_cons_self ..)
  have h2 : allF (outsF L [nCCo, nPRo]) nPragma = [] := by
    rw [← (elementsF_same (show lowerL nPRo = lowerL nPragma by decide) _).2]
    exact outsF_all L _ _ (List.mem_cons_of_mem _ (List.mem_cons_self ..))
  exact ⟨h1, ctlF_nothing _ h1 h2⟩
end Go.Pantry
namespace Go.Proofs.YtofkiihajhkmdaaDoor
open Go.RowKit Go.Pantry

/-- what holds at the head of the loop behind k rounds -/
def AtO (A : List (List UInt8)) (r B : Nat) (w1 : World) (vs vt vp : Value) (k : Nat) (wr : World) : Prop :=
  (∀ a ∈ A.take k, (34 : UInt8) ∉ a) ∧ (∀ a ∈ A.take k, a.length ≤ 60) ∧ (∀ a ∈ (rotL A r).take k, a.length ≤ 60) ∧ vs = strV (commaL (A.take k)) ∧ vt = strV (commaL ((rotL A r).take k))
    ∧ wr.ownsRow B 36 2 vp k (fldCells (apF (A.take k))) ∧ Below w1.heap.size w1 wr

set_option maxRecDepth 8000 in
set_option maxHeartbeats 16000000 in
theorem controlOrder_main (va : Value) (A : List (List UInt8)) (m : Nat) (vl : Value) (L : List Fld) (w : World) (hra : Reads w va (A.map strV)) (hA : A.length ≤ 12) (hm : (m : Int) ≤ 9223372036854775807) (hA63 : ∀ a ∈ A, a.length ≤ maxLen) (hr : Reads2 w vl L) (hsm : smallC L = true) :
    Calls Tryd.prog 4 #[va, .int .i64 (m : Int), vl] w fun e w' => e = .returned (.bool true) ∧ Below w.heap.size w w' := by
  obtain ⟨aoa, capa, rfl⟩ := Reads.strs hra
  obtain ⟨hk, hl30, hk2⟩ := smallC_ok hsm
  have cs := fun W h => smallC_any vl L W h (by omega)
  rw [hsm] at cs
  have CS := hid cs
  have HR := hid hr
  have HRA := hid hra
  have HA63 := hid hA63
  have HK := hid hk
  clear cs hr hra hA63 hk hk2 hsm
  obtain ⟨rr, hrr⟩ : ∃ rr, m % A.length = rr := ⟨_, rfl⟩
  have HRRR := hid hrr
  clear hrr
  have d1 : decide ((12 : Int) < (A.length : Int)) = false := decide_eq_false (by omega)
  have d2 : decide ((m : Int) < 0) = false := decide_eq_false (by omega)
  go_enter Tryd.func4, Tryd.ntmps4
  go_wp2_with fail
  refine (anchor_any _).mono ?_
  rintro e w1 ⟨rfl, hb⟩
  go_wp2_with fail
  refine (CS.out _ (HR.out.below hb)).mono ?_
  rintro e w2 ⟨rfl, hb2⟩
  replace hb := chain2 hb hb.size hb2
  clear hb2
  have HW2 := hb.size
  go_wp2_with fail
  go_loopw [7, 8, 9, 31] (fun vs vt vp i wr => ∃ k : Nat, k ≤ A.length ∧ i = .int .i64 k ∧ AtO A rr w2.heap.size w2 vs vt vp k wr) (fun _ _ _ i _ => A.length - (intOf i).toNat)
  case atStart => exact ⟨0, Nat.zero_le _, rfl, by simp, by simp, by simp, rfl, rfl, World.ownsRow_nil _ _ _ _, Below.refl _ _⟩
  case round =>
    obtain ⟨k, hkl, rfl, hq, h60, hr60, rfl, rfl, hop, hbk⟩ := hrel
    have HQ := hid hq
    have H60 := hid h60
    have HR60 := hid hr60
    clear hq h60 hr60
    by_cases hlt : k < A.length
    · obtain ⟨a, ha⟩ : ∃ a, A[k]? = some a := ⟨_, List.getElem?_eq_getElem hlt⟩
      obtain ⟨S, rfl⟩ : ∃ S : ByteArray, a = S.data.toList := ⟨⟨a.toArray⟩, (dtL _).symm⟩
      have hS : strV S.data.toList = .string S := congrArg Value.string (by apply bytes_ext; simp)
      have hrn : rr < A.length := by rw [← HRRR.out]; exact Nat.mod_lt _ (by omega)
      obtain ⟨q, hqq⟩ : ∃ q, (k + rr) % A.length = q := ⟨_, rfl⟩
      have hqn : q < A.length := by rw [← hqq]; exact Nat.mod_lt _ (by omega)
      obtain ⟨b, hbq⟩ : ∃ b, A[q]? = some b := ⟨_, List.getElem?_eq_getElem hqn⟩
      have hrb : (rotL A rr)[k]? = some b := by rw [rotL_at A _ k hrn hlt, hqq]; exact hbq
      have hrw := HRA.out.below (chain2 hb hb.size hbk)
      obtain ⟨b0, off, rfl, hca⟩ := Reads.str hrw ha
      obtain ⟨b0', off', heq, hcb⟩ := Reads.str hrw hbq
      cases heq
      rw [hS] at hca
      have ham := HA63.out S.data.toList (List.mem_of_getElem? ha)
      rw [size_list] at ham
      have hbm := HA63.out b (List.mem_of_getElem? hbq)
      unfold maxLen at ham hbm
      have HT := hid (take_str ha)
      have HTR := hid (take_str hrb)
      have hn0 : ((A.length : Int) == 0) = false := by rw [beq_eq_false_iff_ne]; omega
      have hn1 : ¬ A.length = 0 := by omega
      have hn2 : ¬ A = [] := fun h => hn1 (by rw [h]; rfl)
      have e1 : (m : Int).tmod (A.length : Int) = (rr : Int) := by
        rw [Int.tmod_eq_emod_of_nonneg (by omega), ← HRRR.out]; simp
      have w1' : IntKind.i64.wrap ((m : Int).tmod (A.length : Int)) = (rr : Int) := by rw [e1]; exact IntWalk.i64_in _ (by omega)
      have w2' : IntKind.i64.wrap ((k : Int) + (rr : Int)) = (k : Int) + (rr : Int) := IntWalk.i64_in _ (by omega)
      have e2 : ((k : Int) + (rr : Int)).tmod (A.length : Int) = (q : Int) := by
        rw [← Int.natCast_add, Int.tmod_eq_emod_of_nonneg (by omega), ← hqq]; simp
      have w3' : IntKind.i64.wrap (((k : Int) + (rr : Int)).tmod (A.length : Int)) = (q : Int) := by rw [e2]; exact IntWalk.i64_in _ (by omega)
      clear ha hbq hrb hrw w1' w3' hqq
      have hqI : (q : Int) < (A.length : Int) := by omega
      go_wp2_with fail
      go_quiet (fail)
      go_wp2_with fail
      all_goals first
        | (go_ret; exact ⟨rfl, hb.trans (((drewN_below2 wr _).mono (Nat.le_trans hb.size hbk.size)) |> (hbk.mono hb.size).trans)⟩)
        | skip
      · have ha60 : (S.size : Int) ≤ 60 := by omega
        have hb60 : (b.length : Int) ≤ 60 := by omega
        clear hca hcb e1 e2 w2' hn0 hn1 hn2 d1 d2
        go_loop [60] (fun i => ∃ j : Nat, j ≤ S.size ∧ i = .int .i64 j ∧ (34 : UInt8) ∉ S.data.toList.take j) (fun i => S.size - (intOf i).toNat)
        case atStart => exact ⟨0, Nat.zero_le _, rfl, by simp⟩
        case round =>
          obtain ⟨j, hj, rfl, hno⟩ := hrel
          have HN := hid hno
          clear hno
          by_cases hjl : j < S.size
          · go_wp2_with fail
            · go_ret
              exact ⟨rfl, hb.trans (((drewN_below2 wr _).mono (Nat.le_trans hb.size hbk.size)) |> (hbk.mono hb.size).trans)⟩
            · go_ret
              exact ⟨rfl, hb.trans (((drewN_below2 wr _).mono (Nat.le_trans hb.size hbk.size)) |> (hbk.mono hb.size).trans)⟩
            · have hc : S[j] ≠ 34 := by
                intro e
                have h34 : ¬ (S[j].toNat : Int) = 34 := by assumption
                exact h34 (by rw [e]; rfl)
              go_round
              case rel => exact ⟨j + 1, hjl, by go_num, by rw [take_succ_list S j hjl]; simp [HN.out, Ne.symm hc]⟩
              case measure => simp [intOf]; omega
          · have h34 : (34 : UInt8) ∉ S.data.toList := by rw [← take_all S j hjl]; exact HN.out
            have H34 := hid h34
            clear h34 HN
            have hl1 := commaL_len (A.take k) H60.out
            have hl2 := commaL_len ((rotL A rr).take k) HR60.out
            rw [List.length_take] at hl1 hl2
            have hsl : S.data.toList.length ≤ 60 := by rw [size_list]; omega
            obtain ⟨T1, hT1, l1, s1⟩ := sum_lists (P := Tryd.prog) (commaL (A.take k)) S.data.toList (by omega) (by omega)
            obtain ⟨T2, hT2, l2, s2⟩ := sum_lists (P := Tryd.prog) T1 [44] (by omega) (by decide)
            obtain ⟨U1, hU1, m1, s3⟩ := sum_lists (P := Tryd.prog) (commaL ((rotL A rr).take k)) b (by omega) (by omega)
            obtain ⟨U2, hU2, m2, s4⟩ := sum_lists (P := Tryd.prog) U1 [44] (by omega) (by decide)
            have hss : (⟨S.data.toList.toArray⟩ : ByteArray) = S := by apply bytes_ext; simp
            rw [hss] at s1
            have hT : T2 = commaL (A.take (k + 1)) := by rw [HT.out, commaL_snoc, hT2, hT1]
            have hU : U2 = commaL ((rotL A rr).take (k + 1)) := by rw [HTR.out, commaL_snoc, hU2, hU1]
            have HTT := hid hT
            have HUU := hid hU
            clear hT hU hT1 hT2 hU1 hU2 l1 l2 m1 m2 hl1 hl2 hss hS
            go_wp2_with (at_builtin; go_must (refine wpList_append_fld _ rfl _ _ 23 rfl w2.heap.size 36 Tryd.underlying23 infoFld rfl (by decide) rfl (hop.below (drewN_below2 _ _)) (nCCo, S.data.toList) rfl (by first | rfl | simp) (by omega) hbk.size ?_); intro vp' w4 hown4 hb4)
            go_roundw
            case rel =>
              refine ⟨k + 1, hlt, by go_num, ?_, ?_, ?_, by rw [HTT.out], by rw [HUU.out], by rw [HT.out, apF_snoc]; exact hown4, hbk.trans (((drewN_below2 wr _).mono hbk.size).trans hb4)⟩
              · intro x hx
                rw [HT.out] at hx
                rcases List.mem_append.1 hx with hx | hx
                · exact HQ.out x hx
                · simp at hx; subst hx; exact H34.out
              · intro x hx
                rw [HT.out] at hx
                rcases List.mem_append.1 hx with hx | hx
                · exact H60.out x hx
                · simp at hx; subst hx; exact hsl
              · intro x hx
                rw [HTR.out] at hx
                rcases List.mem_append.1 hx with hx | hx
                · exact HR60.out x hx
                · simp at hx; subst hx; omega
            case measure => simp [intOf]; omega
    · have hta : A.take k = A := List.take_of_length_le (by omega)
      have htr : (rotL A rr).take k = rotL A rr := List.take_of_length_le (by rw [rotL_len]; omega)
      have hq := HQ.out
      have h60 := H60.out
      have hr60 := HR60.out
      rw [hta] at hq h60 hop
      rw [htr] at hr60
      rw [hta, htr]
      clear hta htr HQ H60 HR60
      replace hb := chain2 hb hb.size hbk
      by_cases hnil : A.length = 0
      · have hz : ((A.length : Int) == 0) = true := by rw [beq_iff_eq]; omega
        have c0 : ∀ W, Calls Tryd.prog 15 #[.string ⟨#[]⟩] W fun e w' => e = .returned (ctlV ctl0) ∧ Below W.heap.size W w' := fun W => of_any [] W (by decide)
        have C0 := hid c0
        have ge := eql_ctl ctl0
        have gg := guard_ctl
        clear c0
        go_wp2_with fail
        refine (C0.out _).mono ?_
        rintro e w3 ⟨rfl, hb3⟩
        replace hb := chain2 hb hb.size hb3
        clear hb3
        go_wp2_with fail
        refine (ctlNone_any _).mono ?_
        rintro e w4 ⟨rfl, hb3⟩
        replace hb := chain2 hb hb.size hb3
        clear hb3
        go_wp2_with fail
        go_ret
        exact ⟨rfl, hb⟩
      · have hz : ((A.length : Int) == 0) = false := by rw [beq_eq_false_iff_ne]; omega
        have hne : A ≠ [] := fun h => hnil (by rw [h]; rfl)
        have hl1 := commaL_len A h60
        have hl2 := commaL_len (rotL A rr) hr60
        rw [rotL_len] at hl2
        have c1 := fun W => of_any (commaL A) W (by omega)
        have c2 := fun W => of_any (commaL (rotL A rr)) W (by omega)
        rw [order_turn A rr hq] at c2
        have hkA : okFs (apF A) := ⟨by rw [apF_len]; omega, fun f hf => by
          obtain ⟨x, hx, rfl⟩ := List.mem_map.1 hf
          exact ⟨by show nCCo.length ≤ 100000; decide, by show x.length ≤ 100000; have := h60 x hx; omega⟩⟩
        have hkR : okFs (outsF L [nCCo, nPRo]) := ⟨by have := outsF_len L [nCCo, nPRo]; omega, fun f hf => HK.out.2 f (outsF_mem hf)⟩
        have hkAR : okFs (apF A ++ outsF L [nCCo, nPRo]) := ⟨by rw [List.length_append, apF_len]; have := outsF_len L [nCCo, nPRo]; omega, fun f hf => by
          rcases List.mem_append.1 hf with hf | hf
          · exact hkA.2 f hf
          · exact hkR.2 f hf⟩
        have hRl := outsF_len L [nCCo, nPRo]
        obtain ⟨hr1, hr2⟩ := rest_says L
        have c3 := fun W v h => ctlOf_any v (apF A) W h hkA
        rw [order_apart (apF A) A (apF_all A) hne hq] at c3
        have c4 := fun W v h => ctlOf_any v (apF A ++ outsF L [nCCo, nPRo]) W h hkAR
        rw [order_apart (apF A ++ outsF L [nCCo, nPRo]) A (by rw [allF_append, hr1, apF_all, List.append_nil]) hne hq] at c4
        have c5 := fun W v h => ctlOf_any v (outsF L [nCCo, nPRo]) W h hkR
        rw [hr2] at c5
        have cw := fun W vn h hn => lWithout_any vl vn L [nCCo, nPRo] W h HK.out hn ⟨by decide, fun n hn => by
          simp at hn
          rcases hn with rfl | rfl <;> decide⟩
        generalize ctlE (listL (commaL A)) false = c at c1 c2 c3 c4
        have C1 := hid c1
        have C2 := hid c2
        have C3 := hid c3
        have C4 := hid c4
        have C5 := hid c5
        have CW := hid cw
        have ge := eql_ctl c
        have ge0 := eql_ctl ctl0
        have gg := guard_ctl
        have hal := apF_len A
        clear c1 c2 c3 c4 c5 cw hr1 hr2 hkA hkR hkAR hq h60 hr60 hl1 hl2 hne hnil HA63 HRA
        generalize outsF L [nCCo, nPRo] = R at hRl C4 C5 CW
        generalize apF A = AP at hop C3 C4 hal
        go_wp2_with fail
        refine (CW.out _ _ (HR.out.below (chain2 hb hb.size (below_alloc _ _))) (reads_new _ ([nCCo, nPRo].map strV) _ _)).mono ?_
        rintro e w5 ⟨⟨vr, kr, rfl, hor⟩, hb5⟩
        have hb5' : Below wr.heap.size wr w5 := (below_alloc _ _).trans (hb5.mono (by simp))
        have hBR : (wr.alloc (.cells (List.map strV [nCCo, nPRo]).toArray 9)).heap.size = wr.heap.size + 1 := by simp
        rw [hBR] at hor
        have hlt9 : ∀ g, u9.ownBlock = some g → g < wr.heap.size + 1 := fun g hg => by
          have := (hop.lt g hg).2
          omega
        have hBB : w2.heap.size ≤ wr.heap.size := hbk.size
        have HBW : w.heap.size ≤ w2.heap.size := HW2
        replace hop := hop.below hb5'
        replace hb := chain2 hb hb.size hb5'
        have hw5 : w2.heap.size ≤ w5.heap.size := Nat.le_trans hBB hb5'.size
        have hkr := hor.reads2.1
        have hkp := hop.reads2.1
        clear hb5 hb5' hBR hbk
        generalize wr.heap.size + 1 = B3 at hor hlt9
        go_wp2_with fail
        refine (C1.out _).mono ?_
        rintro e w6 ⟨rfl, hbx⟩
        have hs6 := hbx.size
        replace hop := hop.below hbx
        replace hor := hor.below hbx
        replace hb := chain2 hb hb.size hbx
        clear hbx
        go_wp2_with fail
        refine (C2.out _).mono ?_
        rintro e w7 ⟨rfl, hbx⟩
        have hs7 := hbx.size
        replace hop := hop.below hbx
        replace hor := hor.below hbx
        replace hb := chain2 hb hb.size hbx
        clear hbx
        go_wp2_with fail
        refine (C3.out _ _ hop.reads2.2).mono ?_
        rintro e w8 ⟨rfl, hbx⟩
        have HSZ8 := hbx.size
        replace hop := hop.below hbx
        replace hor := hor.below hbx
        replace hb := chain2 hb hb.size hbx
        clear hbx
        go_wp2_with fail
        refine (C1.out _).mono ?_
        rintro e w9 ⟨rfl, hbx⟩
        replace hop := hop.below hbx
        replace hor := hor.below hbx
        replace hb := chain2 hb hb.size hbx
        have hw9b : w2.heap.size ≤ w9.heap.size := Nat.le_trans (Nat.le_trans (Nat.le_trans (Nat.le_trans hw5 hs6) hs7) HSZ8) hbx.size
        clear hbx
        go_wp2_with (at_builtin; refine wpList_unguard rfl ?_; refine wpList_append_fldsg _ rfl _ _ 23 rfl w2.heap.size 36 Tryd.underlying23 infoFld rfl rfl hop hor.reads2.2 rfl (by unfold maxLen; omega) (by omega) hw9b ?_; intro v10 w10 ho10 hg10)
        have hrn := ownsRow_grown2 hor hg10 hlt9
        have hbg : Below w.heap.size w w10 := hb.grown hg10 hb.size (fun g hg => Nat.le_trans HBW (hop.lt g hg).1)
        clear hop hor hb hg10
        refine (C4.out _ _ ho10.reads2.2).mono ?_
        rintro e w11 ⟨rfl, hbx⟩
        replace hrn := hrn.below hbx
        replace hbg := chain2 hbg hbg.size hbx
        clear hbx
        go_wp2_with fail
        refine (C1.out _).mono ?_
        rintro e w12 ⟨rfl, hbx⟩
        replace hrn := hrn.below hbx
        replace hbg := chain2 hbg hbg.size hbx
        clear hbx
        go_wp2_with fail
        refine (C5.out _ _ hrn.reads2.2).mono ?_
        rintro e w13 ⟨rfl, hbx⟩
        replace hbg := chain2 hbg hbg.size hbx
        clear hbx
        go_wp2_with fail
        refine (ctlNone_any _).mono ?_
        rintro e w14 ⟨rfl, hbx⟩
        replace hbg := chain2 hbg hbg.size hbx
        clear hbx
        go_wp2_with fail
        go_ret
        exact ⟨rfl, hbg⟩
set_option maxRecDepth 8000 in
theorem controlOrder_walk (va : Value) (A : List (List UInt8)) (z : Int) (vl : Value) (L : List Fld) (w : World) (ha : Reads w va (A.map strV) ∧ (∀ x ∈ A, x.length ≤ maxLen) ∧ A.length ≤ maxLen) (hz : (Lit.int .i64 z).wf = true) (hl : Reads2 w vl L ∧ (∀ f ∈ L, f.1.length ≤ maxLen ∧ f.2.length ≤ maxLen) ∧ L.length ≤ maxLen) :
    Calls Tryd.prog 4 #[va, .int .i64 z, vl] w fun e w' => e = .returned (.bool true) ∧ Below w.heap.size w w' := by
  obtain ⟨hra, hA63, hAm⟩ := ha
  obtain ⟨hr, -, hLm⟩ := hl
  unfold maxLen at hAm hLm
  replace hz : z ≤ 9223372036854775807 := by
    have h : (decide (IntKind.i64.min ≤ z) && decide (z ≤ IntKind.i64.max)) = true := hz
    rw [Bool.and_eq_true] at h
    exact of_decide_eq_true h.2
  have cs := fun W h => smallC_any vl L W h (by omega)
  obtain ⟨q, hq⟩ : ∃ q, smallC L = q := ⟨_, rfl⟩
  rw [hq] at cs
  by_cases hall : A.length ≤ 12 ∧ 0 ≤ z ∧ q = true
  · obtain ⟨a0, a1, rfl⟩ := hall
    obtain ⟨m, rfl⟩ : ∃ m : Nat, z = (m : Int) := ⟨z.toNat, by omega⟩
    exact controlOrder_main va A m vl L w hra a0 (by omega) hA63 hr hq
  · obtain ⟨aoa, capa, rfl⟩ := Reads.strs hra
    have CS := hid cs
    have HR := hid hr
    clear cs hr hra hA63 hq
    have hcase : (decide ((12 : Int) < (A.length : Int)) = true) ∨ (decide ((12 : Int) < (A.length : Int)) = false ∧ decide (z < 0) = true) ∨ (decide ((12 : Int) < (A.length : Int)) = false ∧ decide (z < 0) = false ∧ q = false) := by
      simp only [decide_eq_true_eq, decide_eq_false_iff_not]
      cases q
      · simp; omega
      · simp at hall ⊢; omega
    clear hall hz
    rcases hcase with h1 | ⟨h1, h2⟩ | ⟨h1, h2, rfl⟩
    · go_enter Tryd.func4, Tryd.ntmps4
      go_wp2_with fail
      refine (anchor_any _).mono ?_
      rintro e w1 ⟨rfl, hb⟩
      go_wp2_with fail
      go_ret
      exact ⟨rfl, hb⟩
    · go_enter Tryd.func4, Tryd.ntmps4
      go_wp2_with fail
      refine (anchor_any _).mono ?_
      rintro e w1 ⟨rfl, hb⟩
      go_wp2_with fail
      go_ret
      exact ⟨rfl, hb⟩
    · go_enter Tryd.func4, Tryd.ntmps4
      go_wp2_with fail
      refine (anchor_any _).mono ?_
      rintro e w1 ⟨rfl, hb⟩
      go_wp2_with fail
      refine (CS.out _ (HR.out.below hb)).mono ?_
      rintro e w2 ⟨rfl, hb2⟩
      go_wp2_with fail
      go_ret
      exact ⟨rfl, chain2 hb hb.size hb2⟩
end Go.Proofs.YtofkiihajhkmdaaDoor
