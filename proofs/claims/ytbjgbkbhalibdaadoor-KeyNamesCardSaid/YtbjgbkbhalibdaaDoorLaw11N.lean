/-
  The walk of KeyNames.
-/
import Derived.Test.YtbjgbkbhalibdaaDoorKeyE
import Derived.Test.YtbjgbkbhalibdaaDoorStrReach
import Derived.Deep.QuietTactic
import Derived.BigQuiet
namespace Go.Proofs.YtbjgbkbhalibdaaDoor
open Go.RowKit Go.Pantry

theorem sum_big {P : Program} (a b : List UInt8) (ha : a.length ≤ 4611686018427387904) (hb : b.length ≤ 4611686018427387903) :
    ∃ c : List UInt8, c = a ++ b ∧ c.length = a.length + b.length ∧ ∀ W : World, (Op.stringOp .add ⟨a.toArray⟩ ⟨b.toArray⟩).run P W = .ok (strV c) W :=
  ⟨a ++ b, rfl, List.length_append, fun W => by rw [run_string_add_sum W _ _ (by rw [szL, szL]; omega), ByteArray.mk_append_mk]⟩
theorem oneV_len {bs : List (List UInt8)} {B : Nat} (h : ∀ b ∈ bs, b.length ≤ B) : (oneV bs).length ≤ (B + 3) * bs.length := by
  induction bs with
  | nil => simp [oneV]
  | cons b bs ih =>
    have e : oneV (b :: bs) = (44 :: (b ++ [32, 44])) ++ oneV bs := by simp [oneV]
    have h1 := ih (fun x hx => h x (List.mem_cons_of_mem _ hx))
    have h2 := h b (List.mem_cons_self ..)
    have h3 : (B + 3) * (bs.length + 1) = (B + 3) * bs.length + (B + 3) := Nat.mul_succ _ _
    rw [e]
    simp only [List.length_append, List.length_cons, List.length_nil]
    omega
theorem reads2_three_at (w : World) (f g h : Fld) (e : TypeId) (b : Nat) (hb : b = w.heap.size) : Reads2 (w.alloc (.cells #[strV f.1, strV f.2, strV g.1, strV g.2, strV h.1, strV h.2] e)) (.slice (some ⟨b, 0, none⟩) 3 3) [f, g, h] := by
  subst hb
  have ho : (w.alloc (.cells #[strV f.1, strV f.2, strV g.1, strV g.2, strV h.1, strV h.2] e)).ownsRow w.heap.size e 2 (.slice (some ⟨w.heap.size, 0, none⟩) 3 3) 3 (fldCells [f, g, h]) :=
    ⟨rfl, .inr ⟨w.heap.size, 3, _, rfl, Nat.le_refl _, Array.getElem?_push_size, Nat.le_refl _, by decide, rfl, rfl⟩⟩
  exact ho.reads2.2
theorem apartV_val {l : List (List UInt8)} {f : Fld} (hf : f ∈ apartV l) (h : ∀ b ∈ l, b.length ≤ 40) : f.1.length ≤ 100 ∧ f.2.length ≤ 300 := by
  unfold apartV at hf
  obtain ⟨a, ha, hf⟩ := List.mem_flatMap.1 hf
  have := h a ha
  simp only [List.mem_cons, List.not_mem_nil, or_false] at hf
  rcases hf with rfl | rfl | rfl
  · exact ⟨by simp, by simp; omega⟩
  · exact ⟨by simp, by simp⟩
  · exact ⟨by simp, by simp; omega⟩
set_option maxRecDepth 8000 in
set_option maxHeartbeats 4000000 in
theorem keyNames_over (nv : Value) (l : List (List UInt8)) (m : Int) (w : World) (ok : Tab10 w) (hn : Reads w nv (l.map strV)) (hnl : l.length ≤ maxLen) (hB : ∀ x ∈ l, x.length ≤ 140737488351232) :
    Calls Tryd.prog 5 #[nv, .int .i64 m] w fun e w' => e = .returned (.bool true) ∧ Below w.heap.size w w' := by
  unfold maxLen at hnl
  obtain ⟨no, nc, rfl⟩ := hn.strs
  obtain ⟨n, hnn⟩ : ∃ n, l.length = n := ⟨_, rfl⟩
  have cA := hid (anchor_any keys_ok w ok)
  have HR := hid hn
  have HN := hid hnn
  have HZ := hid hB
  have OK := hid ok
  rw [hnn] at hnl ⊢
  have hn0 : (0 : Int) ≤ (n : Int) := by omega
  clear hn hnn hB ok
  go_enter Tryd.func5, Tryd.ntmps5
  go_wp2_with fail
  refine cA.out.mono ?_
  rintro e w1 ⟨rfl, hb1⟩
  have HB1 := hid hb1
  clear hb1 cA
  by_cases h10 : (10 : Int) < (n : Int)
  · have d10 : decide ((10 : Int) < (n : Int)) = true := decide_eq_true h10
    go_wp2_with fail
    go_ret
    exact ⟨rfl, HB1.out⟩
  have d10 : decide ((10 : Int) < (n : Int)) = false := decide_eq_false h10
  have hn10 : n ≤ 10 := by omega
  by_cases hm0 : m < 0
  · have dm : decide (m < 0) = true := decide_eq_true hm0
    go_wp2_with fail
    go_ret
    exact ⟨rfl, HB1.out⟩
  have dm : decide (m < 0) = false := decide_eq_false hm0
  obtain ⟨t, ht⟩ : ∃ t, m.toNat % n = t := ⟨_, rfl⟩
  have HT := hid ht
  have HM := hid (show 0 ≤ m by omega)
  clear ht
  go_wp2_with fail
  clear d10 dm h10 hm0
  go_loopw [5, 6, 27] (fun s ap z wr => ∃ (k : Nat), z = .int .i64 (k : Int) ∧ k ≤ n ∧ s = strV (oneV ((turnL l t).take k)) ∧ wr.ownsRow w1.heap.size 41 2 ap (3 * k) (fldCells (apartV (l.take k))) ∧ (∀ b ∈ l.take k, b.length ≤ 40 ∧ ∀ c ∈ b, c ≠ 44 ∧ c ≠ 34) ∧ Below w1.heap.size w1 wr) (fun _ _ z _ => n - (intOf z).toNat)
  case atStart => exact ⟨0, rfl, Nat.zero_le _, rfl, World.ownsRow_nil _ _ _ _, (by simp), Below.refl _ _⟩
  case round =>
    obtain ⟨k, rfl, hk, rfl, ho, hg, hbr⟩ := hrel
    have HBR := hid hbr
    have HBW := hid (chain2 HB1.out HB1.out.size hbr)
    have HO := hid ho
    have HG := hid hg
    clear hbr ho hg
    by_cases hlt : k < n
    · rename World => wo
      have htn : t < n := by rw [← HT.out]; exact Nat.mod_lt _ (by omega)
      obtain ⟨a, ha⟩ : ∃ a, l[k]? = some a := ⟨_, List.getElem?_eq_getElem (by rw [HN.out]; exact hlt)⟩
      obtain ⟨S, rfl⟩ : ∃ S : ByteArray, a = S.data.toList := ⟨⟨a.toArray⟩, (dtL _).symm⟩
      have hS : strV S.data.toList = .string S := congrArg Value.string (by apply bytes_ext; simp)
      obtain ⟨q, hqq⟩ : ∃ q, (k + t) % n = q := ⟨_, rfl⟩
      have hqn : q < n := by rw [← hqq]; exact Nat.mod_lt _ (by omega)
      obtain ⟨b, hbq⟩ : ∃ b, l[q]? = some b := ⟨_, List.getElem?_eq_getElem (by rw [HN.out]; exact hqn)⟩
      have htk := turnL_take l t k (by rw [HN.out]; exact hlt)
      rw [HN.out, hqq, show l.getD q [] = b by simp [hbq]] at htk
      have hone : oneV ((turnL l t).take (k + 1)) = oneV ((turnL l t).take k) ++ 44 :: (b ++ [32, 44]) := by rw [← htk, oneV_snoc]
      have hov : (oneV ((turnL l t).take k)).length ≤ (140737488351232 + 3) * 10 := by
        refine Nat.le_trans (oneV_len (B := 140737488351232) fun x hx => HZ.out x ((turnL_mem l t (by rw [HN.out]; exact htn) x).1 (List.mem_of_mem_take hx))) (Nat.mul_le_mul_left _ ?_)
        rw [List.length_take]; omega
      have hrw := HR.out.below HBW.out
      obtain ⟨b0, off, rfl, hca⟩ := Reads.str hrw ha
      obtain ⟨b0', off', heq, hcb⟩ := Reads.str hrw hbq
      cases heq
      rw [hS] at hca
      have hbm := HZ.out b (List.mem_of_getElem? hbq)
      have ham := HZ.out S.data.toList (List.mem_of_getElem? ha)
      rw [size_list] at ham
      have hap : apartV (l.take (k + 1)) = apartV (l.take k) ++ [([86, 65, 82, 89], S.data.toList), ([120], [121]), ([118, 97, 114, 121], S.data.toList)] := by rw [take_str ha, apartV_snoc]
      have hgs : S.data.toList.length ≤ 40 → (∀ c ∈ S.data.toList, c ≠ 44 ∧ c ≠ 34) → ∀ b ∈ l.take (k + 1), b.length ≤ 40 ∧ ∀ c ∈ b, c ≠ 44 ∧ c ≠ 34 := fun h1 h2 x hx => by
        rw [take_str ha, List.mem_append, List.mem_singleton] at hx
        rcases hx with hx | rfl
        · exact HG.out x hx
        · exact ⟨h1, h2⟩
      obtain ⟨X1, x1, l1, s1⟩ := sum_big (P := Tryd.prog) [44] b (by simp) (by omega)
      obtain ⟨X2, x2, l2, s2⟩ := sum_big (P := Tryd.prog) X1 [32, 44] (by rw [l1]; simp; omega) (by simp)
      generalize oneV ((turnL l t).take k) = SS at hone hov ⊢
      obtain ⟨X3, x3, -, s3⟩ := sum_big (P := Tryd.prog) SS X2 (by omega) (by rw [l2, l1]; simp; omega)
      have HX := hid (show oneV ((turnL l t).take (k + 1)) = X3 by rw [hone, x3, x2, x1]; simp)
      have HAP := hid hap
      have HGS := hid hgs
      have hnz0 : ((n : Int) == 0) = false := by rw [beq_eq_false_iff_ne]; omega
      have hnz1 : ¬ n = 0 := by omega
      have e1 : m.tmod (n : Int) = (t : Int) := by
        have hm := HM.out
        rw [Int.tmod_eq_emod_of_nonneg hm, ← HT.out, Int.natCast_emod, Int.toNat_of_nonneg hm]
      have w1' : IntKind.i64.wrap ((k : Int) + (t : Int)) = (k : Int) + (t : Int) := IntWalk.i64_in _ (by omega)
      have e2 : ((k : Int) + (t : Int)).tmod (n : Int) = (q : Int) := by
        rw [← Int.natCast_add, Int.tmod_eq_emod_of_nonneg (by omega), ← hqq]; simp
      have hkI : (k : Int) < (n : Int) := by omega
      have hk0 : (0 : Int) ≤ (k : Int) := by omega
      have hqI : (q : Int) < (n : Int) := by omega
      have hkw : IntKind.i64.wrap ((k : Int) + 1) = (k : Int) + 1 := IntWalk.i64_in _ (by omega)
      have hsz := size_list S
      clear ha hbq hrw hqq htk hone hap hgs x1 x2 x3 l1 l2 hov
      go_wp2_with fail
      go_quiet (fail)
      obtain ⟨w5, hw5⟩ : ∃ x, wo.drewN nq = x := ⟨_, rfl⟩
      have hb5 : Below wo.heap.size wo w5 := by rw [← hw5]; exact drewN_below2 _ _
      rw [hw5]
      have HO5 := hid (HO.out.below hb5)
      have HB5 := hid (chain2 HBR.out HBR.out.size hb5)
      have HBW5 := hid (chain2 HB1.out HB1.out.size HB5.out)
      clear hw5 hb5 hca hcb HO HBR HBW e1 e2 w1' hnz0 hnz1
      by_cases h40 : (40 : Int) < (S.size : Int)
      · have d40 : decide ((40 : Int) < (S.size : Int)) = true := decide_eq_true h40
        go_wp2_with fail
        go_ret
        exact ⟨rfl, HBW5.out⟩
      have d40 : decide ((40 : Int) < (S.size : Int)) = false := decide_eq_false h40
      have hS40 : S.size ≤ 40 := by omega
      go_wp2_with fail
      clear d40 h40
      go_loop [51] (fun i => ∃ j : Nat, j ≤ S.size ∧ i = .int .i64 (j : Int) ∧ ∀ c ∈ S.data.toList.take j, c ≠ 44 ∧ c ≠ 34) (fun i => S.size - (intOf i).toNat)
      case atStart => exact ⟨0, Nat.zero_le _, rfl, by simp⟩
      case round =>
        obtain ⟨j, hj, rfl, hno⟩ := hrel
        have HC := hid hno
        clear hno
        by_cases hjl : j < S.size
        · have b34 := byte_beq S[j] 34 (z := 34) rfl
          have b44 := byte_beq S[j] 44 (z := 44) rfl
          have hj0 : (0 : Int) ≤ (j : Int) := by omega
          have hjI : (j : Int) < (S.size : Int) := by omega
          have hjw : IntKind.i64.wrap ((j : Int) + 1) = (j : Int) + 1 := IntWalk.i64_in _ (by omega)
          by_cases g34 : S[j] = 34
          · have z34 : ((S[j].toNat : Int) == 34) = true := by rw [← b34, g34]; rfl
            clear b34 b44 g34
            go_wp2_with fail
            go_ret
            exact ⟨rfl, HBW5.out⟩
          have z34 : ((S[j].toNat : Int) == 34) = false := by rw [← b34]; simpa using g34
          by_cases g44 : S[j] = 44
          · have z44 : ((S[j].toNat : Int) == 44) = true := by rw [← b44, g44]; rfl
            clear b34 b44 g34 g44
            go_wp2_with fail
            go_ret
            exact ⟨rfl, HBW5.out⟩
          have z44 : ((S[j].toNat : Int) == 44) = false := by rw [← b44]; simpa using g44
          have GG := hid (And.intro g44 g34)
          clear b34 b44 g34 g44
          go_wp2_with fail
          go_round
          case rel =>
            refine ⟨j + 1, hjl, by go_num, fun c hc => ?_⟩
            rw [take_succ_list S j hjl, List.mem_append, List.mem_singleton] at hc
            rcases hc with hc | rfl
            · exact HC.out c hc
            · exact GG.out
          case measure => simp [intOf]; omega
        · have hfin := HC.out
          rw [take_all S j hjl] at hfin
          have HG2 := hid (HGS.out (by rw [hsz]; exact hS40) hfin)
          clear hfin HC HGS
          have hss : (⟨S.data.toList.toArray⟩ : ByteArray) = S := by apply bytes_ext; simp
          have hr3 := reads2_three_at w5 ([86, 65, 82, 89], S.data.toList) ([120], [121]) ([118, 97, 114, 121], S.data.toList) 41 w5.heap.size rfl
          simp only [hS] at hr3
          have hbA := below_alloc w5 (.cells #[strV [86, 65, 82, 89], .string S, strV [120], strV [121], strV [118, 97, 114, 121], .string S] 41)
          have ho6 := HO5.out.below hbA
          have hbA1 := chain2 HB5.out HB5.out.size hbA
          have hs6 := hbA1.size
          have HA := hid hbA1
          clear hbA hbA1
          go_wp2_with (at_builtin; go_must (refine wpList_append_flds _ rfl _ _ 28 rfl w1.heap.size 41 Tryd.underlying28 infoFld rfl (by decide) rfl ho6 hr3 rfl (by simp; omega) hs6 ?_); intro v7 w7 ho7 hb7)
          go_roundw
          case rel =>
            refine ⟨k + 1, by go_num, hlt, congrArg strV HX.out.symm, ?_, HG2.out, HA.out.trans hb7⟩
            rw [HAP.out]
            exact ho7
          case measure => simp [intOf]; omega
    · have hkn : k = n := by omega
      have htl : (turnL l t).length = n := by simp [turnL, HN.out]
      have e1 : (turnL l t).take k = turnL l t := List.take_of_length_le (by omega)
      have e2 : l.take k = l := List.take_of_length_le (by rw [HN.out]; omega)
      have hg := HG.out
      have ho := HO.out
      rw [e2] at hg ho
      rw [e1]
      have hvv : varyE (elementsF [([86, 97, 114, 121], oneV (turnL l t))] varyN) = varyE (elementsF (apartV l) varyN) ∧ starE (elementsF [([86, 97, 114, 121], oneV (turnL l t))] varyN) = starE (elementsF (apartV l) varyN) := by
        by_cases hz : l = []
        · subst hz; exact vary_none
        · have h0 : 0 < l.length := List.length_pos_iff.2 hz
          exact vary_same l t (by rw [← HT.out, HN.out]; exact Nat.mod_lt _ (by rw [← HN.out]; exact h0)) (fun b hb c hc => (hg b hb).2 c hc)
      have hsv : (oneV (turnL l t)).length ≤ (40 + 3) * 10 := by
        refine Nat.le_trans (oneV_len (B := 40) fun x hx => ?_) (Nat.mul_le_mul_left _ (by omega))
        by_cases hz : l = []
        · subst hz; simp [turnL] at hx
        · have h0 : 0 < l.length := List.length_pos_iff.2 hz
          exact (hg x ((turnL_mem l t (by rw [← HT.out, HN.out]; exact Nat.mod_lt _ (by rw [← HN.out]; exact h0)) x).1 hx)).1
      have hap : SmallF (apartV l) := ⟨by rw [apartV_len, HN.out]; omega, fun f hf => (apartV_val hf fun b hb => (hg b hb).1).1, fun f hf => (apartV_val hf fun b hb => (hg b hb).1).2⟩
      have hsr := varyE_sorted (elementsF (apartV l) varyN)
      have hvl : (varyE (elementsF (apartV l) varyN)).length ≤ 18120 := Nat.le_trans (varyE_len _) (elements_small hap varyN).1
      generalize oneV (turnL l t) = SV at hvv hsv ⊢
      have hgs : (getF [(([86, 97, 114, 121] : List UInt8), SV)] varyN).length ≤ 1000000 := by
        have h1 := joinC_len 430 (allF [(([86, 97, 114, 121] : List UInt8), SV)] varyN) (fun x hx => by
          obtain ⟨f, hf, rfl⟩ := allF_mem hx
          rw [List.mem_singleton] at hf; subst hf; omega)
        have h2 := allF_len [(([86, 97, 114, 121] : List UInt8), SV)] varyN
        have h3 : (430 + 2) * (allF [(([86, 97, 114, 121] : List UInt8), SV)] varyN).length ≤ (430 + 2) * 1 := Nat.mul_le_mul_left _ h2
        unfold getF
        omega
      have c1 := fun (W : World) (v : Value) (h : Reads2 W v [(([86, 97, 114, 121] : List UInt8), SV)]) => names_big v _ W h ⟨by simp, fun f hf => by rw [List.mem_singleton] at hf; subst hf; exact ⟨by simp, Nat.le_trans hsv (by decide)⟩⟩ hgs
      have c2 := fun (W : World) (v : Value) (h : Reads2 W v (apartV l)) => names_any v _ W h hap
      rw [hvv.1, hvv.2] at c1
      obtain ⟨V, hV⟩ : ∃ x, varyE (elementsF (apartV l) varyN) = x := ⟨_, rfl⟩
      obtain ⟨st, hst⟩ : ∃ x, starE (elementsF (apartV l) varyN) = x := ⟨_, rfl⟩
      rw [hV] at c1 c2 hsr hvl
      rw [hst] at c1 c2
      have C1 := hid c1
      have C2 := hid c2
      have HRA := hid ho.reads2.2
      have HSR := hid hsr
      obtain ⟨N, hNV⟩ : ∃ N, V.length = N := ⟨_, rfl⟩
      have HV := hid hNV
      have hN : N ≤ 18120 := by omega
      have z1 : (st != st) = false := by cases st <;> rfl
      have z2 : ((N : Int) != (N : Int)) = false := by simp
      clear c1 c2 hgs hap hvv hsv hsr hvl hV hst hNV hg ho e1 e2 htl
      go_wp2_with fail
      have hb0 := below_alloc wr (.cells #[strV [86, 97, 114, 121], strV SV] 41)
      refine (C1.out _ _ (reads2_new_at wr ([86, 97, 114, 121], SV) _ _ _ rfl)).mono ?_
      rintro e w5 ⟨v5, rfl, hr5, hb5⟩
      have hb05 := chain2 hb0 hb0.size hb5
      have HB5 := hid (chain2 HBW.out HBW.out.size hb05)
      have HRA5 := hid (HRA.out.below hb05)
      have HR5 := hid hr5
      clear hb0 hb5 hb05 hr5 HRA
      obtain ⟨ao5, c5, e5⟩ := HR5.out.strs
      subst e5
      rw [HV.out] at HR5 ⊢
      go_wp2_with fail
      refine (C2.out _ _ HRA5.out).mono ?_
      rintro e w6 ⟨v6, rfl, hr6, hb6⟩
      have HB6 := hid (chain2 HB5.out HB5.out.size hb6)
      have HR56 := hid (HR5.out.below hb6)
      have HR6 := hid hr6
      clear hb6 hr6 HRA5
      obtain ⟨ao6, c6, e6⟩ := HR6.out.strs
      subst e6
      rw [HV.out] at HR6 ⊢
      go_wp2_with fail
      clear z1 z2
      go_loopw [103] (fun z wi => ∃ j : Nat, z = .int .i64 (j : Int) ∧ j ≤ N ∧ Below w6.heap.size w6 wi) (fun z _ => N - (intOf z).toNat)
      case atStart => exact ⟨0, rfl, Nat.zero_le _, Below.refl _ _⟩
      case round =>
        obtain ⟨j, rfl, hj, hbi⟩ := hrel
        have HBI := hid hbi
        by_cases hjl : j < N
        · obtain ⟨u, hu⟩ : ∃ u, V[j]? = some u := ⟨_, List.getElem?_eq_getElem (by rw [HV.out]; exact hjl)⟩
          obtain ⟨b5, o5, g5, d5⟩ := (HR56.out.below hbi).str hu
          obtain ⟨b6, o6, g6, d6⟩ := (HR6.out.below hbi).str hu
          subst g5 g6
          have hj0 : (0 : Int) ≤ (j : Int) := by omega
          have hjI : (j : Int) < (N : Int) := by omega
          have hjw : IntKind.i64.wrap ((j : Int) + 1) = (j : Int) + 1 := IntWalk.i64_in _ (by omega)
          have zu : (u != u) = false := by simp
          by_cases hjz : j = 0
          · have hd : decide ((0 : Int) < (j : Int)) = false := decide_eq_false (by omega)
            have hd2 : decide (0 < j) = false := decide_eq_false (by omega)
            clear hbi hu hjz
            go_wp2_with fail
            go_quiet (fail)
            go_wp2_with fail
            go_roundw
            case rel => exact ⟨j + 1, by go_num, hjl, chain2 HBI.out HBI.out.size (drewN_below2 _ _)⟩
            case measure => simp [intOf]; omega
          · have hd : decide ((0 : Int) < (j : Int)) = true := decide_eq_true (by omega)
            have hd2 : decide (0 < j) = true := decide_eq_true (by omega)
            obtain ⟨v, hv⟩ : ∃ v, V[j - 1]? = some v := ⟨_, List.getElem?_eq_getElem (by rw [HV.out]; omega)⟩
            have hlt2 : v < u := by
              obtain ⟨h1, e1⟩ := List.getElem?_eq_some_iff.1 hu
              obtain ⟨h2, e2⟩ := List.getElem?_eq_some_iff.1 hv
              have := List.pairwise_iff_getElem.1 HSR.out (j - 1) j h2 h1 (by omega)
              rw [e1, e2] at this
              exact this
            have zl : Op.bytesLess u v = false := by have := ltL_iff u v; unfold ltL at this; rw [this]; exact decide_eq_false (fun h => List.lt_irrefl _ (List.lt_trans h hlt2))
            have zq : (u == v) = false := by rw [beq_eq_false_iff_ne]; intro e; subst e; exact List.lt_irrefl _ hlt2
            obtain ⟨b7, o7, g7, d7⟩ := (HR56.out.below hbi).str hv
            cases g7
            have hj1 : IntKind.i64.wrap ((j : Int) - 1) = (j : Int) - 1 := IntWalk.i64_in _ (by omega)
            have hj1a : (0 : Int) ≤ (j : Int) - 1 := by omega
            have hj1b : (j : Int) - 1 < (N : Int) := by omega
            have hj1c : ((j : Int) - 1).toNat = j - 1 := by omega
            clear hbi hu hv hlt2 hjz
            go_wp2_with fail
            go_quiet (fail)
            go_wp2_with fail
            go_roundw
            case rel => exact ⟨j + 1, by go_num, hjl, chain2 HBI.out HBI.out.size (drewN_below2 _ _)⟩
            case measure => simp [intOf]; omega
        · go_wp2_with fail
          go_ret
          exact ⟨rfl, chain2 HB6.out HB6.out.size HBI.out⟩
theorem keyNames_walk (nv : Value) (l : List (List UInt8)) (m : Int) (w : World) (ht : Tab10 w) (hn : Reads w nv (l.map strV) ∧ (∀ x ∈ l, x.length ≤ maxLen) ∧ l.length ≤ maxLen) (hz : ∀ x ∈ l, x.length ≤ reachBytes) :
    Calls Tryd.prog 5 #[nv, .int .i64 m] w fun e w' => e = .returned (.bool true) ∧ Below w.heap.size w w' :=
  keyNames_over nv l m w ht hn.1 hn.2.2 hz
end Go.Proofs.YtbjgbkbhalibdaaDoor
