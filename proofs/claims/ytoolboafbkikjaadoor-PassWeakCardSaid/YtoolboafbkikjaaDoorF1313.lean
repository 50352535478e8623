/-
  Several texts in one: PassB, PassD.
-/
import Derived.Test.YtoolboafbkikjaaDoorF13PassA
import Derived.Test.YtoolboafbkikjaaDoorF1312
import Derived.Test.YtoolboafbkikjaaDoorF13Ref12B
import Derived.Test.YtoolboafbkikjaaDoorF13Ref13C
set_option linter.unusedVariables false
set_option linter.unusedSimpArgs false
/-
  Contracts of package pass: tagOf, timeOf, Asking.
-/
namespace Go.Proofs.YtoolboafbkikjaaDoor
open Go.RowKit Go.Pantry

theorem datedF_eq {n m : List UInt8} (h : lowerL n = lowerL m) (l : List Fld) : datedF l n = datedF l m := by
  unfold datedF getF; rw [allF_eq h]
theorem getF_low2 {n m : List UInt8} (h : lowerL n = lowerL m) (l : List Fld) : getF l n = getF l m := by
  unfold getF; rw [allF_eq h]
set_option maxRecDepth 8000 in
theorem pTag_any (v : Value) (l : List Fld) (w : World) (hr : Reads2 w v l) (hs : WideF l) :
    Calls Tryd.prog 43 #[v] w fun e w' => e = .returned (strV (getF l nETag)) ∧ Below w.heap.size w w' := by
  have c1 := lGet_any v l ⟨sETag.toArray⟩ w hr (wideOk hs) (by decide)
  rw [dtL, getF_low2 (show lowerL sETag = lowerL nETag by decide)] at c1
  generalize getF l nETag = G at c1 ⊢
  generalize (!(allF l sETag).isEmpty) = b at c1
  have C1 := hid c1
  clear c1 hr hs
  go_enter Tryd.func43, Tryd.ntmps43
  go_wp2_with fail
  refine C1.out.mono ?_
  rintro e w1 ⟨rfl, hb1⟩
  go_wp2_with fail
  go_ret
  exact ⟨rfl, hb1⟩
set_option maxRecDepth 8000 in
theorem pTime_any (v : Value) (l : List Fld) (n : List UInt8) (w : World) (hT : Tables w) (hr : Reads2 w v l) (hs : WideF l) (hn : n.length ≤ 100000) :
    Calls Tryd.prog 44 #[v, strV n] w fun e w' => e = .returned (timeV (datedF l n)) ∧ Below w.heap.size w w' := by
  have c1 := lGet_any v l ⟨n.toArray⟩ w hr (wideOk hs) (by rw [szL]; omega)
  rw [dtL] at c1
  generalize (!(allF l n).isEmpty) = b at c1
  have hd : readDL (getF l n) = datedF l n := rfl
  generalize getF l n = G at c1 hd
  have C1 := hid c1
  have HT := hid hT
  cases hq : datedF l n with
  | none =>
    rw [hq] at hd
    have C2 := hid (fun (W : World) (h : Tables W) => Read_none ⟨G.toArray⟩ W h (by rw [dtL]; exact hd))
    clear c1 hr hs hn hd hq hT
    go_enter Tryd.func44, Tryd.ntmps44
    go_wp2_with fail
    refine C1.out.mono ?_
    rintro e w1 ⟨rfl, hb1⟩
    have hT1 := hid (HT.out.below hb1 HT.out.lt)
    have HB1 := hid hb1
    clear hb1
    go_wp2_with fail
    refine (C2.out _ hT1.out).mono ?_
    rintro e w2 ⟨rfl, hb2⟩
    have HB2 := hid (chain2 HB1.out HB1.out.size hb2)
    clear hb2
    go_wp2_with fail
    go_ret2
    exact ⟨rfl, HB2.out⟩
  | some t =>
    rw [hq] at hd
    have C2 := hid (fun (W : World) (h : Tables W) => Read_some ⟨G.toArray⟩ t W h (by rw [dtL]; exact hd))
    clear c1 hr hs hn hd hq hT
    go_enter Tryd.func44, Tryd.ntmps44
    go_wp2_with fail
    refine C1.out.mono ?_
    rintro e w1 ⟨rfl, hb1⟩
    have hT1 := hid (HT.out.below hb1 HT.out.lt)
    have HB1 := hid hb1
    clear hb1
    go_wp2_with fail
    refine (C2.out _ hT1.out).mono ?_
    rintro e w2 ⟨rfl, hb2⟩
    have HB2 := hid (chain2 HB1.out HB1.out.size hb2)
    clear hb2
    go_wp2_with fail
    go_ret2
    exact ⟨rfl, HB2.out⟩
set_option maxRecDepth 8000 in
set_option maxHeartbeats 4000000 in
theorem pAsking_any (v cv : Value) (req came : List Fld) (w : World) (hT : Tables w) (hr : Reads2 w v req) (hc : Reads2 w cv came) (hs : WideF req) (hk : WideF came) (ho1 : WideF (onwardF req)) :
    Calls Tryd.prog 20 #[v, cv] w (GaveF w (askingF req came)) := by
  have c1 := pOnward_any v req w hr hs
  have c2 := fun (W : World) (x vn : Value) (h : Reads2 W x (onwardF req)) (hn : Reads W vn (askS.map strV)) => lWithout_any x vn (onwardF req) askS W h (wideOk ho1) hn ⟨by decide, by decide⟩
  simp only [ask_code] at c2
  have c3 := fun (W : World) (h : Below w.heap.size w W) => pTag_any cv came W (hc.below h) hk
  have c4 := fun (W : World) (h : Below w.heap.size w W) => pTime_any cv came sLastM W (hT.below h hT.lt) (hc.below h) hk (by decide)
  simp only [datedF_eq (show lowerL sLastM = lowerL nLast by decide)] at c4
  have c5 := fun (W : World) (h : Below w.heap.size w W) => lGet_any cv came ⟨sLastM.toArray⟩ W (hc.below h) (wideOk hk) (by decide)
  simp only [dtL, getF_low2 (show lowerL sLastM = lowerL nLast by decide)] at c5
  have ha : askingF req came = outsF (onwardF req) askN ++ (if getF came nETag = [] then [] else [(sINM, getF came nETag)]) ++ (if (datedF came nLast).isSome then [(sIMS, getF came nLast)] else []) := rfl
  rw [ha]
  have hol : (outsF (onwardF req) askN).length ≤ 1000 := (ho1.outs askN).len
  generalize outsF (onwardF req) askN = O at c2 hol ⊢
  generalize getF came nETag = T at c3 ⊢
  generalize getF came nLast = G at c5 ⊢
  generalize datedF came nLast = D at c4 ⊢
  generalize (!(allF came sLastM).isEmpty) = b at c5
  have C1 := hid c1
  have C2 := hid c2
  have C3 := hid c3
  have C4 := hid c4
  have C5 := hid c5
  clear c1 c2 c3 c4 c5 hr hc hs hk ho1 hT ha
  obtain ⟨M, hM⟩ : ∃ M, (if T = [] then [] else [(sINM, T)] : List Fld) = M := ⟨_, rfl⟩
  rw [hM]
  have HM := hid hM
  clear hM
  obtain ⟨K, hK⟩ : ∃ K, (if D.isSome then [(sIMS, G)] else [] : List Fld) = K := ⟨_, rfl⟩
  rw [hK]
  have HK := hid hK
  clear hK
  go_enter Tryd.func20, Tryd.ntmps20
  go_wp2_with fail
  refine C1.out.mono ?_
  rintro e w1 ⟨⟨v1, k1, rfl, ho1⟩, hb1⟩
  have hbX := below_alloc w1 (.cells (askS.map strV).toArray 9)
  have hrX := reads_new w1 (askS.map strV) 9 6
  have hr1 := ho1.reads2.2.below hbX
  have HB2 := hid (chain2 hb1 hb1.size hbX)
  have D2 := hid (C2.out _ _ _ hr1 hrX)
  clear hb1 hbX hrX hr1 ho1 C1 C2
  go_wp2_with fail
  refine D2.out.mono ?_
  rintro e w3 ⟨⟨v3, k3, rfl, ho3⟩, hb3⟩
  have hk3 := ho3.reads2.1
  have HO3 := hid (ho3.base HB2.out.size)
  have HB3 := hid (chain2 HB2.out HB2.out.size hb3)
  clear ho3 hb3 D2 HB2
  go_wp2_with fail
  refine (C3.out _ HB3.out).mono ?_
  rintro e w4 ⟨rfl, hb4⟩
  have ho4 := HO3.out.below hb4
  have HB4 := hid (chain2 HB3.out HB3.out.size hb4)
  have hs4 := HB4.out.size
  clear hb4 HO3 HB3 C3
  obtain ⟨q, hq⟩ : ∃ q, T.isEmpty = q := ⟨_, rfl⟩
  have hqe : (T == []) = q := by rw [← hq]; cases T <;> rfl
  have hq2n : (!(T == [])) = !q := by rw [hqe]
  have hq2m : (T != []) = !q := by rw [bne, hqe]
  cases q with
  | true =>
    simp only [Bool.not_true] at hq2n hq2m
    have HMv := hid (show O ++ M = O by rw [← HM.out, if_pos (by simpa using hqe)]; simp)
    have HO5 := hid ho4
    have HB5 := hid HB4.out
    clear ho4 HB4
    go_wp2_with fail
    refine (C4.out _ HB5.out).mono ?_
    rintro e w6 ⟨rfl, hb6⟩
    have ho6 := HO5.out.below hb6
    have HB6 := hid (chain2 HB5.out HB5.out.size hb6)
    clear hb6 HO5 HB5 C4
    cases D with
    | none =>
      simp only [timeV]
      have HR6 := hid ho6.reads2.2
      have hKn : K = [] := by rw [← HK.out]; rfl
      clear ho6
      go_wp2_with fail
      go_ret
      exact ⟨⟨_, rfl, by rw [HMv.out, hKn, List.append_nil]; exact HR6.out⟩, HB6.out⟩
    | some t =>
      simp only [timeV]
      have HO6 := hid ho6
      have hKn : K = [(sIMS, G)] := by rw [← HK.out]; rfl
      clear ho6
      go_wp2_with fail
      refine (C5.out _ HB6.out).mono ?_
      rintro e w7 ⟨rfl, hb7⟩
      have ho7 := HO6.out.below hb7
      have HB7 := hid (chain2 HB6.out HB6.out.size hb7)
      have hs7 := HB7.out.size
      clear hb7 HO6 HB6 C5
      go_wp2_with (at_builtin; go_must (refine wpList_append_fld _ rfl _ _ 23 rfl w.heap.size 49 Tryd.underlying23 infoFld rfl (by decide) rfl ho7 (sIMS, G) rfl (by first | rfl | simp) (by omega) hs7 ?_); intro v8 w8 ho8 hb8)
      have HR8 := hid ho8.reads2.2
      have HB8 := hid (HB7.out.trans hb8)
      clear ho8 hb8
      go_wp2_with fail
      go_ret
      exact ⟨⟨_, rfl, by rw [HMv.out, hKn]; exact HR8.out⟩, HB8.out⟩
  | false =>
    simp only [Bool.not_false] at hq2n hq2m
    have HMv := hid (show O ++ M = O ++ [(sINM, T)] by rw [← HM.out, if_neg (by simpa using hqe)])
    go_wp2_with (at_builtin; go_must (refine wpList_append_fld _ rfl _ _ 23 rfl w.heap.size 49 Tryd.underlying23 infoFld rfl (by decide) rfl ho4 (sINM, T) rfl (by first | rfl | simp) (by omega) hs4 ?_); intro v5 w5 ho5 hb5)
    have HO5 := hid ho5
    have HB5 := hid (HB4.out.trans hb5)
    clear ho4 HB4 ho5 hb5
    go_wp2_with fail
    refine (C4.out _ HB5.out).mono ?_
    rintro e w6 ⟨rfl, hb6⟩
    have ho6 := HO5.out.below hb6
    have HB6 := hid (chain2 HB5.out HB5.out.size hb6)
    clear hb6 HO5 HB5 C4
    cases D with
    | none =>
      simp only [timeV]
      have HR6 := hid ho6.reads2.2
      have hKn : K = [] := by rw [← HK.out]; rfl
      clear ho6
      go_wp2_with fail
      go_ret
      exact ⟨⟨_, rfl, by rw [HMv.out, hKn, List.append_nil]; exact HR6.out⟩, HB6.out⟩
    | some t =>
      simp only [timeV]
      have HO6 := hid ho6
      have hKn : K = [(sIMS, G)] := by rw [← HK.out]; rfl
      clear ho6
      go_wp2_with fail
      refine (C5.out _ HB6.out).mono ?_
      rintro e w7 ⟨rfl, hb7⟩
      have ho7 := HO6.out.below hb7
      have HB7 := hid (chain2 HB6.out HB6.out.size hb7)
      have hs7 := HB7.out.size
      clear hb7 HO6 HB6 C5
      go_wp2_with (at_builtin; go_must (refine wpList_append_fld _ rfl _ _ 23 rfl w.heap.size 49 Tryd.underlying23 infoFld rfl (by decide) rfl ho7 (sIMS, G) rfl (by first | rfl | simp) (by omega) hs7 ?_); intro v8 w8 ho8 hb8)
      have HR8 := hid ho8.reads2.2
      have HB8 := hid (HB7.out.trans hb8)
      clear ho8 hb8
      go_wp2_with fail
      go_ret
      exact ⟨⟨_, rfl, by rw [HMv.out, hKn]; exact HR8.out⟩, HB8.out⟩
end Go.Proofs.YtoolboafbkikjaaDoor
/-
  Contracts of package pass: bare, among, Good.
-/
namespace Go.Proofs.YtoolboafbkikjaaDoor
open Go.RowKit Go.Pantry

theorem slPrefix_any (l : List UInt8) (w : World) (hl : l.length ≤ 1000000000) :
    Calls Tryd.prog 106 #[strV l, .string ⟨#[87, 47]⟩] w fun e w' => e = .returned (.bool (l.take 2 == [87, 47])) ∧ w = w' := by
  have hz : ((⟨l.toArray⟩ : ByteArray).size : Int) = (l.length : Int) := by rw [szL]
  by_cases h : 2 ≤ l.length
  · have hd : decide ((2 : Int) ≤ (l.length : Int)) = true := decide_eq_true (by omega)
    have hx : (⟨l.toArray⟩ : ByteArray).extract 0 2 = ⟨(l.take 2).toArray⟩ := by
      apply bytes_ext
      rw [Lib.extract_eq]; simp
    obtain ⟨q, hq⟩ : ∃ q, (l.take 2 == [87, 47]) = q := ⟨_, rfl⟩
    rw [hq]
    go_enter Tryd.func106, Tryd.ntmps106
    go_wp2_with fail
    go_ret
    exact ⟨rfl, rfl⟩
  · have hd : decide ((2 : Int) ≤ (l.length : Int)) = false := decide_eq_false (by omega)
    have hs : (l.take 2 == [87, 47]) = false := by
      rw [beq_eq_false_iff_ne]
      intro e
      have := congrArg List.length e
      rw [List.length_take] at this
      simp at this
      omega
    rw [hs]
    go_enter Tryd.func106, Tryd.ntmps106
    go_wp2_with fail
    go_ret
    exact ⟨rfl, rfl⟩
theorem slTrim_any (l : List UInt8) (w : World) (hl : l.length ≤ 1000000000) :
    Calls Tryd.prog 98 #[strV l, .string ⟨#[87, 47]⟩] w fun e w' => e = .returned (strV (strongL l)) ∧ w = w' := by
  have hz : ((⟨l.toArray⟩ : ByteArray).size : Int) = (l.length : Int) := by rw [szL]
  have c1 := hid (fun (W : World) => slPrefix_any l W hl)
  have hs : strongL l = if (l.take 2 == [87, 47]) then l.drop 2 else l := by unfold strongL; simp
  have h2 : (l.take 2 == [87, 47]) = true → 2 ≤ l.length := fun h => by
    have e := congrArg List.length (beq_iff_eq.1 h)
    rw [List.length_take] at e
    simp at e
    omega
  rw [hs]
  have hx2 : (⟨l.toArray⟩ : ByteArray).extract 2 l.length = ⟨(l.drop 2).toArray⟩ := by
    apply bytes_ext
    rw [Lib.extract_eq]; simp
    exact List.take_of_length_le (by simp)
  generalize l.drop 2 = D at hx2 ⊢
  generalize (l.take 2 == [87, 47]) = q at c1 h2 ⊢
  clear hs
  cases q
  · clear h2
    go_enter Tryd.func98, Tryd.ntmps98
    go_wp2_with fail
    refine (c1.out _).mono ?_
    rintro e w1 ⟨rfl, rfl⟩
    go_wp2_with fail
    go_ret
    exact ⟨rfl, rfl⟩
  · have hln := h2 rfl
    have hlnI : (2 : Int) ≤ (l.length : Int) := by omega
    clear h2
    go_enter Tryd.func98, Tryd.ntmps98
    go_wp2_with fail
    refine (c1.out _).mono ?_
    rintro e w1 ⟨rfl, rfl⟩
    go_wp2_with fail
    go_ret
    exact ⟨rfl, rfl⟩
theorem trimPre_any (l : List UInt8) (w : World) (hl : l.length ≤ 1000000000) :
    Calls Tryd.prog 78 #[strV l, .string ⟨#[87, 47]⟩] w fun e w' => e = .returned (strV (strongL l)) ∧ w = w' := by
  have c1 := hid (fun (W : World) => slTrim_any l W hl)
  generalize strongL l = D at c1 ⊢
  go_enter Tryd.func78, Tryd.ntmps78
  go_wp2_with fail
  refine (c1.out _).mono ?_
  rintro e w1 ⟨rfl, rfl⟩
  go_wp2_with fail
  go_ret
  exact ⟨rfl, rfl⟩
theorem pBare_any (l : List UInt8) (w : World) (hl : l.length ≤ 1000000000) :
    Calls Tryd.prog 64 #[strV l] w fun e w' => e = .returned (strV (strongL l)) ∧ w = w' := by
  have c1 := hid (fun (W : World) => trimPre_any l W hl)
  generalize strongL l = D at c1 ⊢
  go_enter Tryd.func64, Tryd.ntmps64
  go_wp2_with fail
  refine (c1.out _).mono ?_
  rintro e w1 ⟨rfl, rfl⟩
  go_wp2_with fail
  go_ret
  exact ⟨rfl, rfl⟩
set_option maxRecDepth 8000 in
set_option maxHeartbeats 4000000 in
theorem pAmong_any (v : Value) (E : List (List UInt8)) (T : List UInt8) (w : World) (hr : Reads w v (E.map strV)) (hn : E.length ≤ 1000000000) (hE : ∀ e ∈ E, e.length ≤ 1000000000) (hT : T.length ≤ 1000000000) :
    Calls Tryd.prog 52 #[v, strV T] w fun e w' => e = .returned (.bool (E.any (goodE T))) ∧ Below w.heap.size w w' := by
  obtain ⟨ao, cap, rfl⟩ := hr.strs
  obtain ⟨R, hR⟩ : ∃ R, E.any (goodE T) = R := ⟨_, rfl⟩
  rw [hR]
  have HRR := hid hR
  have HE := hid hE
  obtain ⟨n, hnn⟩ : ∃ n, E.length = n := ⟨_, rfl⟩
  rw [hnn] at hn hr ⊢
  have HN := hid hnn
  have HE3 := hid hr
  clear hr hE hnn hR
  go_enter Tryd.func52, Tryd.ntmps52
  go_wp2_with fail
  go_loopw [9] (fun i wr => ∃ k : Nat, i = .int .i64 (k : Int) ∧ k ≤ n ∧ (E.take k).any (goodE T) = false ∧ Below w.heap.size w wr) (fun i _ => n - (intOf i).toNat)
  case atStart => exact ⟨0, rfl, Nat.zero_le _, rfl, Below.refl _ _⟩
  case round =>
    obtain ⟨k, rfl, hk, hno, hb⟩ := hrel
    have HB := hid hb
    have HNO := hid hno
    clear hno
    by_cases hlt : k < n
    · obtain ⟨u, hu⟩ : ∃ u, E[k]? = some u := ⟨_, List.getElem?_eq_getElem (by rw [HN.out]; exact hlt)⟩
      obtain ⟨bb, off, heo, d0⟩ := (HE3.out.below hb).str hu
      subst heo
      have hkI : (k : Int) < (n : Int) := by omega
      have hk0 : (0 : Int) ≤ (k : Int) := by omega
      have hkw : IntKind.i64.wrap ((k : Int) + 1) = (k : Int) + 1 := IntWalk.i64_in _ (by omega)
      have htk := take_str hu
      have hub := HE.out u (List.mem_of_getElem? hu)
      have hst : (E.take (k + 1)).any (goodE T) = goodE T u := by rw [htk, List.any_append, HNO.out]; simp
      have hyes : goodE T u = true → R = true := fun h => by
        rw [← HRR.out]; exact List.any_eq_true.2 ⟨u, List.mem_of_getElem? hu, h⟩
      have hg : goodE T u = (u == [42] || (!(T == []) && strongL u == strongL T)) := by unfold goodE; cases T <;> rfl
      have HG := hid hg
      have HST := hid hst
      have HY := hid hyes
      clear hb htk hu hst hyes hg
      obtain ⟨q1, hq1⟩ : ∃ q, (u == [42]) = q := ⟨_, rfl⟩
      rw [hq1] at HG
      cases q1
      · obtain ⟨q2, hq2⟩ : ∃ q, (T == []) = q := ⟨_, rfl⟩
        have hq2e : T.isEmpty = q2 := by rw [← hq2]; cases T <;> rfl
        have hq2n : (!(T == [])) = !q2 := by rw [hq2]
        have hq2m : (T != []) = !q2 := by rw [bne, hq2]
        rw [hq2] at HG
        cases q2
        · simp only [Bool.not_false] at hq2n hq2m
          have s1 := hid (fun W => pBare_any u W hub)
          have s2 := hid (fun W => pBare_any T W hT)
          go_wp2_with fail
          refine (s1.out _).mono ?_
          rintro e w5 ⟨rfl, rfl⟩
          go_wp2_with fail
          refine (s2.out _).mono ?_
          rintro e w6 ⟨rfl, rfl⟩
          obtain ⟨q3, hq3⟩ : ∃ q, (strongL u == strongL T) = q := ⟨_, rfl⟩
          rw [hq3] at HG
          cases q3
          · go_wp2_with fail
            go_roundw
            case rel => exact ⟨k + 1, by go_num, hlt, by rw [HST.out, HG.out]; rfl, HB.out⟩
            case measure => simp [intOf]; omega
          · go_wp2_with fail
            go_ret
            exact ⟨by rw [HY.out (by rw [HG.out]; rfl)]; rfl, HB.out⟩
        · simp only [Bool.not_true] at hq2n hq2m
          go_wp2_with fail
          go_roundw
          case rel => exact ⟨k + 1, by go_num, hlt, by rw [HST.out, HG.out]; rfl, HB.out⟩
          case measure => simp [intOf]; omega
      · go_wp2_with fail
        go_ret
        exact ⟨by rw [HY.out (by rw [HG.out]; rfl)]; rfl, HB.out⟩
    · have hkm : k = n := by omega
      have e0 : E.take k = E := List.take_of_length_le (by rw [HN.out]; omega)
      rw [e0] at HNO
      go_wp2_with fail
      go_ret
      exact ⟨by rw [← HRR.out, HNO.out]; rfl, HB.out⟩
set_option maxRecDepth 8000 in
set_option maxHeartbeats 4000000 in
theorem pGood_any (v cv : Value) (req came : List Fld) (w : World) (hTb : Tables w) (hr : Reads2 w v req) (hc : Reads2 w cv came) (hs : WideF req) (hk : WideF came) :
    Calls Tryd.prog 26 #[v, cv] w fun e w' => e = .returned (.bool (goodF req came)) ∧ Below w.heap.size w w' := by
  have c1 := lGet_any v req ⟨sINM.toArray⟩ w hr (wideOk hs) (by decide)
  have c2 := fun (W : World) (h : Below w.heap.size w W) => lElements_any v req ⟨sINM.toArray⟩ W (hr.below h) (wideOk hs) (by decide)
  simp only [dtL, elements_eq (show lowerL sINM = lowerL nINM by decide)] at c2
  simp only [dtL, allF_eq (show lowerL sINM = lowerL nINM by decide)] at c1
  have c3 := fun (W : World) (h : Below w.heap.size w W) => pTag_any cv came W (hc.below h) hk
  have c4 := fun (W : World) (h : Below w.heap.size w W) => pTime_any v req sIMS W (hTb.below h hTb.lt) (hr.below h) hs (by decide)
  have c5 := fun (W : World) (h : Below w.heap.size w W) => pTime_any cv came sLastM W (hTb.below h hTb.lt) (hc.below h) hk (by decide)
  simp only [datedF_eq (show lowerL sIMS = lowerL nIMS by decide)] at c4
  simp only [datedF_eq (show lowerL sLastM = lowerL nLast by decide)] at c5
  have hE := hs.elements nINM
  have hT := hk.get nETag
  have hg : goodF req came = if (allF req nINM).isEmpty then sinceF (datedF req nIMS) (datedF came nLast) else (elementsF req nINM).any (goodE (getF came nETag)) := by
    unfold goodF
    cases h : allF req nINM <;> simp
  rw [hg]
  clear hg
  generalize elementsF req nINM = E at c2 hE ⊢
  generalize getF came nETag = T at c3 hT ⊢
  generalize datedF req nIMS = D1 at c4 ⊢
  generalize datedF came nLast = D2 at c5 ⊢
  generalize getF req sINM = G at c1
  generalize (allF req nINM).isEmpty = b at c1 ⊢
  have c6 := fun (W : World) (x : Value) (h : Reads W x (E.map strV)) => pAmong_any x E T W h (by omega) (fun e he => Nat.le_trans (hE.2 e he) (by decide)) (by omega)
  have C1 := hid c1
  have C2 := hid c2
  have C3 := hid c3
  have C4 := hid c4
  have C5 := hid c5
  have C6 := hid c6
  clear hr hc c1 c2 c3 c4 c5 c6 hE hs hk hTb hT
  cases b with
  | false =>
    have hif : (if false = true then sinceF D1 D2 else E.any (goodE T)) = E.any (goodE T) := rfl
    rw [hif]
    clear hif
    generalize E.any (goodE T) = R at C6 ⊢
    go_enter Tryd.func26, Tryd.ntmps26
    go_wp2_with fail
    refine C1.out.mono ?_
    rintro e w1 ⟨rfl, hb1⟩
    have HB1 := hid hb1
    clear hb1 C1
    go_wp2_with fail
    refine (C2.out _ HB1.out).mono ?_
    rintro e w2 ⟨⟨v2, rfl, ho2⟩, hb2⟩
    have HB2 := hid (chain2 HB1.out HB1.out.size hb2)
    have HR2 := hid ho2.reads
    clear hb2 ho2 HB1 C2
    go_wp2_with fail
    refine (C3.out _ HB2.out).mono ?_
    rintro e w3 ⟨rfl, hb3⟩
    have HB3 := hid (chain2 HB2.out HB2.out.size hb3)
    have HR3 := hid (HR2.out.below hb3)
    clear hb3 HB2 HR2 C3
    go_wp2_with fail
    refine (C6.out _ _ HR3.out).mono ?_
    rintro e w4 ⟨rfl, hb4⟩
    have HB4 := hid (chain2 HB3.out HB3.out.size hb4)
    clear hb4 HB3 HR3 C6
    go_wp2_with fail
    go_ret
    exact ⟨rfl, HB4.out⟩
  | true =>
    have hif : (if true = true then sinceF D1 D2 else E.any (goodE T)) = sinceF D1 D2 := rfl
    rw [hif]
    clear hif C6 C2 C3
    obtain ⟨R, hR⟩ : ∃ R, sinceF D1 D2 = R := ⟨_, rfl⟩
    rw [hR]
    have HRR := hid hR
    clear hR
    go_enter Tryd.func26, Tryd.ntmps26
    go_wp2_with fail
    refine C1.out.mono ?_
    rintro e w1 ⟨rfl, hb1⟩
    have HB1 := hid hb1
    clear hb1 C1
    go_wp2_with fail
    refine (C4.out _ HB1.out).mono ?_
    rintro e w2 ⟨rfl, hb2⟩
    have HB2 := hid (chain2 HB1.out HB1.out.size hb2)
    clear hb2 HB1 C4
    cases D1 with
    | none =>
      simp only [timeV]
      go_wp2_with fail
      refine (C5.out _ HB2.out).mono ?_
      rintro e w3 ⟨rfl, hb3⟩
      have HB3 := hid (chain2 HB2.out HB2.out.size hb3)
      clear hb3 HB2 C5
      cases D2 with
      | none =>
        simp only [timeV]
        go_wp2_with fail
        go_ret
        exact ⟨by rw [← HRR.out]; rfl, HB3.out⟩
      | some t2 =>
        simp only [timeV]
        go_wp2_with fail
        go_ret
        exact ⟨by rw [← HRR.out]; rfl, HB3.out⟩
    | some t1 =>
      simp only [timeV]
      go_wp2_with fail
      refine (C5.out _ HB2.out).mono ?_
      rintro e w3 ⟨rfl, hb3⟩
      have HB3 := hid (chain2 HB2.out HB2.out.size hb3)
      clear hb3 HB2 C5
      cases D2 with
      | none =>
        simp only [timeV]
        go_wp2_with fail
        go_ret
        exact ⟨by rw [← HRR.out]; rfl, HB3.out⟩
      | some t2 =>
        simp only [timeV]
        go_wp2_with fail
        go_ret
        exact ⟨by rw [← HRR.out]; rfl, HB3.out⟩
end Go.Proofs.YtoolboafbkikjaaDoor
