/-
  The walk of the statement ConfBlanks.
-/
import Derived.Test.YtbibgnflkgafiaaGreatDoorLaw09B
import Derived.Test.YtbibgnflkgafiaaGreatDoorRef9X
import Derived.Test.YtbibgnflkgafiaaGreatDoorPureBlanks
namespace Go.Proofs.YtbibgnflkgafiaaGreatDoor
open Go.RowKit Go.Pantry

set_option maxRecDepth 100000 in
set_option maxHeartbeats 4000000 in
theorem confBlanks_walk (s : ByteArray) (v : Value) (Z : List Int) (w : World) (hm : MaxOk w) (ht : Tab10 w) (hs : s.size ≤ maxLen)
    (hz : Reads w v (Z.map (Value.int .i64)) ∧ (∀ x ∈ Z, (Lit.int .i64 x).wf = true) ∧ Z.length ≤ maxLen) :
    Calls Tryz.prog 6 #[.string s, v] w fun e w' => e = .returned (.bool true) ∧ Below w.heap.size w w' := by
  have HA := hid (anchor_any w hm ht)
  have HM := hid hm
  have HT := hid ht
  unfold maxLen at hs
  obtain ⟨⟨az, cz, rfl, hcz, -⟩, -, hzl⟩ := hz
  rw [List.length_map]
  have HCZ := hid hcz
  unfold maxLen at hzl
  obtain ⟨M, hMz⟩ : ∃ M, Z.length = M := ⟨_, rfl⟩
  rw [hMz] at hzl ⊢
  clear hm ht hcz
  by_cases g1 : (1500 : Int) < (s.size : Int)
  · have d1 : decide ((1500 : Int) < (s.size : Int)) = true := decide_eq_true g1
    go_enter Tryz.func6, Tryz.ntmps6
    go_wp2_with (go_at_call 8; refine HA.out.mono ?_; rintro e w1 ⟨rfl, hb1⟩)
    go_ret
    exact ⟨rfl, hb1⟩
  have d1 : decide ((1500 : Int) < (s.size : Int)) = false := decide_eq_false g1
  by_cases g2 : (300 : Int) < (M : Int)
  · have d2 : decide ((300 : Int) < (M : Int)) = true := decide_eq_true g2
    go_enter Tryz.func6, Tryz.ntmps6
    go_wp2_with (go_at_call 8; refine HA.out.mono ?_; rintro e w1 ⟨rfl, hb1⟩)
    go_ret
    exact ⟨rfl, hb1⟩
  have d2 : decide ((300 : Int) < (M : Int)) = false := decide_eq_false g2
  obtain ⟨T, hT⟩ : ∃ T, s.data.toList = T := ⟨_, rfl⟩
  have hTl : T.length ≤ 1500 := by rw [← hT, size_list]; omega
  have hsT : (.string s : Value) = strV T := by rw [← hT]
  obtain ⟨ks, hks⟩ : ∃ ks : Nat → Int, ks = fun i => Z.getD i 0 := ⟨_, rfl⟩
  have HKD := hid hks
  have HMZ := hid hMz
  obtain ⟨WS, hWS⟩ : ∃ WS, textW T ++ [[]] = WS := ⟨_, rfl⟩
  obtain ⟨n, hn⟩ : ∃ n, WS.length = n := ⟨_, rfl⟩
  have hnl : n ≤ 1501 := by
    rw [← hn, ← hWS, List.length_append, List.length_singleton]
    have := textW_len T; omega
  have hwl : ∀ x ∈ WS, x.length ≤ 1500 := by
    intro x hx
    rw [← hWS] at hx
    rcases List.mem_append.1 hx with e | e
    · exact Nat.le_trans (word_len e) hTl
    · rw [List.mem_singleton] at e; subst e; simp
  have HWS := hid (And.intro hWS (And.intro hn hwl))
  have cw := fun W => words_any s W (by omega)
  rw [hT] at cw
  have CW := hid cw
  have HST := hid hsT
  clear hks hMz hWS hn hwl cw hT hsT
  go_enter Tryz.func6, Tryz.ntmps6
  go_wp2_with (go_at_call 8; refine HA.out.mono ?_; rintro e w1 ⟨rfl, hb1⟩)
  refine (CW.out _).mono ?_
  rintro e w2 ⟨g, wv, lv, rfl, hg, hP, hb2⟩
  rw [HWS.out.1] at hP
  obtain ⟨aw, cw2, hfw⟩ := hP.ow.reads.form
  rw [List.length_map, HWS.out.2.1] at hfw
  subst hfw
  have p0 := hP.row.cell 0
  have HR := hid hP.ow.reads
  have HB12 := hid (chainP hb1 hb2)
  have HB2 := hid hb1
  clear hP hb1 hb2 d1 d2 g1 g2 HA
  go_wp2_with fail
  clear p0
  go_loopw [6, 31] (fun u z wr => ∃ i : Nat, z = .int .i64 (i : Int) ∧ i ≤ n ∧ u = strV (joinB ks 0 (WS.take i)) ∧ Below w2.heap.size w2 wr) (fun _ z _ => n - (intOf z).toNat)
  case atStart => exact ⟨0, rfl, Nat.zero_le _, rfl, Below.refl _ _⟩
  case round =>
    obtain ⟨i, rfl, hi, rfl, hb⟩ := hrel
    have HB := hid hb
    by_cases hlt : i < n
    · obtain ⟨x, hx⟩ : ∃ x, WS[i]? = some x := by
        have := HWS.out.2.1
        exact ⟨WS[i]'(by omega), List.getElem?_eq_getElem (by omega)⟩
      have hxl : x.length ≤ 1500 := HWS.out.2.2 x (List.mem_of_getElem? hx)
      have hal : (joinB ks 0 (WS.take i)).length ≤ 1515 * 1501 := by
        have h1 := joinB_len ks 1500 (WS.take i) 0 (fun u hu => HWS.out.2.2 u (List.mem_of_mem_take hu))
        have h2 := List.length_take_le i WS
        have h3 : 1515 * (WS.take i).length ≤ 1515 * 1501 := Nat.mul_le_mul_left _ (by omega)
        omega
      have hxm : (WS.map strV)[i]? = some (strV x) := by rw [List.getElem?_map, hx]; rfl
      have q1 := HR.out.below hb
      obtain ⟨a1, c1', e1, f1, -⟩ := q1
      injection e1 with e1 k1 k2
      clear k1 k2
      subst e1
      obtain ⟨b1, o1, g1, i1⟩ := f1 i _ hxm
      subst g1
      have HNX : Hid (joinB ks 0 (WS.take (i + 1)) = joinB ks 0 (WS.take i) ++ x ++ sepL (ks i)) := by
        show _ = _
        rw [List.take_add_one, hx]
        simp only [Option.toList_some]
        rw [joinB_snoc]
        have : (WS.take i).length = i := by rw [List.length_take]; have := HWS.out.2.1; omega
        rw [this, Nat.zero_add, List.append_assoc]
      obtain ⟨X, hX⟩ : ∃ X, joinB ks 0 (WS.take i) = X := ⟨_, rfl⟩
      rw [hX] at hal HNX ⊢
      have hadd := fun W => run_string_add_lists (P := Tryz.prog) W X x (by omega) (by omega)
      have hyl : (X ++ x).length ≤ 2280000 := by rw [List.length_append]; omega
      obtain ⟨Y, hY⟩ : ∃ Y, X ++ x = Y := ⟨_, rfl⟩
      rw [hY] at hadd hyl HNX
      have hkI : (i : Int) < (n : Int) := by omega
      have hk0 : (0 : Int) ≤ (i : Int) := by omega
      have hkw : IntKind.i64.wrap ((i : Int) + 1) = (i : Int) + 1 := IntWalk.i64_in _ (by omega)
      clear hX hY hx hxm f1 hb
      by_cases hzi : i < M
      · obtain ⟨z, hz⟩ : ∃ z, Z[i]? = some z := ⟨Z[i]'(by have := HMZ.out; omega), List.getElem?_eq_getElem (by have := HMZ.out; omega)⟩
        have hkz : ks i = z := by rw [HKD.out]; simp [List.getD, hz]
        obtain ⟨bz, oz, haz, hcz⟩ := HCZ.out i (.int .i64 z) (by rw [List.getElem?_map, hz]; rfl)
        have hcz2 := kept (kept hcz HB12.out) HB.out
        subst haz
        have hzI : (i : Int) < (M : Int) := by omega
        clear hcz hz
        by_cases c1 : z.tmod 3 = 1
        · have t1 : (z.tmod 3 == 1) = true := by simp [c1]
          have hks : sepL (ks i) = [10, 32, 9] := by unfold sepL; rw [hkz, if_pos c1]
          have hadd2 := fun W => run_string_add_lists (P := Tryz.prog) W Y [10, 32, 9] (by omega) (by decide)
          obtain ⟨V, hV⟩ : ∃ V, Y ++ [10, 32, 9] = V := ⟨_, rfl⟩
          rw [hV] at hadd2
          have HV := hid hV
          have HKS := hid hks
          clear hV hks
          go_wp2_with fail
          go_roundw
          case rel =>
            refine ⟨i + 1, by go_num, hlt, ?_, HB.out⟩
            rw [← HV.out, ← HKS.out, HNX.out]
          case measure => simp [intOf]; omega
        by_cases c2 : z.tmod 3 = 2
        · have t1 : (z.tmod 3 == 1) = false := by simpa using c1
          have t2 : (z.tmod 3 == 2) = true := by simp [c2]
          have hks : sepL (ks i) = [32, 47, 47, 32, 120, 32, 59, 32, 123, 32, 115, 105, 116, 101, 10] := by unfold sepL; rw [hkz, if_neg c1, if_pos c2]
          have hadd2 := fun W => run_string_add_lists (P := Tryz.prog) W Y [32, 47, 47, 32, 120, 32, 59, 32, 123, 32, 115, 105, 116, 101, 10] (by omega) (by decide)
          obtain ⟨V, hV⟩ : ∃ V, Y ++ [32, 47, 47, 32, 120, 32, 59, 32, 123, 32, 115, 105, 116, 101, 10] = V := ⟨_, rfl⟩
          rw [hV] at hadd2
          have HV := hid hV
          have HKS := hid hks
          clear hV hks
          go_wp2_with fail
          go_roundw
          case rel =>
            refine ⟨i + 1, by go_num, hlt, ?_, HB.out⟩
            rw [← HV.out, ← HKS.out, HNX.out]
          case measure => simp [intOf]; omega
        have t1 : (z.tmod 3 == 1) = false := by simpa using c1
        have t2 : (z.tmod 3 == 2) = false := by simpa using c2
        have hks : sepL (ks i) = [32] := by unfold sepL; rw [hkz, if_neg c1, if_neg c2]
        have hadd2 := fun W => run_string_add_lists (P := Tryz.prog) W Y [32] (by omega) (by decide)
        obtain ⟨V, hV⟩ : ∃ V, Y ++ [32] = V := ⟨_, rfl⟩
        rw [hV] at hadd2
        have HV := hid hV
        have HKS := hid hks
        clear hV hks
        go_wp2_with fail
        go_roundw
        case rel =>
          refine ⟨i + 1, by go_num, hlt, ?_, HB.out⟩
          rw [← HV.out, ← HKS.out, HNX.out]
        case measure => simp [intOf]; omega
      · have hzI : ¬ (i : Int) < (M : Int) := by omega
        have hkz : ks i = 0 := by rw [HKD.out]; simp [List.getD, List.getElem?_eq_none (show Z.length ≤ i by have := HMZ.out; omega)]
        have hks : sepL (ks i) = [32] := by unfold sepL; rw [hkz]; rfl
        have hadd2 := fun W => run_string_add_lists (P := Tryz.prog) W Y [32] (by omega) (by decide)
        obtain ⟨V, hV⟩ : ∃ V, Y ++ [32] = V := ⟨_, rfl⟩
        rw [hV] at hadd2
        have HV := hid hV
        have HKS := hid hks
        clear hV hks
        go_wp2_with fail
        go_roundw
        case rel =>
          refine ⟨i + 1, by go_num, hlt, ?_, HB.out⟩
          rw [← HV.out, ← HKS.out, HNX.out]
        case measure => simp [intOf]; omega
    · have hin : i = n := by omega
      have hWt : WS.take i = WS := List.take_of_length_le (by have := HWS.out.2.1; omega)
      rw [hWt]
      obtain ⟨X, hX⟩ : ∃ X, joinB ks 0 WS = X := ⟨_, rfl⟩
      rw [hX]
      have HX := hid hX
      have hXl : X.length ≤ 1515 * 1501 := by
        have h1 := joinB_len ks 1500 WS 0 HWS.out.2.2
        have h3 : 1515 * WS.length ≤ 1515 * 1501 := Nat.mul_le_mul_left _ (by have := HWS.out.2.1; omega)
        rw [← hX]; omega
      have hkI : ¬ (i : Int) < (n : Int) := by omega
      clear hWt hX hb
      by_cases g4 : (4096 : Int) < (X.length : Int)
      · have d4 : decide ((4096 : Int) < (X.length : Int)) = true := decide_eq_true g4
        go_wp2_with fail
        go_ret
        exact ⟨rfl, chainP HB12.out HB.out⟩
      have d4 : decide ((4096 : Int) < (X.length : Int)) = false := decide_eq_false g4
      have hrb := read_blanks ks T (by omega) (by rw [HWS.out.1, HX.out]; omega)
      rw [HWS.out.1, HX.out] at hrb
      have HBW := hid (chainP HB12.out HB.out)
      go_wp2_with fail
      have hsT := HST.out
      change Calls _ _ #[.string s] _ _
      rw [hsT]
      refine (readQ_any T wr (HM.out.below HBW.out) (HT.out.below HBW.out)).mono ?_
      rintro e w3 ⟨ao1, c1, L1, rfl, hL1, hs1, hb3⟩
      obtain ⟨cd, hcd⟩ : ∃ c, (readM T).2.1 = c := ⟨_, rfl⟩
      obtain ⟨ln, hln⟩ : ∃ l, (readM T).2.2 = l := ⟨_, rfl⟩
      rw [hcd] at hrb
      rw [hcd, hln]
      have HL1 := hid hL1
      have HS1 := hid hs1
      have b0 : Below w3.heap.size w3 ((w3.alloc (.cells #[.slice ao1 L1.length c1] 25)).alloc (.cells #[.int .i64 (cd : Int), .int .i64 (ln : Int)] 28)) := chainP (below_alloc _ _) (below_alloc _ _)
      have r6 : rowIs ((w3.alloc (.cells #[.slice ao1 L1.length c1] 25)).alloc (.cells #[.int .i64 (cd : Int), .int .i64 (ln : Int)] 28)) w3.heap.size #[.slice ao1 L1.length c1] 25 := (rowIs_new _ _ _).below (below_alloc _ _)
      have r7 : rowIs ((w3.alloc (.cells #[.slice ao1 L1.length c1] 25)).alloc (.cells #[.int .i64 (cd : Int), .int .i64 (ln : Int)] 28)) (w3.heap.size + 1) #[.int .i64 (cd : Int), .int .i64 (ln : Int)] 28 := rowIs_new_at _ _ _ _ (by simp)
      have HB1 := hid (chainP (chainP HBW.out hb3) b0)
      clear hcd hln hL1 hs1 hb3 hsT
      go_wp2_with fail
      change Calls _ _ _ ((w3.alloc (.cells #[.slice ao1 L1.length c1] 25)).alloc (.cells #[.int .i64 (cd : Int), .int .i64 (ln : Int)] 28)) _
      obtain ⟨W1, hW1⟩ : ∃ W, (w3.alloc (.cells #[.slice ao1 L1.length c1] 25)).alloc (.cells #[.int .i64 (cd : Int), .int .i64 (ln : Int)] 28) = W := ⟨_, rfl⟩
      rw [hW1]
      rw [hW1] at b0 r6 r7 HB1
      have HC := hid b0
      clear hW1 b0
      refine (readQ_any X W1 (HM.out.below HB1.out) (HT.out.below HB1.out)).mono ?_
      rintro e w4 ⟨ao2, c2, L2, rfl, hL2, hs2, hb4⟩
      rw [hrb.1] at hL2
      rw [hrb.2]
      obtain ⟨ln2, hln2⟩ : ∃ l, (readM X).2.2 = l := ⟨_, rfl⟩
      rw [hln2]
      have HL2 := hid hL2
      have HS2 := hid hs2
      have HD := hid hb4
      have b1 : Below w4.heap.size w4 ((w4.alloc (.cells #[.slice ao2 L2.length c2] 25)).alloc (.cells #[.int .i64 (cd : Int), .int .i64 (ln2 : Int)] 28)) := chainP (below_alloc _ _) (below_alloc _ _)
      have r8 : rowIs ((w4.alloc (.cells #[.slice ao2 L2.length c2] 25)).alloc (.cells #[.int .i64 (cd : Int), .int .i64 (ln2 : Int)] 28)) w4.heap.size #[.slice ao2 L2.length c2] 25 := (rowIs_new _ _ _).below (below_alloc _ _)
      have r9 : rowIs ((w4.alloc (.cells #[.slice ao2 L2.length c2] 25)).alloc (.cells #[.int .i64 (cd : Int), .int .i64 (ln2 : Int)] 28)) (w4.heap.size + 1) #[.int .i64 (cd : Int), .int .i64 (ln2 : Int)] 28 := rowIs_new_at _ _ _ _ (by simp)
      replace r6 := (r6.below hb4).below b1
      replace r7 := (r7.below hb4).below b1
      have HB2e := hid (chainP (chainP HB1.out hb4) b1)
      clear hL2 hs2 hb4 hln2 hrb
      go_wp2_with fail
      change Code.wp _ _ _ _ ((w4.alloc (.cells #[.slice ao2 L2.length c2] 25)).alloc (.cells #[.int .i64 (cd : Int), .int .i64 (ln2 : Int)] 28))
      obtain ⟨WR, hWR⟩ : ∃ W, (w4.alloc (.cells #[.slice ao2 L2.length c2] 25)).alloc (.cells #[.int .i64 (cd : Int), .int .i64 (ln2 : Int)] 28) = W := ⟨_, rfl⟩
      have hBE := HB2e.out
      rw [hWR] at r6 r7 r8 r9 b1 hBE
      have HBE := hid hBE
      have hL12 : L1.map (·.1) = L2.map (·.1) := by rw [HL1.out, HL2.out]
      have hmr1 := ((HS1.out.readsP.below HC.out).below HD.out).below b1
      have hmr2 := HS2.out.readsP.below b1
      have hzl : (zs L1).length = (zs L2).length := by rw [zs_len, zs_len]; simpa using congrArg List.length hL12
      have HRR := hid (And.intro hmr1 (And.intro hmr2 (And.intro (zs_few HL1.out).1 (And.intro hzl (And.intro (zs_same hL12) (zs_few HL1.out).2)))))
      rw [hWR]
      clear hL12 hmr1 hmr2 hzl b1 hBE hWR
      refine wp_region_held_drew (S := fun w' => Below WR.heap.size WR w') (by kernel_rfl) ((Below.refl _ _).drew) (fun hH => ?_)
      refine wpAnyH_take (i := 0) (v := ?_) rfl (by kernel_rfl) (by kernel_rfl) (by kernel_rfl) (fun _ _ _ h => h) (Or.inl ⟨by kernel_rfl, ?_⟩) hH ?_
      rotate_left
      · intro W hS
        have k1 := (r7.below hS).cell 0
        have k2 := (r9.below hS).cell 0
        go_simp
        first | done | with_reducible rfl
      simp only [Act.put, List.getElem_toArray, List.getElem_cons_succ, List.getElem_cons_zero, List.setIfInBounds_toArray, List.set_cons_zero, List.set_cons_succ]
      refine wpAnyH_take (i := 1) (v := ?_) rfl (by kernel_rfl) (by kernel_rfl) (by kernel_rfl) (fun _ _ _ h => h) (Or.inl ⟨by kernel_rfl, ?_⟩) hH ?_
      rotate_left
      · intro W hS
        have k1 := (r7.below hS).cell 0
        have k2 := (r9.below hS).cell 0
        go_simp
        first | done | with_reducible rfl
      simp only [Act.put, List.getElem_toArray, List.getElem_cons_succ, List.getElem_cons_zero, List.setIfInBounds_toArray, List.set_cons_zero, List.set_cons_succ]
      refine wpAnyH_take (i := 2) (v := ?_) rfl (by kernel_rfl) (by kernel_rfl) (by kernel_rfl) (fun _ _ _ h => h) (Or.inl ⟨by kernel_rfl, ?_⟩) hH ?_
      rotate_left
      · intro W hS
        have k1 := (r7.below hS).cell 0
        have k2 := (r9.below hS).cell 0
        go_simp
        first | done | with_reducible rfl
      simp only [Act.put, List.getElem_toArray, List.getElem_cons_succ, List.getElem_cons_zero, List.setIfInBounds_toArray, List.set_cons_zero, List.set_cons_succ]
      refine wpAnyH_take (i := 3) (v := ?_) rfl (by kernel_rfl) (by kernel_rfl) (by kernel_rfl) (fun _ _ _ h => h) (Or.inl ⟨by kernel_rfl, ?_⟩) hH ?_
      rotate_left
      · intro W hS
        have k1 := (r7.below hS).cell 0
        have k2 := (r9.below hS).cell 0
        go_simp
        first | done | with_reducible rfl
      simp only [Act.put, List.getElem_toArray, List.getElem_cons_succ, List.getElem_cons_zero, List.setIfInBounds_toArray, List.set_cons_zero, List.set_cons_succ]
      refine wpAnyH_take (i := 4) (v := ?_) rfl (by kernel_rfl) (by kernel_rfl) (by kernel_rfl) (fun _ _ _ h => h) (Or.inl ⟨by kernel_rfl, ?_⟩) hH ?_
      rotate_left
      · intro W hS
        have k1 := (r7.below hS).cell 0
        have k2 := (r9.below hS).cell 0
        go_simp
        first | done | with_reducible rfl
      simp only [Act.put, List.getElem_toArray, List.getElem_cons_succ, List.getElem_cons_zero, List.setIfInBounds_toArray, List.set_cons_zero, List.set_cons_succ]
      refine wpAnyH_take (i := 5) (v := ?_) rfl (by kernel_rfl) (by kernel_rfl) (by kernel_rfl) (fun _ _ _ h => h) (Or.inl ⟨by kernel_rfl, ?_⟩) hH ?_
      rotate_left
      · intro W hS
        have k1 := (r7.below hS).cell 0
        have k2 := (r9.below hS).cell 0
        go_simp
        first | done | with_reducible rfl
      simp only [Act.put, List.getElem_toArray, List.getElem_cons_succ, List.getElem_cons_zero, List.setIfInBounds_toArray, List.set_cons_zero, List.set_cons_succ]
      refine wpAnyH_take (i := 6) (v := .agg #[(.slice ao1 L1.length c1)]) rfl (by kernel_rfl) (by kernel_rfl) (by kernel_rfl) (fun _ _ _ h => h) (Or.inl ⟨by kernel_rfl, ?_⟩) hH ?_
      · intro W hS
        exact load_gives rfl _ rfl (r6.below hS) Tryz.underlying25 rfl infoCfg
      simp only [Act.put, List.getElem_toArray, List.getElem_cons_succ, List.getElem_cons_zero, List.setIfInBounds_toArray, List.set_cons_zero, List.set_cons_succ]
      refine wpAnyH_take (i := 8) (v := .agg #[(.slice ao2 L2.length c2)]) rfl (by kernel_rfl) (by kernel_rfl) (by kernel_rfl) (fun _ _ _ h => h) (Or.inl ⟨by kernel_rfl, ?_⟩) hH ?_
      · intro W hS
        exact load_gives rfl _ rfl (r8.below hS) Tryz.underlying25 rfl infoCfg
      simp only [Act.put, List.getElem_toArray, List.getElem_cons_succ, List.getElem_cons_zero, List.setIfInBounds_toArray, List.set_cons_zero, List.set_cons_succ]
      refine wpAnyH_ready (rs := [7]) (by kernel_rfl) (by simp) ?_
      refine AllReadyH.cons rfl (fun K hK => ?_) AllReadyH.nil
      go_simp
      refine (madeConfig_any (.slice ao1 L1.length c1) (zs L1) _ (HRR.out.1.below hH) HRR.out.2.2.1).mono ?_
      rintro e w5 ⟨u1, rfl, hr5, hb5⟩
      have HR5 := hid hr5
      clear hr5
      refine hK.out _ _ (chainP hH hb5) (fun hH => ?_)
      clear hK K
      try simp only [Act.put, List.getElem_toArray, List.getElem_cons_succ, List.getElem_cons_zero, List.setIfInBounds_toArray, List.set_cons_zero, List.set_cons_succ]
      refine wpAnyH_ready (rs := [9]) (by kernel_rfl) (by simp) ?_
      refine AllReadyH.cons rfl (fun K hK => ?_) AllReadyH.nil
      go_simp
      refine (madeConfig_any (.slice ao2 L2.length c2) (zs L2) _ (HRR.out.2.1.below hH) (by rw [← HRR.out.2.2.2.1]; exact HRR.out.2.2.1)).mono ?_
      rintro e w6 ⟨u2, rfl, hr6, hb6⟩
      have HR6 := hid hr6
      have HR5b := hid (HR5.out.below hb6)
      clear hr6
      refine hK.out _ _ (chainP hH hb6) (fun hH => ?_)
      clear hK K
      try simp only [Act.put, List.getElem_toArray, List.getElem_cons_succ, List.getElem_cons_zero, List.setIfInBounds_toArray, List.set_cons_zero, List.set_cons_succ]
      refine wpAnyH_ready (rs := [10]) (by kernel_rfl) (by simp) ?_
      refine AllReadyH.cons rfl (fun K hK => ?_) AllReadyH.nil
      go_simp
      refine (same_eq u1 u2 (zs L1) (zs L2) _ HR5b.out HR6.out HRR.out.2.2.2.2.1 HRR.out.2.2.1 HRR.out.2.2.2.2.2).mono ?_
      rintro e w7 ⟨rfl, hb7⟩
      refine hK.out _ _ (chainP hH hb7) (fun hH => ?_)
      clear hK K
      try simp only [Act.put, List.getElem_toArray, List.getElem_cons_succ, List.getElem_cons_zero, List.setIfInBounds_toArray, List.set_cons_zero, List.set_cons_succ]
      refine wpAnyH_take (i := 11) (v := ?_) rfl (by kernel_rfl) (by kernel_rfl) (by kernel_rfl) (fun _ _ _ h => h) (Or.inl ⟨by kernel_rfl, ?_⟩) hH ?_
      rotate_left
      · intro W hS
        have k1 := (r7.below hS).cell 0
        have k2 := (r9.below hS).cell 0
        go_simp
        first | done | with_reducible rfl
      simp only [Act.put, List.getElem_toArray, List.getElem_cons_succ, List.getElem_cons_zero, List.setIfInBounds_toArray, List.set_cons_zero, List.set_cons_succ]
      refine wpAnyH_take (i := 12) (v := ?_) rfl (by kernel_rfl) (by kernel_rfl) (by kernel_rfl) (fun _ _ _ h => h) (Or.inl ⟨by kernel_rfl, ?_⟩) hH ?_
      rotate_left
      · intro W hS
        have k1 := (r7.below hS).cell 0
        have k2 := (r9.below hS).cell 0
        go_simp
        first | done | with_reducible rfl
      simp only [Act.put, List.getElem_toArray, List.getElem_cons_succ, List.getElem_cons_zero, List.setIfInBounds_toArray, List.set_cons_zero, List.set_cons_succ]
      refine wpAnyH_done (by kernel_rfl) ?_ _
      go_wp2_with fail
      go_ret
      exact ⟨rfl, HBE.out.trans (hH.mono HBE.out.size)⟩
end Go.Proofs.YtbibgnflkgafiaaGreatDoor
