/-
  The walk of the statement ConfLines.
-/
import Derived.Test.YtbibgnflkgafiaaDoorLaw09B
namespace Go.Proofs.YtbibgnflkgafiaaDoor
open Go.RowKit Go.Pantry

theorem readsP_empty (w : World) (ao : Option Addr) (cap : Nat) : ReadsP w (.slice ao ([] : List (SiteM × Value)).length cap) (zs []) :=
  ⟨⟨ao, cap, rfl, fun j x h => by cases h⟩, fun x hx => absurd hx List.not_mem_nil⟩
theorem read_nil {t : List UInt8} (h : (readM t).2.1 ≠ 0) : (readM t).1 = [] := by
  by_cases h' : 4096 < t.length
  · rw [readM_long h']
  · rw [readM_short (by omega)] at h ⊢
    split
    · rename_i hc; rw [if_pos hc] at h; exact absurd rfl h
    · rfl
set_option maxRecDepth 100000 in
set_option maxHeartbeats 2000000 in
theorem confLines_walk (s : ByteArray) (n : Int) (w : World) (hm : MaxOk w) (ht : Tab10 w) (hs : s.size ≤ maxLen) :
    Calls Tryd.prog 4 #[.string s, .int .i64 n] w fun e w' => e = .returned (.bool true) ∧ Below w.heap.size w w' := by
  have HA := hid (anchor_any w hm ht)
  have HM := hid hm
  have HT := hid ht
  unfold maxLen at hs
  clear hm ht
  by_cases g1 : (3000 : Int) < (s.size : Int)
  · have d1 : decide ((3000 : Int) < (s.size : Int)) = true := decide_eq_true g1
    go_enter Tryd.func4, Tryd.ntmps4
    go_wp2_with (go_at_call 5; refine HA.out.mono ?_; rintro e w1 ⟨rfl, hb1⟩)
    go_ret
    exact ⟨rfl, hb1⟩
  have d1 : decide ((3000 : Int) < (s.size : Int)) = false := decide_eq_false g1
  by_cases g2 : n < 0
  · have d2 : decide (n < 0) = true := decide_eq_true g2
    go_enter Tryd.func4, Tryd.ntmps4
    go_wp2_with (go_at_call 5; refine HA.out.mono ?_; rintro e w1 ⟨rfl, hb1⟩)
    go_ret
    exact ⟨rfl, hb1⟩
  have d2 : decide (n < 0) = false := decide_eq_false g2
  by_cases g3 : 100 < n
  · have d3 : decide (100 < n) = true := decide_eq_true g3
    go_enter Tryd.func4, Tryd.ntmps4
    go_wp2_with (go_at_call 5; refine HA.out.mono ?_; rintro e w1 ⟨rfl, hb1⟩)
    go_ret
    exact ⟨rfl, hb1⟩
  have d3 : decide (100 < n) = false := decide_eq_false g3
  obtain ⟨N, rfl⟩ : ∃ N : Nat, n = (N : Int) := ⟨n.toNat, by omega⟩
  obtain ⟨T, hT⟩ : ∃ T, s.data.toList = T := ⟨_, rfl⟩
  have hTl : T.length ≤ 3000 := by rw [← hT, size_list]; omega
  have hsT : (.string s : Value) = strV T := by rw [← hT]
  have hN : N ≤ 100 := by omega
  have e1 : ¬ (3000 : Int) < (T.length : Int) := by omega
  have e1' : decide ((3000 : Int) < (T.length : Int)) = false := decide_eq_false e1
  rw [hsT]
  clear g1 d1 hs hT hsT
  go_enter Tryd.func4, Tryd.ntmps4
  go_wp2_with (go_at_call 5; refine HA.out.mono ?_; rintro e w1 ⟨rfl, hb1⟩)
  go_loopw [5, 25] (fun u z wr => ∃ k : Nat, z = .int .i64 (k : Int) ∧ k ≤ N ∧ u = strV (List.replicate k 10 ++ T) ∧ Below w.heap.size w wr) (fun _ z _ => N - (intOf z).toNat)
  case atStart => exact ⟨0, rfl, Nat.zero_le _, rfl, hb1⟩
  case round =>
    obtain ⟨k, rfl, hk, rfl, hb⟩ := hrel
    by_cases hlt : k < N
    · have hadd := fun W => run_string_add_lists (P := Tryd.prog) W [10] (List.replicate k 10 ++ T) (by simp) (by simp; omega)
      rw [show [10] ++ (List.replicate k 10 ++ T) = List.replicate (k + 1) 10 ++ T from rfl] at hadd
      obtain ⟨X, hX⟩ : ∃ X, List.replicate k 10 ++ T = X := ⟨_, rfl⟩
      obtain ⟨Y, hY⟩ : ∃ Y, List.replicate (k + 1) 10 ++ T = Y := ⟨_, rfl⟩
      rw [hX, hY] at hadd
      have HY := hid hY
      rw [hX]
      have hkw : IntKind.i64.wrap ((k : Int) + 1) = (k : Int) + 1 := IntWalk.i64_in _ (by omega)
      have hkI : (k : Int) < (N : Int) := by omega
      clear hX hY
      go_wp2_with fail
      go_roundw
      case rel => exact ⟨k + 1, by go_num, hlt, by rw [HY.out], hb⟩
      case measure => simp [intOf]; omega
    · have hkN : k = N := by omega
      subst hkN
      have hkI : ¬ (k : Int) < (k : Int) := by omega
      obtain ⟨X, hX⟩ : ∃ X, List.replicate k 10 ++ T = X := ⟨_, rfl⟩
      have HX := hid hX
      have HB := hid hb
      rw [hX]
      clear hX hb hb1 d2 d3 g2 g3 e1 e1' HA
      go_wp2_with fail
      refine (readQ_any T wr (HM.out.below HB.out) (HT.out.below HB.out)).mono ?_
      rintro e w2 ⟨ao1, c1, L1, rfl, hL1, hs1, hb2⟩
      obtain ⟨cd, hcd⟩ : ∃ c, (readM T).2.1 = c := ⟨_, rfl⟩
      have HCD := hid hcd
      obtain ⟨ln, hln⟩ : ∃ l, (readM T).2.2 = l := ⟨_, rfl⟩
      have hlb := line_bound T
      have hrx := readM_lines k T (by omega) (by omega)
      have hfl := fault_line (t := T)
      rw [hcd, hln] at hrx hfl
      rw [hln] at hlb
      rw [HX.out] at hrx
      rw [hcd, hln]
      have HL1 := hid hL1
      have HS1 := hid hs1
      have b0 : Below w2.heap.size w2 ((w2.alloc (.cells #[.slice ao1 L1.length c1] 25)).alloc (.cells #[.int .i64 (cd : Int), .int .i64 (ln : Int)] 28)) := chainP (below_alloc _ _) (below_alloc _ _)
      have r6 : rowIs ((w2.alloc (.cells #[.slice ao1 L1.length c1] 25)).alloc (.cells #[.int .i64 (cd : Int), .int .i64 (ln : Int)] 28)) w2.heap.size #[.slice ao1 L1.length c1] 25 := (rowIs_new _ _ _).below (below_alloc _ _)
      have r7 : rowIs ((w2.alloc (.cells #[.slice ao1 L1.length c1] 25)).alloc (.cells #[.int .i64 (cd : Int), .int .i64 (ln : Int)] 28)) (w2.heap.size + 1) #[.int .i64 (cd : Int), .int .i64 (ln : Int)] 28 := rowIs_new_at _ _ _ _ (by simp)
      have hb02 := chainP HB.out hb2
      have HB1 := hid (chainP hb02 b0)
      have HB22 := hid hb2
      clear hcd hln hL1 hs1 hb2
      go_wp2_with fail
      change Calls _ _ _ ((w2.alloc (.cells #[.slice ao1 L1.length c1] 25)).alloc (.cells #[.int .i64 (cd : Int), .int .i64 (ln : Int)] 28)) _
      obtain ⟨g6, hg6⟩ : ∃ g, w2.heap.size = g := ⟨_, rfl⟩
      obtain ⟨g7, hg7⟩ : ∃ g, g6 + 1 = g := ⟨_, rfl⟩
      obtain ⟨W1, hW1⟩ : ∃ W, (w2.alloc (.cells #[.slice ao1 L1.length c1] 25)).alloc (.cells #[.int .i64 (cd : Int), .int .i64 (ln : Int)] 28) = W := ⟨_, rfl⟩
      rw [hW1]
      rw [hW1] at b0 r6 r7 HB1
      rw [hg6] at r6 r7
      rw [hg7] at r7
      have HC := hid b0
      have HG7 := hid r7.lt
      have HG72 := hid (show w.heap.size ≤ g7 from by have := HB.out.size; have := HB22.out.size; omega)
      clear hb02 hW1 b0
      refine (readQ_any X W1 (HM.out.below HB1.out) (HT.out.below HB1.out)).mono ?_
      rintro e w3 ⟨ao2, c2, L2, rfl, hL2, hs2, hb3⟩
      rw [hrx] at hL2 ⊢
      simp only at hL2 ⊢
      obtain ⟨ln2, hln2⟩ : ∃ l, (if cd = 0 then ln else k + ln) = l := ⟨_, rfl⟩
      rw [hln2]
      have HL2 := hid hL2
      have HS2 := hid hs2
      have HD := hid hb3
      have b1 : Below w3.heap.size w3 ((w3.alloc (.cells #[.slice ao2 L2.length c2] 25)).alloc (.cells #[.int .i64 (cd : Int), .int .i64 (ln2 : Int)] 28)) := chainP (below_alloc _ _) (below_alloc _ _)
      have r8 : rowIs ((w3.alloc (.cells #[.slice ao2 L2.length c2] 25)).alloc (.cells #[.int .i64 (cd : Int), .int .i64 (ln2 : Int)] 28)) w3.heap.size #[.slice ao2 L2.length c2] 25 := (rowIs_new _ _ _).below (below_alloc _ _)
      have r9 : rowIs ((w3.alloc (.cells #[.slice ao2 L2.length c2] 25)).alloc (.cells #[.int .i64 (cd : Int), .int .i64 (ln2 : Int)] 28)) (w3.heap.size + 1) #[.int .i64 (cd : Int), .int .i64 (ln2 : Int)] 28 := rowIs_new_at _ _ _ _ (by simp)
      replace r6 := (r6.below hb3).below b1
      replace r7 := (r7.below hb3).below b1
      have HB2 := hid (chainP (chainP HB1.out hb3) b1)
      have HE2 := hid b1
      have HG := hid (show g7 < w3.heap.size ∧ g6 < g7 from ⟨Nat.lt_of_lt_of_le HG7.out hb3.size, by omega⟩)
      have kc0 := r7.cell 0
      have kc1 := r7.cell 1
      have kf1 := r7.free 1
      have R6 := hid r6
      have R7 := hid r7
      have R8 := hid r8
      have R9 := hid r9
      clear hL2 hs2 hb3 b1 r6 r7 r8 r9 hrx
      by_cases h0 : cd = 0
      · have hz : ((cd : Int) == 0) = true := by simp [h0]
        have hl2 : ln = ln2 := by rw [← hln2, if_pos h0]
        subst hl2
        clear h0 hln2
        go_wp2_with fail
        change Code.wp _ _ _ _ ((w3.alloc (.cells #[.slice ao2 L2.length c2] 25)).alloc (.cells #[.int .i64 (cd : Int), .int .i64 (ln : Int)] 28))
        obtain ⟨WR, hWR⟩ : ∃ W, (w3.alloc (.cells #[.slice ao2 L2.length c2] 25)).alloc (.cells #[.int .i64 (cd : Int), .int .i64 (ln : Int)] 28) = W := ⟨_, rfl⟩
        have r6 := R6.out
        have r7 := R7.out
        have r8 := R8.out
        have r9 := R9.out
        have hE := HE2.out
        have hBE := HB2.out
        rw [hWR] at r6 r7 r8 r9 hE hBE
        rw [← hg7, ← hg6] at r7
        rw [← hg6] at r6
        have HBE := hid hBE
        have hL12 : L1.map (·.1) = L2.map (·.1) := by rw [HL1.out, HL2.out]
        have hmr1 := ((HS1.out.readsP.below HC.out).below HD.out).below hE
        have hmr2 := HS2.out.readsP.below hE
        have hzl : (zs L1).length = (zs L2).length := by rw [zs_len, zs_len]; simpa using congrArg List.length hL12
        have HR := hid (And.intro hmr1 (And.intro hmr2 (And.intro (zs_few HL1.out).1 (And.intro hzl (And.intro (zs_same hL12) (zs_few HL1.out).2)))))
        rw [hWR]
        clear hL12 hmr1 hmr2 hzl hE hBE kc0 kc1 kf1 hz hWR
        refine wp_region_held_drew (S := fun w' => Below WR.heap.size WR w') (by kernel_rfl) ((Below.refl _ _).drew) (fun hH => ?_)
        refine wpAnyH_take (i := 0) (v := .agg #[.int .i64 (cd : Int), .int .i64 (ln : Int)]) rfl (by kernel_rfl) (by kernel_rfl) (by kernel_rfl) (fun _ _ _ h => h) (Or.inl ⟨by kernel_rfl, ?_⟩) hH ?_
        · intro W hS
          exact load_gives rfl _ rfl (r7.below hS) Tryd.underlying28 rfl infoFault
        simp only [Act.put, List.getElem_toArray, List.getElem_cons_succ, List.getElem_cons_zero, List.setIfInBounds_toArray, List.set_cons_zero, List.set_cons_succ]
        refine wpAnyH_take (i := 1) (v := .agg #[.int .i64 (cd : Int), .int .i64 (ln : Int)]) rfl (by kernel_rfl) (by kernel_rfl) (by kernel_rfl) (fun _ _ _ h => h) (Or.inl ⟨by kernel_rfl, ?_⟩) hH ?_
        · intro W hS
          exact load_gives rfl _ rfl (r9.below hS) Tryd.underlying28 rfl infoFault
        simp only [Act.put, List.getElem_toArray, List.getElem_cons_succ, List.getElem_cons_zero, List.setIfInBounds_toArray, List.set_cons_zero, List.set_cons_succ]
        refine wpAnyH_take (i := 2) (v := ?_) rfl (by kernel_rfl) (by kernel_rfl) (by kernel_rfl) (fun _ _ _ h => h) (Or.inl ⟨by kernel_rfl, ?_⟩) hH ?_
        rotate_left
        · intro W hS
          have eq := eqlFault (cd : Int) (ln : Int) W
          go_simp
          first | done | with_reducible rfl
        simp only [Act.put, List.getElem_toArray, List.getElem_cons_succ, List.getElem_cons_zero, List.setIfInBounds_toArray, List.set_cons_zero, List.set_cons_succ]
        refine wpAnyH_take (i := 3) (v := ?_) rfl (by kernel_rfl) (by kernel_rfl) (by kernel_rfl) (fun _ _ _ h => h) (Or.inl ⟨by kernel_rfl, ?_⟩) hH ?_
        rotate_left
        · intro W hS
          have eq := eqlFault (cd : Int) (ln : Int) W
          go_simp
          first | done | with_reducible rfl
        simp only [Act.put, List.getElem_toArray, List.getElem_cons_succ, List.getElem_cons_zero, List.setIfInBounds_toArray, List.set_cons_zero, List.set_cons_succ]
        refine wpAnyH_take (i := 4) (v := .agg #[(.slice ao1 L1.length c1)]) rfl (by kernel_rfl) (by kernel_rfl) (by kernel_rfl) (fun _ _ _ h => h) (Or.inl ⟨by kernel_rfl, ?_⟩) hH ?_
        · intro W hS
          exact load_gives rfl _ rfl (r6.below hS) Tryd.underlying25 rfl infoCfg
        simp only [Act.put, List.getElem_toArray, List.getElem_cons_succ, List.getElem_cons_zero, List.setIfInBounds_toArray, List.set_cons_zero, List.set_cons_succ]
        refine wpAnyH_take (i := 6) (v := .agg #[(.slice ao2 L2.length c2)]) rfl (by kernel_rfl) (by kernel_rfl) (by kernel_rfl) (fun _ _ _ h => h) (Or.inl ⟨by kernel_rfl, ?_⟩) hH ?_
        · intro W hS
          exact load_gives rfl _ rfl (r8.below hS) Tryd.underlying25 rfl infoCfg
        simp only [Act.put, List.getElem_toArray, List.getElem_cons_succ, List.getElem_cons_zero, List.setIfInBounds_toArray, List.set_cons_zero, List.set_cons_succ]
        refine wpAnyH_ready (rs := [5]) (by kernel_rfl) (by simp) ?_
        refine AllReadyH.cons rfl (fun K hK => ?_) AllReadyH.nil
        go_simp
        refine (madeConfig_any (.slice ao1 L1.length c1) (zs L1) _ (HR.out.1.below hH) HR.out.2.2.1).mono ?_
        rintro e w5 ⟨u1, rfl, hr5, hb5⟩
        have HR5 := hid hr5
        clear hr5
        refine hK.out _ _ (chainP hH hb5) (fun hH => ?_)
        clear hK K
        try simp only [Act.put, List.getElem_toArray, List.getElem_cons_succ, List.getElem_cons_zero, List.setIfInBounds_toArray, List.set_cons_zero, List.set_cons_succ]
        refine wpAnyH_ready (rs := [7]) (by kernel_rfl) (by simp) ?_
        refine AllReadyH.cons rfl (fun K hK => ?_) AllReadyH.nil
        go_simp
        refine (madeConfig_any (.slice ao2 L2.length c2) (zs L2) _ (HR.out.2.1.below hH) (by rw [← HR.out.2.2.2.1]; exact HR.out.2.2.1)).mono ?_
        rintro e w6 ⟨u2, rfl, hr6, hb6⟩
        have HR6 := hid hr6
        have HR5b := hid (HR5.out.below hb6)
        clear hr6
        refine hK.out _ _ (chainP hH hb6) (fun hH => ?_)
        clear hK K
        try simp only [Act.put, List.getElem_toArray, List.getElem_cons_succ, List.getElem_cons_zero, List.setIfInBounds_toArray, List.set_cons_zero, List.set_cons_succ]
        refine wpAnyH_ready (rs := [8]) (by kernel_rfl) (by simp) ?_
        refine AllReadyH.cons rfl (fun K hK => ?_) AllReadyH.nil
        go_simp
        refine (same_eq u1 u2 (zs L1) (zs L2) _ HR5b.out HR6.out HR.out.2.2.2.2.1 HR.out.2.2.1 HR.out.2.2.2.2.2).mono ?_
        rintro e w7 ⟨rfl, hb7⟩
        refine hK.out _ _ (chainP hH hb7) (fun hH => ?_)
        clear hK K
        try simp only [Act.put, List.getElem_toArray, List.getElem_cons_succ, List.getElem_cons_zero, List.setIfInBounds_toArray, List.set_cons_zero, List.set_cons_succ]
        refine wpAnyH_take (i := 9) (v := ?_) rfl (by kernel_rfl) (by kernel_rfl) (by kernel_rfl) (fun _ _ _ h => h) (Or.inl ⟨by kernel_rfl, ?_⟩) hH ?_
        rotate_left
        · intro W hS
          have eq := eqlFault (cd : Int) (ln : Int) W
          go_simp
          first | done | with_reducible rfl
        simp only [Act.put, List.getElem_toArray, List.getElem_cons_succ, List.getElem_cons_zero, List.setIfInBounds_toArray, List.set_cons_zero, List.set_cons_succ]
        refine wpAnyH_take (i := 10) (v := ?_) rfl (by kernel_rfl) (by kernel_rfl) (by kernel_rfl) (fun _ _ _ h => h) (Or.inl ⟨by kernel_rfl, ?_⟩) hH ?_
        rotate_left
        · intro W hS
          have eq := eqlFault (cd : Int) (ln : Int) W
          go_simp
          first | done | with_reducible rfl
        simp only [Act.put, List.getElem_toArray, List.getElem_cons_succ, List.getElem_cons_zero, List.setIfInBounds_toArray, List.set_cons_zero, List.set_cons_succ]
        refine wpAnyH_done (by kernel_rfl) ?_ _
        go_wp2_with fail
        go_ret
        exact ⟨rfl, HBE.out.trans (hH.mono HBE.out.size)⟩
      · have hne1 : L1 = [] := by
          have h1 := HL1.out
          rw [read_nil (by rw [HCD.out]; exact h0)] at h1
          exact List.map_eq_nil_iff.1 h1
        have hne2 : L2 = [] := by
          have h1 := HL2.out
          rw [read_nil (by rw [HCD.out]; exact h0)] at h1
          exact List.map_eq_nil_iff.1 h1
        have hz : ((cd : Int) == 0) = false := by simpa using h0
        have hl2 : ln2 = k + ln := by rw [← hln2, if_neg h0]
        have hw : IntKind.i64.wrap ((ln : Int) + (k : Int)) = (ln2 : Int) := by rw [hl2, IntWalk.i64_in _ (by omega)]; omega
        have q6 := R6.out.setCell_block (g' := g7) (by have := HG.out; omega) 1 (.int .i64 (ln2 : Int))
        have q7 := R7.out.setCell 1 (.int .i64 (ln2 : Int))
        have q8 := R8.out.setCell_block (g' := g7) (by have := HG.out; omega) 1 (.int .i64 (ln2 : Int))
        have q9 := R9.out.setCell_block (g' := g7) (by have := HG.out; omega) 1 (.int .i64 (ln2 : Int))
        have hBE : Below w.heap.size w (((w3.alloc (.cells #[.slice ao2 L2.length c2] 25)).alloc (.cells #[.int .i64 (cd : Int), .int .i64 (ln2 : Int)] 28)).setCell ⟨g7, 1, none⟩ (.int .i64 (ln2 : Int))) := HB2.out.setCell (by have := HG72.out; exact this) _
        have HQ := hid (And.intro q6 (And.intro q7 (And.intro q8 (And.intro q9 hBE))))
        have HE1 := hid hne1
        have HEE2 := hid hne2
        clear h0 hln2 hl2 q6 q7 q8 q9 hBE hne1 hne2
        go_wp2_with fail
        change Code.wp _ _ _ _ ((((w3.alloc (.cells #[.slice ao2 L2.length c2] 25)).alloc (.cells #[.int .i64 (cd : Int), .int .i64 (ln2 : Int)] 28))).setCell ⟨g7, 1, none⟩ (.int .i64 (ln2 : Int)))
        obtain ⟨r6, r7, r8, r9, hBE⟩ := HQ.out
        obtain ⟨WR, hWR⟩ : ∃ W, ((((w3.alloc (.cells #[.slice ao2 L2.length c2] 25)).alloc (.cells #[.int .i64 (cd : Int), .int .i64 (ln2 : Int)] 28))).setCell ⟨g7, 1, none⟩ (.int .i64 (ln2 : Int))) = W := ⟨_, rfl⟩
        rw [hWR] at r6 r7 r8 r9 hBE
        rw [← hg7, ← hg6] at r7
        rw [← hg6] at r6
        have HBE := hid hBE
        have HR := hid (show ReadsP WR (.slice ao1 L1.length c1) (zs L1) ∧ ReadsP WR (.slice ao2 L2.length c2) (zs L2) ∧ (zs L1).length ≤ 1000000 ∧ (zs L1).length = (zs L2).length ∧ (zs L1).map (·.1) = (zs L2).map (·.1) ∧ ∀ x ∈ zs L1, x.1.heads.length ≤ 1000000 from by
          rw [HE1.out, HEE2.out]
          exact ⟨readsP_empty _ _ _, readsP_empty _ _ _, by decide, rfl, rfl, fun x hx => absurd hx List.not_mem_nil⟩)
        rw [hWR]
        clear hBE kc0 kc1 kf1 hz hWR
        refine wp_region_held_drew (S := fun w' => Below WR.heap.size WR w') (by kernel_rfl) ((Below.refl _ _).drew) (fun hH => ?_)
        refine wpAnyH_take (i := 0) (v := .agg #[.int .i64 (cd : Int), .int .i64 (ln2 : Int)]) rfl (by kernel_rfl) (by kernel_rfl) (by kernel_rfl) (fun _ _ _ h => h) (Or.inl ⟨by kernel_rfl, ?_⟩) hH ?_
        · intro W hS
          exact load_gives rfl _ rfl (r7.below hS) Tryd.underlying28 rfl infoFault
        simp only [Act.put, List.getElem_toArray, List.getElem_cons_succ, List.getElem_cons_zero, List.setIfInBounds_toArray, List.set_cons_zero, List.set_cons_succ]
        refine wpAnyH_take (i := 1) (v := .agg #[.int .i64 (cd : Int), .int .i64 (ln2 : Int)]) rfl (by kernel_rfl) (by kernel_rfl) (by kernel_rfl) (fun _ _ _ h => h) (Or.inl ⟨by kernel_rfl, ?_⟩) hH ?_
        · intro W hS
          exact load_gives rfl _ rfl (r9.below hS) Tryd.underlying28 rfl infoFault
        simp only [Act.put, List.getElem_toArray, List.getElem_cons_succ, List.getElem_cons_zero, List.setIfInBounds_toArray, List.set_cons_zero, List.set_cons_succ]
        refine wpAnyH_take (i := 2) (v := ?_) rfl (by kernel_rfl) (by kernel_rfl) (by kernel_rfl) (fun _ _ _ h => h) (Or.inl ⟨by kernel_rfl, ?_⟩) hH ?_
        rotate_left
        · intro W hS
          have eq := eqlFault (cd : Int) (ln2 : Int) W
          go_simp
          first | done | with_reducible rfl
        simp only [Act.put, List.getElem_toArray, List.getElem_cons_succ, List.getElem_cons_zero, List.setIfInBounds_toArray, List.set_cons_zero, List.set_cons_succ]
        refine wpAnyH_take (i := 3) (v := ?_) rfl (by kernel_rfl) (by kernel_rfl) (by kernel_rfl) (fun _ _ _ h => h) (Or.inl ⟨by kernel_rfl, ?_⟩) hH ?_
        rotate_left
        · intro W hS
          have eq := eqlFault (cd : Int) (ln2 : Int) W
          go_simp
          first | done | with_reducible rfl
        simp only [Act.put, List.getElem_toArray, List.getElem_cons_succ, List.getElem_cons_zero, List.setIfInBounds_toArray, List.set_cons_zero, List.set_cons_succ]
        refine wpAnyH_take (i := 4) (v := .agg #[(.slice ao1 L1.length c1)]) rfl (by kernel_rfl) (by kernel_rfl) (by kernel_rfl) (fun _ _ _ h => h) (Or.inl ⟨by kernel_rfl, ?_⟩) hH ?_
        · intro W hS
          exact load_gives rfl _ rfl (r6.below hS) Tryd.underlying25 rfl infoCfg
        simp only [Act.put, List.getElem_toArray, List.getElem_cons_succ, List.getElem_cons_zero, List.setIfInBounds_toArray, List.set_cons_zero, List.set_cons_succ]
        refine wpAnyH_take (i := 6) (v := .agg #[(.slice ao2 L2.length c2)]) rfl (by kernel_rfl) (by kernel_rfl) (by kernel_rfl) (fun _ _ _ h => h) (Or.inl ⟨by kernel_rfl, ?_⟩) hH ?_
        · intro W hS
          exact load_gives rfl _ rfl (r8.below hS) Tryd.underlying25 rfl infoCfg
        simp only [Act.put, List.getElem_toArray, List.getElem_cons_succ, List.getElem_cons_zero, List.setIfInBounds_toArray, List.set_cons_zero, List.set_cons_succ]
        refine wpAnyH_ready (rs := [5]) (by kernel_rfl) (by simp) ?_
        refine AllReadyH.cons rfl (fun K hK => ?_) AllReadyH.nil
        go_simp
        refine (madeConfig_any (.slice ao1 L1.length c1) (zs L1) _ (HR.out.1.below hH) HR.out.2.2.1).mono ?_
        rintro e w5 ⟨u1, rfl, hr5, hb5⟩
        have HR5 := hid hr5
        clear hr5
        refine hK.out _ _ (chainP hH hb5) (fun hH => ?_)
        clear hK K
        try simp only [Act.put, List.getElem_toArray, List.getElem_cons_succ, List.getElem_cons_zero, List.setIfInBounds_toArray, List.set_cons_zero, List.set_cons_succ]
        refine wpAnyH_ready (rs := [7]) (by kernel_rfl) (by simp) ?_
        refine AllReadyH.cons rfl (fun K hK => ?_) AllReadyH.nil
        go_simp
        refine (madeConfig_any (.slice ao2 L2.length c2) (zs L2) _ (HR.out.2.1.below hH) (by rw [← HR.out.2.2.2.1]; exact HR.out.2.2.1)).mono ?_
        rintro e w6 ⟨u2, rfl, hr6, hb6⟩
        have HR6 := hid hr6
        have HR5b := hid (HR5.out.below hb6)
        clear hr6
        refine hK.out _ _ (chainP hH hb6) (fun hH => ?_)
        clear hK K
        try simp only [Act.put, List.getElem_toArray, List.getElem_cons_succ, List.getElem_cons_zero, List.setIfInBounds_toArray, List.set_cons_zero, List.set_cons_succ]
        refine wpAnyH_ready (rs := [8]) (by kernel_rfl) (by simp) ?_
        refine AllReadyH.cons rfl (fun K hK => ?_) AllReadyH.nil
        go_simp
        refine (same_eq u1 u2 (zs L1) (zs L2) _ HR5b.out HR6.out HR.out.2.2.2.2.1 HR.out.2.2.1 HR.out.2.2.2.2.2).mono ?_
        rintro e w7 ⟨rfl, hb7⟩
        refine hK.out _ _ (chainP hH hb7) (fun hH => ?_)
        clear hK K
        try simp only [Act.put, List.getElem_toArray, List.getElem_cons_succ, List.getElem_cons_zero, List.setIfInBounds_toArray, List.set_cons_zero, List.set_cons_succ]
        refine wpAnyH_take (i := 9) (v := ?_) rfl (by kernel_rfl) (by kernel_rfl) (by kernel_rfl) (fun _ _ _ h => h) (Or.inl ⟨by kernel_rfl, ?_⟩) hH ?_
        rotate_left
        · intro W hS
          have eq := eqlFault (cd : Int) (ln2 : Int) W
          go_simp
          first | done | with_reducible rfl
        simp only [Act.put, List.getElem_toArray, List.getElem_cons_succ, List.getElem_cons_zero, List.setIfInBounds_toArray, List.set_cons_zero, List.set_cons_succ]
        refine wpAnyH_take (i := 10) (v := ?_) rfl (by kernel_rfl) (by kernel_rfl) (by kernel_rfl) (fun _ _ _ h => h) (Or.inl ⟨by kernel_rfl, ?_⟩) hH ?_
        rotate_left
        · intro W hS
          have eq := eqlFault (cd : Int) (ln2 : Int) W
          go_simp
          first | done | with_reducible rfl
        simp only [Act.put, List.getElem_toArray, List.getElem_cons_succ, List.getElem_cons_zero, List.setIfInBounds_toArray, List.set_cons_zero, List.set_cons_succ]
        refine wpAnyH_done (by kernel_rfl) ?_ _
        go_wp2_with fail
        go_ret
        exact ⟨rfl, HBE.out.trans (hH.mono HBE.out.size)⟩
end Go.Proofs.YtbibgnflkgafiaaDoor
