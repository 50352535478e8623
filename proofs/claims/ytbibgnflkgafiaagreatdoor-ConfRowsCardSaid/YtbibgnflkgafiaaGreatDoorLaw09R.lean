/-
  The walk of the statement ConfRows.
-/
import Derived.Test.YtbibgnflkgafiaaGreatDoorFindB
import Derived.Test.YtbibgnflkgafiaaGreatDoorLaw09S
import Derived.Test.YtbibgnflkgafiaaGreatDoorPureRows
namespace Go.Proofs.YtbibgnflkgafiaaGreatDoor
open Go.RowKit Go.Pantry

/-- two fresh boxes: a config and a fault -/
structure Boxed (w W : World) (v : Value) (cd ln : Int) : Prop where
  b : Below w.heap.size w W
  r1 : rowIs W w.heap.size #[v] 25
  r2 : rowIs W (w.heap.size + 1) #[.int .i64 cd, .int .i64 ln] 28
theorem boxed (w : World) (v : Value) (cd ln : Int) : Boxed w ((w.alloc (.cells #[v] 25)).alloc (.cells #[.int .i64 cd, .int .i64 ln] 28)) v cd ln :=
  ⟨chainP (below_alloc _ _) (below_alloc _ _), (rowIs_new _ _ _).below (below_alloc _ _), rowIs_new_at _ _ _ _ (by simp)⟩
set_option maxRecDepth 100000 in
set_option maxHeartbeats 8000000 in
theorem confRows_walk (a b : ByteArray) (w : World) (hm : MaxOk w) (ht : Tab10 w) (hsa : a.size ≤ maxLen) (hsb : b.size ≤ maxLen) :
    Calls Tryz.prog 7 #[.string a, .string b] w fun e w' => e = .returned (.bool true) ∧ Below w.heap.size w w' := by
  have HA := hid (anchor_any w hm ht)
  have HM := hid hm
  have HT := hid ht
  clear hm ht hsa hsb
  by_cases g1 : (1500 : Int) < (a.size : Int)
  · have d1 : decide ((1500 : Int) < (a.size : Int)) = true := decide_eq_true g1
    go_enter Tryz.func7, Tryz.ntmps7
    go_wp2_with (go_at_call 8; refine HA.out.mono ?_; rintro e w1 ⟨rfl, hb1⟩)
    go_ret
    exact ⟨rfl, hb1⟩
  have d1 : decide ((1500 : Int) < (a.size : Int)) = false := decide_eq_false g1
  by_cases g2 : (1500 : Int) < (b.size : Int)
  · have d2 : decide ((1500 : Int) < (b.size : Int)) = true := decide_eq_true g2
    go_enter Tryz.func7, Tryz.ntmps7
    go_wp2_with (go_at_call 8; refine HA.out.mono ?_; rintro e w1 ⟨rfl, hb1⟩)
    go_ret
    exact ⟨rfl, hb1⟩
  obtain ⟨T, hT⟩ : ∃ T, a.data.toList = T := ⟨_, rfl⟩
  obtain ⟨U, hU⟩ : ∃ U, b.data.toList = U := ⟨_, rfl⟩
  have hTl : T.length ≤ 1500 := by rw [← hT, size_list]; omega
  have hUl : U.length ≤ 1500 := by rw [← hU, size_list]; omega
  have hsT : (.string a : Value) = strV T := by rw [← hT]
  have hsU : (.string b : Value) = strV U := by rw [← hU]
  rw [hsT, hsU]
  clear g1 d1 g2 hT hU hsT hsU
  have d1 : decide ((1500 : Int) < (T.length : Int)) = false := decide_eq_false (by omega)
  have d2 : decide ((1500 : Int) < (U.length : Int)) = false := decide_eq_false (by omega)
  have hadd1 := fun W => run_string_add_lists (P := Tryz.prog) W T [10] (by omega) (by decide)
  have hadd2 := fun W => run_string_add_lists (P := Tryz.prog) W (T ++ [10]) U (by simp; omega) (by omega)
  have hrr := read_rows (a := T) (b := U) (by omega) (by omega)
  rw [show T ++ 10 :: U = (T ++ [10]) ++ U by simp] at hrr
  obtain ⟨X, hX⟩ : ∃ X, T ++ [10] = X := ⟨_, rfl⟩
  rw [hX] at hadd1 hadd2 hrr
  obtain ⟨Y, hY⟩ : ∃ Y, X ++ U = Y := ⟨_, rfl⟩
  rw [hY] at hadd2 hrr
  clear hX hY
  have HRR := hid hrr
  clear hrr
  go_enter Tryz.func7, Tryz.ntmps7
  go_wp2_with (go_at_call 8; refine HA.out.mono ?_; rintro e w1 ⟨rfl, hb1⟩)
  have HB1 := hid hb1
  clear hb1 d1 d2
  refine (readQ_any X w1 (HM.out.below HB1.out) (HT.out.below HB1.out)).mono ?_
  rintro e w2 ⟨ao1, c1, L1, rfl, hL1, hs1, hb2⟩
  obtain ⟨cd1, hcd1⟩ : ∃ c : Int, ((readM X).2.1 : Int) = c := ⟨_, rfl⟩
  obtain ⟨ln1, hln1⟩ : ∃ l : Int, ((readM X).2.2 : Int) = l := ⟨_, rfl⟩
  obtain ⟨n1, hn1⟩ : ∃ n, L1.length = n := ⟨_, rfl⟩
  have hf1 := zs_few hL1
  have hq1 := hs1.readsP
  have hk1 := hs1
  rw [hn1] at hq1 hk1
  have CP1 := hid (sites_cap hk1)
  clear hk1
  rw [hcd1, hln1, hn1]
  have HQ1 := hid (And.intro hcd1 (And.intro hL1 (And.intro hn1 (And.intro hf1 (And.intro hq1 (chainP HB1.out hb2))))))
  clear hcd1 hln1 hL1 hn1 hf1 hq1 hb2 hs1
  go_wp2_with fail
  have hx1 := boxed w2 (.slice ao1 n1 c1) cd1 ln1
  change Calls _ _ _ ((w2.alloc (.cells #[.slice ao1 n1 c1] 25)).alloc (.cells #[.int .i64 cd1, .int .i64 ln1] 28)) _
  obtain ⟨W1, hW1⟩ : ∃ W, (w2.alloc (.cells #[.slice ao1 n1 c1] 25)).alloc (.cells #[.int .i64 cd1, .int .i64 ln1] 28) = W := ⟨_, rfl⟩
  rw [hW1] at hx1 ⊢
  have HX1 := hid hx1
  have HBW1 := hid (chainP HQ1.out.2.2.2.2.2 hx1.b)
  clear hx1 hW1
  refine (readQ_any U W1 (HM.out.below HBW1.out) (HT.out.below HBW1.out)).mono ?_
  rintro e w3 ⟨ao2, c2, L2, rfl, hL2, hs2, hb3⟩
  obtain ⟨cd2, hcd2⟩ : ∃ c : Int, ((readM U).2.1 : Int) = c := ⟨_, rfl⟩
  obtain ⟨ln2, hln2⟩ : ∃ l : Int, ((readM U).2.2 : Int) = l := ⟨_, rfl⟩
  obtain ⟨n2, hn2⟩ : ∃ n, L2.length = n := ⟨_, rfl⟩
  have hf2 := zs_few hL2
  have hq2 := hs2.readsP
  have hk2 := hs2
  rw [hn2] at hq2 hk2
  have CP2 := hid (sites_cap hk2)
  clear hk2
  rw [hcd2, hln2, hn2]
  have hn1l : n1 ≤ 1000000 := by have := HQ1.out.2.2.2.1.1; rw [zs_len, HQ1.out.2.2.1] at this; exact this
  have hn2l : n2 ≤ 1000000 := by have := hf2.1; rw [zs_len, hn2] at this; exact this
  have HQ2 := hid (And.intro hcd2 (And.intro hL2 (And.intro hn2 (And.intro hf2 hq2))))
  have HB3 := hid hb3
  clear hcd2 hln2 hL2 hn2 hf2 hq2 hb3 hs2
  have hx2 := boxed w3 (.slice ao2 n2 c2) cd2 ln2
  obtain ⟨W2, hW2⟩ : ∃ W, (w3.alloc (.cells #[.slice ao2 n2 c2] 25)).alloc (.cells #[.int .i64 cd2, .int .i64 ln2] 28) = W := ⟨_, rfl⟩
  rw [hW2] at hx2
  have HX2 := hid hx2
  have r5 : rowIs W2 w2.heap.size #[.slice ao1 n1 c1] 25 := (HX1.out.r1.below HB3.out).below hx2.b
  have r6 : rowIs W2 (w2.heap.size + 1) #[.int .i64 cd1, .int .i64 ln1] 28 := (HX1.out.r2.below HB3.out).below hx2.b
  have p5 := r5.cell 0
  have p6 := r6.cell 0
  have p7 := hx2.r1.cell 0
  have p8 := hx2.r2.cell 0
  have HW := hid (And.intro (chainP (chainP HBW1.out HB3.out) hx2.b) (And.intro r5 (And.intro r6 (And.intro hx2.r1 hx2.r2))))
  clear hx2 r5 r6
  rw [← hW2] at p5 p6 p7 p8
  have HW2 := hid hW2
  clear hW2
  by_cases h1 : cd1 = 0
  case neg =>
    have z1 : (cd1 == 0) = false := by simpa using h1
    go_wp2_with fail
    go_ret
    exact ⟨rfl, HW2.out ▸ HW.out.1⟩
  subst h1
  by_cases h2 : cd2 = 0
  case neg =>
    have z2 : (cd2 == 0) = false := by simpa using h2
    go_wp2_with fail
    go_ret
    exact ⟨rfl, HW2.out ▸ HW.out.1⟩
  subst h2
  have hww : IntKind.i64.wrap ((n1 : Int) + (n2 : Int)) = (n1 : Int) + (n2 : Int) := IntWalk.i64_in _ (by omega)
  by_cases h8 : (8 : Int) < (n1 : Int) + (n2 : Int)
  · have z8 : decide ((8 : Int) < (n1 : Int) + (n2 : Int)) = true := decide_eq_true h8
    go_wp2_with fail
    go_ret
    exact ⟨rfl, HW2.out ▸ HW.out.1⟩
  have z8 : decide ((8 : Int) < (n1 : Int) + (n2 : Int)) = false := decide_eq_false h8
  have hle1 : (readM X).1.length = n1 := by have := congrArg List.length HQ1.out.2.1; rw [List.length_map, HQ1.out.2.2.1] at this; exact this.symm
  have hle2 : (readM U).1.length = n2 := by have := congrArg List.length HQ2.out.2.1; rw [List.length_map, HQ2.out.2.2.1] at this; exact this.symm
  have HRF := hid (HRR.out (by have := HQ1.out.1; omega) (by have := HQ2.out.1; omega) (by rw [hle1, hle2]; omega))
  clear HRR hle1 hle2
  go_wp2_with fail
  clear p5 p6 p7 p8 z8 h8 hww
  rw [HW2.out]
  go_loopw [60] (fun z wr => ∃ (k : Nat), z = .int .i64 (k : Int) ∧ k ≤ n1 ∧ Below W2.heap.size W2 wr ∧ ∀ x ∈ L1.take k, ∀ y ∈ L2, y.1.host ≠ x.1.host) (fun z _ => n1 - (intOf z).toNat)
  case atStart => exact ⟨0, rfl, Nat.zero_le _, Below.refl _ _, fun x hx => by simp at hx⟩
  case round =>
    obtain ⟨k, rfl, hk, hb, hf⟩ := hrel
    have HB := hid (And.intro hb hf)
    have r7 := HW.out.2.2.2.1.below hb
    by_cases hlt : k < n1
    · obtain ⟨⟨s, hv⟩, hx⟩ : ∃ x, L1[k]? = some x := by
        have := HQ1.out.2.2.1
        exact ⟨L1[k]'(by omega), List.getElem?_eq_getElem (by omega)⟩
      have hxz : (zs L1)[k]? = some (s.z, hv) := by unfold zs; rw [List.getElem?_map, hx]; rfl
      have hrp := (((HQ1.out.2.2.2.2.1.below HX1.out.b).below HB3.out).below HX2.out.b).below hb
      obtain ⟨ah, ch, hfv⟩ := (hrp.heads _ (List.mem_of_getElem? hxz)).form
      simp only at hfv
      obtain ⟨nh, hnh⟩ : ∃ nh, (s.z.heads.map strV).length = nh := ⟨_, rfl⟩
      rw [hnh] at hfv
      subst hfv
      obtain ⟨b1, o1, g1, i1⟩ := hrp.at_ hxz
      subst g1
      have hkI : (k : Int) < (n1 : Int) := by omega
      have hk0 : (0 : Int) ≤ (k : Int) := by omega
      have hkw : IntKind.i64.wrap ((k : Int) + 1) = (k : Int) + 1 := IntWalk.i64_in _ (by omega)
      obtain ⟨p1, hp1⟩ : ∃ p, o1 + k * 7 = p := ⟨_, rfl⟩
      rw [hp1] at i1
      have y0 := i1 0 _ rfl
      have y1 := i1 1 _ rfl
      have y2 := i1 2 _ rfl
      have y3 := i1 3 _ rfl
      have y4 := i1 4 _ rfl
      have y5 := i1 5 _ rfl
      have y6 := i1 6 _ rfl
      rw [Nat.add_zero] at y0
      have q7 : (wr.alloc (.cells (rowZ (.slice ah nh ch) s.z) 42)).cell? ⟨w3.heap.size, 0, none⟩ = some (.slice ao2 n2 c2) := (r7.below (below_alloc _ _)).cell 0
      have hrq := ((HQ2.out.2.2.2.2.below HX2.out.b).below hb).below (below_alloc wr (.cells (rowZ (.slice ah nh ch) s.z) 42))
      have HX := hid (And.intro hx hrq)
      clear hrp hx hxz i1 hb hf hnh r7 hrq
      go_wp2_with fail
      change Calls _ _ #[.agg #[.slice ao2 n2 c2], strV s.z.host] (wr.alloc (.cells (rowZ (.slice ah nh ch) s.z) 42)) _
      refine (find_any (.slice ao2 n2 c2) (zs L2) s.z.host _ HX.out.2 HQ2.out.2.2.2.1.1 HQ2.out.2.2.2.1.2).mono ?_
      rintro e w5 ⟨hpost, hb5⟩
      have HB5 := hid (chainP (below_alloc wr (.cells (rowZ (.slice ah nh ch) s.z) 42)) hb5)
      clear hb5 y0 y1 y2 y3 y4 y5 y6 q7
      cases hfd : (zs L2).find? (fun x => x.1.host == s.z.host) with
      | none =>
        rw [hfd] at hpost
        simp only at hpost
        subst hpost
        have HFD := hid hfd
        clear hfd
        go_wp2_with fail
        go_roundw
        case rel =>
          refine ⟨k + 1, by go_num, hlt, chainP (chainP HB.out.1 HB5.out) (below_alloc _ _), ?_⟩
          intro x hx y hy
          rw [List.take_add_one, HX.out.1] at hx
          rcases List.mem_append.1 hx with hx | hx
          · exact HB.out.2 x hx y hy
          · obtain rfl : x = (s, .slice ah nh ch) := by simpa using hx
            intro e
            have := List.find?_eq_none.1 HFD.out (y.1.z, y.2) (List.mem_map.2 ⟨y, hy, rfl⟩)
            exact this (by simpa [SiteM.z] using e)
        case measure => simp [intOf]; omega
      | some y =>
        rw [hfd] at hpost
        obtain ⟨hv9, rfl, hr9⟩ := hpost
        obtain ⟨a9, c9, e9⟩ := hr9.form
        obtain ⟨n9, hn9⟩ : ∃ n9, (y.1.heads.map strV).length = n9 := ⟨_, rfl⟩
        rw [hn9] at e9
        subst e9
        have hc31 : (readM Y).2.1 = 31 := by
          refine HRF.out.2 ⟨s, ?_, ?_⟩
          · rw [← HQ1.out.2.1]; exact List.mem_map.2 ⟨_, List.mem_of_getElem? HX.out.1, rfl⟩
          · have hy := List.mem_of_find?_eq_some hfd
            have hh := List.find?_some hfd
            obtain ⟨y0, hy0, rfl⟩ := List.mem_map.1 hy
            refine ⟨y0.1, ?_, by simpa [SiteM.z] using hh⟩
            rw [← HQ2.out.2.1]; exact List.mem_map.2 ⟨_, hy0, rfl⟩
        have HC31 := hid hc31
        clear hc31 hfd hr9 hn9
        go_wp2_with fail
        have HB6 := hid (chainP (chainP HW.out.1 (chainP HB.out.1 HB5.out)) (below_alloc w5 (.cells (rowZ (.slice a9 n9 c9) y.1) 42)))
        change Calls _ _ #[strV Y] (w5.alloc (.cells (rowZ (.slice a9 n9 c9) y.1) 42)) _
        refine (readQ_any Y _ (HM.out.below HB6.out) (HT.out.below HB6.out)).mono ?_
        rintro e w6 ⟨ao3, c3, L3, rfl, hL3, hs3, hb6⟩
        rw [HC31.out]
        obtain ⟨ln3, hln3⟩ : ∃ l : Int, ((readM Y).2.2 : Int) = l := ⟨_, rfl⟩
        obtain ⟨n3, hn3⟩ : ∃ n, L3.length = n := ⟨_, rfl⟩
        rw [hln3, hn3]
        have HB7 := hid (chainP HB6.out hb6)
        clear hL3 hs3 hb6 hln3 hn3
        go_wp2_with fail
        go_ret
        exact ⟨rfl, chainP (chainP HB7.out (below_alloc _ _)) (below_alloc _ _)⟩
    · have hkn : n1 = k := by omega
      subst hkn
      have hnone : readM Y = ((readM X).1 ++ (readM U).1, 0, 0) := by
        refine HRF.out.1 (fun x hx y hy => ?_)
        rw [← HQ1.out.2.1] at hx
        rw [← HQ2.out.2.1] at hy
        obtain ⟨x0, hx0, rfl⟩ := List.mem_map.1 hx
        obtain ⟨y0, hy0, rfl⟩ := List.mem_map.1 hy
        refine hf x0 ?_ y0 hy0
        rw [List.take_of_length_le (by have := HQ1.out.2.2.1; omega)]; exact hx0
      have HN := hid hnone
      clear hnone hf hb r7
      go_wp2_with fail
      have HBY := hid (chainP HW.out.1 HB.out.1)
      change Calls _ _ #[strV Y] wr _
      refine (readQ_any Y _ (HM.out.below HBY.out) (HT.out.below HBY.out)).mono ?_
      rintro e w6 ⟨ao3, c3, L3, rfl, hL3, hs3, hb6⟩
      have HF3 := hid (zs_few hL3)
      rw [HN.out] at hL3 ⊢
      have hLL : L3.map (·.1) = (L1 ++ L2).map (·.1) := by rw [hL3, List.map_append, HQ1.out.2.1, HQ2.out.2.1]
      obtain ⟨n3, hn3⟩ : ∃ n, L3.length = n := ⟨_, rfl⟩
      have hq3 := hs3.readsP
      rw [hn3] at hq3 ⊢
      have HQ3 := hid (And.intro hLL (And.intro hn3 hq3))
      have HB6 := hid hb6
      clear hL3 hs3 hLL hn3 hq3 hb6
      have hx3 := boxed w6 (.slice ao3 n3 c3) 0 0
      go_wp2_with (refine wp_region_held_drew (S := fun w' => Below ((w6.alloc (.cells #[.slice ao3 n3 c3] 25)).alloc (.cells #[.int .i64 0, .int .i64 0] 28)).heap.size ((w6.alloc (.cells #[.slice ao3 n3 c3] 25)).alloc (.cells #[.int .i64 0, .int .i64 0] 28)) w') (by kernel_rfl) ((Below.refl _ _).drew) (fun hH => ?_))
      obtain ⟨W3, hW3⟩ : ∃ W, (w6.alloc (.cells #[.slice ao3 n3 c3] 25)).alloc (.cells #[.int .i64 0, .int .i64 0] 28) = W := ⟨_, rfl⟩
      rw [hW3] at hH hx3 ⊢
      clear hW3
      have HX3 := hid hx3
      have hb63 := chainP (chainP HB.out.1 HB6.out) hx3.b
      have r5 := HW.out.2.1.below hb63
      have r7 := HW.out.2.2.2.1.below hb63
      have RP1 := hid ((((HQ1.out.2.2.2.2.1.below HX1.out.b).below HB3.out).below HX2.out.b).below hb63)
      have RP2 := hid ((HQ2.out.2.2.2.2.below HX2.out.b).below hb63)
      have LN1 : Hid ((rowsZ (zs L1)).length = n1 * 7) := by show _ = _; rw [rowsZ_len, zs_len, HQ1.out.2.2.1]; omega
      have LN2 : Hid ((rowsZ (zs L2)).length = n2 * 7) := by show _ = _; rw [rowsZ_len, zs_len, HQ2.out.2.2.1]; omega
      have HH12 : Hid (∀ x ∈ [] ++ zs L1 ++ zs L2, Reads W3 x.2 (x.1.heads.map strV)) := fun x hx => by
        rw [List.nil_append] at hx
        rcases List.mem_append.1 hx with e | e
        · exact RP1.out.heads x e
        · exact RP2.out.heads x e
      have HBW3 := hid (chainP HW.out.1 hb63)
      have RP3 := hid (HQ3.out.2.2.below hx3.b)
      have HE12 : Hid ((zs L3).map (·.1) = ([] ++ zs L1 ++ zs L2 : List (SiteZ × Value)).map (·.1)) := by
        show _ = _
        rw [List.nil_append, zs_same HQ3.out.1]
        unfold zs
        rw [List.map_append]
      have HLE : Hid (([] ++ zs L1 ++ zs L2 : List (SiteZ × Value)).length ≤ 1000000) := by
        have := congrArg List.length HE12.out
        rw [List.length_map, List.length_map] at this
        show _ ≤ _
        rw [← this]; exact HF3.out.1
      clear hb63 hx3
      obtain ⟨V0, hV0⟩ : ∃ V, W3.drew = V := ⟨_, rfl⟩
      rw [hV0] at hH ⊢
      clear hV0
      have ST0 := hid (Gath.start hH)
      refine wpAnyH_take (i := 1) (v := ?_) rfl (by kernel_rfl) (by kernel_rfl) (by kernel_rfl) (fun _ _ _ h => h) (Or.inl ⟨by kernel_rfl, ?_⟩) hH ?_
      rotate_left
      · intro W hS
        go_simp
        first | done | with_reducible rfl
      simp only [Act.put, List.getElem_toArray, List.getElem_cons_succ, List.getElem_cons_zero, List.setIfInBounds_toArray, List.set_cons_zero, List.set_cons_succ]
      refine wpAnyH_take (i := 2) (v := ?_) rfl (by kernel_rfl) (by kernel_rfl) (by kernel_rfl) (fun _ _ _ h => h) (Or.inl ⟨by kernel_rfl, ?_⟩) hH ?_
      rotate_left
      · intro W hS
        have k1 := (r5.below hS).cell 0
        go_simp
        first | done | with_reducible rfl
      simp only [Act.put, List.getElem_toArray, List.getElem_cons_succ, List.getElem_cons_zero, List.setIfInBounds_toArray, List.set_cons_zero, List.set_cons_succ]
      refine wpAnyH_take (i := 4) (v := ?_) rfl (by kernel_rfl) (by kernel_rfl) (by kernel_rfl) (fun _ _ _ h => h) (Or.inl ⟨by kernel_rfl, ?_⟩) hH ?_
      rotate_left
      · intro W hS
        go_simp
        first | done | with_reducible rfl
      simp only [Act.put, List.getElem_toArray, List.getElem_cons_succ, List.getElem_cons_zero, List.setIfInBounds_toArray, List.set_cons_zero, List.set_cons_succ]
      refine wpAnyH_take (i := 5) (v := ?_) rfl (by kernel_rfl) (by kernel_rfl) (by kernel_rfl) (fun _ _ _ h => h) (Or.inl ⟨by kernel_rfl, ?_⟩) hH ?_
      rotate_left
      · intro W hS
        have k1 := (r7.below hS).cell 0
        go_simp
        first | done | with_reducible rfl
      simp only [Act.put, List.getElem_toArray, List.getElem_cons_succ, List.getElem_cons_zero, List.setIfInBounds_toArray, List.set_cons_zero, List.set_cons_succ]
      refine wpAnyH_ready (rs := [0, 8]) (by kernel_rfl) (by simp) ?_
      refine AllReadyH.cons rfl (fun K hK => ?_) (AllReadyH.cons rfl (fun K hK => ?_) AllReadyH.nil)
      · skip
        have ST1 := hid (ST0.out.build)
        go_simp
        refine hK.out _ _ ST1.out.b (fun hH => ?_)
        clear hK K
        try simp only [Act.put, List.getElem_toArray, List.getElem_cons_succ, List.getElem_cons_zero, List.setIfInBounds_toArray, List.set_cons_zero, List.set_cons_succ]
        obtain ⟨V1, hW1⟩ : ∃ W, V0.alloc (.cells #[] 42) = W := ⟨_, rfl⟩
        rw [hW1] at hH ST1 ⊢
        clear hW1
        refine wpAnyH_ready (rs := [3, 8]) (by kernel_rfl) (by simp) ?_
        refine AllReadyH.cons rfl (fun K hK => ?_) (AllReadyH.cons rfl (fun K hK => ?_) AllReadyH.nil)
        · skip
          rw [if_pos (by kernel_rfl)]
          refine wp_append_any V1 (.tmp 92) (.tmp 94) 23 rfl W3.heap.size 42 Tryz.underlying23 infoSiteA rfl (by decide) (by decide) rfl ST1.out.own ao1 n1 c1 (rowsZ (zs L1)) LN1.out CP1.out (fun j u hj => (RP1.out.below hH).cells j u hj) RP1.out.one rfl (by omega) ST1.out.b.size (fun v2 V2 ho2 hg2 hi2 => ?_)
          have ST2 := hid (ST1.out.more ho2 hg2 hi2)
          obtain ⟨xa2, xn2, xc2, rfl⟩ : ∃ ao n c, v2 = .slice ao n c := by
            obtain ⟨ao, c, e⟩ := ownsRow_formN ho2
            exact ⟨ao, _, c, e⟩
          clear ho2 hg2 hi2
          refine hK.out _ _ ST2.out.b (fun hH => ?_)
          clear hK K
          try simp only [Act.put, List.getElem_toArray, List.getElem_cons_succ, List.getElem_cons_zero, List.setIfInBounds_toArray, List.set_cons_zero, List.set_cons_succ]
          refine wpAnyH_ready (rs := [6, 8]) (by kernel_rfl) (by simp) ?_
          refine AllReadyH.cons rfl (fun K hK => ?_) (AllReadyH.cons rfl (fun K hK => ?_) AllReadyH.nil)
          · skip
            rw [if_pos (by kernel_rfl)]
            refine wp_append_any V2 (.tmp 95) (.tmp 97) 23 rfl W3.heap.size 42 Tryz.underlying23 infoSiteA rfl (by decide) (by decide) rfl ST2.out.own ao2 n2 c2 (rowsZ (zs L2)) LN2.out CP2.out (fun j u hj => (RP2.out.below hH).cells j u hj) RP2.out.one rfl (by omega) ST2.out.b.size (fun v3 V3 ho3 hg3 hi3 => ?_)
            have ST3 := hid (ST2.out.more ho3 hg3 hi3)
            obtain ⟨xa3, xn3, xc3, rfl⟩ : ∃ ao n c, v3 = .slice ao n c := by
              obtain ⟨ao, c, e⟩ := ownsRow_formN ho3
              exact ⟨ao, _, c, e⟩
            clear ho3 hg3 hi3
            refine hK.out _ _ ST3.out.b (fun hH => ?_)
            clear hK K
            try simp only [Act.put, List.getElem_toArray, List.getElem_cons_succ, List.getElem_cons_zero, List.setIfInBounds_toArray, List.set_cons_zero, List.set_cons_succ]
            refine wpAnyH_take (i := 7) (v := ?_) rfl (by kernel_rfl) (by kernel_rfl) (by kernel_rfl) (fun _ _ _ h => h) (Or.inl ⟨by kernel_rfl, ?_⟩) hH ?_
            rotate_left
            · intro W hS
              go_simp
              first | done | with_reducible rfl
            simp only [Act.put, List.getElem_toArray, List.getElem_cons_succ, List.getElem_cons_zero, List.setIfInBounds_toArray, List.set_cons_zero, List.set_cons_succ]
            refine wpAnyH_ready (rs := [8]) (by kernel_rfl) (by simp) ?_
            refine AllReadyH.cons rfl (fun K hK => ?_) AllReadyH.nil
            have ST4 := hid (ST3.out.box)
            go_simp
            refine hK.out _ _ ST4.out.b (fun hH => ?_)
            clear hK K
            try simp only [Act.put, List.getElem_toArray, List.getElem_cons_succ, List.getElem_cons_zero, List.setIfInBounds_toArray, List.set_cons_zero, List.set_cons_succ]
            obtain ⟨V4, hW4⟩ : ∃ W, V3.alloc (.cells #[.slice none 0 0] 25) = W := ⟨_, rfl⟩
            rw [hW4] at hH ST4 ⊢
            clear hW4
            refine wpAnyH_ready (rs := [9]) (by kernel_rfl) (by simp) ?_
            refine AllReadyH.cons rfl (fun K hK => ?_) AllReadyH.nil
            have hd := ST4.out.done HH12.out
            have z0 := (ST4.out.row _ rfl).1.cell 0
            have f0 := (ST4.out.row _ rfl).1.free 0
            have HD := hid hd
            clear hd
            go_simp
            refine hK.out _ _ HD.out.1 (fun hH => ?_)
            clear hK K
            try simp only [Act.put, List.getElem_toArray, List.getElem_cons_succ, List.getElem_cons_zero, List.setIfInBounds_toArray, List.set_cons_zero, List.set_cons_succ]
            clear z0 f0
            refine wpAnyH_done (by kernel_rfl) ?_ _
            go_wp2_with fail
            change Code.wp _ _ _ _ (V4.setCell ⟨V3.heap.size, 0, none⟩ (.slice xa3 xn3 xc3))
            obtain ⟨WE, hWE⟩ : ∃ W, V4.setCell ⟨V3.heap.size, 0, none⟩ (.slice xa3 xn3 xc3) = W := ⟨_, rfl⟩
            rw [hWE] at HD ⊢
            clear hWE hH
            have r15 := HX3.out.r1.below HD.out.1
            have r16 := HX3.out.r2.below HD.out.1
            have r17 := HD.out.2.1
            have HBE := hid (chainP HBW3.out HD.out.1)
            refine wp_region_held_drew (S := fun w' => Below WE.heap.size WE w') (by kernel_rfl) ((Below.refl _ _).drew) (fun hH => ?_)
            refine wpAnyH_take (i := 0) (v := .agg #[.int .i64 0, .int .i64 0]) rfl (by kernel_rfl) (by kernel_rfl) (by kernel_rfl) (fun _ _ _ h => h) (Or.inl ⟨by kernel_rfl, ?_⟩) hH ?_
            · intro W hS
              exact load_gives rfl _ rfl (r16.below hS) Tryz.underlying28 rfl infoFault
            simp only [Act.put, List.getElem_toArray, List.getElem_cons_succ, List.getElem_cons_zero, List.setIfInBounds_toArray, List.set_cons_zero, List.set_cons_succ]
            refine wpAnyH_take (i := 1) (v := ?_) rfl (by kernel_rfl) (by kernel_rfl) (by kernel_rfl) (fun _ _ _ h => h) (Or.inl ⟨by kernel_rfl, ?_⟩) hH ?_
            rotate_left
            · intro W hS
              have eq := eqlFault 0 0 W
              go_simp
              first | done | with_reducible rfl
            simp only [Act.put, List.getElem_toArray, List.getElem_cons_succ, List.getElem_cons_zero, List.setIfInBounds_toArray, List.set_cons_zero, List.set_cons_succ]
            refine wpAnyH_take (i := 2) (v := ?_) rfl (by kernel_rfl) (by kernel_rfl) (by kernel_rfl) (fun _ _ _ h => h) (Or.inl ⟨by kernel_rfl, ?_⟩) hH ?_
            rotate_left
            · intro W hS
              have eq := eqlFault 0 0 W
              go_simp
              first | done | with_reducible rfl
            simp only [Act.put, List.getElem_toArray, List.getElem_cons_succ, List.getElem_cons_zero, List.setIfInBounds_toArray, List.set_cons_zero, List.set_cons_succ]
            refine wpAnyH_take (i := 3) (v := ?_) rfl (by kernel_rfl) (by kernel_rfl) (by kernel_rfl) (fun _ _ _ h => h) (Or.inl ⟨by kernel_rfl, ?_⟩) hH ?_
            rotate_left
            · intro W hS
              have eq := eqlFault 0 0 W
              go_simp
              first | done | with_reducible rfl
            simp only [Act.put, List.getElem_toArray, List.getElem_cons_succ, List.getElem_cons_zero, List.setIfInBounds_toArray, List.set_cons_zero, List.set_cons_succ]
            refine wpAnyH_take (i := 4) (v := .agg #[.slice ao3 n3 c3]) rfl (by kernel_rfl) (by kernel_rfl) (by kernel_rfl) (fun _ _ _ h => h) (Or.inl ⟨by kernel_rfl, ?_⟩) hH ?_
            · intro W hS
              exact load_gives rfl _ rfl (r15.below hS) Tryz.underlying25 rfl infoCfg
            simp only [Act.put, List.getElem_toArray, List.getElem_cons_succ, List.getElem_cons_zero, List.setIfInBounds_toArray, List.set_cons_zero, List.set_cons_succ]
            refine wpAnyH_take (i := 6) (v := .agg #[.slice xa3 xn3 xc3]) rfl (by kernel_rfl) (by kernel_rfl) (by kernel_rfl) (fun _ _ _ h => h) (Or.inl ⟨by kernel_rfl, ?_⟩) hH ?_
            · intro W hS
              exact load_gives rfl _ rfl (r17.below hS) Tryz.underlying25 rfl infoCfg
            simp only [Act.put, List.getElem_toArray, List.getElem_cons_succ, List.getElem_cons_zero, List.setIfInBounds_toArray, List.set_cons_zero, List.set_cons_succ]
            refine wpAnyH_ready (rs := [5]) (by kernel_rfl) (by simp) ?_
            refine AllReadyH.cons rfl (fun K hK => ?_) AllReadyH.nil
            go_simp
            refine (madeConfig_any (.slice ao3 n3 c3) (zs L3) _ ((RP3.out.below HD.out.1).below hH) HF3.out.1).mono ?_
            rintro e y5 ⟨u1, rfl, hr5, hb5⟩
            have HR5 := hid hr5
            clear hr5
            refine hK.out _ _ (chainP hH hb5) (fun hH => ?_)
            clear hK K
            try simp only [Act.put, List.getElem_toArray, List.getElem_cons_succ, List.getElem_cons_zero, List.setIfInBounds_toArray, List.set_cons_zero, List.set_cons_succ]
            refine wpAnyH_ready (rs := [7]) (by kernel_rfl) (by simp) ?_
            refine AllReadyH.cons rfl (fun K hK => ?_) AllReadyH.nil
            go_simp
            refine (madeConfig_any (.slice xa3 xn3 xc3) ([] ++ zs L1 ++ zs L2) _ (HD.out.2.2.below hH) HLE.out).mono ?_
            rintro e y6 ⟨u2, rfl, hr6, hb6⟩
            have HR6 := hid hr6
            have HR5b := hid (HR5.out.below hb6)
            clear hr6
            refine hK.out _ _ (chainP hH hb6) (fun hH => ?_)
            clear hK K
            try simp only [Act.put, List.getElem_toArray, List.getElem_cons_succ, List.getElem_cons_zero, List.setIfInBounds_toArray, List.set_cons_zero, List.set_cons_succ]
            refine wpAnyH_ready (rs := [8]) (by kernel_rfl) (by simp) ?_
            refine AllReadyH.cons rfl (fun K hK => ?_) AllReadyH.nil
            go_simp
            refine (same_eq u1 u2 (zs L3) ([] ++ zs L1 ++ zs L2) _ HR5b.out HR6.out HE12.out HF3.out.1 HF3.out.2).mono ?_
            rintro e y7 ⟨rfl, hb7⟩
            refine hK.out _ _ (chainP hH hb7) (fun hH => ?_)
            clear hK K
            try simp only [Act.put, List.getElem_toArray, List.getElem_cons_succ, List.getElem_cons_zero, List.setIfInBounds_toArray, List.set_cons_zero, List.set_cons_succ]
            refine wpAnyH_take (i := 9) (v := ?_) rfl (by kernel_rfl) (by kernel_rfl) (by kernel_rfl) (fun _ _ _ h => h) (Or.inl ⟨by kernel_rfl, ?_⟩) hH ?_
            rotate_left
            · intro W hS
              have eq := eqlFault 0 0 W
              go_simp
              first | done | with_reducible rfl
            simp only [Act.put, List.getElem_toArray, List.getElem_cons_succ, List.getElem_cons_zero, List.setIfInBounds_toArray, List.set_cons_zero, List.set_cons_succ]
            refine wpAnyH_take (i := 10) (v := ?_) rfl (by kernel_rfl) (by kernel_rfl) (by kernel_rfl) (fun _ _ _ h => h) (Or.inl ⟨by kernel_rfl, ?_⟩) hH ?_
            rotate_left
            · intro W hS
              have eq := eqlFault 0 0 W
              go_simp
              first | done | with_reducible rfl
            simp only [Act.put, List.getElem_toArray, List.getElem_cons_succ, List.getElem_cons_zero, List.setIfInBounds_toArray, List.set_cons_zero, List.set_cons_succ]
            refine wpAnyH_done (by kernel_rfl) ?_ _
            go_wp2_with fail
            go_ret
            exact ⟨rfl, HBE.out.trans (hH.mono HBE.out.size)⟩
          · skip
            have ST3 := hid (ST2.out.box)
            go_simp
            refine hK.out _ _ ST3.out.b (fun hH => ?_)
            clear hK K
            try simp only [Act.put, List.getElem_toArray, List.getElem_cons_succ, List.getElem_cons_zero, List.setIfInBounds_toArray, List.set_cons_zero, List.set_cons_succ]
            obtain ⟨V3, hW3⟩ : ∃ W, V2.alloc (.cells #[.slice none 0 0] 25) = W := ⟨_, rfl⟩
            rw [hW3] at hH ST3 ⊢
            clear hW3
            refine wpAnyH_ready (rs := [6]) (by kernel_rfl) (by simp) ?_
            refine AllReadyH.cons rfl (fun K hK => ?_) AllReadyH.nil
            rw [if_pos (by kernel_rfl)]
            refine wp_append_any V3 (.tmp 95) (.tmp 97) 23 rfl W3.heap.size 42 Tryz.underlying23 infoSiteA rfl (by decide) (by decide) rfl ST3.out.own ao2 n2 c2 (rowsZ (zs L2)) LN2.out CP2.out (fun j u hj => (RP2.out.below hH).cells j u hj) RP2.out.one rfl (by omega) ST3.out.b.size (fun v4 V4 ho4 hg4 hi4 => ?_)
            have ST4 := hid (ST3.out.more ho4 hg4 hi4)
            obtain ⟨xa4, xn4, xc4, rfl⟩ : ∃ ao n c, v4 = .slice ao n c := by
              obtain ⟨ao, c, e⟩ := ownsRow_formN ho4
              exact ⟨ao, _, c, e⟩
            clear ho4 hg4 hi4
            refine hK.out _ _ ST4.out.b (fun hH => ?_)
            clear hK K
            try simp only [Act.put, List.getElem_toArray, List.getElem_cons_succ, List.getElem_cons_zero, List.setIfInBounds_toArray, List.set_cons_zero, List.set_cons_succ]
            refine wpAnyH_take (i := 7) (v := ?_) rfl (by kernel_rfl) (by kernel_rfl) (by kernel_rfl) (fun _ _ _ h => h) (Or.inl ⟨by kernel_rfl, ?_⟩) hH ?_
            rotate_left
            · intro W hS
              go_simp
              first | done | with_reducible rfl
            simp only [Act.put, List.getElem_toArray, List.getElem_cons_succ, List.getElem_cons_zero, List.setIfInBounds_toArray, List.set_cons_zero, List.set_cons_succ]
            refine wpAnyH_ready (rs := [9]) (by kernel_rfl) (by simp) ?_
            refine AllReadyH.cons rfl (fun K hK => ?_) AllReadyH.nil
            have hd := ST4.out.done HH12.out
            have z0 := (ST4.out.row _ rfl).1.cell 0
            have f0 := (ST4.out.row _ rfl).1.free 0
            have HD := hid hd
            clear hd
            go_simp
            refine hK.out _ _ HD.out.1 (fun hH => ?_)
            clear hK K
            try simp only [Act.put, List.getElem_toArray, List.getElem_cons_succ, List.getElem_cons_zero, List.setIfInBounds_toArray, List.set_cons_zero, List.set_cons_succ]
            clear z0 f0
            refine wpAnyH_done (by kernel_rfl) ?_ _
            go_wp2_with fail
            change Code.wp _ _ _ _ (V4.setCell ⟨V2.heap.size, 0, none⟩ (.slice xa4 xn4 xc4))
            obtain ⟨WE, hWE⟩ : ∃ W, V4.setCell ⟨V2.heap.size, 0, none⟩ (.slice xa4 xn4 xc4) = W := ⟨_, rfl⟩
            rw [hWE] at HD ⊢
            clear hWE hH
            have r15 := HX3.out.r1.below HD.out.1
            have r16 := HX3.out.r2.below HD.out.1
            have r17 := HD.out.2.1
            have HBE := hid (chainP HBW3.out HD.out.1)
            refine wp_region_held_drew (S := fun w' => Below WE.heap.size WE w') (by kernel_rfl) ((Below.refl _ _).drew) (fun hH => ?_)
            refine wpAnyH_take (i := 0) (v := .agg #[.int .i64 0, .int .i64 0]) rfl (by kernel_rfl) (by kernel_rfl) (by kernel_rfl) (fun _ _ _ h => h) (Or.inl ⟨by kernel_rfl, ?_⟩) hH ?_
            · intro W hS
              exact load_gives rfl _ rfl (r16.below hS) Tryz.underlying28 rfl infoFault
            simp only [Act.put, List.getElem_toArray, List.getElem_cons_succ, List.getElem_cons_zero, List.setIfInBounds_toArray, List.set_cons_zero, List.set_cons_succ]
            refine wpAnyH_take (i := 1) (v := ?_) rfl (by kernel_rfl) (by kernel_rfl) (by kernel_rfl) (fun _ _ _ h => h) (Or.inl ⟨by kernel_rfl, ?_⟩) hH ?_
            rotate_left
            · intro W hS
              have eq := eqlFault 0 0 W
              go_simp
              first | done | with_reducible rfl
            simp only [Act.put, List.getElem_toArray, List.getElem_cons_succ, List.getElem_cons_zero, List.setIfInBounds_toArray, List.set_cons_zero, List.set_cons_succ]
            refine wpAnyH_take (i := 2) (v := ?_) rfl (by kernel_rfl) (by kernel_rfl) (by kernel_rfl) (fun _ _ _ h => h) (Or.inl ⟨by kernel_rfl, ?_⟩) hH ?_
            rotate_left
            · intro W hS
              have eq := eqlFault 0 0 W
              go_simp
              first | done | with_reducible rfl
            simp only [Act.put, List.getElem_toArray, List.getElem_cons_succ, List.getElem_cons_zero, List.setIfInBounds_toArray, List.set_cons_zero, List.set_cons_succ]
            refine wpAnyH_take (i := 3) (v := ?_) rfl (by kernel_rfl) (by kernel_rfl) (by kernel_rfl) (fun _ _ _ h => h) (Or.inl ⟨by kernel_rfl, ?_⟩) hH ?_
            rotate_left
            · intro W hS
              have eq := eqlFault 0 0 W
              go_simp
              first | done | with_reducible rfl
            simp only [Act.put, List.getElem_toArray, List.getElem_cons_succ, List.getElem_cons_zero, List.setIfInBounds_toArray, List.set_cons_zero, List.set_cons_succ]
            refine wpAnyH_take (i := 4) (v := .agg #[.slice ao3 n3 c3]) rfl (by kernel_rfl) (by kernel_rfl) (by kernel_rfl) (fun _ _ _ h => h) (Or.inl ⟨by kernel_rfl, ?_⟩) hH ?_
            · intro W hS
              exact load_gives rfl _ rfl (r15.below hS) Tryz.underlying25 rfl infoCfg
            simp only [Act.put, List.getElem_toArray, List.getElem_cons_succ, List.getElem_cons_zero, List.setIfInBounds_toArray, List.set_cons_zero, List.set_cons_succ]
            refine wpAnyH_take (i := 6) (v := .agg #[.slice xa4 xn4 xc4]) rfl (by kernel_rfl) (by kernel_rfl) (by kernel_rfl) (fun _ _ _ h => h) (Or.inl ⟨by kernel_rfl, ?_⟩) hH ?_
            · intro W hS
              exact load_gives rfl _ rfl (r17.below hS) Tryz.underlying25 rfl infoCfg
            simp only [Act.put, List.getElem_toArray, List.getElem_cons_succ, List.getElem_cons_zero, List.setIfInBounds_toArray, List.set_cons_zero, List.set_cons_succ]
            refine wpAnyH_ready (rs := [5]) (by kernel_rfl) (by simp) ?_
            refine AllReadyH.cons rfl (fun K hK => ?_) AllReadyH.nil
            go_simp
            refine (madeConfig_any (.slice ao3 n3 c3) (zs L3) _ ((RP3.out.below HD.out.1).below hH) HF3.out.1).mono ?_
            rintro e y5 ⟨u1, rfl, hr5, hb5⟩
            have HR5 := hid hr5
            clear hr5
            refine hK.out _ _ (chainP hH hb5) (fun hH => ?_)
            clear hK K
            try simp only [Act.put, List.getElem_toArray, List.getElem_cons_succ, List.getElem_cons_zero, List.setIfInBounds_toArray, List.set_cons_zero, List.set_cons_succ]
            refine wpAnyH_ready (rs := [7]) (by kernel_rfl) (by simp) ?_
            refine AllReadyH.cons rfl (fun K hK => ?_) AllReadyH.nil
            go_simp
            refine (madeConfig_any (.slice xa4 xn4 xc4) ([] ++ zs L1 ++ zs L2) _ (HD.out.2.2.below hH) HLE.out).mono ?_
            rintro e y6 ⟨u2, rfl, hr6, hb6⟩
            have HR6 := hid hr6
            have HR5b := hid (HR5.out.below hb6)
            clear hr6
            refine hK.out _ _ (chainP hH hb6) (fun hH => ?_)
            clear hK K
            try simp only [Act.put, List.getElem_toArray, List.getElem_cons_succ, List.getElem_cons_zero, List.setIfInBounds_toArray, List.set_cons_zero, List.set_cons_succ]
            refine wpAnyH_ready (rs := [8]) (by kernel_rfl) (by simp) ?_
            refine AllReadyH.cons rfl (fun K hK => ?_) AllReadyH.nil
            go_simp
            refine (same_eq u1 u2 (zs L3) ([] ++ zs L1 ++ zs L2) _ HR5b.out HR6.out HE12.out HF3.out.1 HF3.out.2).mono ?_
            rintro e y7 ⟨rfl, hb7⟩
            refine hK.out _ _ (chainP hH hb7) (fun hH => ?_)
            clear hK K
            try simp only [Act.put, List.getElem_toArray, List.getElem_cons_succ, List.getElem_cons_zero, List.setIfInBounds_toArray, List.set_cons_zero, List.set_cons_succ]
            refine wpAnyH_take (i := 9) (v := ?_) rfl (by kernel_rfl) (by kernel_rfl) (by kernel_rfl) (fun _ _ _ h => h) (Or.inl ⟨by kernel_rfl, ?_⟩) hH ?_
            rotate_left
            · intro W hS
              have eq := eqlFault 0 0 W
              go_simp
              first | done | with_reducible rfl
            simp only [Act.put, List.getElem_toArray, List.getElem_cons_succ, List.getElem_cons_zero, List.setIfInBounds_toArray, List.set_cons_zero, List.set_cons_succ]
            refine wpAnyH_take (i := 10) (v := ?_) rfl (by kernel_rfl) (by kernel_rfl) (by kernel_rfl) (fun _ _ _ h => h) (Or.inl ⟨by kernel_rfl, ?_⟩) hH ?_
            rotate_left
            · intro W hS
              have eq := eqlFault 0 0 W
              go_simp
              first | done | with_reducible rfl
            simp only [Act.put, List.getElem_toArray, List.getElem_cons_succ, List.getElem_cons_zero, List.setIfInBounds_toArray, List.set_cons_zero, List.set_cons_succ]
            refine wpAnyH_done (by kernel_rfl) ?_ _
            go_wp2_with fail
            go_ret
            exact ⟨rfl, HBE.out.trans (hH.mono HBE.out.size)⟩
        · skip
          have ST2 := hid (ST1.out.box)
          go_simp
          refine hK.out _ _ ST2.out.b (fun hH => ?_)
          clear hK K
          try simp only [Act.put, List.getElem_toArray, List.getElem_cons_succ, List.getElem_cons_zero, List.setIfInBounds_toArray, List.set_cons_zero, List.set_cons_succ]
          obtain ⟨V2, hW2⟩ : ∃ W, V1.alloc (.cells #[.slice none 0 0] 25) = W := ⟨_, rfl⟩
          rw [hW2] at hH ST2 ⊢
          clear hW2
          refine wpAnyH_ready (rs := [3]) (by kernel_rfl) (by simp) ?_
          refine AllReadyH.cons rfl (fun K hK => ?_) AllReadyH.nil
          rw [if_pos (by kernel_rfl)]
          refine wp_append_any V2 (.tmp 92) (.tmp 94) 23 rfl W3.heap.size 42 Tryz.underlying23 infoSiteA rfl (by decide) (by decide) rfl ST2.out.own ao1 n1 c1 (rowsZ (zs L1)) LN1.out CP1.out (fun j u hj => (RP1.out.below hH).cells j u hj) RP1.out.one rfl (by omega) ST2.out.b.size (fun v3 V3 ho3 hg3 hi3 => ?_)
          have ST3 := hid (ST2.out.more ho3 hg3 hi3)
          obtain ⟨xa3, xn3, xc3, rfl⟩ : ∃ ao n c, v3 = .slice ao n c := by
            obtain ⟨ao, c, e⟩ := ownsRow_formN ho3
            exact ⟨ao, _, c, e⟩
          clear ho3 hg3 hi3
          refine hK.out _ _ ST3.out.b (fun hH => ?_)
          clear hK K
          try simp only [Act.put, List.getElem_toArray, List.getElem_cons_succ, List.getElem_cons_zero, List.setIfInBounds_toArray, List.set_cons_zero, List.set_cons_succ]
          refine wpAnyH_ready (rs := [6]) (by kernel_rfl) (by simp) ?_
          refine AllReadyH.cons rfl (fun K hK => ?_) AllReadyH.nil
          rw [if_pos (by kernel_rfl)]
          refine wp_append_any V3 (.tmp 95) (.tmp 97) 23 rfl W3.heap.size 42 Tryz.underlying23 infoSiteA rfl (by decide) (by decide) rfl ST3.out.own ao2 n2 c2 (rowsZ (zs L2)) LN2.out CP2.out (fun j u hj => (RP2.out.below hH).cells j u hj) RP2.out.one rfl (by omega) ST3.out.b.size (fun v4 V4 ho4 hg4 hi4 => ?_)
          have ST4 := hid (ST3.out.more ho4 hg4 hi4)
          obtain ⟨xa4, xn4, xc4, rfl⟩ : ∃ ao n c, v4 = .slice ao n c := by
            obtain ⟨ao, c, e⟩ := ownsRow_formN ho4
            exact ⟨ao, _, c, e⟩
          clear ho4 hg4 hi4
          refine hK.out _ _ ST4.out.b (fun hH => ?_)
          clear hK K
          try simp only [Act.put, List.getElem_toArray, List.getElem_cons_succ, List.getElem_cons_zero, List.setIfInBounds_toArray, List.set_cons_zero, List.set_cons_succ]
          refine wpAnyH_take (i := 7) (v := ?_) rfl (by kernel_rfl) (by kernel_rfl) (by kernel_rfl) (fun _ _ _ h => h) (Or.inl ⟨by kernel_rfl, ?_⟩) hH ?_
          rotate_left
          · intro W hS
            go_simp
            first | done | with_reducible rfl
          simp only [Act.put, List.getElem_toArray, List.getElem_cons_succ, List.getElem_cons_zero, List.setIfInBounds_toArray, List.set_cons_zero, List.set_cons_succ]
          refine wpAnyH_ready (rs := [9]) (by kernel_rfl) (by simp) ?_
          refine AllReadyH.cons rfl (fun K hK => ?_) AllReadyH.nil
          have hd := ST4.out.done HH12.out
          have z0 := (ST4.out.row _ rfl).1.cell 0
          have f0 := (ST4.out.row _ rfl).1.free 0
          have HD := hid hd
          clear hd
          go_simp
          refine hK.out _ _ HD.out.1 (fun hH => ?_)
          clear hK K
          try simp only [Act.put, List.getElem_toArray, List.getElem_cons_succ, List.getElem_cons_zero, List.setIfInBounds_toArray, List.set_cons_zero, List.set_cons_succ]
          clear z0 f0
          refine wpAnyH_done (by kernel_rfl) ?_ _
          go_wp2_with fail
          change Code.wp _ _ _ _ (V4.setCell ⟨V1.heap.size, 0, none⟩ (.slice xa4 xn4 xc4))
          obtain ⟨WE, hWE⟩ : ∃ W, V4.setCell ⟨V1.heap.size, 0, none⟩ (.slice xa4 xn4 xc4) = W := ⟨_, rfl⟩
          rw [hWE] at HD ⊢
          clear hWE hH
          have r15 := HX3.out.r1.below HD.out.1
          have r16 := HX3.out.r2.below HD.out.1
          have r17 := HD.out.2.1
          have HBE := hid (chainP HBW3.out HD.out.1)
          refine wp_region_held_drew (S := fun w' => Below WE.heap.size WE w') (by kernel_rfl) ((Below.refl _ _).drew) (fun hH => ?_)
          refine wpAnyH_take (i := 0) (v := .agg #[.int .i64 0, .int .i64 0]) rfl (by kernel_rfl) (by kernel_rfl) (by kernel_rfl) (fun _ _ _ h => h) (Or.inl ⟨by kernel_rfl, ?_⟩) hH ?_
          · intro W hS
            exact load_gives rfl _ rfl (r16.below hS) Tryz.underlying28 rfl infoFault
          simp only [Act.put, List.getElem_toArray, List.getElem_cons_succ, List.getElem_cons_zero, List.setIfInBounds_toArray, List.set_cons_zero, List.set_cons_succ]
          refine wpAnyH_take (i := 1) (v := ?_) rfl (by kernel_rfl) (by kernel_rfl) (by kernel_rfl) (fun _ _ _ h => h) (Or.inl ⟨by kernel_rfl, ?_⟩) hH ?_
          rotate_left
          · intro W hS
            have eq := eqlFault 0 0 W
            go_simp
            first | done | with_reducible rfl
          simp only [Act.put, List.getElem_toArray, List.getElem_cons_succ, List.getElem_cons_zero, List.setIfInBounds_toArray, List.set_cons_zero, List.set_cons_succ]
          refine wpAnyH_take (i := 2) (v := ?_) rfl (by kernel_rfl) (by kernel_rfl) (by kernel_rfl) (fun _ _ _ h => h) (Or.inl ⟨by kernel_rfl, ?_⟩) hH ?_
          rotate_left
          · intro W hS
            have eq := eqlFault 0 0 W
            go_simp
            first | done | with_reducible rfl
          simp only [Act.put, List.getElem_toArray, List.getElem_cons_succ, List.getElem_cons_zero, List.setIfInBounds_toArray, List.set_cons_zero, List.set_cons_succ]
          refine wpAnyH_take (i := 3) (v := ?_) rfl (by kernel_rfl) (by kernel_rfl) (by kernel_rfl) (fun _ _ _ h => h) (Or.inl ⟨by kernel_rfl, ?_⟩) hH ?_
          rotate_left
          · intro W hS
            have eq := eqlFault 0 0 W
            go_simp
            first | done | with_reducible rfl
          simp only [Act.put, List.getElem_toArray, List.getElem_cons_succ, List.getElem_cons_zero, List.setIfInBounds_toArray, List.set_cons_zero, List.set_cons_succ]
          refine wpAnyH_take (i := 4) (v := .agg #[.slice ao3 n3 c3]) rfl (by kernel_rfl) (by kernel_rfl) (by kernel_rfl) (fun _ _ _ h => h) (Or.inl ⟨by kernel_rfl, ?_⟩) hH ?_
          · intro W hS
            exact load_gives rfl _ rfl (r15.below hS) Tryz.underlying25 rfl infoCfg
          simp only [Act.put, List.getElem_toArray, List.getElem_cons_succ, List.getElem_cons_zero, List.setIfInBounds_toArray, List.set_cons_zero, List.set_cons_succ]
          refine wpAnyH_take (i := 6) (v := .agg #[.slice xa4 xn4 xc4]) rfl (by kernel_rfl) (by kernel_rfl) (by kernel_rfl) (fun _ _ _ h => h) (Or.inl ⟨by kernel_rfl, ?_⟩) hH ?_
          · intro W hS
            exact load_gives rfl _ rfl (r17.below hS) Tryz.underlying25 rfl infoCfg
          simp only [Act.put, List.getElem_toArray, List.getElem_cons_succ, List.getElem_cons_zero, List.setIfInBounds_toArray, List.set_cons_zero, List.set_cons_succ]
          refine wpAnyH_ready (rs := [5]) (by kernel_rfl) (by simp) ?_
          refine AllReadyH.cons rfl (fun K hK => ?_) AllReadyH.nil
          go_simp
          refine (madeConfig_any (.slice ao3 n3 c3) (zs L3) _ ((RP3.out.below HD.out.1).below hH) HF3.out.1).mono ?_
          rintro e y5 ⟨u1, rfl, hr5, hb5⟩
          have HR5 := hid hr5
          clear hr5
          refine hK.out _ _ (chainP hH hb5) (fun hH => ?_)
          clear hK K
          try simp only [Act.put, List.getElem_toArray, List.getElem_cons_succ, List.getElem_cons_zero, List.setIfInBounds_toArray, List.set_cons_zero, List.set_cons_succ]
          refine wpAnyH_ready (rs := [7]) (by kernel_rfl) (by simp) ?_
          refine AllReadyH.cons rfl (fun K hK => ?_) AllReadyH.nil
          go_simp
          refine (madeConfig_any (.slice xa4 xn4 xc4) ([] ++ zs L1 ++ zs L2) _ (HD.out.2.2.below hH) HLE.out).mono ?_
          rintro e y6 ⟨u2, rfl, hr6, hb6⟩
          have HR6 := hid hr6
          have HR5b := hid (HR5.out.below hb6)
          clear hr6
          refine hK.out _ _ (chainP hH hb6) (fun hH => ?_)
          clear hK K
          try simp only [Act.put, List.getElem_toArray, List.getElem_cons_succ, List.getElem_cons_zero, List.setIfInBounds_toArray, List.set_cons_zero, List.set_cons_succ]
          refine wpAnyH_ready (rs := [8]) (by kernel_rfl) (by simp) ?_
          refine AllReadyH.cons rfl (fun K hK => ?_) AllReadyH.nil
          go_simp
          refine (same_eq u1 u2 (zs L3) ([] ++ zs L1 ++ zs L2) _ HR5b.out HR6.out HE12.out HF3.out.1 HF3.out.2).mono ?_
          rintro e y7 ⟨rfl, hb7⟩
          refine hK.out _ _ (chainP hH hb7) (fun hH => ?_)
          clear hK K
          try simp only [Act.put, List.getElem_toArray, List.getElem_cons_succ, List.getElem_cons_zero, List.setIfInBounds_toArray, List.set_cons_zero, List.set_cons_succ]
          refine wpAnyH_take (i := 9) (v := ?_) rfl (by kernel_rfl) (by kernel_rfl) (by kernel_rfl) (fun _ _ _ h => h) (Or.inl ⟨by kernel_rfl, ?_⟩) hH ?_
          rotate_left
          · intro W hS
            have eq := eqlFault 0 0 W
            go_simp
            first | done | with_reducible rfl
          simp only [Act.put, List.getElem_toArray, List.getElem_cons_succ, List.getElem_cons_zero, List.setIfInBounds_toArray, List.set_cons_zero, List.set_cons_succ]
          refine wpAnyH_take (i := 10) (v := ?_) rfl (by kernel_rfl) (by kernel_rfl) (by kernel_rfl) (fun _ _ _ h => h) (Or.inl ⟨by kernel_rfl, ?_⟩) hH ?_
          rotate_left
          · intro W hS
            have eq := eqlFault 0 0 W
            go_simp
            first | done | with_reducible rfl
          simp only [Act.put, List.getElem_toArray, List.getElem_cons_succ, List.getElem_cons_zero, List.setIfInBounds_toArray, List.set_cons_zero, List.set_cons_succ]
          refine wpAnyH_done (by kernel_rfl) ?_ _
          go_wp2_with fail
          go_ret
          exact ⟨rfl, HBE.out.trans (hH.mono HBE.out.size)⟩
      · skip
        have ST1 := hid (ST0.out.box)
        go_simp
        refine hK.out _ _ ST1.out.b (fun hH => ?_)
        clear hK K
        try simp only [Act.put, List.getElem_toArray, List.getElem_cons_succ, List.getElem_cons_zero, List.setIfInBounds_toArray, List.set_cons_zero, List.set_cons_succ]
        obtain ⟨V1, hW1⟩ : ∃ W, V0.alloc (.cells #[.slice none 0 0] 25) = W := ⟨_, rfl⟩
        rw [hW1] at hH ST1 ⊢
        clear hW1
        refine wpAnyH_ready (rs := [0]) (by kernel_rfl) (by simp) ?_
        refine AllReadyH.cons rfl (fun K hK => ?_) AllReadyH.nil
        have ST2 := hid (ST1.out.build)
        go_simp
        refine hK.out _ _ ST2.out.b (fun hH => ?_)
        clear hK K
        try simp only [Act.put, List.getElem_toArray, List.getElem_cons_succ, List.getElem_cons_zero, List.setIfInBounds_toArray, List.set_cons_zero, List.set_cons_succ]
        obtain ⟨V2, hW2⟩ : ∃ W, V1.alloc (.cells #[] 42) = W := ⟨_, rfl⟩
        rw [hW2] at hH ST2 ⊢
        clear hW2
        refine wpAnyH_ready (rs := [3]) (by kernel_rfl) (by simp) ?_
        refine AllReadyH.cons rfl (fun K hK => ?_) AllReadyH.nil
        rw [if_pos (by kernel_rfl)]
        refine wp_append_any V2 (.tmp 92) (.tmp 94) 23 rfl W3.heap.size 42 Tryz.underlying23 infoSiteA rfl (by decide) (by decide) rfl ST2.out.own ao1 n1 c1 (rowsZ (zs L1)) LN1.out CP1.out (fun j u hj => (RP1.out.below hH).cells j u hj) RP1.out.one rfl (by omega) ST2.out.b.size (fun v3 V3 ho3 hg3 hi3 => ?_)
        have ST3 := hid (ST2.out.more ho3 hg3 hi3)
        obtain ⟨xa3, xn3, xc3, rfl⟩ : ∃ ao n c, v3 = .slice ao n c := by
          obtain ⟨ao, c, e⟩ := ownsRow_formN ho3
          exact ⟨ao, _, c, e⟩
        clear ho3 hg3 hi3
        refine hK.out _ _ ST3.out.b (fun hH => ?_)
        clear hK K
        try simp only [Act.put, List.getElem_toArray, List.getElem_cons_succ, List.getElem_cons_zero, List.setIfInBounds_toArray, List.set_cons_zero, List.set_cons_succ]
        refine wpAnyH_ready (rs := [6]) (by kernel_rfl) (by simp) ?_
        refine AllReadyH.cons rfl (fun K hK => ?_) AllReadyH.nil
        rw [if_pos (by kernel_rfl)]
        refine wp_append_any V3 (.tmp 95) (.tmp 97) 23 rfl W3.heap.size 42 Tryz.underlying23 infoSiteA rfl (by decide) (by decide) rfl ST3.out.own ao2 n2 c2 (rowsZ (zs L2)) LN2.out CP2.out (fun j u hj => (RP2.out.below hH).cells j u hj) RP2.out.one rfl (by omega) ST3.out.b.size (fun v4 V4 ho4 hg4 hi4 => ?_)
        have ST4 := hid (ST3.out.more ho4 hg4 hi4)
        obtain ⟨xa4, xn4, xc4, rfl⟩ : ∃ ao n c, v4 = .slice ao n c := by
          obtain ⟨ao, c, e⟩ := ownsRow_formN ho4
          exact ⟨ao, _, c, e⟩
        clear ho4 hg4 hi4
        refine hK.out _ _ ST4.out.b (fun hH => ?_)
        clear hK K
        try simp only [Act.put, List.getElem_toArray, List.getElem_cons_succ, List.getElem_cons_zero, List.setIfInBounds_toArray, List.set_cons_zero, List.set_cons_succ]
        refine wpAnyH_take (i := 7) (v := ?_) rfl (by kernel_rfl) (by kernel_rfl) (by kernel_rfl) (fun _ _ _ h => h) (Or.inl ⟨by kernel_rfl, ?_⟩) hH ?_
        rotate_left
        · intro W hS
          go_simp
          first | done | with_reducible rfl
        simp only [Act.put, List.getElem_toArray, List.getElem_cons_succ, List.getElem_cons_zero, List.setIfInBounds_toArray, List.set_cons_zero, List.set_cons_succ]
        refine wpAnyH_ready (rs := [9]) (by kernel_rfl) (by simp) ?_
        refine AllReadyH.cons rfl (fun K hK => ?_) AllReadyH.nil
        have hd := ST4.out.done HH12.out
        have z0 := (ST4.out.row _ rfl).1.cell 0
        have f0 := (ST4.out.row _ rfl).1.free 0
        have HD := hid hd
        clear hd
        go_simp
        refine hK.out _ _ HD.out.1 (fun hH => ?_)
        clear hK K
        try simp only [Act.put, List.getElem_toArray, List.getElem_cons_succ, List.getElem_cons_zero, List.setIfInBounds_toArray, List.set_cons_zero, List.set_cons_succ]
        clear z0 f0
        refine wpAnyH_done (by kernel_rfl) ?_ _
        go_wp2_with fail
        change Code.wp _ _ _ _ (V4.setCell ⟨V0.heap.size, 0, none⟩ (.slice xa4 xn4 xc4))
        obtain ⟨WE, hWE⟩ : ∃ W, V4.setCell ⟨V0.heap.size, 0, none⟩ (.slice xa4 xn4 xc4) = W := ⟨_, rfl⟩
        rw [hWE] at HD ⊢
        clear hWE hH
        have r15 := HX3.out.r1.below HD.out.1
        have r16 := HX3.out.r2.below HD.out.1
        have r17 := HD.out.2.1
        have HBE := hid (chainP HBW3.out HD.out.1)
        refine wp_region_held_drew (S := fun w' => Below WE.heap.size WE w') (by kernel_rfl) ((Below.refl _ _).drew) (fun hH => ?_)
        refine wpAnyH_take (i := 0) (v := .agg #[.int .i64 0, .int .i64 0]) rfl (by kernel_rfl) (by kernel_rfl) (by kernel_rfl) (fun _ _ _ h => h) (Or.inl ⟨by kernel_rfl, ?_⟩) hH ?_
        · intro W hS
          exact load_gives rfl _ rfl (r16.below hS) Tryz.underlying28 rfl infoFault
        simp only [Act.put, List.getElem_toArray, List.getElem_cons_succ, List.getElem_cons_zero, List.setIfInBounds_toArray, List.set_cons_zero, List.set_cons_succ]
        refine wpAnyH_take (i := 1) (v := ?_) rfl (by kernel_rfl) (by kernel_rfl) (by kernel_rfl) (fun _ _ _ h => h) (Or.inl ⟨by kernel_rfl, ?_⟩) hH ?_
        rotate_left
        · intro W hS
          have eq := eqlFault 0 0 W
          go_simp
          first | done | with_reducible rfl
        simp only [Act.put, List.getElem_toArray, List.getElem_cons_succ, List.getElem_cons_zero, List.setIfInBounds_toArray, List.set_cons_zero, List.set_cons_succ]
        refine wpAnyH_take (i := 2) (v := ?_) rfl (by kernel_rfl) (by kernel_rfl) (by kernel_rfl) (fun _ _ _ h => h) (Or.inl ⟨by kernel_rfl, ?_⟩) hH ?_
        rotate_left
        · intro W hS
          have eq := eqlFault 0 0 W
          go_simp
          first | done | with_reducible rfl
        simp only [Act.put, List.getElem_toArray, List.getElem_cons_succ, List.getElem_cons_zero, List.setIfInBounds_toArray, List.set_cons_zero, List.set_cons_succ]
        refine wpAnyH_take (i := 3) (v := ?_) rfl (by kernel_rfl) (by kernel_rfl) (by kernel_rfl) (fun _ _ _ h => h) (Or.inl ⟨by kernel_rfl, ?_⟩) hH ?_
        rotate_left
        · intro W hS
          have eq := eqlFault 0 0 W
          go_simp
          first | done | with_reducible rfl
        simp only [Act.put, List.getElem_toArray, List.getElem_cons_succ, List.getElem_cons_zero, List.setIfInBounds_toArray, List.set_cons_zero, List.set_cons_succ]
        refine wpAnyH_take (i := 4) (v := .agg #[.slice ao3 n3 c3]) rfl (by kernel_rfl) (by kernel_rfl) (by kernel_rfl) (fun _ _ _ h => h) (Or.inl ⟨by kernel_rfl, ?_⟩) hH ?_
        · intro W hS
          exact load_gives rfl _ rfl (r15.below hS) Tryz.underlying25 rfl infoCfg
        simp only [Act.put, List.getElem_toArray, List.getElem_cons_succ, List.getElem_cons_zero, List.setIfInBounds_toArray, List.set_cons_zero, List.set_cons_succ]
        refine wpAnyH_take (i := 6) (v := .agg #[.slice xa4 xn4 xc4]) rfl (by kernel_rfl) (by kernel_rfl) (by kernel_rfl) (fun _ _ _ h => h) (Or.inl ⟨by kernel_rfl, ?_⟩) hH ?_
        · intro W hS
          exact load_gives rfl _ rfl (r17.below hS) Tryz.underlying25 rfl infoCfg
        simp only [Act.put, List.getElem_toArray, List.getElem_cons_succ, List.getElem_cons_zero, List.setIfInBounds_toArray, List.set_cons_zero, List.set_cons_succ]
        refine wpAnyH_ready (rs := [5]) (by kernel_rfl) (by simp) ?_
        refine AllReadyH.cons rfl (fun K hK => ?_) AllReadyH.nil
        go_simp
        refine (madeConfig_any (.slice ao3 n3 c3) (zs L3) _ ((RP3.out.below HD.out.1).below hH) HF3.out.1).mono ?_
        rintro e y5 ⟨u1, rfl, hr5, hb5⟩
        have HR5 := hid hr5
        clear hr5
        refine hK.out _ _ (chainP hH hb5) (fun hH => ?_)
        clear hK K
        try simp only [Act.put, List.getElem_toArray, List.getElem_cons_succ, List.getElem_cons_zero, List.setIfInBounds_toArray, List.set_cons_zero, List.set_cons_succ]
        refine wpAnyH_ready (rs := [7]) (by kernel_rfl) (by simp) ?_
        refine AllReadyH.cons rfl (fun K hK => ?_) AllReadyH.nil
        go_simp
        refine (madeConfig_any (.slice xa4 xn4 xc4) ([] ++ zs L1 ++ zs L2) _ (HD.out.2.2.below hH) HLE.out).mono ?_
        rintro e y6 ⟨u2, rfl, hr6, hb6⟩
        have HR6 := hid hr6
        have HR5b := hid (HR5.out.below hb6)
        clear hr6
        refine hK.out _ _ (chainP hH hb6) (fun hH => ?_)
        clear hK K
        try simp only [Act.put, List.getElem_toArray, List.getElem_cons_succ, List.getElem_cons_zero, List.setIfInBounds_toArray, List.set_cons_zero, List.set_cons_succ]
        refine wpAnyH_ready (rs := [8]) (by kernel_rfl) (by simp) ?_
        refine AllReadyH.cons rfl (fun K hK => ?_) AllReadyH.nil
        go_simp
        refine (same_eq u1 u2 (zs L3) ([] ++ zs L1 ++ zs L2) _ HR5b.out HR6.out HE12.out HF3.out.1 HF3.out.2).mono ?_
        rintro e y7 ⟨rfl, hb7⟩
        refine hK.out _ _ (chainP hH hb7) (fun hH => ?_)
        clear hK K
        try simp only [Act.put, List.getElem_toArray, List.getElem_cons_succ, List.getElem_cons_zero, List.setIfInBounds_toArray, List.set_cons_zero, List.set_cons_succ]
        refine wpAnyH_take (i := 9) (v := ?_) rfl (by kernel_rfl) (by kernel_rfl) (by kernel_rfl) (fun _ _ _ h => h) (Or.inl ⟨by kernel_rfl, ?_⟩) hH ?_
        rotate_left
        · intro W hS
          have eq := eqlFault 0 0 W
          go_simp
          first | done | with_reducible rfl
        simp only [Act.put, List.getElem_toArray, List.getElem_cons_succ, List.getElem_cons_zero, List.setIfInBounds_toArray, List.set_cons_zero, List.set_cons_succ]
        refine wpAnyH_take (i := 10) (v := ?_) rfl (by kernel_rfl) (by kernel_rfl) (by kernel_rfl) (fun _ _ _ h => h) (Or.inl ⟨by kernel_rfl, ?_⟩) hH ?_
        rotate_left
        · intro W hS
          have eq := eqlFault 0 0 W
          go_simp
          first | done | with_reducible rfl
        simp only [Act.put, List.getElem_toArray, List.getElem_cons_succ, List.getElem_cons_zero, List.setIfInBounds_toArray, List.set_cons_zero, List.set_cons_succ]
        refine wpAnyH_done (by kernel_rfl) ?_ _
        go_wp2_with fail
        go_ret
        exact ⟨rfl, HBE.out.trans (hH.mono HBE.out.size)⟩
end Go.Proofs.YtbibgnflkgafiaaGreatDoor
