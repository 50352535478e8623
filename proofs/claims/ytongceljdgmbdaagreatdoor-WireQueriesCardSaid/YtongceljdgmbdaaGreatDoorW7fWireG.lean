/-
  Contract of package wire: PutReply.
-/
import Derived.Test.YtongceljdgmbdaaGreatDoorW7f11
import Derived.Test.YtongceljdgmbdaaGreatDoorW7fResS

namespace Go.Proofs.YtongceljdgmbdaaGreatDoor
open Go.RowKit Go.Pantry

theorem rightS_pos {st : Int} {r : List UInt8} {z : Int} {L : List Fld} (h : rightS st r z L = true) : 0 ≤ z ∧ 100 ≤ st ∧ st ≤ 599 := by
  unfold rightS formedS at h
  simp only [Bool.and_eq_true, Bool.or_eq_true, beq_iff_eq, decide_eq_true_eq] at h
  omega
/-- what a response's writing comes to -/
def putR (mt : List UInt8) (st : Int) (m : List UInt8) (z : Int) (L : List Fld) (b : List UInt8) : Except Nat (List UInt8) :=
  if bareX false st = true ∧ b ≠ [] then .error 10
  else putX (rightS st m z (putL L (if bareX false st then none else some b.length))) (textH (resLine ⟨m, [], st.toNat, z.toNat, []⟩) (putL L (if bareX false st then none else some b.length))) b (bareX (mt == [72, 69, 65, 68]) st)
set_option maxRecDepth 100000 in
set_option maxHeartbeats 16000000 in
theorem putReply_any (mt : List UInt8) (st : Int) (m : List UInt8) (z : Int) (vl vb : Value) (L : List Fld) (b : List UInt8) (w : World) (hm : m.length ≤ 100) (hr : Reads2 w vl L) (hk : okFs L) (hl : L.length ≤ 999) (hb : Bytes w vb b) (hbl : b.length < 100000) (htab : Tab10 w) :
    Calls Tryz.prog 27 #[strV mt, .agg #[.int .i64 st, strV m, .int .i64 z, vl, vb]] w fun e w' => PutPost w.heap.size (putR mt st m z L b) e w' ∧ Below w.heap.size w w' := by
  obtain ⟨aol, cl, rfl⟩ := hr.form
  obtain ⟨aob, cb, rfl, hcb⟩ := bytes_form hb
  obtain ⟨W1, hW1⟩ : ∃ W, W = w.alloc (.cells #[.int .i64 st, strV m, .int .i64 z, .slice aol L.length cl, .slice aob b.length cb] 55) := ⟨_, rfl⟩
  have hb1 : Below w.heap.size w W1 := by rw [hW1]; exact below_alloc _ _
  have hg1 : rowIs W1 w.heap.size #[.int .i64 st, strV m, .int .i64 z, .slice aol L.length cl, .slice aob b.length cb] 55 := by rw [hW1]; exact rowIs_new _ _ _
  have CB0 := hid (bodiless_any [71, 69, 84] st W1)
  rw [show (([71, 69, 84] : List UInt8) == [72, 69, 65, 68]) = false by decide] at CB0
  have HBY := hid hb
  have HTB := hid htab
  have HRR := hid hr
  have g0 := hg1.cell 0
  rw [hW1] at g0
  clear hr hb htab
  go_enter Tryz.func27, Tryz.ntmps27
  go_wp2_with fail
  rw [← hW1]
  clear hW1 g0
  refine CB0.out.mono ?_
  rintro e wz ⟨rfl, hbz⟩
  have hgz := hg1.below hbz
  have hbZ := chain2 hb1 hb1.size hbz
  clear CB0 hb1 hg1 hbz
  obtain ⟨W2, hW2⟩ : ∃ W, W = wz.alloc (.cells #[strV clN, strV teN] 9) := ⟨_, rfl⟩
  have hb12 : Below wz.heap.size wz W2 := by rw [hW2]; exact below_alloc _ _
  have hn2 : Reads W2 (.slice (some ⟨wz.heap.size, 0, none⟩) 2 2) ([clN, teN].map strV) := by rw [hW2]; exact reads_new wz ([clN, teN].map strV) 9 2
  have hb2 := chain2 hbZ hbZ.size hb12
  have hg2 := hgz.below hb12
  have c1 := lWithout_any (.slice aol L.length cl) (.slice (some ⟨wz.heap.size, 0, none⟩) 2 2) L [clN, teN] W2 (HRR.out.below hb2) hk hn2 ⟨by simp, fun n hn => by simp at hn; rcases hn with rfl | rfl <;> decide⟩
  rw [show outsF L [clN, teN] = bareL L from rfl] at c1
  have C1 := hid c1
  have z3 := hgz.cell 3
  have z4 := hgz.cell 4
  clear c1 hb12 hn2
  have STORED : Hid (∀ w3, (∃ v1 k1, w3.ownsRow W2.heap.size 104 2 v1 k1 (fldCells (bareL L)) ∧ Below W2.heap.size W2 w3) → True) := hid fun _ _ => trivial
  clear STORED
  cases hbr : bareX false st with
  | true =>
    by_cases hbe : b = []
    · subst hbe
      have HNB : Hid (putR mt st m z L [] = putX (rightS st m z (putL L none)) (textH (resLine ⟨m, [], st.toNat, z.toNat, []⟩) (putL L none)) [] (bareX (mt == [72, 69, 65, 68]) st)) := hid (by
        unfold putR
        rw [hbr, if_neg (by simp)]
        rfl)
      simp only [List.length_nil] at *
      clear hbr
      go_wp2_with fail
      unfold clN teN at hW2
      rw [← hW2]
      clear hW2 z3 z4
      refine C1.out.mono ?_
      rintro e w3 ⟨⟨v1, k1, rfl, ho1⟩, hb3⟩
      have hg3 := hg2.below hb3
      have hbA := chain2 hb2 hb2.size hb3
      have hgl2 := hg2.lt
      obtain ⟨hk1, hr1⟩ := ho1.reads2
      obtain ⟨ao1, c1, rfl⟩ := hr1.form
      have hin1 := ownsRow_in ho1
      obtain ⟨W4, hW4⟩ : ∃ W, W = w3.setCell ⟨w.heap.size, 3, none⟩ (.slice ao1 (bareL L).length c1) := ⟨_, rfl⟩
      have hk4 : Kept (fun k => k = w.heap.size) w3 W4 := by rw [hW4]; exact (Kept.refl (fun k => k = w.heap.size) _).setCell (i := 3) (.inl rfl) _
      have hg4 : rowIs W4 w.heap.size #[.int .i64 st, strV m, .int .i64 z, .slice ao1 (bareL L).length c1, .slice aob 0 cb] 55 := by rw [hW4]; exact hg3.setCell 3 _
      have hr4 : Reads2 W4 (.slice ao1 (bareL L).length c1) (bareL L) := reads2_kept hr1 hk4 (hin1.mono fun k hk => by have := hk.1; omega)
      have hbB : Below w.heap.size w W4 := by rw [hW4]; exact hbA.setCell (p := ⟨w.heap.size, 3, none⟩) (Nat.le_refl _) _
      have hc3 := hg3.cell 3
      have hf3 := hg3.free 3
      have HR4 := hid hr4
      change Hid (Reads2 W4 _ (putL L none)) at HR4
      clear hg2 hgz hbZ hb2 C1 hb3 hg3 hbA ho1 hr1 hin1 hk4 hr4 hgl2 hk1
      have hkP := okFs_putL hk hl (o := none) (fun n h => by cases h)
      have hrow := hg4
      have HP := HR4
      clear hg4 HR4
      generalize ao1 = aoP at *
      generalize (bareL L).length = nP at *
      generalize c1 = cP at *
      have g0 := hrow.cell 0
      have g1 := hrow.cell 1
      have g2 := hrow.cell 2
      have g3 := hrow.cell 3
      have c4 := hrow.cell 4
      rw [hW4] at g0 g1 g2 g3 c4
      have hbo := bytes_below HBY.out hbB
      have hgl := hrow.lt
      obtain ⟨T, hT⟩ : ∃ T, textH (resLine ⟨m, [], st.toNat, z.toNat, []⟩) (putL L none) = T := ⟨_, rfl⟩
      have HT := hid hT
      cases hq : rightS st m z (putL L none) with
      | false =>
        have CS := hid (ShowResponse_no st m z (.slice aoP nP cP) (putL L none) W4 hm HP.out hkP hq)
        have CJ := hid (fun W' => join_err [] 10 (by decide) aob 0 cb W')
        have HQ := hid hq
        clear hq hkP HP hT
        go_wp2_with fail
        rw [← hW4]
        clear hW4 g0 g1 g2 g3 c4 hc3 hf3
        refine CS.out.mono ?_
        rintro e w5 ⟨rfl, hb5⟩
        have g4 := (hrow.below hb5).cell 4
        have HB := hid (chain2 hbB hbB.size hb5)
        clear CS hb5 hrow hbB hbo
        go_wp2_with fail
        refine (CJ.out _).mono ?_
        rintro e w6 ⟨rfl, rfl⟩
        go_wp2_with fail
        go_ret2
        refine ⟨?_, HB.out⟩
        rw [HNB.out, HQ.out]
        unfold putX
        rw [if_pos rfl]
        exact ⟨by decide, rfl⟩
      | true =>
        obtain ⟨hz0, hs1, hs2⟩ := rightS_pos hq
        obtain ⟨sn, hsn⟩ : ∃ sn : Nat, st = (sn : Int) := ⟨st.toNat, by omega⟩
        have cs := ShowResponse_yes sn m z (.slice aoP nP cP) (putL L none) W4 hm HP.out hkP hz0 (by omega) (by omega) (HTB.out.below hbB) (by rw [← hsn]; exact hq)
        have hsn2 : sn = st.toNat := by omega
        rw [hsn2, hT] at cs
        rw [show ((st.toNat : Nat) : Int) = st by omega] at cs
        have HQ := hid hq
        clear hsn hsn2
        by_cases h4 : 4096 < T.length
        · simp only [if_pos h4] at cs
          have CS := hid cs
          have CJ := hid (fun W' => join_err [] 22 (by decide) aob 0 cb W')
          have H4 := hid h4
          clear hq hkP HP cs hT h4 hz0 hs1 hs2
          go_wp2_with fail
          rw [← hW4]
          clear hW4 g0 g1 g2 g3 c4 hc3 hf3
          refine CS.out.mono ?_
          rintro e w5 ⟨rfl, hb5⟩
          have g4 := (hrow.below hb5).cell 4
          have HB := hid (chain2 hbB hbB.size hb5)
          clear CS hb5 hrow hbB hbo
          go_wp2_with fail
          refine (CJ.out _).mono ?_
          rintro e w6 ⟨rfl, rfl⟩
          go_wp2_with fail
          go_ret2
          refine ⟨?_, HB.out⟩
          rw [HNB.out, HQ.out, HT.out]
          unfold putX
          rw [if_neg (by simp), if_pos H4.out]
          exact ⟨by decide, rfl⟩
        · simp only [if_neg h4] at cs
          have CS := hid cs
          have CJ := hid (fun W' hW' => join_ok T ([] : List UInt8) (.slice aob 0 cb) W' hW' (by omega) (by first | omega | (simp only [List.length_nil] at *; omega)))
          have CB := hid (fun W' => bodiless_any mt st W')
          have H4 := hid (And.intro h4 hm)
          clear hq hkP HP cs hT h4 hz0 hs1 hs2
          go_wp2_with fail
          rw [← hW4]
          clear hW4 g0 g1 g2 g3 c4 hc3 hf3
          refine CS.out.mono ?_
          rintro e w5 ⟨rfl, hb5⟩
          have hrow5 := hrow.below hb5
          have g4 := hrow5.cell 4
          have hbo5 := bytes_below hbo hb5
          have hbN := chain2 hbB hbB.size hb5
          have HB := hid hbN
          have HBO := hid hbo5
          clear CS hb5 hrow hbB hbo hbo5 hbN
          go_wp2_with fail
          refine (CJ.out _ HBO.out).mono ?_
          rintro e w6 ⟨hp, hb6⟩
          try simp only [List.length_nil] at hp
          have hrow6 := hrow5.below hb6
          have HB6 := hid (chain2 HB.out HB.out.size hb6)
          by_cases h2 : 2048 < 0
          · rw [if_pos h2] at hp
            obtain ⟨-, rfl⟩ := hp
            have H2 := hid h2
            clear hb6 CJ h2
            go_wp2_with fail
            go_ret2
            refine ⟨?_, HB6.out⟩
            rw [HNB.out, HQ.out, HT.out]
            unfold putX
            try simp only [List.length_nil]
            rw [if_neg (by simp), if_neg H4.out.1, if_pos H2.out]
            exact ⟨by decide, rfl⟩
          · rw [if_neg h2] at hp
            obtain ⟨S, hS⟩ : ∃ S, T ++ ([] : List UInt8) = S := ⟨_, rfl⟩
            rw [hS] at hp
            have HS := hid hS
            clear hS
            obtain ⟨ao9, c9, rfl, hby9⟩ := hp
            have H2 := hid h2
            have HY := hid hby9
            have g0 := hrow6.cell 0
            clear hb6 CJ hby9 h2 hrow5 g4
            go_wp2_with fail
            refine (CB.out _).mono ?_
            rintro e w7 ⟨rfl, hb7⟩
            have HB7 := hid (chain2 HB6.out HB6.out.size hb7)
            have HY7 := hid (bytes_below HY.out hb7)
            clear hb7 HY HB6 CB
            cases hbx : bareX (mt == [72, 69, 65, 68]) st with
            | false =>
              have HX := hid hbx
              clear hbx
              go_wp2_with fail
              go_ret2
              refine ⟨?_, HB7.out⟩
              rw [HNB.out, HQ.out, HT.out, HX.out]
              unfold putX
              try simp only [List.length_nil]
              rw [if_neg (by simp), if_neg H4.out.1, if_neg H2.out]
              simp only [Bool.false_eq_true, if_false]
              rw [HS.out]
              exact ⟨ao9, c9, rfl, HY7.out⟩
            | true =>
              have HX := hid hbx
              obtain ⟨capb, W8, cur, fz, hcv, hg8, hfz, hcc, htk, hxc, hbW8⟩ := bytes_conv (P := Tryz.prog) w7 T 9 27 5 Tryz.underlying9 Tryz.underlying27 Tryz.underlying5
              have hrd8 := reads_row hg8 (T.map byteV) capb (by rw [List.length_map]; exact htk)
              rw [List.length_map] at hrd8
              have HY8 := hid (bytes_of hrd8 hxc)
              have HB8 := hid (chain2 HB7.out HB7.out.size hbW8)
              clear hbx hg8 hfz hcc htk hxc hbW8 hrd8
              go_wp2_with fail
              go_ret2
              refine ⟨?_, HB8.out⟩
              rw [HNB.out, HQ.out, HT.out, HX.out]
              unfold putX
              try simp only [List.length_nil]
              rw [if_neg (by simp), if_neg H4.out.1, if_neg H2.out]
              exact ⟨_, _, rfl, HY8.out⟩
    · have hz0 : 0 < b.length := List.length_pos_iff.2 hbe
      have hz1 : (0 : Int) < (b.length : Int) := by omega
      have HX : Hid (putR mt st m z L b = .error 10) := hid (by unfold putR; rw [hbr, if_pos ⟨rfl, hbe⟩])
      have HB := hid hbZ
      clear hbr C1 hW2 z3 hg2 hgz hb2 hbZ
      go_wp2_with fail
      go_ret2
      refine ⟨?_, HB.out⟩
      rw [HX.out]
      exact ⟨by decide, rfl⟩
  | false =>
    have HNB : Hid (putR mt st m z L b = putX (rightS st m z (putL L (some b.length))) (textH (resLine ⟨m, [], st.toNat, z.toNat, []⟩) (putL L (some b.length))) b (bareX (mt == [72, 69, 65, 68]) st)) := hid (by
      unfold putR
      rw [hbr, if_neg (by simp)]
      rfl)
    clear hbr
    go_wp2_with fail
    unfold clN teN at hW2
    rw [← hW2]
    clear hW2 z3 z4
    refine C1.out.mono ?_
    rintro e w3 ⟨⟨v1, k1, rfl, ho1⟩, hb3⟩
    have hg3 := hg2.below hb3
    have hbA := chain2 hb2 hb2.size hb3
    have hgl2 := hg2.lt
    obtain ⟨hk1, hr1⟩ := ho1.reads2
    obtain ⟨ao1, c1, rfl⟩ := hr1.form
    have hin1 := ownsRow_in ho1
    obtain ⟨W4, hW4⟩ : ∃ W, W = w3.setCell ⟨w.heap.size, 3, none⟩ (.slice ao1 (bareL L).length c1) := ⟨_, rfl⟩
    have hk4 : Kept (fun k => k = w.heap.size) w3 W4 := by rw [hW4]; exact (Kept.refl (fun k => k = w.heap.size) _).setCell (i := 3) (.inl rfl) _
    have hg4 : rowIs W4 w.heap.size #[.int .i64 st, strV m, .int .i64 z, .slice ao1 (bareL L).length c1, .slice aob b.length cb] 55 := by rw [hW4]; exact hg3.setCell 3 _
    have hr4 : Reads2 W4 (.slice ao1 (bareL L).length c1) (bareL L) := reads2_kept hr1 hk4 (hin1.mono fun k hk => by have := hk.1; omega)
    have hbB : Below w.heap.size w W4 := by rw [hW4]; exact hbA.setCell (p := ⟨w.heap.size, 3, none⟩) (Nat.le_refl _) _
    have hc3 := hg3.cell 3
    have hf3 := hg3.free 3
    have HR4 := hid hr4
    change Hid (Reads2 W4 _ (putL L none)) at HR4
    clear hg2 hgz hbZ hb2 C1 hb3 hg3 hbA ho1 hr1 hin1 hk4 hr4 hgl2 hk1
    go_wp2_with fail
    rw [← hW4]
    clear hW4 hc3 hf3
    have HTB4 := hid (HTB.out.below hbB)
    refine wp_region_held_drew (S := fun _ => True) (by kernel_rfl) trivial (fun hH => ?_)
    refine wpAnyH_take (i := 0) (v := ?_) rfl (by kernel_rfl) (by kernel_rfl) (by kernel_rfl) (fun _ _ _ h => h) (Or.inl ⟨by kernel_rfl, ?_⟩) hH ?_
    rotate_left
    · intro W hS
      go_simp
      first | done | with_reducible rfl
    simp only [Act.put, List.getElem_toArray, List.getElem_cons_succ, List.getElem_cons_zero, List.setIfInBounds_toArray, List.set_cons_zero, List.set_cons_succ]
    refine wpAnyH_take (i := 1) (v := ?_) rfl (by kernel_rfl) (by kernel_rfl) (by kernel_rfl) (fun _ _ _ h => h) (Or.inl ⟨by kernel_rfl, ?_⟩) hH ?_
    rotate_left
    · intro W hS
      go_simp
      first | done | with_reducible rfl
    simp only [Act.put, List.getElem_toArray, List.getElem_cons_succ, List.getElem_cons_zero, List.setIfInBounds_toArray, List.set_cons_zero, List.set_cons_succ]
    refine wpAnyH_take (i := 2) (v := ?_) rfl (by kernel_rfl) (by kernel_rfl) (by kernel_rfl) (fun _ _ _ h => h) (Or.inl ⟨by kernel_rfl, ?_⟩) hH ?_
    rotate_left
    · intro W hS
      go_simp
      first | done | with_reducible rfl
    simp only [Act.put, List.getElem_toArray, List.getElem_cons_succ, List.getElem_cons_zero, List.setIfInBounds_toArray, List.set_cons_zero, List.set_cons_succ]
    refine wpAnyH_take (i := 4) (v := ?_) rfl (by kernel_rfl) (by kernel_rfl) (by kernel_rfl) (fun _ _ _ h => h) (Or.inl ⟨by kernel_rfl, ?_⟩) hH ?_
    rotate_left
    · intro W hS
      go_simp
      first | done | with_reducible rfl
    simp only [Act.put, List.getElem_toArray, List.getElem_cons_succ, List.getElem_cons_zero, List.setIfInBounds_toArray, List.set_cons_zero, List.set_cons_succ]
    have hgD : rowIs W4.drew w.heap.size #[.int .i64 st, strV m, .int .i64 z, .slice ao1 (bareL L).length c1, .slice aob b.length cb] 55 := hg4
    have hbD := hbB.drew
    have HPD := hid (reads2_drew HR4.out)
    have HTD := hid (HTB4.out.below (Below.drew (Below.refl _ _)))
    clear hg4 hbB HR4 HTB4 hH
    generalize W4.drew = wd at *
    change Hid (Reads2 wd _ (bareL L)) at HPD
    refine wpAnyH_ready (rs := [3, 5]) (by kernel_rfl) (by simp) ?_
    refine AllReadyH.cons rfl (fun K hK => ?_) (AllReadyH.cons rfl (fun K hK => ?_) AllReadyH.nil)
    ·
      have q1 := hgD.cell 3
      go_simp
      clear q1
      refine hK.out _ _ trivial (fun _ => ?_)
      clear hK K
      try simp only [Act.put, List.getElem_toArray, List.getElem_cons_succ, List.getElem_cons_zero, List.setIfInBounds_toArray, List.set_cons_zero, List.set_cons_succ]
      refine wpAnyH_ready (rs := [5]) (by kernel_rfl) (by simp) ?_
      refine AllReadyH.cons rfl (fun K hK => ?_) AllReadyH.nil
      have q2 := hgD.cell 4
      go_simp
      clear q2
      refine hK.out _ _ trivial (fun _ => ?_)
      clear hK K
      try simp only [Act.put, List.getElem_toArray, List.getElem_cons_succ, List.getElem_cons_zero, List.setIfInBounds_toArray, List.set_cons_zero, List.set_cons_succ]
      refine wpAnyH_ready (rs := [6]) (by kernel_rfl) (by simp) ?_
      refine AllReadyH.cons rfl (fun K hK => ?_) AllReadyH.nil
      go_simp
      refine (lengthOf_any aob b.length cb hbl wd HTD.out).mono ?_
      rintro e wx3 ⟨rfl, hx3⟩
      have hg3x := hgD.below hx3
      have hb3x := chain2 hbD hbD.size hx3
      have HP3x := hid (HPD.out.below hx3)
      clear hgD hbD HPD HTD hx3
      refine hK.out _ _ trivial (fun _ => ?_)
      clear hK K
      try simp only [Act.put, List.getElem_toArray, List.getElem_cons_succ, List.getElem_cons_zero, List.setIfInBounds_toArray, List.set_cons_zero, List.set_cons_succ]
      refine wpAnyH_ready (rs := [7]) (by kernel_rfl) (by simp) ?_
      refine AllReadyH.cons rfl (fun K hK => ?_) AllReadyH.nil
      obtain ⟨wx4, hW4⟩ : ∃ W, W = wx3.alloc (.cells #[strV clN, strV (decL b.length)] 104) := ⟨_, rfl⟩
      have hx4 : Below wx3.heap.size wx3 wx4 := by rw [hW4]; exact below_alloc _ _
      have HM4x := hid (show Reads2 wx4 (.slice (some ⟨wx3.heap.size, 0, none⟩) 1 1) [lenFld b.length] from by rw [hW4]; exact reads2_new_at wx3 (lenFld b.length) 104 1 _ rfl)
      go_simp
      rw [← hW4]
      have hg4x := hg3x.below hx4
      have hb4x := chain2 hb3x hb3x.size hx4
      have HP4x := hid (HP3x.out.below hx4)
      clear hg3x hb3x HP3x hx4 hW4
      refine hK.out _ _ trivial (fun _ => ?_)
      clear hK K
      try simp only [Act.put, List.getElem_toArray, List.getElem_cons_succ, List.getElem_cons_zero, List.setIfInBounds_toArray, List.set_cons_zero, List.set_cons_succ]
      refine wpAnyH_ready (rs := [8]) (by kernel_rfl) (by simp) ?_
      refine AllReadyH.cons rfl (fun K hK => ?_) AllReadyH.nil
      go_simp
      refine (lWith_any _ _ (bareL L) [lenFld b.length] wx4 HP4x.out (okFs_bareL hk) HM4x.out (okFs_len b.length hbl)).mono ?_
      rintro e wx5 ⟨⟨v9, k9, rfl, ho9⟩, hx5⟩
      rw [with_len] at ho9
      obtain ⟨-, hr9⟩ := ho9.reads2
      obtain ⟨ao9, c9, rfl⟩ := hr9.form
      generalize (bareL L ++ [lenFld b.length]).length = N9 at hr9 ho9 ⊢
      have hin9 := (ownsRow_in ho9)
      have hlg9 := hg4x.lt
      have hg5x := hg4x.below hx5
      have hb5x := chain2 hb4x hb4x.size hx5
      have q3 := hg5x.cell 3
      have f3 := hg5x.free 3
      have hk9 := (Kept.refl (fun k => k = w.heap.size) wx5).setCell (i := 3) (.inl rfl) (.slice ao9 N9 c9)
      have HP := hid (reads2_kept hr9 hk9 (hin9.mono fun k hk => by have := hk.1; omega))
      change Hid (Reads2 _ _ (putL L (some b.length))) at HP
      have hrow := hg5x.setCell 3 (.slice ao9 N9 c9)
      have hbB := hb5x.setCell (p := ⟨w.heap.size, 3, none⟩) (Nat.le_refl _) (.slice ao9 N9 c9)
      have HROW := hid (And.intro hrow hbB)
      clear hg4x hb4x HP4x HM4x hx5 ho9 hr9 hin9 hk9 hg5x hb5x hrow hbB hlg9
      refine hK.out _ _ trivial (fun _ => ?_)
      clear hK K
      try simp only [Act.put, List.getElem_toArray, List.getElem_cons_succ, List.getElem_cons_zero, List.setIfInBounds_toArray, List.set_cons_zero, List.set_cons_succ]
      refine wpAnyH_take (i := 9) (v := ?_) rfl (by kernel_rfl) (by kernel_rfl) (by kernel_rfl) (fun _ _ _ h => h) (Or.inl ⟨by kernel_rfl, ?_⟩) trivial ?_
      rotate_left
      · intro W hS
        go_simp
        first | done | with_reducible rfl
      simp only [Act.put, List.getElem_toArray, List.getElem_cons_succ, List.getElem_cons_zero, List.setIfInBounds_toArray, List.set_cons_zero, List.set_cons_succ]
      refine wpAnyH_take (i := 10) (v := ?_) rfl (by kernel_rfl) (by kernel_rfl) (by kernel_rfl) (fun _ _ _ h => h) (Or.inl ⟨by kernel_rfl, ?_⟩) trivial ?_
      rotate_left
      · intro W hS
        go_simp
        first | done | with_reducible rfl
      simp only [Act.put, List.getElem_toArray, List.getElem_cons_succ, List.getElem_cons_zero, List.setIfInBounds_toArray, List.set_cons_zero, List.set_cons_succ]
      refine wpAnyH_take (i := 11) (v := ?_) rfl (by kernel_rfl) (by kernel_rfl) (by kernel_rfl) (fun _ _ _ h => h) (Or.inl ⟨by kernel_rfl, ?_⟩) trivial ?_
      rotate_left
      · intro W hS
        go_simp
        first | done | with_reducible rfl
      simp only [Act.put, List.getElem_toArray, List.getElem_cons_succ, List.getElem_cons_zero, List.setIfInBounds_toArray, List.set_cons_zero, List.set_cons_succ]
      refine wpAnyH_ready (rs := [12]) (by kernel_rfl) (by simp) ?_
      refine AllReadyH.cons rfl (fun K hK => ?_) AllReadyH.nil
      go_simp
      refine hK.out _ _ trivial (fun _ => ?_)
      clear hK K
      try simp only [Act.put, List.getElem_toArray, List.getElem_cons_succ, List.getElem_cons_zero, List.setIfInBounds_toArray, List.set_cons_zero, List.set_cons_succ]
      refine wpAnyH_done (by kernel_rfl) ?_ _
      clear q3 f3
      obtain ⟨hrow, hbB⟩ := HROW.out
      have hkP := okFs_putL hk hl (o := some b.length) (fun n h => by cases h; exact hbl)
      obtain ⟨wf, hwf⟩ : ∃ W, W = wx5.setCell ⟨w.heap.size, 3, none⟩ (.slice ao9 N9 c9) := ⟨_, rfl⟩
      rw [← hwf] at hrow hbB HP ⊢
      clear hwf HROW
      generalize ao9 = aoP at *
      generalize N9 = nP at *
      generalize c9 = cP at *
      have g0 := hrow.cell 0
      have g1 := hrow.cell 1
      have g2 := hrow.cell 2
      have g3 := hrow.cell 3
      have hbo := bytes_below HBY.out hbB
      have hgl := hrow.lt
      obtain ⟨T, hT⟩ : ∃ T, textH (resLine ⟨m, [], st.toNat, z.toNat, []⟩) (putL L (some b.length)) = T := ⟨_, rfl⟩
      have HT := hid hT
      cases hq : rightS st m z (putL L (some b.length)) with
      | false =>
        have CS := hid (ShowResponse_no st m z (.slice aoP nP cP) (putL L (some b.length)) wf hm HP.out hkP hq)
        have CJ := hid (fun W' => join_err [] 10 (by decide) aob b.length cb W')
        have HQ := hid hq
        clear hq hkP HP hT
        go_wp2_with fail
        skip
        refine CS.out.mono ?_
        rintro e w5 ⟨rfl, hb5⟩
        have g4 := (hrow.below hb5).cell 4
        have HB := hid (chain2 hbB hbB.size hb5)
        clear CS hb5 hrow hbB hbo
        go_wp2_with fail
        refine (CJ.out _).mono ?_
        rintro e w6 ⟨rfl, rfl⟩
        go_wp2_with fail
        go_ret2
        refine ⟨?_, HB.out⟩
        rw [HNB.out, HQ.out]
        unfold putX
        rw [if_pos rfl]
        exact ⟨by decide, rfl⟩
      | true =>
        obtain ⟨hz0, hs1, hs2⟩ := rightS_pos hq
        obtain ⟨sn, hsn⟩ : ∃ sn : Nat, st = (sn : Int) := ⟨st.toNat, by omega⟩
        have cs := ShowResponse_yes sn m z (.slice aoP nP cP) (putL L (some b.length)) wf hm HP.out hkP hz0 (by omega) (by omega) (HTB.out.below hbB) (by rw [← hsn]; exact hq)
        have hsn2 : sn = st.toNat := by omega
        rw [hsn2, hT] at cs
        rw [show ((st.toNat : Nat) : Int) = st by omega] at cs
        have HQ := hid hq
        clear hsn hsn2
        by_cases h4 : 4096 < T.length
        · simp only [if_pos h4] at cs
          have CS := hid cs
          have CJ := hid (fun W' => join_err [] 22 (by decide) aob b.length cb W')
          have H4 := hid h4
          clear hq hkP HP cs hT h4 hz0 hs1 hs2
          go_wp2_with fail
          skip
          refine CS.out.mono ?_
          rintro e w5 ⟨rfl, hb5⟩
          have g4 := (hrow.below hb5).cell 4
          have HB := hid (chain2 hbB hbB.size hb5)
          clear CS hb5 hrow hbB hbo
          go_wp2_with fail
          refine (CJ.out _).mono ?_
          rintro e w6 ⟨rfl, rfl⟩
          go_wp2_with fail
          go_ret2
          refine ⟨?_, HB.out⟩
          rw [HNB.out, HQ.out, HT.out]
          unfold putX
          rw [if_neg (by simp), if_pos H4.out]
          exact ⟨by decide, rfl⟩
        · simp only [if_neg h4] at cs
          have CS := hid cs
          have CJ := hid (fun W' hW' => join_ok T b (.slice aob b.length cb) W' hW' (by omega) (by first | omega | (simp only [List.length_nil] at *; omega)))
          have CB := hid (fun W' => bodiless_any mt st W')
          have H4 := hid (And.intro h4 hm)
          clear hq hkP HP cs hT h4 hz0 hs1 hs2
          go_wp2_with fail
          skip
          refine CS.out.mono ?_
          rintro e w5 ⟨rfl, hb5⟩
          have hrow5 := hrow.below hb5
          have g4 := hrow5.cell 4
          have hbo5 := bytes_below hbo hb5
          have hbN := chain2 hbB hbB.size hb5
          have HB := hid hbN
          have HBO := hid hbo5
          clear CS hb5 hrow hbB hbo hbo5 hbN
          go_wp2_with fail
          refine (CJ.out _ HBO.out).mono ?_
          rintro e w6 ⟨hp, hb6⟩
          try simp only [List.length_nil] at hp
          have hrow6 := hrow5.below hb6
          have HB6 := hid (chain2 HB.out HB.out.size hb6)
          by_cases h2 : 2048 < b.length
          · rw [if_pos h2] at hp
            obtain ⟨-, rfl⟩ := hp
            have H2 := hid h2
            clear hb6 CJ h2
            go_wp2_with fail
            go_ret2
            refine ⟨?_, HB6.out⟩
            rw [HNB.out, HQ.out, HT.out]
            unfold putX
            try simp only [List.length_nil]
            rw [if_neg (by simp), if_neg H4.out.1, if_pos H2.out]
            exact ⟨by decide, rfl⟩
          · rw [if_neg h2] at hp
            obtain ⟨S, hS⟩ : ∃ S, T ++ b = S := ⟨_, rfl⟩
            rw [hS] at hp
            have HS := hid hS
            clear hS
            obtain ⟨ao9, c9, rfl, hby9⟩ := hp
            have H2 := hid h2
            have HY := hid hby9
            have g0 := hrow6.cell 0
            clear hb6 CJ hby9 h2 hrow5 g4
            go_wp2_with fail
            refine (CB.out _).mono ?_
            rintro e w7 ⟨rfl, hb7⟩
            have HB7 := hid (chain2 HB6.out HB6.out.size hb7)
            have HY7 := hid (bytes_below HY.out hb7)
            clear hb7 HY HB6 CB
            cases hbx : bareX (mt == [72, 69, 65, 68]) st with
            | false =>
              have HX := hid hbx
              clear hbx
              go_wp2_with fail
              go_ret2
              refine ⟨?_, HB7.out⟩
              rw [HNB.out, HQ.out, HT.out, HX.out]
              unfold putX
              try simp only [List.length_nil]
              rw [if_neg (by simp), if_neg H4.out.1, if_neg H2.out]
              simp only [Bool.false_eq_true, if_false]
              rw [HS.out]
              exact ⟨ao9, c9, rfl, HY7.out⟩
            | true =>
              have HX := hid hbx
              obtain ⟨capb, W8, cur, fz, hcv, hg8, hfz, hcc, htk, hxc, hbW8⟩ := bytes_conv (P := Tryz.prog) w7 T 9 27 5 Tryz.underlying9 Tryz.underlying27 Tryz.underlying5
              have hrd8 := reads_row hg8 (T.map byteV) capb (by rw [List.length_map]; exact htk)
              rw [List.length_map] at hrd8
              have HY8 := hid (bytes_of hrd8 hxc)
              have HB8 := hid (chain2 HB7.out HB7.out.size hbW8)
              clear hbx hg8 hfz hcc htk hxc hbW8 hrd8
              go_wp2_with fail
              go_ret2
              refine ⟨?_, HB8.out⟩
              rw [HNB.out, HQ.out, HT.out, HX.out]
              unfold putX
              try simp only [List.length_nil]
              rw [if_neg (by simp), if_neg H4.out.1, if_neg H2.out]
              exact ⟨_, _, rfl, HY8.out⟩
    ·
      have q1 := hgD.cell 4
      go_simp
      clear q1
      refine hK.out _ _ trivial (fun _ => ?_)
      clear hK K
      try simp only [Act.put, List.getElem_toArray, List.getElem_cons_succ, List.getElem_cons_zero, List.setIfInBounds_toArray, List.set_cons_zero, List.set_cons_succ]
      refine wpAnyH_ready (rs := [3, 6]) (by kernel_rfl) (by simp) ?_
      refine AllReadyH.cons rfl (fun K hK => ?_) (AllReadyH.cons rfl (fun K hK => ?_) AllReadyH.nil)
      ·
        have q2 := hgD.cell 3
        go_simp
        clear q2
        refine hK.out _ _ trivial (fun _ => ?_)
        clear hK K
        try simp only [Act.put, List.getElem_toArray, List.getElem_cons_succ, List.getElem_cons_zero, List.setIfInBounds_toArray, List.set_cons_zero, List.set_cons_succ]
        refine wpAnyH_ready (rs := [6]) (by kernel_rfl) (by simp) ?_
        refine AllReadyH.cons rfl (fun K hK => ?_) AllReadyH.nil
        go_simp
        refine (lengthOf_any aob b.length cb hbl wd HTD.out).mono ?_
        rintro e wx3 ⟨rfl, hx3⟩
        have hg3x := hgD.below hx3
        have hb3x := chain2 hbD hbD.size hx3
        have HP3x := hid (HPD.out.below hx3)
        clear hgD hbD HPD HTD hx3
        refine hK.out _ _ trivial (fun _ => ?_)
        clear hK K
        try simp only [Act.put, List.getElem_toArray, List.getElem_cons_succ, List.getElem_cons_zero, List.setIfInBounds_toArray, List.set_cons_zero, List.set_cons_succ]
        refine wpAnyH_ready (rs := [7]) (by kernel_rfl) (by simp) ?_
        refine AllReadyH.cons rfl (fun K hK => ?_) AllReadyH.nil
        obtain ⟨wx4, hW4⟩ : ∃ W, W = wx3.alloc (.cells #[strV clN, strV (decL b.length)] 104) := ⟨_, rfl⟩
        have hx4 : Below wx3.heap.size wx3 wx4 := by rw [hW4]; exact below_alloc _ _
        have HM4x := hid (show Reads2 wx4 (.slice (some ⟨wx3.heap.size, 0, none⟩) 1 1) [lenFld b.length] from by rw [hW4]; exact reads2_new_at wx3 (lenFld b.length) 104 1 _ rfl)
        go_simp
        rw [← hW4]
        have hg4x := hg3x.below hx4
        have hb4x := chain2 hb3x hb3x.size hx4
        have HP4x := hid (HP3x.out.below hx4)
        clear hg3x hb3x HP3x hx4 hW4
        refine hK.out _ _ trivial (fun _ => ?_)
        clear hK K
        try simp only [Act.put, List.getElem_toArray, List.getElem_cons_succ, List.getElem_cons_zero, List.setIfInBounds_toArray, List.set_cons_zero, List.set_cons_succ]
        refine wpAnyH_ready (rs := [8]) (by kernel_rfl) (by simp) ?_
        refine AllReadyH.cons rfl (fun K hK => ?_) AllReadyH.nil
        go_simp
        refine (lWith_any _ _ (bareL L) [lenFld b.length] wx4 HP4x.out (okFs_bareL hk) HM4x.out (okFs_len b.length hbl)).mono ?_
        rintro e wx5 ⟨⟨v9, k9, rfl, ho9⟩, hx5⟩
        rw [with_len] at ho9
        obtain ⟨-, hr9⟩ := ho9.reads2
        obtain ⟨ao9, c9, rfl⟩ := hr9.form
        generalize (bareL L ++ [lenFld b.length]).length = N9 at hr9 ho9 ⊢
        have hin9 := (ownsRow_in ho9)
        have hlg9 := hg4x.lt
        have hg5x := hg4x.below hx5
        have hb5x := chain2 hb4x hb4x.size hx5
        have q3 := hg5x.cell 3
        have f3 := hg5x.free 3
        have hk9 := (Kept.refl (fun k => k = w.heap.size) wx5).setCell (i := 3) (.inl rfl) (.slice ao9 N9 c9)
        have HP := hid (reads2_kept hr9 hk9 (hin9.mono fun k hk => by have := hk.1; omega))
        change Hid (Reads2 _ _ (putL L (some b.length))) at HP
        have hrow := hg5x.setCell 3 (.slice ao9 N9 c9)
        have hbB := hb5x.setCell (p := ⟨w.heap.size, 3, none⟩) (Nat.le_refl _) (.slice ao9 N9 c9)
        have HROW := hid (And.intro hrow hbB)
        clear hg4x hb4x HP4x HM4x hx5 ho9 hr9 hin9 hk9 hg5x hb5x hrow hbB hlg9
        refine hK.out _ _ trivial (fun _ => ?_)
        clear hK K
        try simp only [Act.put, List.getElem_toArray, List.getElem_cons_succ, List.getElem_cons_zero, List.setIfInBounds_toArray, List.set_cons_zero, List.set_cons_succ]
        refine wpAnyH_take (i := 9) (v := ?_) rfl (by kernel_rfl) (by kernel_rfl) (by kernel_rfl) (fun _ _ _ h => h) (Or.inl ⟨by kernel_rfl, ?_⟩) trivial ?_
        rotate_left
        · intro W hS
          go_simp
          first | done | with_reducible rfl
        simp only [Act.put, List.getElem_toArray, List.getElem_cons_succ, List.getElem_cons_zero, List.setIfInBounds_toArray, List.set_cons_zero, List.set_cons_succ]
        refine wpAnyH_take (i := 10) (v := ?_) rfl (by kernel_rfl) (by kernel_rfl) (by kernel_rfl) (fun _ _ _ h => h) (Or.inl ⟨by kernel_rfl, ?_⟩) trivial ?_
        rotate_left
        · intro W hS
          go_simp
          first | done | with_reducible rfl
        simp only [Act.put, List.getElem_toArray, List.getElem_cons_succ, List.getElem_cons_zero, List.setIfInBounds_toArray, List.set_cons_zero, List.set_cons_succ]
        refine wpAnyH_take (i := 11) (v := ?_) rfl (by kernel_rfl) (by kernel_rfl) (by kernel_rfl) (fun _ _ _ h => h) (Or.inl ⟨by kernel_rfl, ?_⟩) trivial ?_
        rotate_left
        · intro W hS
          go_simp
          first | done | with_reducible rfl
        simp only [Act.put, List.getElem_toArray, List.getElem_cons_succ, List.getElem_cons_zero, List.setIfInBounds_toArray, List.set_cons_zero, List.set_cons_succ]
        refine wpAnyH_ready (rs := [12]) (by kernel_rfl) (by simp) ?_
        refine AllReadyH.cons rfl (fun K hK => ?_) AllReadyH.nil
        go_simp
        refine hK.out _ _ trivial (fun _ => ?_)
        clear hK K
        try simp only [Act.put, List.getElem_toArray, List.getElem_cons_succ, List.getElem_cons_zero, List.setIfInBounds_toArray, List.set_cons_zero, List.set_cons_succ]
        refine wpAnyH_done (by kernel_rfl) ?_ _
        clear q3 f3
        obtain ⟨hrow, hbB⟩ := HROW.out
        have hkP := okFs_putL hk hl (o := some b.length) (fun n h => by cases h; exact hbl)
        obtain ⟨wf, hwf⟩ : ∃ W, W = wx5.setCell ⟨w.heap.size, 3, none⟩ (.slice ao9 N9 c9) := ⟨_, rfl⟩
        rw [← hwf] at hrow hbB HP ⊢
        clear hwf HROW
        generalize ao9 = aoP at *
        generalize N9 = nP at *
        generalize c9 = cP at *
        have g0 := hrow.cell 0
        have g1 := hrow.cell 1
        have g2 := hrow.cell 2
        have g3 := hrow.cell 3
        have hbo := bytes_below HBY.out hbB
        have hgl := hrow.lt
        obtain ⟨T, hT⟩ : ∃ T, textH (resLine ⟨m, [], st.toNat, z.toNat, []⟩) (putL L (some b.length)) = T := ⟨_, rfl⟩
        have HT := hid hT
        cases hq : rightS st m z (putL L (some b.length)) with
        | false =>
          have CS := hid (ShowResponse_no st m z (.slice aoP nP cP) (putL L (some b.length)) wf hm HP.out hkP hq)
          have CJ := hid (fun W' => join_err [] 10 (by decide) aob b.length cb W')
          have HQ := hid hq
          clear hq hkP HP hT
          go_wp2_with fail
          skip
          refine CS.out.mono ?_
          rintro e w5 ⟨rfl, hb5⟩
          have g4 := (hrow.below hb5).cell 4
          have HB := hid (chain2 hbB hbB.size hb5)
          clear CS hb5 hrow hbB hbo
          go_wp2_with fail
          refine (CJ.out _).mono ?_
          rintro e w6 ⟨rfl, rfl⟩
          go_wp2_with fail
          go_ret2
          refine ⟨?_, HB.out⟩
          rw [HNB.out, HQ.out]
          unfold putX
          rw [if_pos rfl]
          exact ⟨by decide, rfl⟩
        | true =>
          obtain ⟨hz0, hs1, hs2⟩ := rightS_pos hq
          obtain ⟨sn, hsn⟩ : ∃ sn : Nat, st = (sn : Int) := ⟨st.toNat, by omega⟩
          have cs := ShowResponse_yes sn m z (.slice aoP nP cP) (putL L (some b.length)) wf hm HP.out hkP hz0 (by omega) (by omega) (HTB.out.below hbB) (by rw [← hsn]; exact hq)
          have hsn2 : sn = st.toNat := by omega
          rw [hsn2, hT] at cs
          rw [show ((st.toNat : Nat) : Int) = st by omega] at cs
          have HQ := hid hq
          clear hsn hsn2
          by_cases h4 : 4096 < T.length
          · simp only [if_pos h4] at cs
            have CS := hid cs
            have CJ := hid (fun W' => join_err [] 22 (by decide) aob b.length cb W')
            have H4 := hid h4
            clear hq hkP HP cs hT h4 hz0 hs1 hs2
            go_wp2_with fail
            skip
            refine CS.out.mono ?_
            rintro e w5 ⟨rfl, hb5⟩
            have g4 := (hrow.below hb5).cell 4
            have HB := hid (chain2 hbB hbB.size hb5)
            clear CS hb5 hrow hbB hbo
            go_wp2_with fail
            refine (CJ.out _).mono ?_
            rintro e w6 ⟨rfl, rfl⟩
            go_wp2_with fail
            go_ret2
            refine ⟨?_, HB.out⟩
            rw [HNB.out, HQ.out, HT.out]
            unfold putX
            rw [if_neg (by simp), if_pos H4.out]
            exact ⟨by decide, rfl⟩
          · simp only [if_neg h4] at cs
            have CS := hid cs
            have CJ := hid (fun W' hW' => join_ok T b (.slice aob b.length cb) W' hW' (by omega) (by first | omega | (simp only [List.length_nil] at *; omega)))
            have CB := hid (fun W' => bodiless_any mt st W')
            have H4 := hid (And.intro h4 hm)
            clear hq hkP HP cs hT h4 hz0 hs1 hs2
            go_wp2_with fail
            skip
            refine CS.out.mono ?_
            rintro e w5 ⟨rfl, hb5⟩
            have hrow5 := hrow.below hb5
            have g4 := hrow5.cell 4
            have hbo5 := bytes_below hbo hb5
            have hbN := chain2 hbB hbB.size hb5
            have HB := hid hbN
            have HBO := hid hbo5
            clear CS hb5 hrow hbB hbo hbo5 hbN
            go_wp2_with fail
            refine (CJ.out _ HBO.out).mono ?_
            rintro e w6 ⟨hp, hb6⟩
            try simp only [List.length_nil] at hp
            have hrow6 := hrow5.below hb6
            have HB6 := hid (chain2 HB.out HB.out.size hb6)
            by_cases h2 : 2048 < b.length
            · rw [if_pos h2] at hp
              obtain ⟨-, rfl⟩ := hp
              have H2 := hid h2
              clear hb6 CJ h2
              go_wp2_with fail
              go_ret2
              refine ⟨?_, HB6.out⟩
              rw [HNB.out, HQ.out, HT.out]
              unfold putX
              try simp only [List.length_nil]
              rw [if_neg (by simp), if_neg H4.out.1, if_pos H2.out]
              exact ⟨by decide, rfl⟩
            · rw [if_neg h2] at hp
              obtain ⟨S, hS⟩ : ∃ S, T ++ b = S := ⟨_, rfl⟩
              rw [hS] at hp
              have HS := hid hS
              clear hS
              obtain ⟨ao9, c9, rfl, hby9⟩ := hp
              have H2 := hid h2
              have HY := hid hby9
              have g0 := hrow6.cell 0
              clear hb6 CJ hby9 h2 hrow5 g4
              go_wp2_with fail
              refine (CB.out _).mono ?_
              rintro e w7 ⟨rfl, hb7⟩
              have HB7 := hid (chain2 HB6.out HB6.out.size hb7)
              have HY7 := hid (bytes_below HY.out hb7)
              clear hb7 HY HB6 CB
              cases hbx : bareX (mt == [72, 69, 65, 68]) st with
              | false =>
                have HX := hid hbx
                clear hbx
                go_wp2_with fail
                go_ret2
                refine ⟨?_, HB7.out⟩
                rw [HNB.out, HQ.out, HT.out, HX.out]
                unfold putX
                try simp only [List.length_nil]
                rw [if_neg (by simp), if_neg H4.out.1, if_neg H2.out]
                simp only [Bool.false_eq_true, if_false]
                rw [HS.out]
                exact ⟨ao9, c9, rfl, HY7.out⟩
              | true =>
                have HX := hid hbx
                obtain ⟨capb, W8, cur, fz, hcv, hg8, hfz, hcc, htk, hxc, hbW8⟩ := bytes_conv (P := Tryz.prog) w7 T 9 27 5 Tryz.underlying9 Tryz.underlying27 Tryz.underlying5
                have hrd8 := reads_row hg8 (T.map byteV) capb (by rw [List.length_map]; exact htk)
                rw [List.length_map] at hrd8
                have HY8 := hid (bytes_of hrd8 hxc)
                have HB8 := hid (chain2 HB7.out HB7.out.size hbW8)
                clear hbx hg8 hfz hcc htk hxc hbW8 hrd8
                go_wp2_with fail
                go_ret2
                refine ⟨?_, HB8.out⟩
                rw [HNB.out, HQ.out, HT.out, HX.out]
                unfold putX
                try simp only [List.length_nil]
                rw [if_neg (by simp), if_neg H4.out.1, if_neg H2.out]
                exact ⟨_, _, rfl, HY8.out⟩
      ·
        go_simp
        refine (lengthOf_any aob b.length cb hbl wd HTD.out).mono ?_
        rintro e wx2 ⟨rfl, hx2⟩
        have hg2x := hgD.below hx2
        have hb2x := chain2 hbD hbD.size hx2
        have HP2x := hid (HPD.out.below hx2)
        clear hgD hbD HPD HTD hx2
        refine hK.out _ _ trivial (fun _ => ?_)
        clear hK K
        try simp only [Act.put, List.getElem_toArray, List.getElem_cons_succ, List.getElem_cons_zero, List.setIfInBounds_toArray, List.set_cons_zero, List.set_cons_succ]
        refine wpAnyH_ready (rs := [3, 7]) (by kernel_rfl) (by simp) ?_
        refine AllReadyH.cons rfl (fun K hK => ?_) (AllReadyH.cons rfl (fun K hK => ?_) AllReadyH.nil)
        ·
          have q3 := hg2x.cell 3
          go_simp
          clear q3
          refine hK.out _ _ trivial (fun _ => ?_)
          clear hK K
          try simp only [Act.put, List.getElem_toArray, List.getElem_cons_succ, List.getElem_cons_zero, List.setIfInBounds_toArray, List.set_cons_zero, List.set_cons_succ]
          refine wpAnyH_ready (rs := [7]) (by kernel_rfl) (by simp) ?_
          refine AllReadyH.cons rfl (fun K hK => ?_) AllReadyH.nil
          obtain ⟨wx4, hW4⟩ : ∃ W, W = wx2.alloc (.cells #[strV clN, strV (decL b.length)] 104) := ⟨_, rfl⟩
          have hx4 : Below wx2.heap.size wx2 wx4 := by rw [hW4]; exact below_alloc _ _
          have HM4x := hid (show Reads2 wx4 (.slice (some ⟨wx2.heap.size, 0, none⟩) 1 1) [lenFld b.length] from by rw [hW4]; exact reads2_new_at wx2 (lenFld b.length) 104 1 _ rfl)
          go_simp
          rw [← hW4]
          have hg4x := hg2x.below hx4
          have hb4x := chain2 hb2x hb2x.size hx4
          have HP4x := hid (HP2x.out.below hx4)
          clear hg2x hb2x HP2x hx4 hW4
          refine hK.out _ _ trivial (fun _ => ?_)
          clear hK K
          try simp only [Act.put, List.getElem_toArray, List.getElem_cons_succ, List.getElem_cons_zero, List.setIfInBounds_toArray, List.set_cons_zero, List.set_cons_succ]
          refine wpAnyH_ready (rs := [8]) (by kernel_rfl) (by simp) ?_
          refine AllReadyH.cons rfl (fun K hK => ?_) AllReadyH.nil
          go_simp
          refine (lWith_any _ _ (bareL L) [lenFld b.length] wx4 HP4x.out (okFs_bareL hk) HM4x.out (okFs_len b.length hbl)).mono ?_
          rintro e wx5 ⟨⟨v9, k9, rfl, ho9⟩, hx5⟩
          rw [with_len] at ho9
          obtain ⟨-, hr9⟩ := ho9.reads2
          obtain ⟨ao9, c9, rfl⟩ := hr9.form
          generalize (bareL L ++ [lenFld b.length]).length = N9 at hr9 ho9 ⊢
          have hin9 := (ownsRow_in ho9)
          have hlg9 := hg4x.lt
          have hg5x := hg4x.below hx5
          have hb5x := chain2 hb4x hb4x.size hx5
          have q3 := hg5x.cell 3
          have f3 := hg5x.free 3
          have hk9 := (Kept.refl (fun k => k = w.heap.size) wx5).setCell (i := 3) (.inl rfl) (.slice ao9 N9 c9)
          have HP := hid (reads2_kept hr9 hk9 (hin9.mono fun k hk => by have := hk.1; omega))
          change Hid (Reads2 _ _ (putL L (some b.length))) at HP
          have hrow := hg5x.setCell 3 (.slice ao9 N9 c9)
          have hbB := hb5x.setCell (p := ⟨w.heap.size, 3, none⟩) (Nat.le_refl _) (.slice ao9 N9 c9)
          have HROW := hid (And.intro hrow hbB)
          clear hg4x hb4x HP4x HM4x hx5 ho9 hr9 hin9 hk9 hg5x hb5x hrow hbB hlg9
          refine hK.out _ _ trivial (fun _ => ?_)
          clear hK K
          try simp only [Act.put, List.getElem_toArray, List.getElem_cons_succ, List.getElem_cons_zero, List.setIfInBounds_toArray, List.set_cons_zero, List.set_cons_succ]
          refine wpAnyH_take (i := 9) (v := ?_) rfl (by kernel_rfl) (by kernel_rfl) (by kernel_rfl) (fun _ _ _ h => h) (Or.inl ⟨by kernel_rfl, ?_⟩) trivial ?_
          rotate_left
          · intro W hS
            go_simp
            first | done | with_reducible rfl
          simp only [Act.put, List.getElem_toArray, List.getElem_cons_succ, List.getElem_cons_zero, List.setIfInBounds_toArray, List.set_cons_zero, List.set_cons_succ]
          refine wpAnyH_take (i := 10) (v := ?_) rfl (by kernel_rfl) (by kernel_rfl) (by kernel_rfl) (fun _ _ _ h => h) (Or.inl ⟨by kernel_rfl, ?_⟩) trivial ?_
          rotate_left
          · intro W hS
            go_simp
            first | done | with_reducible rfl
          simp only [Act.put, List.getElem_toArray, List.getElem_cons_succ, List.getElem_cons_zero, List.setIfInBounds_toArray, List.set_cons_zero, List.set_cons_succ]
          refine wpAnyH_take (i := 11) (v := ?_) rfl (by kernel_rfl) (by kernel_rfl) (by kernel_rfl) (fun _ _ _ h => h) (Or.inl ⟨by kernel_rfl, ?_⟩) trivial ?_
          rotate_left
          · intro W hS
            go_simp
            first | done | with_reducible rfl
          simp only [Act.put, List.getElem_toArray, List.getElem_cons_succ, List.getElem_cons_zero, List.setIfInBounds_toArray, List.set_cons_zero, List.set_cons_succ]
          refine wpAnyH_ready (rs := [12]) (by kernel_rfl) (by simp) ?_
          refine AllReadyH.cons rfl (fun K hK => ?_) AllReadyH.nil
          go_simp
          refine hK.out _ _ trivial (fun _ => ?_)
          clear hK K
          try simp only [Act.put, List.getElem_toArray, List.getElem_cons_succ, List.getElem_cons_zero, List.setIfInBounds_toArray, List.set_cons_zero, List.set_cons_succ]
          refine wpAnyH_done (by kernel_rfl) ?_ _
          clear q3 f3
          obtain ⟨hrow, hbB⟩ := HROW.out
          have hkP := okFs_putL hk hl (o := some b.length) (fun n h => by cases h; exact hbl)
          obtain ⟨wf, hwf⟩ : ∃ W, W = wx5.setCell ⟨w.heap.size, 3, none⟩ (.slice ao9 N9 c9) := ⟨_, rfl⟩
          rw [← hwf] at hrow hbB HP ⊢
          clear hwf HROW
          generalize ao9 = aoP at *
          generalize N9 = nP at *
          generalize c9 = cP at *
          have g0 := hrow.cell 0
          have g1 := hrow.cell 1
          have g2 := hrow.cell 2
          have g3 := hrow.cell 3
          have hbo := bytes_below HBY.out hbB
          have hgl := hrow.lt
          obtain ⟨T, hT⟩ : ∃ T, textH (resLine ⟨m, [], st.toNat, z.toNat, []⟩) (putL L (some b.length)) = T := ⟨_, rfl⟩
          have HT := hid hT
          cases hq : rightS st m z (putL L (some b.length)) with
          | false =>
            have CS := hid (ShowResponse_no st m z (.slice aoP nP cP) (putL L (some b.length)) wf hm HP.out hkP hq)
            have CJ := hid (fun W' => join_err [] 10 (by decide) aob b.length cb W')
            have HQ := hid hq
            clear hq hkP HP hT
            go_wp2_with fail
            skip
            refine CS.out.mono ?_
            rintro e w5 ⟨rfl, hb5⟩
            have g4 := (hrow.below hb5).cell 4
            have HB := hid (chain2 hbB hbB.size hb5)
            clear CS hb5 hrow hbB hbo
            go_wp2_with fail
            refine (CJ.out _).mono ?_
            rintro e w6 ⟨rfl, rfl⟩
            go_wp2_with fail
            go_ret2
            refine ⟨?_, HB.out⟩
            rw [HNB.out, HQ.out]
            unfold putX
            rw [if_pos rfl]
            exact ⟨by decide, rfl⟩
          | true =>
            obtain ⟨hz0, hs1, hs2⟩ := rightS_pos hq
            obtain ⟨sn, hsn⟩ : ∃ sn : Nat, st = (sn : Int) := ⟨st.toNat, by omega⟩
            have cs := ShowResponse_yes sn m z (.slice aoP nP cP) (putL L (some b.length)) wf hm HP.out hkP hz0 (by omega) (by omega) (HTB.out.below hbB) (by rw [← hsn]; exact hq)
            have hsn2 : sn = st.toNat := by omega
            rw [hsn2, hT] at cs
            rw [show ((st.toNat : Nat) : Int) = st by omega] at cs
            have HQ := hid hq
            clear hsn hsn2
            by_cases h4 : 4096 < T.length
            · simp only [if_pos h4] at cs
              have CS := hid cs
              have CJ := hid (fun W' => join_err [] 22 (by decide) aob b.length cb W')
              have H4 := hid h4
              clear hq hkP HP cs hT h4 hz0 hs1 hs2
              go_wp2_with fail
              skip
              refine CS.out.mono ?_
              rintro e w5 ⟨rfl, hb5⟩
              have g4 := (hrow.below hb5).cell 4
              have HB := hid (chain2 hbB hbB.size hb5)
              clear CS hb5 hrow hbB hbo
              go_wp2_with fail
              refine (CJ.out _).mono ?_
              rintro e w6 ⟨rfl, rfl⟩
              go_wp2_with fail
              go_ret2
              refine ⟨?_, HB.out⟩
              rw [HNB.out, HQ.out, HT.out]
              unfold putX
              rw [if_neg (by simp), if_pos H4.out]
              exact ⟨by decide, rfl⟩
            · simp only [if_neg h4] at cs
              have CS := hid cs
              have CJ := hid (fun W' hW' => join_ok T b (.slice aob b.length cb) W' hW' (by omega) (by first | omega | (simp only [List.length_nil] at *; omega)))
              have CB := hid (fun W' => bodiless_any mt st W')
              have H4 := hid (And.intro h4 hm)
              clear hq hkP HP cs hT h4 hz0 hs1 hs2
              go_wp2_with fail
              skip
              refine CS.out.mono ?_
              rintro e w5 ⟨rfl, hb5⟩
              have hrow5 := hrow.below hb5
              have g4 := hrow5.cell 4
              have hbo5 := bytes_below hbo hb5
              have hbN := chain2 hbB hbB.size hb5
              have HB := hid hbN
              have HBO := hid hbo5
              clear CS hb5 hrow hbB hbo hbo5 hbN
              go_wp2_with fail
              refine (CJ.out _ HBO.out).mono ?_
              rintro e w6 ⟨hp, hb6⟩
              try simp only [List.length_nil] at hp
              have hrow6 := hrow5.below hb6
              have HB6 := hid (chain2 HB.out HB.out.size hb6)
              by_cases h2 : 2048 < b.length
              · rw [if_pos h2] at hp
                obtain ⟨-, rfl⟩ := hp
                have H2 := hid h2
                clear hb6 CJ h2
                go_wp2_with fail
                go_ret2
                refine ⟨?_, HB6.out⟩
                rw [HNB.out, HQ.out, HT.out]
                unfold putX
                try simp only [List.length_nil]
                rw [if_neg (by simp), if_neg H4.out.1, if_pos H2.out]
                exact ⟨by decide, rfl⟩
              · rw [if_neg h2] at hp
                obtain ⟨S, hS⟩ : ∃ S, T ++ b = S := ⟨_, rfl⟩
                rw [hS] at hp
                have HS := hid hS
                clear hS
                obtain ⟨ao9, c9, rfl, hby9⟩ := hp
                have H2 := hid h2
                have HY := hid hby9
                have g0 := hrow6.cell 0
                clear hb6 CJ hby9 h2 hrow5 g4
                go_wp2_with fail
                refine (CB.out _).mono ?_
                rintro e w7 ⟨rfl, hb7⟩
                have HB7 := hid (chain2 HB6.out HB6.out.size hb7)
                have HY7 := hid (bytes_below HY.out hb7)
                clear hb7 HY HB6 CB
                cases hbx : bareX (mt == [72, 69, 65, 68]) st with
                | false =>
                  have HX := hid hbx
                  clear hbx
                  go_wp2_with fail
                  go_ret2
                  refine ⟨?_, HB7.out⟩
                  rw [HNB.out, HQ.out, HT.out, HX.out]
                  unfold putX
                  try simp only [List.length_nil]
                  rw [if_neg (by simp), if_neg H4.out.1, if_neg H2.out]
                  simp only [Bool.false_eq_true, if_false]
                  rw [HS.out]
                  exact ⟨ao9, c9, rfl, HY7.out⟩
                | true =>
                  have HX := hid hbx
                  obtain ⟨capb, W8, cur, fz, hcv, hg8, hfz, hcc, htk, hxc, hbW8⟩ := bytes_conv (P := Tryz.prog) w7 T 9 27 5 Tryz.underlying9 Tryz.underlying27 Tryz.underlying5
                  have hrd8 := reads_row hg8 (T.map byteV) capb (by rw [List.length_map]; exact htk)
                  rw [List.length_map] at hrd8
                  have HY8 := hid (bytes_of hrd8 hxc)
                  have HB8 := hid (chain2 HB7.out HB7.out.size hbW8)
                  clear hbx hg8 hfz hcc htk hxc hbW8 hrd8
                  go_wp2_with fail
                  go_ret2
                  refine ⟨?_, HB8.out⟩
                  rw [HNB.out, HQ.out, HT.out, HX.out]
                  unfold putX
                  try simp only [List.length_nil]
                  rw [if_neg (by simp), if_neg H4.out.1, if_neg H2.out]
                  exact ⟨_, _, rfl, HY8.out⟩
        ·
          obtain ⟨wx3, hW3⟩ : ∃ W, W = wx2.alloc (.cells #[strV clN, strV (decL b.length)] 104) := ⟨_, rfl⟩
          have hx3 : Below wx2.heap.size wx2 wx3 := by rw [hW3]; exact below_alloc _ _
          have HM3x := hid (show Reads2 wx3 (.slice (some ⟨wx2.heap.size, 0, none⟩) 1 1) [lenFld b.length] from by rw [hW3]; exact reads2_new_at wx2 (lenFld b.length) 104 1 _ rfl)
          go_simp
          rw [← hW3]
          have hg3x := hg2x.below hx3
          have hb3x := chain2 hb2x hb2x.size hx3
          have HP3x := hid (HP2x.out.below hx3)
          clear hg2x hb2x HP2x hx3 hW3
          refine hK.out _ _ trivial (fun _ => ?_)
          clear hK K
          try simp only [Act.put, List.getElem_toArray, List.getElem_cons_succ, List.getElem_cons_zero, List.setIfInBounds_toArray, List.set_cons_zero, List.set_cons_succ]
          refine wpAnyH_ready (rs := [3]) (by kernel_rfl) (by simp) ?_
          refine AllReadyH.cons rfl (fun K hK => ?_) AllReadyH.nil
          have q4 := hg3x.cell 3
          go_simp
          clear q4
          refine hK.out _ _ trivial (fun _ => ?_)
          clear hK K
          try simp only [Act.put, List.getElem_toArray, List.getElem_cons_succ, List.getElem_cons_zero, List.setIfInBounds_toArray, List.set_cons_zero, List.set_cons_succ]
          refine wpAnyH_ready (rs := [8]) (by kernel_rfl) (by simp) ?_
          refine AllReadyH.cons rfl (fun K hK => ?_) AllReadyH.nil
          go_simp
          refine (lWith_any _ _ (bareL L) [lenFld b.length] wx3 HP3x.out (okFs_bareL hk) HM3x.out (okFs_len b.length hbl)).mono ?_
          rintro e wx5 ⟨⟨v9, k9, rfl, ho9⟩, hx5⟩
          rw [with_len] at ho9
          obtain ⟨-, hr9⟩ := ho9.reads2
          obtain ⟨ao9, c9, rfl⟩ := hr9.form
          generalize (bareL L ++ [lenFld b.length]).length = N9 at hr9 ho9 ⊢
          have hin9 := (ownsRow_in ho9)
          have hlg9 := hg3x.lt
          have hg5x := hg3x.below hx5
          have hb5x := chain2 hb3x hb3x.size hx5
          have q3 := hg5x.cell 3
          have f3 := hg5x.free 3
          have hk9 := (Kept.refl (fun k => k = w.heap.size) wx5).setCell (i := 3) (.inl rfl) (.slice ao9 N9 c9)
          have HP := hid (reads2_kept hr9 hk9 (hin9.mono fun k hk => by have := hk.1; omega))
          change Hid (Reads2 _ _ (putL L (some b.length))) at HP
          have hrow := hg5x.setCell 3 (.slice ao9 N9 c9)
          have hbB := hb5x.setCell (p := ⟨w.heap.size, 3, none⟩) (Nat.le_refl _) (.slice ao9 N9 c9)
          have HROW := hid (And.intro hrow hbB)
          clear hg3x hb3x HP3x HM3x hx5 ho9 hr9 hin9 hk9 hg5x hb5x hrow hbB hlg9
          refine hK.out _ _ trivial (fun _ => ?_)
          clear hK K
          try simp only [Act.put, List.getElem_toArray, List.getElem_cons_succ, List.getElem_cons_zero, List.setIfInBounds_toArray, List.set_cons_zero, List.set_cons_succ]
          refine wpAnyH_take (i := 9) (v := ?_) rfl (by kernel_rfl) (by kernel_rfl) (by kernel_rfl) (fun _ _ _ h => h) (Or.inl ⟨by kernel_rfl, ?_⟩) trivial ?_
          rotate_left
          · intro W hS
            go_simp
            first | done | with_reducible rfl
          simp only [Act.put, List.getElem_toArray, List.getElem_cons_succ, List.getElem_cons_zero, List.setIfInBounds_toArray, List.set_cons_zero, List.set_cons_succ]
          refine wpAnyH_take (i := 10) (v := ?_) rfl (by kernel_rfl) (by kernel_rfl) (by kernel_rfl) (fun _ _ _ h => h) (Or.inl ⟨by kernel_rfl, ?_⟩) trivial ?_
          rotate_left
          · intro W hS
            go_simp
            first | done | with_reducible rfl
          simp only [Act.put, List.getElem_toArray, List.getElem_cons_succ, List.getElem_cons_zero, List.setIfInBounds_toArray, List.set_cons_zero, List.set_cons_succ]
          refine wpAnyH_take (i := 11) (v := ?_) rfl (by kernel_rfl) (by kernel_rfl) (by kernel_rfl) (fun _ _ _ h => h) (Or.inl ⟨by kernel_rfl, ?_⟩) trivial ?_
          rotate_left
          · intro W hS
            go_simp
            first | done | with_reducible rfl
          simp only [Act.put, List.getElem_toArray, List.getElem_cons_succ, List.getElem_cons_zero, List.setIfInBounds_toArray, List.set_cons_zero, List.set_cons_succ]
          refine wpAnyH_ready (rs := [12]) (by kernel_rfl) (by simp) ?_
          refine AllReadyH.cons rfl (fun K hK => ?_) AllReadyH.nil
          go_simp
          refine hK.out _ _ trivial (fun _ => ?_)
          clear hK K
          try simp only [Act.put, List.getElem_toArray, List.getElem_cons_succ, List.getElem_cons_zero, List.setIfInBounds_toArray, List.set_cons_zero, List.set_cons_succ]
          refine wpAnyH_done (by kernel_rfl) ?_ _
          clear q3 f3
          obtain ⟨hrow, hbB⟩ := HROW.out
          have hkP := okFs_putL hk hl (o := some b.length) (fun n h => by cases h; exact hbl)
          obtain ⟨wf, hwf⟩ : ∃ W, W = wx5.setCell ⟨w.heap.size, 3, none⟩ (.slice ao9 N9 c9) := ⟨_, rfl⟩
          rw [← hwf] at hrow hbB HP ⊢
          clear hwf HROW
          generalize ao9 = aoP at *
          generalize N9 = nP at *
          generalize c9 = cP at *
          have g0 := hrow.cell 0
          have g1 := hrow.cell 1
          have g2 := hrow.cell 2
          have g3 := hrow.cell 3
          have hbo := bytes_below HBY.out hbB
          have hgl := hrow.lt
          obtain ⟨T, hT⟩ : ∃ T, textH (resLine ⟨m, [], st.toNat, z.toNat, []⟩) (putL L (some b.length)) = T := ⟨_, rfl⟩
          have HT := hid hT
          cases hq : rightS st m z (putL L (some b.length)) with
          | false =>
            have CS := hid (ShowResponse_no st m z (.slice aoP nP cP) (putL L (some b.length)) wf hm HP.out hkP hq)
            have CJ := hid (fun W' => join_err [] 10 (by decide) aob b.length cb W')
            have HQ := hid hq
            clear hq hkP HP hT
            go_wp2_with fail
            skip
            refine CS.out.mono ?_
            rintro e w5 ⟨rfl, hb5⟩
            have g4 := (hrow.below hb5).cell 4
            have HB := hid (chain2 hbB hbB.size hb5)
            clear CS hb5 hrow hbB hbo
            go_wp2_with fail
            refine (CJ.out _).mono ?_
            rintro e w6 ⟨rfl, rfl⟩
            go_wp2_with fail
            go_ret2
            refine ⟨?_, HB.out⟩
            rw [HNB.out, HQ.out]
            unfold putX
            rw [if_pos rfl]
            exact ⟨by decide, rfl⟩
          | true =>
            obtain ⟨hz0, hs1, hs2⟩ := rightS_pos hq
            obtain ⟨sn, hsn⟩ : ∃ sn : Nat, st = (sn : Int) := ⟨st.toNat, by omega⟩
            have cs := ShowResponse_yes sn m z (.slice aoP nP cP) (putL L (some b.length)) wf hm HP.out hkP hz0 (by omega) (by omega) (HTB.out.below hbB) (by rw [← hsn]; exact hq)
            have hsn2 : sn = st.toNat := by omega
            rw [hsn2, hT] at cs
            rw [show ((st.toNat : Nat) : Int) = st by omega] at cs
            have HQ := hid hq
            clear hsn hsn2
            by_cases h4 : 4096 < T.length
            · simp only [if_pos h4] at cs
              have CS := hid cs
              have CJ := hid (fun W' => join_err [] 22 (by decide) aob b.length cb W')
              have H4 := hid h4
              clear hq hkP HP cs hT h4 hz0 hs1 hs2
              go_wp2_with fail
              skip
              refine CS.out.mono ?_
              rintro e w5 ⟨rfl, hb5⟩
              have g4 := (hrow.below hb5).cell 4
              have HB := hid (chain2 hbB hbB.size hb5)
              clear CS hb5 hrow hbB hbo
              go_wp2_with fail
              refine (CJ.out _).mono ?_
              rintro e w6 ⟨rfl, rfl⟩
              go_wp2_with fail
              go_ret2
              refine ⟨?_, HB.out⟩
              rw [HNB.out, HQ.out, HT.out]
              unfold putX
              rw [if_neg (by simp), if_pos H4.out]
              exact ⟨by decide, rfl⟩
            · simp only [if_neg h4] at cs
              have CS := hid cs
              have CJ := hid (fun W' hW' => join_ok T b (.slice aob b.length cb) W' hW' (by omega) (by first | omega | (simp only [List.length_nil] at *; omega)))
              have CB := hid (fun W' => bodiless_any mt st W')
              have H4 := hid (And.intro h4 hm)
              clear hq hkP HP cs hT h4 hz0 hs1 hs2
              go_wp2_with fail
              skip
              refine CS.out.mono ?_
              rintro e w5 ⟨rfl, hb5⟩
              have hrow5 := hrow.below hb5
              have g4 := hrow5.cell 4
              have hbo5 := bytes_below hbo hb5
              have hbN := chain2 hbB hbB.size hb5
              have HB := hid hbN
              have HBO := hid hbo5
              clear CS hb5 hrow hbB hbo hbo5 hbN
              go_wp2_with fail
              refine (CJ.out _ HBO.out).mono ?_
              rintro e w6 ⟨hp, hb6⟩
              try simp only [List.length_nil] at hp
              have hrow6 := hrow5.below hb6
              have HB6 := hid (chain2 HB.out HB.out.size hb6)
              by_cases h2 : 2048 < b.length
              · rw [if_pos h2] at hp
                obtain ⟨-, rfl⟩ := hp
                have H2 := hid h2
                clear hb6 CJ h2
                go_wp2_with fail
                go_ret2
                refine ⟨?_, HB6.out⟩
                rw [HNB.out, HQ.out, HT.out]
                unfold putX
                try simp only [List.length_nil]
                rw [if_neg (by simp), if_neg H4.out.1, if_pos H2.out]
                exact ⟨by decide, rfl⟩
              · rw [if_neg h2] at hp
                obtain ⟨S, hS⟩ : ∃ S, T ++ b = S := ⟨_, rfl⟩
                rw [hS] at hp
                have HS := hid hS
                clear hS
                obtain ⟨ao9, c9, rfl, hby9⟩ := hp
                have H2 := hid h2
                have HY := hid hby9
                have g0 := hrow6.cell 0
                clear hb6 CJ hby9 h2 hrow5 g4
                go_wp2_with fail
                refine (CB.out _).mono ?_
                rintro e w7 ⟨rfl, hb7⟩
                have HB7 := hid (chain2 HB6.out HB6.out.size hb7)
                have HY7 := hid (bytes_below HY.out hb7)
                clear hb7 HY HB6 CB
                cases hbx : bareX (mt == [72, 69, 65, 68]) st with
                | false =>
                  have HX := hid hbx
                  clear hbx
                  go_wp2_with fail
                  go_ret2
                  refine ⟨?_, HB7.out⟩
                  rw [HNB.out, HQ.out, HT.out, HX.out]
                  unfold putX
                  try simp only [List.length_nil]
                  rw [if_neg (by simp), if_neg H4.out.1, if_neg H2.out]
                  simp only [Bool.false_eq_true, if_false]
                  rw [HS.out]
                  exact ⟨ao9, c9, rfl, HY7.out⟩
                | true =>
                  have HX := hid hbx
                  obtain ⟨capb, W8, cur, fz, hcv, hg8, hfz, hcc, htk, hxc, hbW8⟩ := bytes_conv (P := Tryz.prog) w7 T 9 27 5 Tryz.underlying9 Tryz.underlying27 Tryz.underlying5
                  have hrd8 := reads_row hg8 (T.map byteV) capb (by rw [List.length_map]; exact htk)
                  rw [List.length_map] at hrd8
                  have HY8 := hid (bytes_of hrd8 hxc)
                  have HB8 := hid (chain2 HB7.out HB7.out.size hbW8)
                  clear hbx hg8 hfz hcc htk hxc hbW8 hrd8
                  go_wp2_with fail
                  go_ret2
                  refine ⟨?_, HB8.out⟩
                  rw [HNB.out, HQ.out, HT.out, HX.out]
                  unfold putX
                  try simp only [List.length_nil]
                  rw [if_neg (by simp), if_neg H4.out.1, if_neg H2.out]
                  exact ⟨_, _, rfl, HY8.out⟩
end Go.Proofs.YtongceljdgmbdaaGreatDoor
