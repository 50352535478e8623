/-
  The walk of the statement WireQueries.
-/
import Derived.Test.YtongceljdgmbdaaGreatDoorW7fLaw07A
import Derived.Test.YtongceljdgmbdaaGreatDoorW7f03
import Derived.Test.YtongceljdgmbdaaGreatDoorW7fRef7P
import Derived.Test.YtongceljdgmbdaaGreatDoorW7f02

namespace Go.Proofs.YtongceljdgmbdaaGreatDoor
open Go.RowKit Go.Pantry

theorem conv_str {P : Program} {ρ : Operand → Value} {o : Oper} {src dst : TypeId} {x : Operand} (ho : o.op = .convert src dst x) {v u : Value} (hx : ρ x = v) {W : World} (hr : (convert src dst v).run P W = .ok u W) : (execOp ρ o).run P W = .ok (.value u) W := by
  unfold execOp
  simp only [ho, hx, Sem.run_bind, hr, Sem.run_pure, Result.andThen_ok]
theorem outs_len (L : List Fld) (o : Option Nat) : outsF (putL L o) [clL] = bareL L := by
  have e0 : outsF (bareL L) [clL] = bareL L := by
    unfold outsF
    rw [List.filter_eq_self]
    intro f hf
    have e1 : isF clL f = isF clN f := isF_same (by decide +kernel) f
    simp only [List.any_cons, List.any_nil, Bool.or_false, e1]
    have := (List.mem_filter.1 hf).2
    simp only [List.any_cons, List.any_nil, Bool.or_false, Bool.not_or, Bool.and_eq_true] at this
    exact this.1
  cases o with
  | none => exact e0
  | some n =>
    show outsF (bareL L ++ [lenFld n]) [clL] = bareL L
    have e2 : outsF (bareL L ++ [lenFld n]) [clL] = outsF (bareL L) [clL] ++ outsF [lenFld n] [clL] := by unfold outsF; rw [List.filter_append]
    have e3 : outsF [lenFld n] [clL] = [] := by
      unfold outsF
      have e1 : isF clL (lenFld n) = true := by
        rw [isF_same (show lowerL clL = lowerL clN by decide +kernel)]
        exact (lenFld_is n).1
      simp [e1]
    rw [e2, e0, e3, List.append_nil]
theorem rightQ_req {m t : List UInt8} {z : Int} {L : List Fld} (h : rightQ m t z L = true) : rightReq ⟨m, t, 0, z.toNat, L⟩ = true := by
  have hz := rightQ_pos h
  unfold rightQ formedR longR at h
  unfold rightReq
  simp only [Bool.and_eq_true, Bool.or_eq_true, Bool.not_eq_true', Bool.or_eq_false_iff, decide_eq_false_iff_not, decide_eq_true_eq, beq_iff_eq] at h ⊢
  obtain ⟨⟨⟨⟨h1, h2⟩, h3⟩, h4, h5⟩, h6⟩ := h
  exact ⟨⟨⟨by omega, h6⟩, ⟨⟨h1, by omega⟩, h2⟩, by omega⟩, trivial⟩
theorem put_read {m t : List UInt8} {z : Int} {L : List Fld} {b s : List UInt8} {o : Option Nat} (ho : o = if b = [] then none else some b.length) (h : putX (rightQ m t z (putL L o)) (textH (reqLine ⟨m, t, 0, z.toNat, []⟩) (putL L o)) b false = .ok s) :
    s.length ≤ 6144 ∧ queryX ⟨s, false, 0⟩ = (.ok (⟨m, t, 0, z.toNat, putL L o⟩, b), ⟨[], false, 0⟩) := by
  unfold putX at h
  split at h
  · cases h
  · rename_i hq
    have hq' : rightQ m t z (putL L o) = true := by simpa using hq
    split at h
    · cases h
    · rename_i h4
      split at h
      · cases h
      · rename_i h2
        simp only [Bool.false_eq_true, if_false] at h
        cases h
        have e : textH (reqLine ⟨m, t, 0, z.toNat, []⟩) (putL L o) = textReq ⟨m, t, 0, z.toNat, putL L o⟩ := rfl
        rw [e] at h4 ⊢
        refine ⟨by rw [List.length_append]; omega, ?_⟩
        have hr := query_put (h := ⟨m, t, 0, z.toNat, putL L o⟩) (L := L) (b := b) (rest := []) ho rfl (rightQ_req hq') (by omega) (by omega)
        rw [List.append_nil] at hr
        exact hr
set_option maxRecDepth 100000 in
set_option maxHeartbeats 16000000 in
theorem wireQueries_walk (sm stg : ByteArray) (z : Int) (v : Value) (L : List Fld) (vb : Value) (b : List UInt8) (w : World) (hmx : MaxOk w) (ht10 : Tab10 w) (_hsm : sm.size ≤ maxLen) (_hst : stg.size ≤ maxLen) (hL : Reads2 w v L ∧ (∀ f ∈ L, f.1.length ≤ maxLen ∧ f.2.length ≤ maxLen) ∧ L.length ≤ maxLen) (hlb : Reads w vb (b.map byteV) ∧ (∀ ao n cap, vb = .slice ao n cap → n ≤ cap) ∧ b.length ≤ maxLen) :
    Calls Tryz.prog 5 #[.string sm, .string stg, .int .i64 z, v, vb] w fun e w' => e = .returned (.bool true) ∧ Below w.heap.size w w' := by
  obtain ⟨m, rfl⟩ := as_list sm
  obtain ⟨t, rfl⟩ := as_list stg
  rw [szL] at _hsm _hst
  obtain ⟨hr, -, hLl⟩ := hL
  obtain ⟨hbr, hroom, hbl⟩ := hlb
  obtain ⟨ao, cap, rfl⟩ := hr.form
  obtain ⟨aob, cb, rfl⟩ := hbr.form
  rw [List.length_map] at *
  unfold maxLen at hLl hbl _hsm _hst
  have HBY := hid (bytes_of hbr (hroom aob b.length cb rfl))
  have HR := hid hr
  have CA := hid (anchor_any w hmx)
  have cs := fun W h => small_any (.slice ao L.length cap) L W h (by omega)
  have HMX := hid hmx
  have HT10 := hid ht10
  obtain ⟨q, hq⟩ : ∃ q, smallF L = q := ⟨_, rfl⟩
  rw [hq] at cs
  have CS := hid cs
  have HQ := hid hq
  clear cs hq hr hbr hroom hmx ht10
  cases q with
  | false =>
    · go_enter Tryz.func5, Tryz.ntmps5
      go_wp2_with fail
      refine CA.out.mono ?_
      rintro e w1 ⟨rfl, hb1⟩
      go_wp2_with fail
      refine (CS.out _ (HR.out.below hb1)).mono ?_
      rintro e w2 ⟨rfl, hb2⟩
      go_wp2_with fail
      go_ret
      exact ⟨rfl, chain2 hb1 hb1.size hb2⟩

  | true =>
  by_cases h1 : (100 : Int) < (m.length : Int)
  · go_enter Tryz.func5, Tryz.ntmps5
    go_wp2_with fail
    refine CA.out.mono ?_
    rintro e w1 ⟨rfl, hb1⟩
    go_wp2_with fail
    refine (CS.out _ (HR.out.below hb1)).mono ?_
    rintro e w2 ⟨rfl, hb2⟩
    go_wp2_with fail
    go_ret
    exact ⟨rfl, chain2 hb1 hb1.size hb2⟩
  by_cases h2 : (1100 : Int) < (t.length : Int)
  · go_enter Tryz.func5, Tryz.ntmps5
    go_wp2_with fail
    refine CA.out.mono ?_
    rintro e w1 ⟨rfl, hb1⟩
    go_wp2_with fail
    refine (CS.out _ (HR.out.below hb1)).mono ?_
    rintro e w2 ⟨rfl, hb2⟩
    go_wp2_with fail
    go_ret
    exact ⟨rfl, chain2 hb1 hb1.size hb2⟩
  by_cases h3 : (3000 : Int) < (b.length : Int)
  · go_enter Tryz.func5, Tryz.ntmps5
    go_wp2_with fail
    refine CA.out.mono ?_
    rintro e w1 ⟨rfl, hb1⟩
    go_wp2_with fail
    refine (CS.out _ (HR.out.below hb1)).mono ?_
    rintro e w2 ⟨rfl, hb2⟩
    go_wp2_with fail
    go_ret
    exact ⟨rfl, chain2 hb1 hb1.size hb2⟩
  have hsm : (∀ f ∈ L, f.1.length ≤ 200 ∧ f.2.length ≤ 1100) ∧ L.length ≤ 70 := by
    have h := HQ.out
    unfold smallF at h
    rw [Bool.and_eq_true, List.all_eq_true] at h
    refine ⟨fun f hf => ?_, of_decide_eq_true h.2⟩
    have h5 := h.1 f hf
    rw [Bool.and_eq_true] at h5
    exact ⟨of_decide_eq_true h5.1, of_decide_eq_true h5.2⟩
  have hk : okFs L := ⟨by omega, fun f hf => by have := hsm.1 f hf; omega⟩
  have cq := fun W h hb => putQuery_any m t z (.slice ao L.length cap) (.slice aob b.length cb) L b W (by omega) (by omega) h hk (by omega) hb (by omega)
  have cr := fun W u h hb => refPutQ_any [] m t 0 z u (.slice aob b.length cb) L b W (by omega) (by omega) h hk (by omega) hb (by omega)
  have cm := fun W h => madeReq_any m t z (.slice ao L.length cap) L W h (by omega)
  obtain ⟨o, ho⟩ : ∃ o, o = (if b = [] then none else some b.length) := ⟨_, rfl⟩
  rw [← ho] at cq cr
  obtain ⟨X, hX⟩ : ∃ X, putX (rightQ m t z (putL L o)) (textH (reqLine ⟨m, t, 0, z.toNat, []⟩) (putL L o)) b false = X := ⟨_, rfl⟩
  rw [hX] at cq cr
  have HX := hid (And.intro hX ho)
  have CQ := hid cq
  have CR := hid cr
  have CM := hid cm
  have HKL := hid hk
  have HLEN := hid (And.intro h3 hsm.2)
  have CN := hid (fun W => newReader_any W)
  clear cq cr cm hk hX ho hsm
  go_enter Tryz.func5, Tryz.ntmps5
  go_wp2_with fail
  refine CA.out.mono ?_
  rintro e w1 ⟨rfl, hb1⟩
  go_wp2_with fail
  refine (CS.out _ (HR.out.below hb1)).mono ?_
  rintro e w2 ⟨rfl, hb2⟩
  have hbA := chain2 hb1 hb1.size hb2
  obtain ⟨W3, hW3⟩ : ∃ W, W = w2.alloc (.cells #[strV m, strV t, .int .i64 z, .slice ao L.length cap, .slice aob b.length cb] 42) := ⟨_, rfl⟩
  have hb3 : Below w2.heap.size w2 W3 := by rw [hW3]; exact below_alloc _ _
  have hbq : rowIs W3 w2.heap.size #[strV m, strV t, .int .i64 z, .slice ao L.length cap, .slice aob b.length cb] 42 := by rw [hW3]; exact rowIs_new _ _ _
  have hbB := chain2 hbA hbA.size hb3
  clear CA CS hb1 hb2 hbA hb3
  go_wp2_with fail
  rw [← hW3]
  clear hW3
  refine (CM.out _ (HR.out.below hbB)).mono ?_
  rintro e w4 ⟨⟨aoh, ch, rfl, hrh⟩, hb4⟩
  have hbq4 := hbq.below hb4
  have hbC := chain2 hbB hbB.size hb4
  obtain ⟨W5, hW5⟩ : ∃ W, W = w4.alloc (.cells #[strV m, strV t, .int .i64 0, .int .i64 z, .slice aoh L.length ch] 47) := ⟨_, rfl⟩
  have hb5 : Below w4.heap.size w4 W5 := by rw [hW5]; exact below_alloc _ _
  have hbh : rowIs W5 w4.heap.size #[strV m, strV t, .int .i64 0, .int .i64 z, .slice aoh L.length ch] 47 := by rw [hW5]; exact rowIs_new _ _ _
  have hbq5 := hbq4.below hb5
  have hrh5 := hrh.below hb5
  have hbD := chain2 hbC hbC.size hb5
  have k0 := hbq5.cell 0
  have k1 := hbq5.cell 1
  have k2 := hbq5.cell 2
  have k3 := hbq5.cell 3
  have k4 := hbq5.cell 4
  rw [hW5] at k0 k1 k2 k3 k4
  clear CM hb4 hbq hbq4 hrh hbB hbC hb5
  go_wp2_with fail
  rw [← hW5]
  clear hW5 k0 k1 k2 k3 k4
  refine (CQ.out _ (HR.out.below hbD) (bytes_below HBY.out hbD) (HT10.out.below hbD)).mono ?_
  rintro e w6 ⟨hp6, hb6⟩
  have hbq6 := hbq5.below hb6
  have hbh6 := hbh.below hb6
  have hrh6 := hrh5.below hb6
  have hbE := chain2 hbD hbD.size hb6
  have k0 := hbh6.cell 0
  have k1 := hbh6.cell 1
  have k2 := hbh6.cell 2
  have k3 := hbh6.cell 3
  have k4 := hbh6.cell 4
  clear CQ hbq5 hbh hrh5 hbD hb6
  cases X with
  | error k =>
    obtain ⟨hk0, rfl⟩ := hp6
    go_wp2_with fail
    refine (CR.out _ _ hrh6 (bytes_below HBY.out hbE)).mono ?_
    rintro e w7 ⟨⟨-, rfl⟩, hb7⟩
    have HB := hid (chain2 hbE hbE.size hb7)
    have hn0 : ((k : Int) != 0) = true := by simp; omega
    have hnn : ((k : Int) != (k : Int)) = false := by simp
    have cvn := fun W => reads_string (P := Tryz.prog) (w := W) (v := .slice none 0 0) (l := []) ⟨none, 0, rfl, (fun j u hj => by cases hj), fun _ => rfl⟩ 27 9 5 Tryz.underlying27 Tryz.underlying5 Tryz.underlying9
    clear k0 k1 k2 k3 k4 CR hbq6 hbh6 hrh6 hbE hb7 hk0
    go_wp2_with fail
    go_ret
    exact ⟨rfl, HB.out⟩
  | ok s =>
    obtain ⟨ao6, c6, rfl, hby6⟩ := hp6
    go_wp2_with fail
    refine (CR.out _ _ hrh6 (bytes_below HBY.out hbE)).mono ?_
    rintro e w7 ⟨⟨ao7, c7, rfl, hby7⟩, hb7⟩
    have hbF := chain2 hbE hbE.size hb7
    have hby6' := bytes_below hby6 hb7
    have hbq7 := hbq6.below hb7
    have cv1 := reads_string (P := Tryz.prog) (bytesRead hby6') 27 9 5 Tryz.underlying27 Tryz.underlying5 Tryz.underlying9
    have cv2 := reads_string (P := Tryz.prog) (bytesRead hby7) 27 9 5 Tryz.underlying27 Tryz.underlying5 Tryz.underlying9
    have HS7 := hid hby6'
    obtain ⟨hsl, hrd⟩ := put_read HX.out.2 HX.out.1
    have HSL := hid hsl
    have HRD := hid hrd
    have HBQ7 := hid hbq7
    have HBF := hid hbF
    clear k0 k1 k2 k3 k4 CR hbq6 hbh6 hrh6 hbE hb7 hby6 hby7 hby6' hsl hrd hbq7 hbF
    go_wp2_with fail
    refine (CN.out _).mono ?_
    rintro e w8 ⟨rfl, hw8⟩
    have q8 := rdr_new w7 w7 (Below.refl _ _)
    rw [← hw8] at q8
    clear hw8 CN cv1 cv2
    generalize w7.heap.size = g at *
    have c9 := feedR_any q8 (.slice ao6 s.length c6) s (bytesRead (bytes_below HS7.out q8.bl)) (by simp) (by have := HSL.out; omega)
    rw [feedX_ok (by have := HSL.out; simp; omega), List.nil_append] at c9
    have C9 := hid c9
    clear c9 q8
    go_wp2_with fail
    refine C9.out.mono ?_
    rintro e w10 ⟨v10, rfl, q10, -⟩
    have c11 := queryR_any q10 (HMX.out.below HBF.out) (by have := HSL.out; simp only; omega)
    rw [HRD.out] at c11
    have C11 := hid c11
    clear C9 c11 q10
    go_wp2_with fail
    refine C11.out.mono ?_
    rintro e w12 ⟨⟨vl, vp, rfl, hol, hob⟩, v12, q12, -, -⟩
    obtain ⟨aop, cp, rfl⟩ := ownsRow_bytes_form hob
    obtain ⟨hol1, hol2⟩ := hol.reads2
    obtain ⟨aol, cl2, rfl⟩ := hol2.form
    generalize hLP : (putL L o).length = nP at *
    obtain ⟨zn, hzn⟩ : ∃ zn, z.toNat = zn := ⟨_, rfl⟩
    simp only [hzn]
    clear hzn
    obtain ⟨W17, hW17⟩ : ∃ W, W = w12.alloc (.cells #[strV m, strV t, .int .i64 ((zn : Nat) : Int), .slice aol nP cl2, .slice aop b.length cp] 42) := ⟨_, rfl⟩
    have hb17 : Below w12.heap.size w12 W17 := by rw [hW17]; exact below_alloc _ _
    have HBP := hid (show rowIs W17 w12.heap.size #[strV m, strV t, .int .i64 ((zn : Nat) : Int), .slice aol nP cl2, .slice aop b.length cp] 42 from by rw [hW17]; exact rowIs_new _ _ _)
    have Q17 := hid (q12.then hb17)
    have HBQ := hid (((HBQ7.out.below (Below.refl _ _)).below Q17.out.bl))
    have HBW := hid (chain2 HBF.out HBF.out.size Q17.out.bl)
    have HVP := hid ((hob.reads).below hb17)
    have HVB := hid (bytesRead (bytes_below HBY.out HBW.out))
    have HLP := hid (hol2.below hb17)
    have HLQ := hid (HR.out.below HBW.out)
    have HKP := hid (okFs_putL HKL.out (by have := HLEN.out.2; omega) (o := o) (fun n hn => by
      have h := HX.out.2
      rw [hn] at h
      by_cases hb : b = []
      · rw [if_pos hb] at h; cases h
      · rw [if_neg hb] at h; cases h; have := HLEN.out.1; omega))
    clear hLP hob hol hol1 hol2 hb17 q12 C11
    go_wp2_with fail
    rw [← hW17]
    clear hW17
    refine wp_region_held_drew (S := fun W => Below W17.heap.size W17 W) (by kernel_rfl) (show Below W17.heap.size W17 W17.drew from (Below.refl _ _).drew) (fun hH => ?_)
    refine wpAnyH_take (i := 0) (v := ?_) rfl (by kernel_rfl) (by kernel_rfl) (by kernel_rfl) (fun _ _ _ h => h) (Or.inl ⟨by kernel_rfl, ?_⟩) hH ?_
    rotate_left
    · intro W hS
      have k0 := (HBP.out.below hS).cell 0
      have k1 := (HBP.out.below hS).cell 1
      have k2 := (HBP.out.below hS).cell 2
      have k3 := (HBP.out.below hS).cell 3
      have k4 := (HBP.out.below hS).cell 4
      have j3 := (HBQ.out.below hS).cell 3
      go_simp
      first | done | with_reducible rfl
    simp only [Act.put, List.getElem_toArray, List.getElem_cons_succ, List.getElem_cons_zero, List.setIfInBounds_toArray, List.set_cons_zero, List.set_cons_succ]
    refine wpAnyH_take (i := 1) (v := ?_) rfl (by kernel_rfl) (by kernel_rfl) (by kernel_rfl) (fun _ _ _ h => h) (Or.inl ⟨by kernel_rfl, ?_⟩) hH ?_
    rotate_left
    · intro W hS
      have k0 := (HBP.out.below hS).cell 0
      have k1 := (HBP.out.below hS).cell 1
      have k2 := (HBP.out.below hS).cell 2
      have k3 := (HBP.out.below hS).cell 3
      have k4 := (HBP.out.below hS).cell 4
      have j3 := (HBQ.out.below hS).cell 3
      go_simp
      first | done | with_reducible rfl
    simp only [Act.put, List.getElem_toArray, List.getElem_cons_succ, List.getElem_cons_zero, List.setIfInBounds_toArray, List.set_cons_zero, List.set_cons_succ]
    refine wpAnyH_take (i := 2) (v := ?_) rfl (by kernel_rfl) (by kernel_rfl) (by kernel_rfl) (fun _ _ _ h => h) (Or.inl ⟨by kernel_rfl, ?_⟩) hH ?_
    rotate_left
    · intro W hS
      have k0 := (HBP.out.below hS).cell 0
      have k1 := (HBP.out.below hS).cell 1
      have k2 := (HBP.out.below hS).cell 2
      have k3 := (HBP.out.below hS).cell 3
      have k4 := (HBP.out.below hS).cell 4
      have j3 := (HBQ.out.below hS).cell 3
      go_simp
      first | done | with_reducible rfl
    simp only [Act.put, List.getElem_toArray, List.getElem_cons_succ, List.getElem_cons_zero, List.setIfInBounds_toArray, List.set_cons_zero, List.set_cons_succ]
    refine wpAnyH_take (i := 3) (v := ?_) rfl (by kernel_rfl) (by kernel_rfl) (by kernel_rfl) (fun _ _ _ h => h) (Or.inl ⟨by kernel_rfl, ?_⟩) hH ?_
    rotate_left
    · intro W hS
      have k0 := (HBP.out.below hS).cell 0
      have k1 := (HBP.out.below hS).cell 1
      have k2 := (HBP.out.below hS).cell 2
      have k3 := (HBP.out.below hS).cell 3
      have k4 := (HBP.out.below hS).cell 4
      have j3 := (HBQ.out.below hS).cell 3
      go_simp
      first | done | with_reducible rfl
    simp only [Act.put, List.getElem_toArray, List.getElem_cons_succ, List.getElem_cons_zero, List.setIfInBounds_toArray, List.set_cons_zero, List.set_cons_succ]
    refine wpAnyH_take (i := 4) (v := ?_) rfl (by kernel_rfl) (by kernel_rfl) (by kernel_rfl) (fun _ _ _ h => h) (Or.inl ⟨by kernel_rfl, ?_⟩) hH ?_
    rotate_left
    · intro W hS
      have k0 := (HBP.out.below hS).cell 0
      have k1 := (HBP.out.below hS).cell 1
      have k2 := (HBP.out.below hS).cell 2
      have k3 := (HBP.out.below hS).cell 3
      have k4 := (HBP.out.below hS).cell 4
      have j3 := (HBQ.out.below hS).cell 3
      go_simp
      first | done | with_reducible rfl
    simp only [Act.put, List.getElem_toArray, List.getElem_cons_succ, List.getElem_cons_zero, List.setIfInBounds_toArray, List.set_cons_zero, List.set_cons_succ]
    refine wpAnyH_take (i := 5) (v := ?_) rfl (by kernel_rfl) (by kernel_rfl) (by kernel_rfl) (fun _ _ _ h => h) (Or.inl ⟨by kernel_rfl, ?_⟩) hH ?_
    rotate_left
    · intro W hS
      have k0 := (HBP.out.below hS).cell 0
      have k1 := (HBP.out.below hS).cell 1
      have k2 := (HBP.out.below hS).cell 2
      have k3 := (HBP.out.below hS).cell 3
      have k4 := (HBP.out.below hS).cell 4
      have j3 := (HBQ.out.below hS).cell 3
      go_simp
      first | done | with_reducible rfl
    simp only [Act.put, List.getElem_toArray, List.getElem_cons_succ, List.getElem_cons_zero, List.setIfInBounds_toArray, List.set_cons_zero, List.set_cons_succ]
    refine wpAnyH_take (i := 6) (v := ?_) rfl (by kernel_rfl) (by kernel_rfl) (by kernel_rfl) (fun _ _ _ h => h) (Or.inl ⟨by kernel_rfl, ?_⟩) hH ?_
    rotate_left
    · intro W hS
      have k0 := (HBP.out.below hS).cell 0
      have k1 := (HBP.out.below hS).cell 1
      have k2 := (HBP.out.below hS).cell 2
      have k3 := (HBP.out.below hS).cell 3
      have k4 := (HBP.out.below hS).cell 4
      have j3 := (HBQ.out.below hS).cell 3
      go_simp
      first | done | with_reducible rfl
    simp only [Act.put, List.getElem_toArray, List.getElem_cons_succ, List.getElem_cons_zero, List.setIfInBounds_toArray, List.set_cons_zero, List.set_cons_succ]
    refine wpAnyH_take (i := 7) (v := ?_) rfl (by kernel_rfl) (by kernel_rfl) (by kernel_rfl) (fun _ _ _ h => h) (Or.inl ⟨by kernel_rfl, ?_⟩) hH ?_
    rotate_left
    · intro W hS
      have k0 := (HBP.out.below hS).cell 0
      have k1 := (HBP.out.below hS).cell 1
      have k2 := (HBP.out.below hS).cell 2
      have k3 := (HBP.out.below hS).cell 3
      have k4 := (HBP.out.below hS).cell 4
      have j3 := (HBQ.out.below hS).cell 3
      go_simp
      first | done | with_reducible rfl
    simp only [Act.put, List.getElem_toArray, List.getElem_cons_succ, List.getElem_cons_zero, List.setIfInBounds_toArray, List.set_cons_zero, List.set_cons_succ]
    refine wpAnyH_ready (rs := [8]) (by kernel_rfl) (by simp) ?_
    refine AllReadyH.cons rfl (fun K hK => ?_) AllReadyH.nil
    go_simp
    refine (leftR_any (Q17.out.then hH)).mono ?_
    rintro e wl ⟨rfl, rfl⟩
    refine hK.out _ _ hH (fun hH => ?_)
    clear hK K
    try simp only [Act.put, List.getElem_toArray, List.getElem_cons_succ, List.getElem_cons_zero, List.setIfInBounds_toArray, List.set_cons_zero, List.set_cons_succ]
    refine wpAnyH_take (i := 9) (v := ?_) rfl (by kernel_rfl) (by kernel_rfl) (by kernel_rfl) (fun _ _ _ h => h) (Or.inl ⟨by kernel_rfl, ?_⟩) hH ?_
    rotate_left
    · intro W hS
      have k0 := (HBP.out.below hS).cell 0
      have k1 := (HBP.out.below hS).cell 1
      have k2 := (HBP.out.below hS).cell 2
      have k3 := (HBP.out.below hS).cell 3
      have k4 := (HBP.out.below hS).cell 4
      have j3 := (HBQ.out.below hS).cell 3
      go_simp
      first | done | with_reducible rfl
    simp only [Act.put, List.getElem_toArray, List.getElem_cons_succ, List.getElem_cons_zero, List.setIfInBounds_toArray, List.set_cons_zero, List.set_cons_succ]
    refine wpAnyH_take (i := 10) (v := ?_) rfl (by kernel_rfl) (by kernel_rfl) (by kernel_rfl) (fun _ _ _ h => h) (Or.inl ⟨by kernel_rfl, ?_⟩) hH ?_
    rotate_left
    · intro W hS
      have k0 := (HBP.out.below hS).cell 0
      have k1 := (HBP.out.below hS).cell 1
      have k2 := (HBP.out.below hS).cell 2
      have k3 := (HBP.out.below hS).cell 3
      have k4 := (HBP.out.below hS).cell 4
      have j3 := (HBQ.out.below hS).cell 3
      go_simp
      first | done | with_reducible rfl
    simp only [Act.put, List.getElem_toArray, List.getElem_cons_succ, List.getElem_cons_zero, List.setIfInBounds_toArray, List.set_cons_zero, List.set_cons_succ]
    refine wpAnyH_take (i := 11) (v := ?_) rfl (by kernel_rfl) (by kernel_rfl) (by kernel_rfl) (fun _ _ _ h => h) (Or.inl ⟨by kernel_rfl, ?_⟩) hH ?_
    rotate_left
    · intro W hS
      have k0 := (HBP.out.below hS).cell 0
      have k1 := (HBP.out.below hS).cell 1
      have k2 := (HBP.out.below hS).cell 2
      have k3 := (HBP.out.below hS).cell 3
      have k4 := (HBP.out.below hS).cell 4
      have j3 := (HBQ.out.below hS).cell 3
      go_simp
      first | done | with_reducible rfl
    simp only [Act.put, List.getElem_toArray, List.getElem_cons_succ, List.getElem_cons_zero, List.setIfInBounds_toArray, List.set_cons_zero, List.set_cons_succ]
    refine wpAnyH_take (i := 12) (v := ?_) rfl (by kernel_rfl) (by kernel_rfl) (by kernel_rfl) (fun _ _ _ h => h) (Or.inl ⟨by kernel_rfl, ?_⟩) hH ?_
    rotate_left
    · intro W hS
      have k0 := (HBP.out.below hS).cell 0
      have k1 := (HBP.out.below hS).cell 1
      have k2 := (HBP.out.below hS).cell 2
      have k3 := (HBP.out.below hS).cell 3
      have k4 := (HBP.out.below hS).cell 4
      have j3 := (HBQ.out.below hS).cell 3
      go_simp
      first | done | with_reducible rfl
    simp only [Act.put, List.getElem_toArray, List.getElem_cons_succ, List.getElem_cons_zero, List.setIfInBounds_toArray, List.set_cons_zero, List.set_cons_succ]
    refine wpAnyH_take (i := 13) (v := ?_) rfl (by kernel_rfl) (by kernel_rfl) (by kernel_rfl) (fun _ _ _ h => h) (Or.inl ⟨by kernel_rfl, ?_⟩) hH ?_
    rotate_left
    · intro W hS
      have k0 := (HBP.out.below hS).cell 0
      have k1 := (HBP.out.below hS).cell 1
      have k2 := (HBP.out.below hS).cell 2
      have k3 := (HBP.out.below hS).cell 3
      have k4 := (HBP.out.below hS).cell 4
      have j3 := (HBQ.out.below hS).cell 3
      go_simp
      first | done | with_reducible rfl
    simp only [Act.put, List.getElem_toArray, List.getElem_cons_succ, List.getElem_cons_zero, List.setIfInBounds_toArray, List.set_cons_zero, List.set_cons_succ]
    refine wpAnyH_take (i := 14) (v := (strV b)) rfl (by kernel_rfl) (by kernel_rfl) (by kernel_rfl) (fun _ _ _ h => h) (Or.inl ⟨by kernel_rfl, ?_⟩) hH ?_
    · intro W hS
      exact conv_str rfl rfl (reads_string (P := Tryz.prog) (HVP.out.below hS) 27 9 5 Tryz.underlying27 Tryz.underlying5 Tryz.underlying9)
    simp only [Act.put, List.getElem_toArray, List.getElem_cons_succ, List.getElem_cons_zero, List.setIfInBounds_toArray, List.set_cons_zero, List.set_cons_succ]
    refine wpAnyH_take (i := 15) (v := ?_) rfl (by kernel_rfl) (by kernel_rfl) (by kernel_rfl) (fun _ _ _ h => h) (Or.inl ⟨by kernel_rfl, ?_⟩) hH ?_
    rotate_left
    · intro W hS
      have k0 := (HBP.out.below hS).cell 0
      have k1 := (HBP.out.below hS).cell 1
      have k2 := (HBP.out.below hS).cell 2
      have k3 := (HBP.out.below hS).cell 3
      have k4 := (HBP.out.below hS).cell 4
      have j3 := (HBQ.out.below hS).cell 3
      go_simp
      first | done | with_reducible rfl
    simp only [Act.put, List.getElem_toArray, List.getElem_cons_succ, List.getElem_cons_zero, List.setIfInBounds_toArray, List.set_cons_zero, List.set_cons_succ]
    refine wpAnyH_take (i := 16) (v := (strV b)) rfl (by kernel_rfl) (by kernel_rfl) (by kernel_rfl) (fun _ _ _ h => h) (Or.inl ⟨by kernel_rfl, ?_⟩) hH ?_
    · intro W hS
      exact conv_str rfl rfl (reads_string (P := Tryz.prog) (HVB.out.below hS) 27 9 5 Tryz.underlying27 Tryz.underlying5 Tryz.underlying9)
    simp only [Act.put, List.getElem_toArray, List.getElem_cons_succ, List.getElem_cons_zero, List.setIfInBounds_toArray, List.set_cons_zero, List.set_cons_succ]
    refine wpAnyH_take (i := 17) (v := ?_) rfl (by kernel_rfl) (by kernel_rfl) (by kernel_rfl) (fun _ _ _ h => h) (Or.inl ⟨by kernel_rfl, ?_⟩) hH ?_
    rotate_left
    · intro W hS
      have k0 := (HBP.out.below hS).cell 0
      have k1 := (HBP.out.below hS).cell 1
      have k2 := (HBP.out.below hS).cell 2
      have k3 := (HBP.out.below hS).cell 3
      have k4 := (HBP.out.below hS).cell 4
      have j3 := (HBQ.out.below hS).cell 3
      go_simp
      first | done | with_reducible rfl
    simp only [Act.put, List.getElem_toArray, List.getElem_cons_succ, List.getElem_cons_zero, List.setIfInBounds_toArray, List.set_cons_zero, List.set_cons_succ]
    refine wpAnyH_take (i := 18) (v := ?_) rfl (by kernel_rfl) (by kernel_rfl) (by kernel_rfl) (fun _ _ _ h => h) (Or.inl ⟨by kernel_rfl, ?_⟩) hH ?_
    rotate_left
    · intro W hS
      have k0 := (HBP.out.below hS).cell 0
      have k1 := (HBP.out.below hS).cell 1
      have k2 := (HBP.out.below hS).cell 2
      have k3 := (HBP.out.below hS).cell 3
      have k4 := (HBP.out.below hS).cell 4
      have j3 := (HBQ.out.below hS).cell 3
      go_simp
      first | done | with_reducible rfl
    simp only [Act.put, List.getElem_toArray, List.getElem_cons_succ, List.getElem_cons_zero, List.setIfInBounds_toArray, List.set_cons_zero, List.set_cons_succ]
    refine wpAnyH_take (i := 19) (v := ?_) rfl (by kernel_rfl) (by kernel_rfl) (by kernel_rfl) (fun _ _ _ h => h) (Or.inl ⟨by kernel_rfl, ?_⟩) hH ?_
    rotate_left
    · intro W hS
      have k0 := (HBP.out.below hS).cell 0
      have k1 := (HBP.out.below hS).cell 1
      have k2 := (HBP.out.below hS).cell 2
      have k3 := (HBP.out.below hS).cell 3
      have k4 := (HBP.out.below hS).cell 4
      have j3 := (HBQ.out.below hS).cell 3
      go_simp
      first | done | with_reducible rfl
    simp only [Act.put, List.getElem_toArray, List.getElem_cons_succ, List.getElem_cons_zero, List.setIfInBounds_toArray, List.set_cons_zero, List.set_cons_succ]
    refine wpAnyH_take (i := 20) (v := ?_) rfl (by kernel_rfl) (by kernel_rfl) (by kernel_rfl) (fun _ _ _ h => h) (Or.inl ⟨by kernel_rfl, ?_⟩) hH ?_
    rotate_left
    · intro W hS
      have k0 := (HBP.out.below hS).cell 0
      have k1 := (HBP.out.below hS).cell 1
      have k2 := (HBP.out.below hS).cell 2
      have k3 := (HBP.out.below hS).cell 3
      have k4 := (HBP.out.below hS).cell 4
      have j3 := (HBQ.out.below hS).cell 3
      go_simp
      first | done | with_reducible rfl
    simp only [Act.put, List.getElem_toArray, List.getElem_cons_succ, List.getElem_cons_zero, List.setIfInBounds_toArray, List.set_cons_zero, List.set_cons_succ]
    refine wpAnyH_take (i := 21) (v := ?_) rfl (by kernel_rfl) (by kernel_rfl) (by kernel_rfl) (fun _ _ _ h => h) (Or.inl ⟨by kernel_rfl, ?_⟩) hH ?_
    rotate_left
    · intro W hS
      have k0 := (HBP.out.below hS).cell 0
      have k1 := (HBP.out.below hS).cell 1
      have k2 := (HBP.out.below hS).cell 2
      have k3 := (HBP.out.below hS).cell 3
      have k4 := (HBP.out.below hS).cell 4
      have j3 := (HBQ.out.below hS).cell 3
      go_simp
      first | done | with_reducible rfl
    simp only [Act.put, List.getElem_toArray, List.getElem_cons_succ, List.getElem_cons_zero, List.setIfInBounds_toArray, List.set_cons_zero, List.set_cons_succ]
    refine wpAnyH_take (i := 22) (v := ?_) rfl (by kernel_rfl) (by kernel_rfl) (by kernel_rfl) (fun _ _ _ h => h) (Or.inl ⟨by kernel_rfl, ?_⟩) hH ?_
    rotate_left
    · intro W hS
      have k0 := (HBP.out.below hS).cell 0
      have k1 := (HBP.out.below hS).cell 1
      have k2 := (HBP.out.below hS).cell 2
      have k3 := (HBP.out.below hS).cell 3
      have k4 := (HBP.out.below hS).cell 4
      have j3 := (HBQ.out.below hS).cell 3
      go_simp
      first | done | with_reducible rfl
    simp only [Act.put, List.getElem_toArray, List.getElem_cons_succ, List.getElem_cons_zero, List.setIfInBounds_toArray, List.set_cons_zero, List.set_cons_succ]
    refine wpAnyH_take (i := 23) (v := ?_) rfl (by kernel_rfl) (by kernel_rfl) (by kernel_rfl) (fun _ _ _ h => h) (Or.inl ⟨by kernel_rfl, ?_⟩) hH ?_
    rotate_left
    · intro W hS
      have k0 := (HBP.out.below hS).cell 0
      have k1 := (HBP.out.below hS).cell 1
      have k2 := (HBP.out.below hS).cell 2
      have k3 := (HBP.out.below hS).cell 3
      have k4 := (HBP.out.below hS).cell 4
      have j3 := (HBQ.out.below hS).cell 3
      go_simp
      first | done | with_reducible rfl
    simp only [Act.put, List.getElem_toArray, List.getElem_cons_succ, List.getElem_cons_zero, List.setIfInBounds_toArray, List.set_cons_zero, List.set_cons_succ]
    refine wpAnyH_take (i := 24) (v := ?_) rfl (by kernel_rfl) (by kernel_rfl) (by kernel_rfl) (fun _ _ _ h => h) (Or.inl ⟨by kernel_rfl, ?_⟩) hH ?_
    rotate_left
    · intro W hS
      have k0 := (HBP.out.below hS).cell 0
      have k1 := (HBP.out.below hS).cell 1
      have k2 := (HBP.out.below hS).cell 2
      have k3 := (HBP.out.below hS).cell 3
      have k4 := (HBP.out.below hS).cell 4
      have j3 := (HBQ.out.below hS).cell 3
      go_simp
      first | done | with_reducible rfl
    simp only [Act.put, List.getElem_toArray, List.getElem_cons_succ, List.getElem_cons_zero, List.setIfInBounds_toArray, List.set_cons_zero, List.set_cons_succ]
    refine wpAnyH_take (i := 25) (v := ?_) rfl (by kernel_rfl) (by kernel_rfl) (by kernel_rfl) (fun _ _ _ h => h) (Or.inl ⟨by kernel_rfl, ?_⟩) hH ?_
    rotate_left
    · intro W hS
      have k0 := (HBP.out.below hS).cell 0
      have k1 := (HBP.out.below hS).cell 1
      have k2 := (HBP.out.below hS).cell 2
      have k3 := (HBP.out.below hS).cell 3
      have k4 := (HBP.out.below hS).cell 4
      have j3 := (HBQ.out.below hS).cell 3
      go_simp
      first | done | with_reducible rfl
    simp only [Act.put, List.getElem_toArray, List.getElem_cons_succ, List.getElem_cons_zero, List.setIfInBounds_toArray, List.set_cons_zero, List.set_cons_succ]
    refine wpAnyH_take (i := 26) (v := ?_) rfl (by kernel_rfl) (by kernel_rfl) (by kernel_rfl) (fun _ _ _ h => h) (Or.inl ⟨by kernel_rfl, ?_⟩) hH ?_
    rotate_left
    · intro W hS
      have k0 := (HBP.out.below hS).cell 0
      have k1 := (HBP.out.below hS).cell 1
      have k2 := (HBP.out.below hS).cell 2
      have k3 := (HBP.out.below hS).cell 3
      have k4 := (HBP.out.below hS).cell 4
      have j3 := (HBQ.out.below hS).cell 3
      go_simp
      first | done | with_reducible rfl
    simp only [Act.put, List.getElem_toArray, List.getElem_cons_succ, List.getElem_cons_zero, List.setIfInBounds_toArray, List.set_cons_zero, List.set_cons_succ]
    refine wpAnyH_take (i := 27) (v := ?_) rfl (by kernel_rfl) (by kernel_rfl) (by kernel_rfl) (fun _ _ _ h => h) (Or.inl ⟨by kernel_rfl, ?_⟩) hH ?_
    rotate_left
    · intro W hS
      have k0 := (HBP.out.below hS).cell 0
      have k1 := (HBP.out.below hS).cell 1
      have k2 := (HBP.out.below hS).cell 2
      have k3 := (HBP.out.below hS).cell 3
      have k4 := (HBP.out.below hS).cell 4
      have j3 := (HBQ.out.below hS).cell 3
      go_simp
      first | done | with_reducible rfl
    simp only [Act.put, List.getElem_toArray, List.getElem_cons_succ, List.getElem_cons_zero, List.setIfInBounds_toArray, List.set_cons_zero, List.set_cons_succ]
    refine wpAnyH_take (i := 28) (v := ?_) rfl (by kernel_rfl) (by kernel_rfl) (by kernel_rfl) (fun _ _ _ h => h) (Or.inl ⟨by kernel_rfl, ?_⟩) hH ?_
    rotate_left
    · intro W hS
      have k0 := (HBP.out.below hS).cell 0
      have k1 := (HBP.out.below hS).cell 1
      have k2 := (HBP.out.below hS).cell 2
      have k3 := (HBP.out.below hS).cell 3
      have k4 := (HBP.out.below hS).cell 4
      have j3 := (HBQ.out.below hS).cell 3
      go_simp
      first | done | with_reducible rfl
    simp only [Act.put, List.getElem_toArray, List.getElem_cons_succ, List.getElem_cons_zero, List.setIfInBounds_toArray, List.set_cons_zero, List.set_cons_succ]
    refine wpAnyH_take (i := 29) (v := ?_) rfl (by kernel_rfl) (by kernel_rfl) (by kernel_rfl) (fun _ _ _ h => h) (Or.inl ⟨by kernel_rfl, ?_⟩) hH ?_
    rotate_left
    · intro W hS
      have k0 := (HBP.out.below hS).cell 0
      have k1 := (HBP.out.below hS).cell 1
      have k2 := (HBP.out.below hS).cell 2
      have k3 := (HBP.out.below hS).cell 3
      have k4 := (HBP.out.below hS).cell 4
      have j3 := (HBQ.out.below hS).cell 3
      go_simp
      first | done | with_reducible rfl
    simp only [Act.put, List.getElem_toArray, List.getElem_cons_succ, List.getElem_cons_zero, List.setIfInBounds_toArray, List.set_cons_zero, List.set_cons_succ]
    refine wpAnyH_take (i := 30) (v := ?_) rfl (by kernel_rfl) (by kernel_rfl) (by kernel_rfl) (fun _ _ _ h => h) (Or.inl ⟨by kernel_rfl, ?_⟩) hH ?_
    rotate_left
    · intro W hS
      have k0 := (HBP.out.below hS).cell 0
      have k1 := (HBP.out.below hS).cell 1
      have k2 := (HBP.out.below hS).cell 2
      have k3 := (HBP.out.below hS).cell 3
      have k4 := (HBP.out.below hS).cell 4
      have j3 := (HBQ.out.below hS).cell 3
      go_simp
      first | done | with_reducible rfl
    simp only [Act.put, List.getElem_toArray, List.getElem_cons_succ, List.getElem_cons_zero, List.setIfInBounds_toArray, List.set_cons_zero, List.set_cons_succ]
    refine wpAnyH_take (i := 34) (v := ?_) rfl (by kernel_rfl) (by kernel_rfl) (by kernel_rfl) (fun _ _ _ h => h) (Or.inl ⟨by kernel_rfl, ?_⟩) hH ?_
    rotate_left
    · intro W hS
      have k0 := (HBP.out.below hS).cell 0
      have k1 := (HBP.out.below hS).cell 1
      have k2 := (HBP.out.below hS).cell 2
      have k3 := (HBP.out.below hS).cell 3
      have k4 := (HBP.out.below hS).cell 4
      have j3 := (HBQ.out.below hS).cell 3
      go_simp
      first | done | with_reducible rfl
    simp only [Act.put, List.getElem_toArray, List.getElem_cons_succ, List.getElem_cons_zero, List.setIfInBounds_toArray, List.set_cons_zero, List.set_cons_succ]
    refine wpAnyH_take (i := 35) (v := ?_) rfl (by kernel_rfl) (by kernel_rfl) (by kernel_rfl) (fun _ _ _ h => h) (Or.inl ⟨by kernel_rfl, ?_⟩) hH ?_
    rotate_left
    · intro W hS
      have k0 := (HBP.out.below hS).cell 0
      have k1 := (HBP.out.below hS).cell 1
      have k2 := (HBP.out.below hS).cell 2
      have k3 := (HBP.out.below hS).cell 3
      have k4 := (HBP.out.below hS).cell 4
      have j3 := (HBQ.out.below hS).cell 3
      go_simp
      first | done | with_reducible rfl
    simp only [Act.put, List.getElem_toArray, List.getElem_cons_succ, List.getElem_cons_zero, List.setIfInBounds_toArray, List.set_cons_zero, List.set_cons_succ]
    refine wpAnyH_take (i := 36) (v := ?_) rfl (by kernel_rfl) (by kernel_rfl) (by kernel_rfl) (fun _ _ _ h => h) (Or.inl ⟨by kernel_rfl, ?_⟩) hH ?_
    rotate_left
    · intro W hS
      have k0 := (HBP.out.below hS).cell 0
      have k1 := (HBP.out.below hS).cell 1
      have k2 := (HBP.out.below hS).cell 2
      have k3 := (HBP.out.below hS).cell 3
      have k4 := (HBP.out.below hS).cell 4
      have j3 := (HBQ.out.below hS).cell 3
      go_simp
      first | done | with_reducible rfl
    simp only [Act.put, List.getElem_toArray, List.getElem_cons_succ, List.getElem_cons_zero, List.setIfInBounds_toArray, List.set_cons_zero, List.set_cons_succ]
    refine wpAnyH_take (i := 37) (v := ?_) rfl (by kernel_rfl) (by kernel_rfl) (by kernel_rfl) (fun _ _ _ h => h) (Or.inl ⟨by kernel_rfl, ?_⟩) hH ?_
    rotate_left
    · intro W hS
      have k0 := (HBP.out.below hS).cell 0
      have k1 := (HBP.out.below hS).cell 1
      have k2 := (HBP.out.below hS).cell 2
      have k3 := (HBP.out.below hS).cell 3
      have k4 := (HBP.out.below hS).cell 4
      have j3 := (HBQ.out.below hS).cell 3
      go_simp
      first | done | with_reducible rfl
    simp only [Act.put, List.getElem_toArray, List.getElem_cons_succ, List.getElem_cons_zero, List.setIfInBounds_toArray, List.set_cons_zero, List.set_cons_succ]
    have hS0 : Below W17.heap.size W17 W17.drew := (Below.refl _ _).drew
    clear hH
    generalize W17.drew = wd at *
    refine wpAnyH_ready (rs := [31, 38]) (by kernel_rfl) (by simp) ?_
    refine AllReadyH.cons rfl (fun K hK => ?_) (AllReadyH.cons rfl (fun K hK => ?_) AllReadyH.nil)
    ·
      obtain ⟨wx1, hW1⟩ : ∃ W, W = wd.alloc (.cells #[strV clL] 9) := ⟨_, rfl⟩
      have hx1 : Below wd.heap.size wd wx1 := by rw [hW1]; exact below_alloc _ _
      have HN1 := hid (show Reads wx1 (.slice (some ⟨wd.heap.size, 0, none⟩) 1 1) ([clL].map strV) from by rw [hW1]; exact reads_new wd ([clL].map strV) 9 1)
      unfold clL at hW1
      go_simp
      rw [← hW1]
      clear hW1
      have hS1 := chain2 hS0 hS0.size hx1
      refine hK.out _ _ hS1 (fun _ => ?_)
      clear hK K
      try simp only [Act.put, List.getElem_toArray, List.getElem_cons_succ, List.getElem_cons_zero, List.setIfInBounds_toArray, List.set_cons_zero, List.set_cons_succ]
      refine wpAnyH_ready (rs := [32, 38]) (by kernel_rfl) (by simp) ?_
      refine AllReadyH.cons rfl (fun K hK => ?_) (AllReadyH.cons rfl (fun K hK => ?_) AllReadyH.nil)
      ·
        go_simp
        refine (lWithout_any _ _ (putL L o) [clL] wx1 (HLP.out.below hS1) HKP.out HN1.out ⟨by simp, fun n hn => by simp at hn; subst hn; decide⟩).mono ?_
        rintro e wx2 ⟨⟨va2, ka2, rfl, hoa2⟩, hx2⟩
        rw [outs_len L o] at hoa2
        obtain ⟨-, hra2⟩ := hoa2.reads2
        obtain ⟨aoa2, ca2, rfl⟩ := hra2.form
        clear hoa2 hra2
        have hS2 := chain2 hS1 hS1.size hx2
        refine hK.out _ _ hS2 (fun _ => ?_)
        clear hK K
        try simp only [Act.put, List.getElem_toArray, List.getElem_cons_succ, List.getElem_cons_zero, List.setIfInBounds_toArray, List.set_cons_zero, List.set_cons_succ]
        refine wpAnyH_take (i := 33) (v := ?_) rfl (by kernel_rfl) (by kernel_rfl) (by kernel_rfl) (fun _ _ _ h => h) (Or.inl ⟨by kernel_rfl, ?_⟩) hS2 ?_
        rotate_left
        · intro W hS
          go_simp
          first | done | with_reducible rfl
        simp only [Act.put, List.getElem_toArray, List.getElem_cons_succ, List.getElem_cons_zero, List.setIfInBounds_toArray, List.set_cons_zero, List.set_cons_succ]
        refine wpAnyH_ready (rs := [38]) (by kernel_rfl) (by simp) ?_
        refine AllReadyH.cons rfl (fun K hK => ?_) AllReadyH.nil
        obtain ⟨wx3, hW3⟩ : ∃ W, W = wx2.alloc (.cells #[strV clN, strV teN] 9) := ⟨_, rfl⟩
        have hx3 : Below wx2.heap.size wx2 wx3 := by rw [hW3]; exact below_alloc _ _
        have HN3 := hid (show Reads wx3 (.slice (some ⟨wx2.heap.size, 0, none⟩) 2 2) ([clN, teN].map strV) from by rw [hW3]; exact reads_new wx2 ([clN, teN].map strV) 9 2)
        unfold clN teN at hW3
        go_simp
        rw [← hW3]
        clear hW3
        have hS3 := chain2 hS2 hS2.size hx3
        refine hK.out _ _ hS3 (fun _ => ?_)
        clear hK K
        try simp only [Act.put, List.getElem_toArray, List.getElem_cons_succ, List.getElem_cons_zero, List.setIfInBounds_toArray, List.set_cons_zero, List.set_cons_succ]
        refine wpAnyH_ready (rs := [39]) (by kernel_rfl) (by simp) ?_
        refine AllReadyH.cons rfl (fun K hK => ?_) AllReadyH.nil
        go_simp
        refine (lWithout_any _ _ L [clN, teN] wx3 (HLQ.out.below hS3) HKL.out HN3.out ⟨by simp, fun n hn => by simp at hn; rcases hn with rfl | rfl <;> decide⟩).mono ?_
        rintro e wx4 ⟨⟨va4, ka4, rfl, hoa4⟩, hx4⟩
        rw [show outsF L [clN, teN] = bareL L from rfl] at hoa4
        obtain ⟨-, hra4⟩ := hoa4.reads2
        obtain ⟨aoa4, ca4, rfl⟩ := hra4.form
        clear hoa4 hra4
        have hS4 := chain2 hS3 hS3.size hx4
        refine hK.out _ _ hS4 (fun _ => ?_)
        clear hK K
        try simp only [Act.put, List.getElem_toArray, List.getElem_cons_succ, List.getElem_cons_zero, List.setIfInBounds_toArray, List.set_cons_zero, List.set_cons_succ]
        refine wpAnyH_take (i := 40) (v := ?_) rfl (by kernel_rfl) (by kernel_rfl) (by kernel_rfl) (fun _ _ _ h => h) (Or.inl ⟨by kernel_rfl, ?_⟩) hS4 ?_
        rotate_left
        · intro W hS
          go_simp
          first | done | with_reducible rfl
        simp only [Act.put, List.getElem_toArray, List.getElem_cons_succ, List.getElem_cons_zero, List.setIfInBounds_toArray, List.set_cons_zero, List.set_cons_succ]
        refine wpAnyH_take (i := 41) (v := ?_) rfl (by kernel_rfl) (by kernel_rfl) (by kernel_rfl) (fun _ _ _ h => h) (Or.inl ⟨by kernel_rfl, ?_⟩) hS4 ?_
        rotate_left
        · intro W hS
          go_simp
          first | done | with_reducible rfl
        simp only [Act.put, List.getElem_toArray, List.getElem_cons_succ, List.getElem_cons_zero, List.setIfInBounds_toArray, List.set_cons_zero, List.set_cons_succ]
        refine wpAnyH_take (i := 42) (v := ?_) rfl (by kernel_rfl) (by kernel_rfl) (by kernel_rfl) (fun _ _ _ h => h) (Or.inl ⟨by kernel_rfl, ?_⟩) hS4 ?_
        rotate_left
        · intro W hS
          go_simp
          first | done | with_reducible rfl
        simp only [Act.put, List.getElem_toArray, List.getElem_cons_succ, List.getElem_cons_zero, List.setIfInBounds_toArray, List.set_cons_zero, List.set_cons_succ]
        refine wpAnyH_take (i := 43) (v := ?_) rfl (by kernel_rfl) (by kernel_rfl) (by kernel_rfl) (fun _ _ _ h => h) (Or.inl ⟨by kernel_rfl, ?_⟩) hS4 ?_
        rotate_left
        · intro W hS
          go_simp
          first | done | with_reducible rfl
        simp only [Act.put, List.getElem_toArray, List.getElem_cons_succ, List.getElem_cons_zero, List.setIfInBounds_toArray, List.set_cons_zero, List.set_cons_succ]
        refine wpAnyH_done (by kernel_rfl) ?_ _
        go_wp2_with fail
        go_ret
        exact ⟨rfl, chain2 HBW.out HBW.out.size hS4⟩
      ·
        obtain ⟨wx2, hW2⟩ : ∃ W, W = wx1.alloc (.cells #[strV clN, strV teN] 9) := ⟨_, rfl⟩
        have hx2 : Below wx1.heap.size wx1 wx2 := by rw [hW2]; exact below_alloc _ _
        have HN2 := hid (show Reads wx2 (.slice (some ⟨wx1.heap.size, 0, none⟩) 2 2) ([clN, teN].map strV) from by rw [hW2]; exact reads_new wx1 ([clN, teN].map strV) 9 2)
        unfold clN teN at hW2
        go_simp
        rw [← hW2]
        clear hW2
        have hS2 := chain2 hS1 hS1.size hx2
        have HN1b := hid (HN1.out.below hx2)
        refine hK.out _ _ hS2 (fun _ => ?_)
        clear hK K
        try simp only [Act.put, List.getElem_toArray, List.getElem_cons_succ, List.getElem_cons_zero, List.setIfInBounds_toArray, List.set_cons_zero, List.set_cons_succ]
        refine wpAnyH_ready (rs := [32]) (by kernel_rfl) (by simp) ?_
        refine AllReadyH.cons rfl (fun K hK => ?_) AllReadyH.nil
        go_simp
        refine (lWithout_any _ _ (putL L o) [clL] wx2 (HLP.out.below hS2) HKP.out HN1b.out ⟨by simp, fun n hn => by simp at hn; subst hn; decide⟩).mono ?_
        rintro e wx3 ⟨⟨va3, ka3, rfl, hoa3⟩, hx3⟩
        rw [outs_len L o] at hoa3
        obtain ⟨-, hra3⟩ := hoa3.reads2
        obtain ⟨aoa3, ca3, rfl⟩ := hra3.form
        clear hoa3 hra3
        have hS3 := chain2 hS2 hS2.size hx3
        have HN2b := hid (HN2.out.below hx3)
        refine hK.out _ _ hS3 (fun _ => ?_)
        clear hK K
        try simp only [Act.put, List.getElem_toArray, List.getElem_cons_succ, List.getElem_cons_zero, List.setIfInBounds_toArray, List.set_cons_zero, List.set_cons_succ]
        refine wpAnyH_take (i := 33) (v := ?_) rfl (by kernel_rfl) (by kernel_rfl) (by kernel_rfl) (fun _ _ _ h => h) (Or.inl ⟨by kernel_rfl, ?_⟩) hS3 ?_
        rotate_left
        · intro W hS
          go_simp
          first | done | with_reducible rfl
        simp only [Act.put, List.getElem_toArray, List.getElem_cons_succ, List.getElem_cons_zero, List.setIfInBounds_toArray, List.set_cons_zero, List.set_cons_succ]
        refine wpAnyH_ready (rs := [39]) (by kernel_rfl) (by simp) ?_
        refine AllReadyH.cons rfl (fun K hK => ?_) AllReadyH.nil
        go_simp
        refine (lWithout_any _ _ L [clN, teN] wx3 (HLQ.out.below hS3) HKL.out HN2b.out ⟨by simp, fun n hn => by simp at hn; rcases hn with rfl | rfl <;> decide⟩).mono ?_
        rintro e wx4 ⟨⟨va4, ka4, rfl, hoa4⟩, hx4⟩
        rw [show outsF L [clN, teN] = bareL L from rfl] at hoa4
        obtain ⟨-, hra4⟩ := hoa4.reads2
        obtain ⟨aoa4, ca4, rfl⟩ := hra4.form
        clear hoa4 hra4
        have hS4 := chain2 hS3 hS3.size hx4
        refine hK.out _ _ hS4 (fun _ => ?_)
        clear hK K
        try simp only [Act.put, List.getElem_toArray, List.getElem_cons_succ, List.getElem_cons_zero, List.setIfInBounds_toArray, List.set_cons_zero, List.set_cons_succ]
        refine wpAnyH_take (i := 40) (v := ?_) rfl (by kernel_rfl) (by kernel_rfl) (by kernel_rfl) (fun _ _ _ h => h) (Or.inl ⟨by kernel_rfl, ?_⟩) hS4 ?_
        rotate_left
        · intro W hS
          go_simp
          first | done | with_reducible rfl
        simp only [Act.put, List.getElem_toArray, List.getElem_cons_succ, List.getElem_cons_zero, List.setIfInBounds_toArray, List.set_cons_zero, List.set_cons_succ]
        refine wpAnyH_take (i := 41) (v := ?_) rfl (by kernel_rfl) (by kernel_rfl) (by kernel_rfl) (fun _ _ _ h => h) (Or.inl ⟨by kernel_rfl, ?_⟩) hS4 ?_
        rotate_left
        · intro W hS
          go_simp
          first | done | with_reducible rfl
        simp only [Act.put, List.getElem_toArray, List.getElem_cons_succ, List.getElem_cons_zero, List.setIfInBounds_toArray, List.set_cons_zero, List.set_cons_succ]
        refine wpAnyH_take (i := 42) (v := ?_) rfl (by kernel_rfl) (by kernel_rfl) (by kernel_rfl) (fun _ _ _ h => h) (Or.inl ⟨by kernel_rfl, ?_⟩) hS4 ?_
        rotate_left
        · intro W hS
          go_simp
          first | done | with_reducible rfl
        simp only [Act.put, List.getElem_toArray, List.getElem_cons_succ, List.getElem_cons_zero, List.setIfInBounds_toArray, List.set_cons_zero, List.set_cons_succ]
        refine wpAnyH_take (i := 43) (v := ?_) rfl (by kernel_rfl) (by kernel_rfl) (by kernel_rfl) (fun _ _ _ h => h) (Or.inl ⟨by kernel_rfl, ?_⟩) hS4 ?_
        rotate_left
        · intro W hS
          go_simp
          first | done | with_reducible rfl
        simp only [Act.put, List.getElem_toArray, List.getElem_cons_succ, List.getElem_cons_zero, List.setIfInBounds_toArray, List.set_cons_zero, List.set_cons_succ]
        refine wpAnyH_done (by kernel_rfl) ?_ _
        go_wp2_with fail
        go_ret
        exact ⟨rfl, chain2 HBW.out HBW.out.size hS4⟩
    ·
      obtain ⟨wx1, hW1⟩ : ∃ W, W = wd.alloc (.cells #[strV clN, strV teN] 9) := ⟨_, rfl⟩
      have hx1 : Below wd.heap.size wd wx1 := by rw [hW1]; exact below_alloc _ _
      have HN1 := hid (show Reads wx1 (.slice (some ⟨wd.heap.size, 0, none⟩) 2 2) ([clN, teN].map strV) from by rw [hW1]; exact reads_new wd ([clN, teN].map strV) 9 2)
      unfold clN teN at hW1
      go_simp
      rw [← hW1]
      clear hW1
      have hS1 := chain2 hS0 hS0.size hx1
      refine hK.out _ _ hS1 (fun _ => ?_)
      clear hK K
      try simp only [Act.put, List.getElem_toArray, List.getElem_cons_succ, List.getElem_cons_zero, List.setIfInBounds_toArray, List.set_cons_zero, List.set_cons_succ]
      refine wpAnyH_ready (rs := [31]) (by kernel_rfl) (by simp) ?_
      refine AllReadyH.cons rfl (fun K hK => ?_) AllReadyH.nil
      obtain ⟨wx2, hW2⟩ : ∃ W, W = wx1.alloc (.cells #[strV clL] 9) := ⟨_, rfl⟩
      have hx2 : Below wx1.heap.size wx1 wx2 := by rw [hW2]; exact below_alloc _ _
      have HN2 := hid (show Reads wx2 (.slice (some ⟨wx1.heap.size, 0, none⟩) 1 1) ([clL].map strV) from by rw [hW2]; exact reads_new wx1 ([clL].map strV) 9 1)
      unfold clL at hW2
      go_simp
      rw [← hW2]
      clear hW2
      have hS2 := chain2 hS1 hS1.size hx2
      have HN1b := hid (HN1.out.below hx2)
      refine hK.out _ _ hS2 (fun _ => ?_)
      clear hK K
      try simp only [Act.put, List.getElem_toArray, List.getElem_cons_succ, List.getElem_cons_zero, List.setIfInBounds_toArray, List.set_cons_zero, List.set_cons_succ]
      refine wpAnyH_ready (rs := [32]) (by kernel_rfl) (by simp) ?_
      refine AllReadyH.cons rfl (fun K hK => ?_) AllReadyH.nil
      go_simp
      refine (lWithout_any _ _ (putL L o) [clL] wx2 (HLP.out.below hS2) HKP.out HN2.out ⟨by simp, fun n hn => by simp at hn; subst hn; decide⟩).mono ?_
      rintro e wx3 ⟨⟨va3, ka3, rfl, hoa3⟩, hx3⟩
      rw [outs_len L o] at hoa3
      obtain ⟨-, hra3⟩ := hoa3.reads2
      obtain ⟨aoa3, ca3, rfl⟩ := hra3.form
      clear hoa3 hra3
      have hS3 := chain2 hS2 hS2.size hx3
      have HN1bb := hid (HN1b.out.below hx3)
      refine hK.out _ _ hS3 (fun _ => ?_)
      clear hK K
      try simp only [Act.put, List.getElem_toArray, List.getElem_cons_succ, List.getElem_cons_zero, List.setIfInBounds_toArray, List.set_cons_zero, List.set_cons_succ]
      refine wpAnyH_take (i := 33) (v := ?_) rfl (by kernel_rfl) (by kernel_rfl) (by kernel_rfl) (fun _ _ _ h => h) (Or.inl ⟨by kernel_rfl, ?_⟩) hS3 ?_
      rotate_left
      · intro W hS
        go_simp
        first | done | with_reducible rfl
      simp only [Act.put, List.getElem_toArray, List.getElem_cons_succ, List.getElem_cons_zero, List.setIfInBounds_toArray, List.set_cons_zero, List.set_cons_succ]
      refine wpAnyH_ready (rs := [39]) (by kernel_rfl) (by simp) ?_
      refine AllReadyH.cons rfl (fun K hK => ?_) AllReadyH.nil
      go_simp
      refine (lWithout_any _ _ L [clN, teN] wx3 (HLQ.out.below hS3) HKL.out HN1bb.out ⟨by simp, fun n hn => by simp at hn; rcases hn with rfl | rfl <;> decide⟩).mono ?_
      rintro e wx4 ⟨⟨va4, ka4, rfl, hoa4⟩, hx4⟩
      rw [show outsF L [clN, teN] = bareL L from rfl] at hoa4
      obtain ⟨-, hra4⟩ := hoa4.reads2
      obtain ⟨aoa4, ca4, rfl⟩ := hra4.form
      clear hoa4 hra4
      have hS4 := chain2 hS3 hS3.size hx4
      refine hK.out _ _ hS4 (fun _ => ?_)
      clear hK K
      try simp only [Act.put, List.getElem_toArray, List.getElem_cons_succ, List.getElem_cons_zero, List.setIfInBounds_toArray, List.set_cons_zero, List.set_cons_succ]
      refine wpAnyH_take (i := 40) (v := ?_) rfl (by kernel_rfl) (by kernel_rfl) (by kernel_rfl) (fun _ _ _ h => h) (Or.inl ⟨by kernel_rfl, ?_⟩) hS4 ?_
      rotate_left
      · intro W hS
        go_simp
        first | done | with_reducible rfl
      simp only [Act.put, List.getElem_toArray, List.getElem_cons_succ, List.getElem_cons_zero, List.setIfInBounds_toArray, List.set_cons_zero, List.set_cons_succ]
      refine wpAnyH_take (i := 41) (v := ?_) rfl (by kernel_rfl) (by kernel_rfl) (by kernel_rfl) (fun _ _ _ h => h) (Or.inl ⟨by kernel_rfl, ?_⟩) hS4 ?_
      rotate_left
      · intro W hS
        go_simp
        first | done | with_reducible rfl
      simp only [Act.put, List.getElem_toArray, List.getElem_cons_succ, List.getElem_cons_zero, List.setIfInBounds_toArray, List.set_cons_zero, List.set_cons_succ]
      refine wpAnyH_take (i := 42) (v := ?_) rfl (by kernel_rfl) (by kernel_rfl) (by kernel_rfl) (fun _ _ _ h => h) (Or.inl ⟨by kernel_rfl, ?_⟩) hS4 ?_
      rotate_left
      · intro W hS
        go_simp
        first | done | with_reducible rfl
      simp only [Act.put, List.getElem_toArray, List.getElem_cons_succ, List.getElem_cons_zero, List.setIfInBounds_toArray, List.set_cons_zero, List.set_cons_succ]
      refine wpAnyH_take (i := 43) (v := ?_) rfl (by kernel_rfl) (by kernel_rfl) (by kernel_rfl) (fun _ _ _ h => h) (Or.inl ⟨by kernel_rfl, ?_⟩) hS4 ?_
      rotate_left
      · intro W hS
        go_simp
        first | done | with_reducible rfl
      simp only [Act.put, List.getElem_toArray, List.getElem_cons_succ, List.getElem_cons_zero, List.setIfInBounds_toArray, List.set_cons_zero, List.set_cons_succ]
      refine wpAnyH_done (by kernel_rfl) ?_ _
      go_wp2_with fail
      go_ret
      exact ⟨rfl, chain2 HBW.out HBW.out.size hS4⟩
end Go.Proofs.YtongceljdgmbdaaGreatDoor
