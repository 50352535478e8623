/-
  The walk of the statement WireReplies.
-/
import Derived.Test.YtongceljdgmbdaaGreatDoorW7fLaw07A
import Derived.Test.YtongceljdgmbdaaGreatDoorW7f03
import Derived.Test.YtongceljdgmbdaaGreatDoorW7fRef7S
import Derived.Test.YtongceljdgmbdaaGreatDoorW7fMadeR5

namespace Go.Proofs.YtongceljdgmbdaaGreatDoor
open Go.RowKit Go.Pantry

theorem rightS_res {st : Int} {m : List UInt8} {z : Int} {L : List Fld} (h : rightS st m z L = true) : rightRes ⟨m, [], st.toNat, z.toNat, L⟩ = true := by
  obtain ⟨hz, h1, h2⟩ := rightS_pos h
  unfold rightS formedS at h
  unfold rightRes
  simp only [Bool.and_eq_true, Bool.or_eq_true, Bool.not_eq_true', decide_eq_false_iff_not, decide_eq_true_eq, beq_iff_eq] at h ⊢
  obtain ⟨⟨⟨⟨⟨⟨h1z, h2z⟩, h3z⟩, h4z⟩, h5z⟩, h5⟩, h6⟩ := h
  exact ⟨⟨⟨by omega, h6⟩, ⟨⟨⟨by omega, by omega⟩, by omega⟩, h4z⟩, h5z⟩, trivial⟩
theorem putR_eq (mt : List UInt8) (st : Int) (m : List UInt8) (z : Int) (L : List Fld) (b : List UInt8) : refR mt st m z L b = putR mt st m z L b := by
  unfold refR putR
  split
  · rfl
  · rename_i h
    cases hd : (mt == [72, 69, 65, 68]) with
    | true => rfl
    | false =>
      have e : bareX false st = true → b = [] := fun hb => Decidable.byContradiction fun hn => h ⟨hb, hn⟩
      cases hb : bareX false st with
      | false => rfl
      | true =>
        rw [e hb]
        unfold putX
        simp only [Bool.false_eq_true, if_false, if_true, List.append_nil]
theorem putR_read {mt : List UInt8} {sn : Nat} {m : List UInt8} {z : Int} {L : List Fld} {b s : List UInt8} (h : refR mt (sn : Int) m z L b = .ok s) (hst : 200 ≤ sn) :
    s.length ≤ 6144 ∧ replyX (mt == [72, 69, 65, 68]) (s.length + 1) ⟨s, false, 0⟩ = (.ok (⟨m, [], sn, z.toNat, putL L (if bareX false (sn : Int) = true then none else some b.length)⟩, if (mt == [72, 69, 65, 68]) = true then [] else b), ⟨[], false, 0⟩) := by
  unfold refR at h
  by_cases hbb : bareX false (sn : Int) = true ∧ b ≠ []
  · rw [if_pos hbb] at h; cases h
  rw [if_neg hbb] at h
  obtain ⟨o, ho⟩ : ∃ o, (if bareX false (sn : Int) = true then none else some b.length) = o := ⟨_, rfl⟩
  rw [ho] at h ⊢
  unfold putX at h
  by_cases hq : rightS (sn : Int) m z (putL L o) = false
  · rw [if_pos hq] at h; cases h
  rw [if_neg hq] at h
  have hq' : rightS (sn : Int) m z (putL L o) = true := by simpa using hq
  have hrr := rightS_res hq'
  have en : ((sn : Int)).toNat = sn := Int.toNat_natCast sn
  rw [en] at h hrr
  have e : textH (resLine ⟨m, [], sn, z.toNat, []⟩) (putL L o) = textRes ⟨m, [], sn, z.toNat, putL L o⟩ := rfl
  rw [e] at h
  by_cases h4 : 4096 < (textRes ⟨m, [], sn, z.toNat, putL L o⟩).length
  · rw [if_pos h4] at h; cases h
  rw [if_neg h4] at h
  by_cases h2 : 2048 < b.length
  · rw [if_pos h2] at h; cases h
  rw [if_neg h2] at h
  have hs : s = textRes ⟨m, [], sn, z.toNat, putL L o⟩ ++ (if (mt == [72, 69, 65, 68]) = true then [] else b) := by
    have h' := Except.ok.inj h
    rw [← h']
    cases (mt == [72, 69, 65, 68]) <;> simp
  have hlen : s.length ≤ 6144 := by
    rw [hs, List.length_append]
    have : (if (mt == [72, 69, 65, 68]) = true then [] else b).length ≤ 2048 := by
      cases (mt == [72, 69, 65, 68]) <;> simp <;> omega
    omega
  refine ⟨hlen, ?_⟩
  rw [hs]
  exact reply_put (h := ⟨m, [], sn, z.toNat, putL L o⟩) (L := L) hst (by show putL L o = putL L (if bareX false (sn : Int) = true then none else some b.length); rw [ho]) hrr (by omega) (by omega) (fun hx => Decidable.byContradiction fun hn => hbb ⟨hx, hn⟩) _
set_option maxRecDepth 100000 in
set_option maxHeartbeats 16000000 in
theorem wireReplies_walk (smt : ByteArray) (st : Int) (sm : ByteArray) (z : Int) (v : Value) (L : List Fld) (vb : Value) (b : List UInt8) (w : World) (hmx : MaxOk w) (ht10 : Tab10 w) (_hsmt : smt.size ≤ maxLen) (_hsm : sm.size ≤ maxLen) (hL : Reads2 w v L ∧ (∀ f ∈ L, f.1.length ≤ maxLen ∧ f.2.length ≤ maxLen) ∧ L.length ≤ maxLen) (hlb : Reads w vb (b.map byteV) ∧ (∀ ao n cap, vb = .slice ao n cap → n ≤ cap) ∧ b.length ≤ maxLen) :
    Calls Tryz.prog 6 #[.string smt, .int .i64 st, .string sm, .int .i64 z, v, vb] w fun e w' => e = .returned (.bool true) ∧ Below w.heap.size w w' := by
  obtain ⟨m, rfl⟩ := as_list sm
  obtain ⟨mt, rfl⟩ := as_list smt
  rw [szL] at _hsm _hsmt
  obtain ⟨hr, -, hLl⟩ := hL
  obtain ⟨hbr, hroom, hbl⟩ := hlb
  obtain ⟨ao, cap, rfl⟩ := hr.form
  obtain ⟨aob, cb, rfl⟩ := hbr.form
  rw [List.length_map] at *
  unfold maxLen at hLl hbl _hsm _hsmt
  have HBY := hid (bytes_of hbr (hroom aob b.length cb rfl))
  have HR := hid hr
  have CA := hid (anchor_any w hmx)
  have cs := fun W h => small_any (.slice ao L.length cap) L W h (by omega)
  have HMX := hid hmx
  have HT10 := hid ht10
  obtain ⟨q, hq⟩ : ∃ q, smallF L = q := ⟨_, rfl⟩
  rw [hq] at cs
  have CS := hid cs
  have HQ := hid hq
  clear cs hq hr hbr hroom hmx ht10
  cases q with
  | false =>
    · go_enter Tryz.func6, Tryz.ntmps6
      go_wp2_with fail
      refine CA.out.mono ?_
      rintro e w1 ⟨rfl, hb1⟩
      go_wp2_with fail
      refine (CS.out _ (HR.out.below hb1)).mono ?_
      rintro e w2 ⟨rfl, hb2⟩
      go_wp2_with fail
      go_ret
      exact ⟨rfl, chain2 hb1 hb1.size hb2⟩

  | true =>
  by_cases h1 : (100 : Int) < (m.length : Int)
  · go_enter Tryz.func6, Tryz.ntmps6
    go_wp2_with fail
    refine CA.out.mono ?_
    rintro e w1 ⟨rfl, hb1⟩
    go_wp2_with fail
    refine (CS.out _ (HR.out.below hb1)).mono ?_
    rintro e w2 ⟨rfl, hb2⟩
    go_wp2_with fail
    go_ret
    exact ⟨rfl, chain2 hb1 hb1.size hb2⟩
  by_cases h3 : (3000 : Int) < (b.length : Int)
  · go_enter Tryz.func6, Tryz.ntmps6
    go_wp2_with fail
    refine CA.out.mono ?_
    rintro e w1 ⟨rfl, hb1⟩
    go_wp2_with fail
    refine (CS.out _ (HR.out.below hb1)).mono ?_
    rintro e w2 ⟨rfl, hb2⟩
    go_wp2_with fail
    go_ret
    exact ⟨rfl, chain2 hb1 hb1.size hb2⟩
  by_cases h2 : (30 : Int) < (mt.length : Int)
  · go_enter Tryz.func6, Tryz.ntmps6
    go_wp2_with fail
    refine CA.out.mono ?_
    rintro e w1 ⟨rfl, hb1⟩
    go_wp2_with fail
    refine (CS.out _ (HR.out.below hb1)).mono ?_
    rintro e w2 ⟨rfl, hb2⟩
    go_wp2_with fail
    go_ret
    exact ⟨rfl, chain2 hb1 hb1.size hb2⟩
  have hsm : (∀ f ∈ L, f.1.length ≤ 200 ∧ f.2.length ≤ 1100) ∧ L.length ≤ 70 := by
    have h := HQ.out
    unfold smallF at h
    rw [Bool.and_eq_true, List.all_eq_true] at h
    refine ⟨fun f hf => ?_, of_decide_eq_true h.2⟩
    have h5 := h.1 f hf
    rw [Bool.and_eq_true] at h5
    exact ⟨of_decide_eq_true h5.1, of_decide_eq_true h5.2⟩
  have hk : okFs L := ⟨by omega, fun f hf => by have := hsm.1 f hf; omega⟩
  have cq := fun W h hb => putReply_any mt st m z (.slice ao L.length cap) (.slice aob b.length cb) L b W (by omega) h hk (by omega) hb (by omega)
  have cr := fun W u h hb => refPutS_any mt m [] st z u (.slice aob b.length cb) L b W (by omega) (by simp) h hk (by omega) hb (by omega)
  have cm := fun W h => madeRes_any st m z (.slice ao L.length cap) L W h (by omega)
  obtain ⟨X, hX⟩ : ∃ X, refR mt st m z L b = X := ⟨_, rfl⟩
  rw [hX] at cr
  rw [← putR_eq, hX] at cq
  have HX := hid hX
  have CQ := hid cq
  have CR := hid cr
  have CM := hid cm
  have HLEN := hid (And.intro h3 hsm.2)
  have CN := hid (fun W => newReader_any W)
  clear cq cr cm hk hX hsm
  go_enter Tryz.func6, Tryz.ntmps6
  go_wp2_with fail
  refine CA.out.mono ?_
  rintro e w1 ⟨rfl, hb1⟩
  go_wp2_with fail
  refine (CS.out _ (HR.out.below hb1)).mono ?_
  rintro e w2 ⟨rfl, hb2⟩
  have hbA := chain2 hb1 hb1.size hb2
  obtain ⟨W3, hW3⟩ : ∃ W, W = w2.alloc (.cells #[.int .i64 st, strV m, .int .i64 z, .slice ao L.length cap, .slice aob b.length cb] 55) := ⟨_, rfl⟩
  have hb3 : Below w2.heap.size w2 W3 := by rw [hW3]; exact below_alloc _ _
  have hbq : rowIs W3 w2.heap.size #[.int .i64 st, strV m, .int .i64 z, .slice ao L.length cap, .slice aob b.length cb] 55 := by rw [hW3]; exact rowIs_new _ _ _
  have hbB := chain2 hbA hbA.size hb3
  clear CA CS hb1 hb2 hbA hb3
  go_wp2_with fail
  rw [← hW3]
  clear hW3
  refine (CQ.out _ (HR.out.below hbB) (bytes_below HBY.out hbB) (HT10.out.below hbB)).mono ?_
  rintro e w6 ⟨hp6, hb6⟩
  have hbq6 := hbq.below hb6
  have hbE := chain2 hbB hbB.size hb6
  have k0 := hbq6.cell 0
  have k1 := hbq6.cell 1
  have k2 := hbq6.cell 2
  have k3 := hbq6.cell 3
  clear CQ hbq hbB hb6
  cases X with
  | error k =>
    obtain ⟨hk0, rfl⟩ := hp6
    go_wp2_with fail
    refine (CM.out _ (HR.out.below hbE)).mono ?_
    rintro e w4 ⟨⟨aoh, ch, rfl, hrh⟩, hb4⟩
    have hbG := chain2 hbE hbE.size hb4
    clear k0 k1 k2 k3 CM hbE hb4 hbq6
    go_wp2_with fail
    refine (CR.out _ _ hrh (bytes_below HBY.out hbG)).mono ?_
    rintro e w7 ⟨⟨-, rfl⟩, hb7⟩
    have HB := hid (chain2 hbG hbG.size hb7)
    have hn0 : ((k : Int) != 0) = true := by simp; omega
    have hnn : ((k : Int) != (k : Int)) = false := by simp
    have cvn := fun W => reads_string (P := Tryz.prog) (show Reads W (.slice none 0 0) (([] : List UInt8).map byteV) from ⟨none, 0, rfl, (fun j u hj => by cases hj), fun _ => rfl⟩) 27 9 5 Tryz.underlying27 Tryz.underlying5 Tryz.underlying9
    clear CR hrh hbG hb7 hk0
    go_wp2_with fail
    go_ret
    exact ⟨rfl, HB.out⟩
  | ok s =>
    obtain ⟨ao6, c6, rfl, hby6⟩ := hp6
    go_wp2_with fail
    refine (CM.out _ (HR.out.below hbE)).mono ?_
    rintro e w4 ⟨⟨aoh, ch, rfl, hrh⟩, hb4⟩
    have hbG := chain2 hbE hbE.size hb4
    have hby4 := bytes_below hby6 hb4
    clear k0 k1 k2 k3 CM hbE hb4 hbq6 hby6
    go_wp2_with fail
    refine (CR.out _ _ hrh (bytes_below HBY.out hbG)).mono ?_
    rintro e w7 ⟨⟨ao7, c7, rfl, hby7⟩, hb7⟩
    have hbF := chain2 hbG hbG.size hb7
    have hby6' := bytes_below hby4 hb7
    have cv1 := reads_string (P := Tryz.prog) (bytesRead hby6') 27 9 5 Tryz.underlying27 Tryz.underlying5 Tryz.underlying9
    have cv2 := reads_string (P := Tryz.prog) (bytesRead hby7) 27 9 5 Tryz.underlying27 Tryz.underlying5 Tryz.underlying9
    have HS7 := hid hby6'
    have HBF := hid hbF
    clear CR hbG hb7 hby4 hby7 hby6' hbF hrh
    by_cases h200 : st < 200
    · go_wp2_with fail
      go_ret
      exact ⟨rfl, HBF.out⟩
    obtain ⟨sn, rfl⟩ : ∃ sn : Nat, st = (sn : Int) := ⟨st.toNat, by omega⟩
    obtain ⟨hsl, hrd⟩ := putR_read HX.out (by omega)
    generalize (if bareX false (sn : Int) = true then none else some b.length) = o at hrd
    have HSL := hid hsl
    have HRD := hid hrd
    clear hsl hrd
    go_wp2_with fail
    refine (CN.out _).mono ?_
    rintro e w8 ⟨rfl, hw8⟩
    have q8 := rdr_new w7 w7 (Below.refl _ _)
    rw [← hw8] at q8
    clear hw8 CN cv1 cv2
    generalize w7.heap.size = g at *
    have c9 := feedR_any q8 (.slice ao6 s.length c6) s (bytesRead (bytes_below HS7.out q8.bl)) (by simp) (by have := HSL.out; omega)
    rw [feedX_ok (by have := HSL.out; simp; omega), List.nil_append] at c9
    have C9 := hid c9
    clear c9 q8
    go_wp2_with fail
    refine C9.out.mono ?_
    rintro e w10 ⟨v10, rfl, q10, -⟩
    cases hhe : (mt == [72, 69, 65, 68]) with
    | true =>
      have HE := hid hhe
      have c11 := replyR_any q10 mt (HMX.out.below HBF.out) (by have := HSL.out; simp only; omega)
      rw [hhe] at c11
      have hrdd := HRD.out
      rw [hhe] at hrdd
      rw [hrdd] at c11
      simp only [if_true] at c11
      have C11 := hid c11
      clear C9 c11 q10 hrdd hhe
      go_wp2_with fail
      refine C11.out.mono ?_
      rintro e w12 ⟨⟨vl, vp, rfl, hol, hob⟩, v12, q12, -, -⟩
      obtain ⟨aop, cp, rfl⟩ := ownsRow_bytes_form hob
      obtain ⟨aol, cl2, rfl⟩ := ownsRow_form hol
      generalize hNP : (putL L o).length = nP at *
      generalize z.toNat = zn at *
      obtain ⟨W17, hW17⟩ : ∃ W, W = w12.alloc (.cells #[.int .i64 (sn : Int), strV m, .int .i64 (zn : Int), .slice aol nP cl2, .slice aop 0 cp] 55) := ⟨_, rfl⟩
      have hb17 : Below w12.heap.size w12 W17 := by rw [hW17]; exact below_alloc _ _
      have q17 := q12.then hb17
      have hbW := chain2 HBF.out HBF.out.size q17.bl
      have cv1 := reads_string (P := Tryz.prog) ((hob.reads).below hb17) 27 9 5 Tryz.underlying27 Tryz.underlying5 Tryz.underlying9
      try simp only [List.length_nil] at cv1
      have cv2 := reads_string (P := Tryz.prog) (bytesRead (bytes_below HBY.out hbW)) 27 9 5 Tryz.underlying27 Tryz.underlying5 Tryz.underlying9
      have cvn := fun W => reads_string (P := Tryz.prog) (show Reads W (.slice none 0 0) (([] : List UInt8).map byteV) from ⟨none, 0, rfl, (fun j u hj => by cases hj), fun _ => rfl⟩) 27 9 5 Tryz.underlying27 Tryz.underlying5 Tryz.underlying9
      have c18 := leftR_any q17
      have C18 := hid c18
      have HBW := hid hbW
      have he1 := HE.out
      have hbx : rowIs W17 w12.heap.size #[.int .i64 (sn : Int), strV m, .int .i64 (zn : Int), .slice aol nP cl2, .slice aop 0 cp] 55 := by rw [hW17]; exact rowIs_new _ _ _
      have x0 := hbx.cell 0
      have x4 := hbx.cell 4
      clear C11 hol hob q12 hb17 q17 hbW c18 hNP hbx
      go_wp2_with fail
      rw [← hW17]
      clear hW17
      refine C18.out.mono ?_
      rintro e w19 ⟨rfl, rfl⟩
      go_wp2_with fail
      go_ret
      exact ⟨rfl, HBW.out⟩
    | false =>
      have HE := hid hhe
      have c11 := replyR_any q10 mt (HMX.out.below HBF.out) (by have := HSL.out; simp only; omega)
      rw [hhe] at c11
      have hrdd := HRD.out
      rw [hhe] at hrdd
      rw [hrdd] at c11
      simp only [Bool.false_eq_true, if_false] at c11
      have C11 := hid c11
      clear C9 c11 q10 hrdd hhe
      go_wp2_with fail
      refine C11.out.mono ?_
      rintro e w12 ⟨⟨vl, vp, rfl, hol, hob⟩, v12, q12, -, -⟩
      obtain ⟨aop, cp, rfl⟩ := ownsRow_bytes_form hob
      obtain ⟨aol, cl2, rfl⟩ := ownsRow_form hol
      generalize hNP : (putL L o).length = nP at *
      generalize z.toNat = zn at *
      obtain ⟨W17, hW17⟩ : ∃ W, W = w12.alloc (.cells #[.int .i64 (sn : Int), strV m, .int .i64 (zn : Int), .slice aol nP cl2, .slice aop b.length cp] 55) := ⟨_, rfl⟩
      have hb17 : Below w12.heap.size w12 W17 := by rw [hW17]; exact below_alloc _ _
      have q17 := q12.then hb17
      have hbW := chain2 HBF.out HBF.out.size q17.bl
      have cv1 := reads_string (P := Tryz.prog) ((hob.reads).below hb17) 27 9 5 Tryz.underlying27 Tryz.underlying5 Tryz.underlying9
      skip
      have cv2 := reads_string (P := Tryz.prog) (bytesRead (bytes_below HBY.out hbW)) 27 9 5 Tryz.underlying27 Tryz.underlying5 Tryz.underlying9
      have cvn := fun W => reads_string (P := Tryz.prog) (show Reads W (.slice none 0 0) (([] : List UInt8).map byteV) from ⟨none, 0, rfl, (fun j u hj => by cases hj), fun _ => rfl⟩) 27 9 5 Tryz.underlying27 Tryz.underlying5 Tryz.underlying9
      have c18 := leftR_any q17
      have C18 := hid c18
      have HBW := hid hbW
      have he1 := HE.out
      have hbx : rowIs W17 w12.heap.size #[.int .i64 (sn : Int), strV m, .int .i64 (zn : Int), .slice aol nP cl2, .slice aop b.length cp] 55 := by rw [hW17]; exact rowIs_new _ _ _
      have x0 := hbx.cell 0
      have x4 := hbx.cell 4
      clear C11 hol hob q12 hb17 q17 hbW c18 hNP hbx
      go_wp2_with fail
      rw [← hW17]
      clear hW17
      refine C18.out.mono ?_
      rintro e w19 ⟨rfl, rfl⟩
      go_wp2_with fail
      go_ret
      exact ⟨rfl, HBW.out⟩
end Go.Proofs.YtongceljdgmbdaaGreatDoor
