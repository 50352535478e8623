/-
  The walk of PassRound.
-/
import Derived.Test.YtoolboafbkikjaaDoorF13Law13V
set_option linter.unusedVariables false
set_option linter.unusedSimpArgs false

namespace Go.Proofs.YtoolboafbkikjaaDoor
open Go.RowKit Go.Pantry

theorem asking_wide {req came : List Fld} (hr : SmallF req) (hc : SmallF came) : WideF (askingF req came) := by
  have h0 : WideF (outsF (onwardF req) askN) := (small_onward hr).outs _
  have hl : (outsF (onwardF req) askN).length ≤ 61 := by
    refine Nat.le_trans (outsF_len _ _) ?_
    rw [onward_len]
    have h1 : (outF (stripF req) nViaP).length ≤ req.length := Nat.le_trans (List.length_filter_le _ _) (strip_len req)
    have h2 := hr.len
    omega
  have g1 := hc.get nETag
  have g2 := hc.get nLast
  have a1 : WideF (outsF (onwardF req) askN ++ (if getF came nETag = [] then [] else [(sINM, getF came nETag)])) ∧ (outsF (onwardF req) askN ++ (if getF came nETag = [] then [] else [(sINM, getF came nETag)])).length ≤ 62 := by
    split
    · rw [List.append_nil]; exact ⟨h0, by omega⟩
    · exact ⟨h0.snoc (by omega) (show sINM.length ≤ 100000 by decide) (show (getF came nETag).length ≤ 100000 by omega), by rw [List.length_append]; simp; omega⟩
  unfold askingF
  by_cases h : (datedF came nLast).isSome = true
  · rw [if_pos h]; exact a1.1.snoc (f := (sIMS, getF came nLast)) (by omega) (show sIMS.length ≤ 100000 by decide) (show (getF came nLast).length ≤ 100000 by omega)
  · rw [if_neg h, List.append_nil]; exact a1.1
theorem byte_eqI {c : UInt8} (d : UInt8) {z : Int} (hd : (d.toNat : Int) = z) : ((c.toNat : Int) == z) = decide (c = d) := by
  cases h : ((c.toNat : Int) == z) with
  | true => exact (decide_eq_true (byte_yes d h hd)).symm
  | false => exact (decide_eq_false (byte_no d h hd)).symm
theorem outs_low (l : List Fld) : outsF l [sINM, sIMS] = outsF l [nINM, nIMS] := by
  simp only [outsF, List.any_cons, List.any_nil, isF_eq (show lowerL sINM = lowerL nINM by decide), isF_eq (show lowerL sIMS = lowerL nIMS by decide)]
set_option maxRecDepth 8000 in
set_option maxHeartbeats 4000000 in
theorem passRound_over {Ok : World → Prop} (K : Passes Ok) (rv : Value) (req : List Fld) (cv : Value) (came : List Fld) (w : World) (ok : Ok w) (hreq : Reads2 w rv req ∧ req.length ≤ maxLen) (hcame : Reads2 w cv came ∧ came.length ≤ maxLen) :
    Calls Tryd.prog 7 #[rv, cv] w fun e w' => e = .returned (.bool true) ∧ Below w.heap.size w w' := by
  have cA := hid (anchor13_any K.toMoves w ok)
  have cSreq := hid (fun (w' : World) (h : Below w.heap.size w w') => smallK_any rv req w' (hreq.1.below h) (by have := hreq.2; unfold maxLen at this; omega))
  have HRreq := hid hreq.1
  have cScame := hid (fun (w' : World) (h : Below w.heap.size w w') => smallK_any cv came w' (hcame.1.below h) (by have := hcame.2; unfold maxLen at this; omega))
  have HRcame := hid hcame.1
  have OK := hid ok
  clear ok hreq hcame
  go_enter Tryd.func7, Tryd.ntmps7
  go_wp2_with fail
  refine cA.out.mono ?_
  rintro e w1 ⟨rfl, hb1⟩
  have HB1 := hid hb1
  clear hb1 cA
  go_wp2_with fail
  refine (cSreq.out _ HB1.out).mono ?_
  rintro e w2 ⟨rfl, hb2⟩
  have HB2 := hid (chain2 HB1.out HB1.out.size hb2)
  clear hb2 HB1 cSreq
  cases hsreq : smallK req with
  | false =>
    go_wp2_with fail
    go_ret
    exact ⟨rfl, HB2.out⟩
  | true =>
  have Sreq := hid (smallK_ok hsreq)
  have Nreq := hid (smallK_len hsreq)
  clear hsreq
  go_wp2_with fail
  refine (cScame.out _ HB2.out).mono ?_
  rintro e w3 ⟨rfl, hb3⟩
  have HB3 := hid (chain2 HB2.out HB2.out.size hb3)
  clear hb3 HB2 cScame
  cases hscame : smallK came with
  | false =>
    go_wp2_with fail
    go_ret
    exact ⟨rfl, HB3.out⟩
  | true =>
  have Scame := hid (smallK_ok hscame)
  have Ncame := hid (smallK_len hscame)
  clear hscame
  have c1 := hid (fun (W : World) (h : Below w.heap.size w W) => lGetW_any cv came [69, 84, 97, 103] W (HRcame.out.below h) Scame.out.wide (by decide))
  simp only [getF_eq (show lowerL [69, 84, 97, 103] = lowerL nETag by decide)] at c1
  have hrg := fun h => round_good (req := req) (came := came) h
  have hpg := plain_good req came
  have hgl := Scame.out.get nETag
  have c2 := hid (fun (W : World) (h : Below w.heap.size w W) => K.asking rv cv req came W (K.keep _ _ OK.out h) (HRreq.out.below h) (HRcame.out.below h) Sreq.out Scame.out)
  have haw := asking_wide Sreq.out Scame.out
  have c3 := hid (fun (W : World) (x : Value) (h : Reads2 W x (askingF req came)) => lGetW_any x (askingF req came) sINM W h haw (by decide))
  have c4 := hid (fun (W : World) (x : Value) (h : Reads2 W x (askingF req came)) => lGetW_any x (askingF req came) sIMS W h haw (by decide))
  simp only [allF_eq (show lowerL sINM = lowerL nINM by decide)] at c3
  simp only [allF_eq (show lowerL sIMS = lowerL nIMS by decide)] at c4
  have c5 := hid (fun (W : World) (h : Below w.heap.size w W) => K.onward rv req W (K.keep _ _ OK.out h) (HRreq.out.below h) Sreq.out.wide)
  have how := small_onward Sreq.out
  have c6 := hid (fun (W : World) (x y : Value) (h : Reads2 W x (onwardF req)) (h2 : Reads W y ([sINM, sIMS].map strV)) => lWithout_any x y (onwardF req) [sINM, sIMS] W h how.okFs h2 ⟨by decide, by decide⟩)
  have c7 := hid (fun (W : World) (x : Value) (hb : Below w.heap.size w W) (h : Reads2 W x (askingF req came)) => K.good x cv (askingF req came) came W (K.keep _ _ OK.out hb) h (HRcame.out.below hb) haw Scame.out)
  have hpw := how.outs [sINM, sIMS]
  have c8 := hid (fun (W : World) (x : Value) (hb : Below w.heap.size w W) (h : Reads2 W x (outsF (onwardF req) [sINM, sIMS])) => K.good x cv (outsF (onwardF req) [sINM, sIMS]) came W (K.keep _ _ OK.out hb) h (HRcame.out.below hb) hpw Scame.out)
  rw [outs_low, hpg, ← outs_low] at c8
  generalize outsF (onwardF req) [sINM, sIMS] = PL at c6 c8
  obtain ⟨tag, htag⟩ : ∃ b, (!(allF (askingF req came) nINM).isEmpty) = b := ⟨_, rfl⟩
  obtain ⟨day, hday⟩ : ∃ b, (!(allF (askingF req came) nIMS).isEmpty) = b := ⟨_, rfl⟩
  rw [htag, hday] at hrg
  rw [htag] at c3
  rw [hday] at c4
  generalize getF (askingF req came) sINM = D1 at c3
  generalize getF (askingF req came) sIMS = D2 at c4
  generalize goodF (askingF req came) came = GA at c7 hrg
  generalize askingF req came = AK at c2 c3 c4 c7
  generalize onwardF req = ON at c5 c6
  generalize getF came nETag = T at c1 hrg hgl
  obtain ⟨s, hs⟩ : ∃ s : ByteArray, (⟨T.toArray⟩ : ByteArray) = s := ⟨_, rfl⟩
  have hT : T = s.data.toList := by rw [← hs]
  have hst : strV T = .string s := by rw [← hs]
  have hsz : s.size ≤ 18120 := by rw [← hs, szL]; exact hgl
  rw [hst] at c1
  rw [hT] at hrg
  have HRG := hid hrg
  clear hrg hpg hgl haw how hpw htag hday hs hT hst
  go_wp2_with fail
  refine (c1.out _ HB3.out).mono ?_
  rintro e w4 ⟨rfl, hb⟩
  have HB4 := hid (chain2 HB3.out HB3.out.size hb)
  clear hb HB3
  clear c1
  go_wp2_with fail
  go_loopw [31] (fun i wr => ∃ k : Nat, k ≤ s.size ∧ i = .int .i64 (k : Int) ∧ (∀ c ∈ s.data.toList.take k, c ≠ 44 ∧ isBl c = false) ∧ wr = w4) (fun i _ => s.size - (intOf i).toNat)
  case atStart => exact ⟨0, Nat.zero_le _, rfl, by simp, rfl⟩
  case round =>
    obtain ⟨k, hk, rfl, hall, rfl⟩ := hrel
    have HA := hid hall
    clear hall
    by_cases hlt : k < s.size
    · have hts := hid (take_succ_list s k hlt)
      have hkI : (k : Int) < (s.size : Int) := by omega
      have hk0 : (0 : Int) ≤ (k : Int) := by omega
      have hkw : IntKind.i64.wrap ((k : Int) + 1) = (k : Int) + 1 := IntWalk.i64_in _ (by omega)
      have hsw : IntKind.i64.wrap ((s.size : Int) - 1) = (s.size : Int) - 1 := IntWalk.i64_in _ (by omega)
      have hb44 : ((s[k].toNat : Int) == 44) = decide (s[k] = 44) := byte_eqI 44 rfl
      have hb32 : ((s[k].toNat : Int) == 32) = decide (s[k] = 32) := byte_eqI 32 rfl
      have hb9 : ((s[k].toNat : Int) == 9) = decide (s[k] = 9) := byte_eqI 9 rfl
      have hb34 : ((s[k].toNat : Int) == 34) = decide (s[k] = 34) := byte_eqI 34 rfl
      have hb92 : ((s[k].toNat : Int) == 92) = decide (s[k] = 92) := byte_eqI 92 rfl
      have hnx : s[k] ≠ 44 → isBl s[k] = false → ∀ c ∈ s.data.toList.take (k + 1), c ≠ 44 ∧ isBl c = false := by
        intro e1 e2 c hc
        rw [hts.out] at hc
        rcases List.mem_append.1 hc with h | h
        · exact HA.out c h
        · rw [List.mem_singleton.1 h]; exact ⟨e1, e2⟩
      have HNX := hid hnx
      clear hnx
      by_cases e44 : s[k] = 44
      · have z44 : ((s[k].toNat : Int) == 44) = true := by rw [hb44]; exact decide_eq_true e44
        clear hb44 hb32 hb9 hb34 hb92 HNX HA hts e44
        go_wp2_with fail
        go_ret
        exact ⟨rfl, HB4.out⟩
      have z44 : ((s[k].toNat : Int) == 44) = false := by rw [hb44]; exact decide_eq_false e44
      by_cases e34 : s[k] = 34
      · have z34 : ((s[k].toNat : Int) == 34) = true := by rw [hb34]; exact decide_eq_true e34
        have z32 : ((s[k].toNat : Int) == 32) = false := by rw [hb32, e34]; decide
        have z9 : ((s[k].toNat : Int) == 9) = false := by rw [hb9, e34]; decide
        have z92 : ((s[k].toNat : Int) == 92) = false := by rw [hb92, e34]; decide
        have HE := hid (show s[k] ≠ 44 ∧ isBl s[k] = false from ⟨e44, by rw [e34]; decide⟩)
        clear hb44 hb32 hb9 hb34 hb92 e44 e34
        by_cases p : (0 : Int) < (k : Int)
        · have dp : decide ((0 : Int) < (k : Int)) = true := decide_eq_true p
          have dz : ((k : Int) == 0) = false := by simp; omega
          by_cases d : (k : Int) < (s.size : Int) - 1
          · have dd : decide ((k : Int) < (s.size : Int) - 1) = true := decide_eq_true d
            go_wp2_with fail
            go_ret
            exact ⟨rfl, HB4.out⟩
          · have dd : decide ((k : Int) < (s.size : Int) - 1) = false := decide_eq_false d
            go_wp2_with fail
            go_roundw
            case rel => exact ⟨k + 1, hlt, by go_num, HNX.out HE.out.1 HE.out.2, by first | rfl | trivial⟩
            case measure => simp [intOf]; omega
        · have dp : decide ((0 : Int) < (k : Int)) = false := decide_eq_false p
          have dz : ((k : Int) == 0) = true := by simp; omega
          by_cases d : s.size = 1
          · have dd : ((s.size : Int) == 1) = true := by simp; omega
            go_wp2_with fail
            go_ret
            exact ⟨rfl, HB4.out⟩
          · have dd : ((s.size : Int) == 1) = false := by simp; omega
            go_wp2_with fail
            go_roundw
            case rel => exact ⟨k + 1, hlt, by go_num, HNX.out HE.out.1 HE.out.2, by first | rfl | trivial⟩
            case measure => simp [intOf]; omega
      have z34 : ((s[k].toNat : Int) == 34) = false := by rw [hb34]; exact decide_eq_false e34
      by_cases e32 : s[k] = 32
      · have z32 : ((s[k].toNat : Int) == 32) = true := by rw [hb32]; exact decide_eq_true e32
        clear hb44 hb32 hb9 hb34 hb92 e44 e34 e32 HNX HA hts
        by_cases p : (0 : Int) < (k : Int)
        · have dp : decide ((0 : Int) < (k : Int)) = true := decide_eq_true p
          go_wp2_with fail
          go_ret
          exact ⟨rfl, HB4.out⟩
        · have dp : decide ((0 : Int) < (k : Int)) = false := decide_eq_false p
          go_wp2_with fail
          go_ret
          exact ⟨rfl, HB4.out⟩
      have z32 : ((s[k].toNat : Int) == 32) = false := by rw [hb32]; exact decide_eq_false e32
      by_cases e9 : s[k] = 9
      · have z9 : ((s[k].toNat : Int) == 9) = true := by rw [hb9]; exact decide_eq_true e9
        clear hb44 hb32 hb9 hb34 hb92 e44 e34 e32 e9 HNX HA hts
        by_cases p : (0 : Int) < (k : Int)
        · have dp : decide ((0 : Int) < (k : Int)) = true := decide_eq_true p
          go_wp2_with fail
          go_ret
          exact ⟨rfl, HB4.out⟩
        · have dp : decide ((0 : Int) < (k : Int)) = false := decide_eq_false p
          go_wp2_with fail
          go_ret
          exact ⟨rfl, HB4.out⟩
      have z9 : ((s[k].toNat : Int) == 9) = false := by rw [hb9]; exact decide_eq_false e9
      by_cases e92 : s[k] = 92
      · have z92 : ((s[k].toNat : Int) == 92) = true := by rw [hb92]; exact decide_eq_true e92
        clear hb44 hb32 hb9 hb34 hb92 e44 e34 e32 e9 e92 HNX HA hts
        by_cases p : (0 : Int) < (k : Int)
        · have dp : decide ((0 : Int) < (k : Int)) = true := decide_eq_true p
          go_wp2_with fail
          go_ret
          exact ⟨rfl, HB4.out⟩
        · have dp : decide ((0 : Int) < (k : Int)) = false := decide_eq_false p
          go_wp2_with fail
          go_ret
          exact ⟨rfl, HB4.out⟩
      have z92 : ((s[k].toNat : Int) == 92) = false := by rw [hb92]; exact decide_eq_false e92
      have HE := hid (show s[k] ≠ 44 ∧ isBl s[k] = false from ⟨e44, by rw [← isBl_int, z32, z9]; rfl⟩)
      clear hb44 hb32 hb9 hb34 hb92 e44 e34 e32 e9 e92
      by_cases p : (0 : Int) < (k : Int)
      · have dp : decide ((0 : Int) < (k : Int)) = true := decide_eq_true p
        go_wp2_with fail
        go_roundw
        case rel => exact ⟨k + 1, hlt, by go_num, HNX.out HE.out.1 HE.out.2, by first | rfl | trivial⟩
        case measure => simp [intOf]; omega
      · have dp : decide ((0 : Int) < (k : Int)) = false := decide_eq_false p
        go_wp2_with fail
        go_roundw
        case rel => exact ⟨k + 1, hlt, by go_num, HNX.out HE.out.1 HE.out.2, by first | rfl | trivial⟩
        case measure => simp [intOf]; omega
    · have hnk : s.data.toList.take k = s.data.toList := List.take_of_length_le (by rw [Array.length_toList]; exact Nat.le_of_not_lt hlt)
      have hga := HRG.out (by rw [← hnk]; exact HA.out)
      subst hga
      have hdk : decide ((k : Int) < (s.size : Int)) = false := decide_eq_false (by omega)
      clear hnk HA HRG
      go_wp2_with fail
      refine (c2.out _ HB4.out).mono ?_
      rintro e w5 ⟨⟨va, rfl, hr⟩, hb⟩
      have HB5 := hid (chain2 HB4.out HB4.out.size hb)
      have A5 := hid (hr)
      clear hr
      clear hb HB4
      go_wp2_with fail
      refine (c3.out _ _ A5.out).mono ?_
      rintro e w6 ⟨rfl, hb⟩
      have HB6 := hid (chain2 HB5.out HB5.out.size hb)
      have A6 := hid (A5.out.below hb)
      clear hb HB5 A5
      go_wp2_with fail
      refine (c4.out _ _ A6.out).mono ?_
      rintro e w7 ⟨rfl, hb⟩
      have HB7 := hid (chain2 HB6.out HB6.out.size hb)
      have A7 := hid (A6.out.below hb)
      clear hb HB6 A6
      go_wp2_with fail
      refine (c5.out _ HB7.out).mono ?_
      rintro e w8 ⟨⟨vo, rfl, hr⟩, hb⟩
      have HB8 := hid (chain2 HB7.out HB7.out.size hb)
      have A8 := hid (A7.out.below hb)
      have O8 := hid (hr)
      clear hr
      clear hb HB7 A7
      have hbX := below_alloc w8 (.cells ([sINM, sIMS].map strV).toArray 9)
      have hrX := reads_new w8 ([sINM, sIMS].map strV) 9 2
      have d6 := hid (c6.out _ _ _ (O8.out.below hbX) hrX)
      have HBX := hid (chain2 HB8.out HB8.out.size hbX)
      have AX := hid (A8.out.below hbX)
      clear hbX hrX O8 HB8 A8 c6
      go_wp2_with fail
      refine d6.out.mono ?_
      rintro e w9 ⟨⟨vp, kp, rfl, hop⟩, hb⟩
      have HB9 := hid (chain2 HBX.out HBX.out.size hb)
      have A9 := hid (AX.out.below hb)
      have P9 := hid hop.reads2.2
      clear hb HBX AX hop d6
      go_wp2_with fail
      refine (c7.out _ _ HB9.out A9.out).mono ?_
      rintro e w10 ⟨rfl, hb⟩
      have HB10 := hid (chain2 HB9.out HB9.out.size hb)
      have A10 := hid (A9.out.below hb)
      have P10 := hid (P9.out.below hb)
      clear hb HB9 A9 P9
      clear A10
      cases tag <;> cases day
      all_goals
        go_wp2_with fail
        refine (c8.out _ _ HB10.out P10.out).mono ?_
        rintro e wz ⟨rfl, hb⟩
        have HBZ := hid (chain2 HB10.out HB10.out.size hb)
        clear hb
        go_wp2_with fail
        go_ret
        exact ⟨rfl, HBZ.out⟩
end Go.Proofs.YtoolboafbkikjaaDoor
