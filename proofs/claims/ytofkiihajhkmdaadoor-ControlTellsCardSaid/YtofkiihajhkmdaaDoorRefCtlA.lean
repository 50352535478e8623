/-
  Contracts of the document's answers of layer 4: cut, seconds, told, said.
-/
import Derived.Test.YtofkiihajhkmdaaDoorRefSignD
import Derived.Test.YtofkiihajhkmdaaDoorRefSignB
import Derived.Test.YtofkiihajhkmdaaDoorBase2
import Derived.Test.YtofkiihajhkmdaaDoorPureCtl2
import Derived.Deep.QuietTactic
import Derived.BigQuiet
namespace Go.Proofs.YtofkiihajhkmdaaDoor
open Go.RowKit Go.Pantry

theorem extract_take (e : List UInt8) (k : Nat) : (⟨e.toArray⟩ : ByteArray).extract 0 k = ⟨(e.take k).toArray⟩ := by rw [Lib.extract_eq]; simp
theorem extract_drop (e : List UInt8) (k : Nat) : (⟨e.toArray⟩ : ByteArray).extract k e.length = ⟨(e.drop k).toArray⟩ := by
  rw [Lib.extract_eq]
  have : (e.drop k).take (e.length - k) = e.drop k := List.take_of_length_le (by rw [List.length_drop]; omega)
  simp only [this]

theorem refCut_any (e : List UInt8) (w : World) (hs : e.length < 4294967296) :
    Calls Tryd.prog 41 #[strV e] w fun r w' => r = .returned (.tuple #[strV (nameE e), strV (argE e), .bool (hasE e)]) ∧ Below w.heap.size w w' := by
  obtain ⟨s, hse⟩ : ∃ s : ByteArray, s = ⟨e.toArray⟩ := ⟨_, rfl⟩
  have hsz : s.size = e.length := by rw [hse, szL]
  have hdt : s.data.toList = e := by rw [hse, dtL]
  rw [show strV e = .string s by rw [hse]]
  have HD := hid hdt
  have HSE := hid hse
  have HSZ := hid hsz
  have hs2 : s.size < 4294967296 := by omega
  clear hdt hse hsz hs
  go_enter Tryd.func41, Tryd.ntmps41
  go_wp2
  go_loop [5] (fun i => ∃ k : Nat, k ≤ s.size ∧ i = .int .i64 k ∧ (61 : UInt8) ∉ s.data.toList.take k) (fun i => s.size - (intOf i).toNat)
  case atStart => exact ⟨0, Nat.zero_le _, rfl, by simp⟩
  case round =>
    obtain ⟨k, hk, rfl, hall⟩ := hrel
    have HA := hid hall
    clear hall
    by_cases hlt : k < s.size
    · have hd := hid (drop_cons s k hlt)
      go_wp2_with fail
      · have hc : s[k] = 61 := byte_yes 61 (z := 61) (by assumption) rfl
        have hw : IntKind.i64.wrap ((k : Int) + 1) = (k : Int) + 1 := IntWalk.i64_in _ (by omega)
        go_quiet (fail)
        go_wp2_with fail
        go_ret3
        have hspl : e = e.take k ++ 61 :: e.drop (k + 1) := by
          have h1 := hd.out
          rw [HD.out, hc] at h1
          rw [← h1, List.take_append_drop]
        have h61 : (61 : UInt8) ∉ e.take k := by have := HA.out; rwa [HD.out] at this
        obtain ⟨x1, x2, x3⟩ := nameE_at (a := e.take k) (b := e.drop (k + 1)) h61
        rw [← hspl] at x1 x2 x3
        have ex1 : s.extract 0 k = ⟨(e.take k).toArray⟩ := by rw [HSE.out, extract_take]
        have ex2 : s.extract (k + 1) s.size = ⟨(e.drop (k + 1)).toArray⟩ := by rw [HSZ.out, HSE.out, extract_drop]
        refine ⟨?_, drewN_below2 _ _⟩
        show Ending.returned (.tuple #[.string (s.extract 0 k), .string (s.extract (k + 1) s.size), .bool true]) = _
        rw [x1, x2, x3, ex1, ex2]
      · have hc : s[k] ≠ 61 := byte_no 61 (z := 61) (by assumption) rfl
        go_round
        case rel => exact ⟨k + 1, hlt, by go_num, by rw [take_succ_list s k hlt]; simp [HA.out, Ne.symm hc]⟩
        case measure => simp [intOf]; omega
    · have hke := take_all s k hlt
      have h61 : (61 : UInt8) ∉ e := by have := HA.out; rwa [hke, HD.out] at this
      obtain ⟨x1, x2, x3⟩ := nameE_none h61
      clear hke
      go_wp2_with fail
      go_ret3
      refine ⟨?_, Below.refl _ _⟩
      show Ending.returned (.tuple #[.string s, .string ⟨#[]⟩, .bool false]) = _
      first | rw [x1, x2, x3, HSE.out] | rw [HSE.out]

theorem refSeconds_any (arg : List UInt8) (other : Nat) (z : Int) (w : World) (hz : z = (other : Int)) (hs : arg.length < 4294967296) :
    Calls Tryd.prog 43 #[strV arg, .int .i64 z] w fun r w' => r = .returned (.int .i64 ((secE arg other : Nat) : Int)) ∧ Below w.heap.size w w' := by
  subst hz
  have c1 := fun W => refUnquote_any ⟨arg.toArray⟩ W (by rw [szL]; exact hs)
  rw [dtL] at c1
  obtain ⟨x, hx⟩ : ∃ x, secE arg other = x := ⟨_, rfl⟩
  rw [hx]
  unfold secE at hx
  cases hu : unquoteL arg with
  | none =>
    rw [hu] at hx c1
    simp only at hx
    subst hx
    have C1 := hid c1
    clear c1 hu
    go_enter Tryd.func43, Tryd.ntmps43
    go_wp2_with fail
    refine (C1.out _).mono ?_
    rintro e w1 ⟨rfl, hb⟩
    go_wp2_with fail
    go_ret
    exact ⟨rfl, hb⟩
  | some t =>
    rw [hu] at hx c1
    simp only at hx
    have htl := unquoteL_len hu
    have c2 := fun W => refNumber_any ⟨t.toArray⟩ W (by rw [szL]; omega)
    rw [dtL] at c2
    cases hn : numberL t with
    | none =>
      rw [hn] at hx c2
      have hx2 : other = x := hx
      subst hx2
      have C1 := hid c1
      have C2 := hid c2
      clear c1 c2 hu hn hx
      go_enter Tryd.func43, Tryd.ntmps43
      go_wp2_with fail
      refine (C1.out _).mono ?_
      rintro e w1 ⟨rfl, hb⟩
      go_wp2_with fail
      refine (C2.out _).mono ?_
      rintro e w2 ⟨rfl, rfl⟩
      go_wp2_with fail
      go_ret
      exact ⟨rfl, hb⟩
    | some n =>
      rw [hn] at hx c2
      have hx2 : n = x := hx
      subst hx2
      have C1 := hid c1
      have C2 := hid c2
      clear c1 c2 hu hn hx
      go_enter Tryd.func43, Tryd.ntmps43
      go_wp2_with fail
      refine (C1.out _).mono ?_
      rintro e w1 ⟨rfl, hb⟩
      go_wp2_with fail
      refine (C2.out _).mono ?_
      rintro e w2 ⟨rfl, rfl⟩
      go_wp2_with fail
      go_ret
      exact ⟨rfl, hb⟩

set_option maxHeartbeats 1000000 in
theorem refSaid_any (v : Value) (E : List (List UInt8)) (n : List UInt8) (w : World) (hr : Reads w v (E.map strV)) (hE : ∀ e ∈ E, e.length < 4294967296) (hn : E.length < 4294967296) :
    Calls Tryd.prog 26 #[v, strV n] w fun r w' => r = .returned (.bool (saidE n E)) ∧ Below w.heap.size w w' := by
  obtain ⟨ao, cap, rfl⟩ := Reads.strs hr
  obtain ⟨r, hr2⟩ : ∃ r, saidE n E = r := ⟨_, rfl⟩
  rw [hr2]
  have HR := hid hr
  have HE := hid hE
  have HRR := hid hr2
  clear hr hE hr2
  go_enter Tryd.func26, Tryd.ntmps26
  go_wp2
  go_loopw [5] (fun i wr => ∃ (k : Nat), k ≤ E.length ∧ i = .int .i64 k ∧ saidE n (E.take k) = false ∧ Below w.heap.size w wr) (fun i _ => E.length - (intOf i).toNat)
  case atStart => exact ⟨0, Nat.zero_le _, rfl, rfl, Below.refl _ _⟩
  case round =>
    obtain ⟨k, hk, rfl, ha, hb⟩ := hrel
    have HA := hid ha
    clear ha
    by_cases hlt : k < E.length
    · obtain ⟨e, he⟩ : ∃ e, E[k]? = some e := ⟨_, List.getElem?_eq_getElem hlt⟩
      obtain ⟨b, off, rfl, hc⟩ := Reads.str (HR.out.below hb) he
      have hel := HE.out e (List.mem_of_getElem? he)
      have HM := hid (List.mem_of_getElem? he)
      have HT := hid (take_str he)
      clear he
      have c1 := fun W => refCut_any e W hel
      have hnl : (nameE e).length ≤ e.length := nameE_len e
      have c2 := fun W => refLower_any ⟨(nameE e).toArray⟩ W (by rw [szL]; omega)
      rw [dtL] at c2
      obtain ⟨q, hq⟩ : ∃ q, (lowerL (nameE e) == n) = q := ⟨_, rfl⟩
      have HQ := hid hq
      have C1 := hid c1
      have C2 := hid c2
      generalize lowerL (nameE e) = ln at hq C2
      clear c1 c2 hnl hel
      cases q
      · go_wp2_with fail
        refine (C1.out _).mono ?_
        rintro e1 w1 ⟨rfl, hb1⟩
        go_wp2_with fail
        refine (C2.out _).mono ?_
        rintro e2 w2 ⟨rfl, hb2⟩
        have hbn := chain2 (chain2 hb hb.size hb1) (Nat.le_trans hb.size hb1.size) hb2
        go_wp2_with fail
        go_roundw
        case rel => exact ⟨k + 1, hlt, by go_num, by rw [HT.out, saidE_append, HA.out]; simpa [saidE] using HQ.out, hbn⟩
        case measure => simp [intOf]; omega
      · obtain rfl : r = true := by rw [← HRR.out]; exact List.any_eq_true.2 ⟨e, HM.out, HQ.out⟩
        go_wp2_with fail
        refine (C1.out _).mono ?_
        rintro e1 w1 ⟨rfl, hb1⟩
        go_wp2_with fail
        refine (C2.out _).mono ?_
        rintro e2 w2 ⟨rfl, hb2⟩
        have hbn := chain2 (chain2 hb hb.size hb1) (Nat.le_trans hb.size hb1.size) hb2
        go_wp2_with fail
        go_ret
        exact ⟨rfl, hbn⟩
    · have hke : E.take k = E := List.take_of_length_le (by omega)
      obtain rfl : r = false := by rw [← HRR.out, ← hke]; exact HA.out
      clear hke
      go_wp2_with fail
      go_ret
      exact ⟨rfl, hb⟩

set_option maxHeartbeats 4000000 in
theorem refTold_any (v : Value) (E : List (List UInt8)) (n : List UInt8) (other bare : Nat) (most : Bool) (zo zb : Int) (w : World) (hzo : zo = (other : Int)) (hzb : zb = (bare : Int)) (ho : other ≤ farN) (hbr : bare ≤ farN) (hr : Reads w v (E.map strV)) (hE : ∀ e ∈ E, e.length < 4294967296) (hn : E.length < 4294967296) :
    Calls Tryd.prog 27 #[v, strV n, .int .i64 zo, .int .i64 zb, .bool most] w fun r w' => r = .returned (.int .i64 (intO (toldE n other bare most E))) ∧ Below w.heap.size w w' := by
  subst hzo hzb
  obtain ⟨ao, cap, rfl⟩ := Reads.strs hr
  unfold farN at ho hbr
  have HR := hid hr
  have HE := hid hE
  clear hr hE
  go_enter Tryd.func27, Tryd.ntmps27
  go_wp2
  go_loopw [11, 12] (fun o i wr => ∃ (k : Nat), k ≤ E.length ∧ i = .int .i64 k ∧ o = .int .i64 (intO (toldE n other bare most (E.take k))) ∧ Below w.heap.size w wr) (fun _ i _ => E.length - (intOf i).toNat)
  case atStart => exact ⟨0, Nat.zero_le _, rfl, rfl, Below.refl _ _⟩
  case round =>
    obtain ⟨k, hk, rfl, rfl, hb⟩ := hrel
    by_cases hlt : k < E.length
    · obtain ⟨e, he⟩ : ∃ e, E[k]? = some e := ⟨_, List.getElem?_eq_getElem hlt⟩
      obtain ⟨b, off, rfl, hc⟩ := Reads.str (HR.out.below hb) he
      have hel := HE.out e (List.mem_of_getElem? he)
      have HT := hid (take_str he)
      clear he
      have hst := toldE_snoc n other bare most (E.take k) e
      rw [← HT.out] at hst
      have hdir : dirE n other bare e = if lowerL (nameE e) == n then some (if hasE e then secE (argE e) other else bare) else none := rfl
      have hfar := secE_far (argE e) other (by unfold farN; omega)
      unfold farN at hfar
      have c1 := fun W => refCut_any e W hel
      have hnl := nameE_len e
      have hal := argE_len e
      have c2 := fun W => refLower_any ⟨(nameE e).toArray⟩ W (by rw [szL]; omega)
      have c3 := fun W => refSeconds_any (argE e) other (other : Int) W rfl (by omega)
      rw [dtL] at c2
      obtain ⟨q, hq⟩ : ∃ q, (lowerL (nameE e) == n) = q := ⟨_, rfl⟩
      rw [hq] at hdir
      generalize lowerL (nameE e) = ln at hq c2
      generalize nameE e = ne at c1 c2
      generalize secE (argE e) other = sx at c3 hdir hfar
      generalize argE e = ae at c1 c3
      obtain ⟨hz, hhz⟩ : ∃ z, hasE e = z := ⟨_, rfl⟩
      rw [hhz] at c1 hdir
      obtain ⟨o, hob⟩ : ∃ o, toldE n other bare most (E.take k) = o := ⟨_, rfl⟩
      rw [hob] at hst ⊢
      have C1 := hid c1
      have C2 := hid c2
      have C3 := hid c3
      clear c1 c2 c3 hnl hal hel hhz hob
      cases q
      · have hst2 : toldE n other bare most (E.take (k + 1)) = o := by rw [hst, hdir]; exact comb_none _ _
        have HST := hid hst2
        have hq2 : (ln != n) = true := by rw [bne, hq]; rfl
        clear hst hst2 hdir
        go_wp2_with fail
        refine (C1.out _).mono ?_
        rintro e1 w1 ⟨rfl, hb1⟩
        go_wp2_with fail
        refine (C2.out _).mono ?_
        rintro e2 w2 ⟨rfl, hb2⟩
        have hbn := chain2 (chain2 hb hb.size hb1) (Nat.le_trans hb.size hb1.size) hb2
        go_wp2_with fail
        go_roundw
        case rel => exact ⟨k + 1, hlt, by go_num, by rw [HST.out], hbn⟩
        case measure => simp [intOf]; omega
      · have hq2 : (ln != n) = false := by rw [bne, hq]; rfl
        simp only [if_true] at hdir
        rw [hdir] at hst
        clear hdir
        obtain ⟨t, ht⟩ : ∃ t, (if hz = true then sx else bare) = t := ⟨_, rfl⟩
        rw [ht] at hst
        have htf : t ≤ 2147483648 := by rw [← ht]; split <;> omega
        have HST := hid hst
        have key : ∀ (x : Int), 0 ≤ x ∨ x = -1 → x = intO o → intO (comb most o (some t)) = if x < 0 then (t : Int) else if most = true then (if x < (t : Int) then (t : Int) else x) else (if (t : Int) < x then (t : Int) else x) := by
          intro x _ hx
          subst hx
          cases o with
          | none => rfl
          | some y =>
            have e1 : intO (some y) = (y : Int) := rfl
            rw [e1, if_neg (by omega)]
            cases most
            · rw [if_neg (by simp)]
              show ((min y t : Nat) : Int) = _
              by_cases h : t < y
              · rw [if_pos (by omega), Nat.min_eq_right (by omega)]
              · rw [if_neg (by omega), Nat.min_eq_left (by omega)]
            · rw [if_pos rfl]
              show ((max y t : Nat) : Int) = _
              by_cases h : y < t
              · rw [if_pos (by omega), Nat.max_eq_right (by omega)]
              · rw [if_neg (by omega), Nat.max_eq_left (by omega)]
        have hx0 : 0 ≤ intO o ∨ intO o = -1 := by cases o <;> simp [intO]
        have key2 := key (intO o) hx0 rfl
        clear key hst
        generalize intO o = x at key2 hx0 ⊢
        have HK := hid key2
        clear key2
        have hcase : (x = -1) ∨ (0 ≤ x ∧ most = true ∧ x < (t : Int)) ∨ (0 ≤ x ∧ most = true ∧ (t : Int) ≤ x) ∨ (0 ≤ x ∧ most = false ∧ (t : Int) < x) ∨ (0 ≤ x ∧ most = false ∧ x ≤ (t : Int)) := by
          cases most
          · simp; omega
          · simp; omega
        cases hz
        · have ht' : bare = t := by simpa using ht
          subst ht'
          clear ht
          rcases hcase with rfl | ⟨h0, rfl, h1⟩ | ⟨h0, rfl, h1⟩ | ⟨h0, rfl, h1⟩ | ⟨h0, rfl, h1⟩
          all_goals
            go_wp2_with fail
            refine (C1.out _).mono ?_
            rintro e1 w1 ⟨rfl, hb1⟩
            go_wp2_with fail
            refine (C2.out _).mono ?_
            rintro e2 w2 ⟨rfl, hb2⟩
            go_wp2_with fail
            refine (C3.out _).mono ?_
            rintro e3 w3 ⟨rfl, hb3⟩
            have hbn := chain2 (chain2 (chain2 hb hb.size hb1) (Nat.le_trans hb.size hb1.size) hb2) (Nat.le_trans (Nat.le_trans hb.size hb1.size) hb2.size) hb3
            go_wp2_with fail
            go_roundw
            case rel => exact ⟨k + 1, hlt, by go_num, by rw [HST.out, HK.out]; simp; try omega, hbn⟩
            case measure => simp [intOf]; omega
        · have ht' : sx = t := by simpa using ht
          subst ht'
          clear ht
          rcases hcase with rfl | ⟨h0, rfl, h1⟩ | ⟨h0, rfl, h1⟩ | ⟨h0, rfl, h1⟩ | ⟨h0, rfl, h1⟩
          all_goals
            go_wp2_with fail
            refine (C1.out _).mono ?_
            rintro e1 w1 ⟨rfl, hb1⟩
            go_wp2_with fail
            refine (C2.out _).mono ?_
            rintro e2 w2 ⟨rfl, hb2⟩
            go_wp2_with fail
            refine (C3.out _).mono ?_
            rintro e3 w3 ⟨rfl, hb3⟩
            have hbn := chain2 (chain2 (chain2 hb hb.size hb1) (Nat.le_trans hb.size hb1.size) hb2) (Nat.le_trans (Nat.le_trans hb.size hb1.size) hb2.size) hb3
            go_wp2_with fail
            go_roundw
            case rel => exact ⟨k + 1, hlt, by go_num, by rw [HST.out, HK.out]; simp; try omega, hbn⟩
            case measure => simp [intOf]; omega
    · have hke : E.take k = E := List.take_of_length_le (by omega)
      rw [hke]
      clear hke
      obtain ⟨o, hob⟩ : ∃ o, toldE n other bare most E = o := ⟨_, rfl⟩
      rw [hob]
      have HO := hid hob
      clear hob
      go_wp2_with fail
      go_ret
      exact ⟨ret_int (by rw [HO.out]), hb⟩
end Go.Proofs.YtofkiihajhkmdaaDoor
