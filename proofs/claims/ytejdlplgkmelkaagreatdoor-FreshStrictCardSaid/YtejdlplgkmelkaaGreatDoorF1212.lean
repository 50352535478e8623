/-
  Several texts in one: RefCtlA, RefCtlB.
-/
import Derived.Test.YtejdlplgkmelkaaGreatDoorF1211
import Derived.Test.YtejdlplgkmelkaaGreatDoorF1202
import Derived.Test.YtejdlplgkmelkaaGreatDoorPureAll1
import Derived.Deep.QuietTactic
import Derived.BigQuiet
import Derived.Test.YtejdlplgkmelkaaGreatDoorF1207
import Derived.Test.YtejdlplgkmelkaaGreatDoorF1204
set_option linter.unusedVariables false
set_option linter.unusedSimpArgs false
/-
  Contracts of the document's answers of layer 4: cut, seconds, told, said.
-/
namespace Go.Proofs.YtejdlplgkmelkaaGreatDoor
open Go.RowKit Go.Pantry

theorem extract_take (e : List UInt8) (k : Nat) : (⟨e.toArray⟩ : ByteArray).extract 0 k = ⟨(e.take k).toArray⟩ := by rw [Lib.extract_eq]; simp
theorem extract_drop (e : List UInt8) (k : Nat) : (⟨e.toArray⟩ : ByteArray).extract k e.length = ⟨(e.drop k).toArray⟩ := by
  rw [Lib.extract_eq]
  have : (e.drop k).take (e.length - k) = e.drop k := List.take_of_length_le (by rw [List.length_drop]; omega)
  simp only [this]

theorem refCut_any (e : List UInt8) (w : World) (hs : e.length < 4294967296) :
    Calls Tryz.prog 81 #[strV e] w fun r w' => r = .returned (.tuple #[strV (nameE e), strV (argE e), .bool (hasE e)]) ∧ Below w.heap.size w w' := by
  obtain ⟨s, hse⟩ : ∃ s : ByteArray, s = ⟨e.toArray⟩ := ⟨_, rfl⟩
  have hsz : s.size = e.length := by rw [hse, szL]
  have hdt : s.data.toList = e := by rw [hse, dtL]
  rw [show strV e = .string s by rw [hse]]
  have HD := hid hdt
  have HSE := hid hse
  have HSZ := hid hsz
  have hs2 : s.size < 4294967296 := by omega
  clear hdt hse hsz hs
  go_enter Tryz.func81, Tryz.ntmps81
  go_wp2
  go_loop [5] (fun i => ∃ k : Nat, k ≤ s.size ∧ i = .int .i64 k ∧ (61 : UInt8) ∉ s.data.toList.take k) (fun i => s.size - (intOf i).toNat)
  case atStart => exact ⟨0, Nat.zero_le _, rfl, by simp⟩
  case round =>
    obtain ⟨k, hk, rfl, hall⟩ := hrel
    have HA := hid hall
    clear hall
    by_cases hlt : k < s.size
    · have hd := hid (drop_cons s k hlt)
      go_wp2_with fail
      · have hc : s[k] = 61 := byte_yes 61 (z := 61) (by assumption) rfl
        have hw : IntKind.i64.wrap ((k : Int) + 1) = (k : Int) + 1 := IntWalk.i64_in _ (by omega)
        go_quiet (fail)
        go_wp2_with fail
        go_ret3
        have hspl : e = e.take k ++ 61 :: e.drop (k + 1) := by
          have h1 := hd.out
          rw [HD.out, hc] at h1
          rw [← h1, List.take_append_drop]
        have h61 : (61 : UInt8) ∉ e.take k := by have := HA.out; rwa [HD.out] at this
        obtain ⟨x1, x2, x3⟩ := nameE_at (a := e.take k) (b := e.drop (k + 1)) h61
        rw [← hspl] at x1 x2 x3
        have ex1 : s.extract 0 k = ⟨(e.take k).toArray⟩ := by rw [HSE.out, extract_take]
        have ex2 : s.extract (k + 1) s.size = ⟨(e.drop (k + 1)).toArray⟩ := by rw [HSZ.out, HSE.out, extract_drop]
        refine ⟨?_, drewN_below2 _ _⟩
        show Ending.returned (.tuple #[.string (s.extract 0 k), .string (s.extract (k + 1) s.size), .bool true]) = _
        rw [x1, x2, x3, ex1, ex2]
      · have hc : s[k] ≠ 61 := byte_no 61 (z := 61) (by assumption) rfl
        go_round
        case rel => exact ⟨k + 1, hlt, by go_num, by rw [take_succ_list s k hlt]; simp [HA.out, Ne.symm hc]⟩
        case measure => simp [intOf]; omega
    · have hke := take_all s k hlt
      have h61 : (61 : UInt8) ∉ e := by have := HA.out; rwa [hke, HD.out] at this
      obtain ⟨x1, x2, x3⟩ := nameE_none h61
      clear hke
      go_wp2_with fail
      go_ret3
      refine ⟨?_, Below.refl _ _⟩
      show Ending.returned (.tuple #[.string s, .string ⟨#[]⟩, .bool false]) = _
      first | rw [x1, x2, x3, HSE.out] | rw [HSE.out]

theorem refSeconds_any (arg : List UInt8) (other : Nat) (z : Int) (w : World) (hz : z = (other : Int)) (hs : arg.length < 4294967296) :
    Calls Tryz.prog 82 #[strV arg, .int .i64 z] w fun r w' => r = .returned (.int .i64 ((secE arg other : Nat) : Int)) ∧ Below w.heap.size w w' := by
  subst hz
  have c1 := fun W => refUnquote_any ⟨arg.toArray⟩ W (by rw [szL]; exact hs)
  rw [dtL] at c1
  obtain ⟨x, hx⟩ : ∃ x, secE arg other = x := ⟨_, rfl⟩
  rw [hx]
  unfold secE at hx
  cases hu : unquoteL arg with
  | none =>
    rw [hu] at hx c1
    simp only at hx
    subst hx
    have C1 := hid c1
    clear c1 hu
    go_enter Tryz.func82, Tryz.ntmps82
    go_wp2_with fail
    refine (C1.out _).mono ?_
    rintro e w1 ⟨rfl, hb⟩
    go_wp2_with fail
    go_ret
    exact ⟨rfl, hb⟩
  | some t =>
    rw [hu] at hx c1
    simp only at hx
    have htl := unquoteL_len hu
    have c2 := fun W => refNumber_any ⟨t.toArray⟩ W (by rw [szL]; omega)
    rw [dtL] at c2
    cases hn : numberL t with
    | none =>
      rw [hn] at hx c2
      have hx2 : other = x := hx
      subst hx2
      have C1 := hid c1
      have C2 := hid c2
      clear c1 c2 hu hn hx
      go_enter Tryz.func82, Tryz.ntmps82
      go_wp2_with fail
      refine (C1.out _).mono ?_
      rintro e w1 ⟨rfl, hb⟩
      go_wp2_with fail
      refine (C2.out _).mono ?_
      rintro e w2 ⟨rfl, rfl⟩
      go_wp2_with fail
      go_ret
      exact ⟨rfl, hb⟩
    | some n =>
      rw [hn] at hx c2
      have hx2 : n = x := hx
      subst hx2
      have C1 := hid c1
      have C2 := hid c2
      clear c1 c2 hu hn hx
      go_enter Tryz.func82, Tryz.ntmps82
      go_wp2_with fail
      refine (C1.out _).mono ?_
      rintro e w1 ⟨rfl, hb⟩
      go_wp2_with fail
      refine (C2.out _).mono ?_
      rintro e w2 ⟨rfl, rfl⟩
      go_wp2_with fail
      go_ret
      exact ⟨rfl, hb⟩

set_option maxHeartbeats 1000000 in
theorem refSaid_any (v : Value) (E : List (List UInt8)) (n : List UInt8) (w : World) (hr : Reads w v (E.map strV)) (hE : ∀ e ∈ E, e.length < 4294967296) (hn : E.length < 4294967296) :
    Calls Tryz.prog 57 #[v, strV n] w fun r w' => r = .returned (.bool (saidE n E)) ∧ Below w.heap.size w w' := by
  obtain ⟨ao, cap, rfl⟩ := Reads.strs hr
  obtain ⟨r, hr2⟩ : ∃ r, saidE n E = r := ⟨_, rfl⟩
  rw [hr2]
  have HR := hid hr
  have HE := hid hE
  have HRR := hid hr2
  clear hr hE hr2
  go_enter Tryz.func57, Tryz.ntmps57
  go_wp2
  go_loopw [5] (fun i wr => ∃ (k : Nat), k ≤ E.length ∧ i = .int .i64 k ∧ saidE n (E.take k) = false ∧ Below w.heap.size w wr) (fun i _ => E.length - (intOf i).toNat)
  case atStart => exact ⟨0, Nat.zero_le _, rfl, rfl, Below.refl _ _⟩
  case round =>
    obtain ⟨k, hk, rfl, ha, hb⟩ := hrel
    have HA := hid ha
    clear ha
    by_cases hlt : k < E.length
    · obtain ⟨e, he⟩ : ∃ e, E[k]? = some e := ⟨_, List.getElem?_eq_getElem hlt⟩
      obtain ⟨b, off, rfl, hc⟩ := Reads.str (HR.out.below hb) he
      have hel := HE.out e (List.mem_of_getElem? he)
      have HM := hid (List.mem_of_getElem? he)
      have HT := hid (take_str he)
      clear he
      have c1 := fun W => refCut_any e W hel
      have hnl : (nameE e).length ≤ e.length := nameE_len e
      have c2 := fun W => refLower_any ⟨(nameE e).toArray⟩ W (by rw [szL]; omega)
      rw [dtL] at c2
      obtain ⟨q, hq⟩ : ∃ q, (lowerL (nameE e) == n) = q := ⟨_, rfl⟩
      have HQ := hid hq
      have C1 := hid c1
      have C2 := hid c2
      generalize lowerL (nameE e) = ln at hq C2
      clear c1 c2 hnl hel
      cases q
      · go_wp2_with fail
        refine (C1.out _).mono ?_
        rintro e1 w1 ⟨rfl, hb1⟩
        go_wp2_with fail
        refine (C2.out _).mono ?_
        rintro e2 w2 ⟨rfl, hb2⟩
        have hbn := chain2 (chain2 hb hb.size hb1) (Nat.le_trans hb.size hb1.size) hb2
        go_wp2_with fail
        go_roundw
        case rel => exact ⟨k + 1, hlt, by go_num, by rw [HT.out, saidE_append, HA.out]; simpa [saidE] using HQ.out, hbn⟩
        case measure => simp [intOf]; omega
      · obtain rfl : r = true := by rw [← HRR.out]; exact List.any_eq_true.2 ⟨e, HM.out, HQ.out⟩
        go_wp2_with fail
        refine (C1.out _).mono ?_
        rintro e1 w1 ⟨rfl, hb1⟩
        go_wp2_with fail
        refine (C2.out _).mono ?_
        rintro e2 w2 ⟨rfl, hb2⟩
        have hbn := chain2 (chain2 hb hb.size hb1) (Nat.le_trans hb.size hb1.size) hb2
        go_wp2_with fail
        go_ret
        exact ⟨rfl, hbn⟩
    · have hke : E.take k = E := List.take_of_length_le (by omega)
      obtain rfl : r = false := by rw [← HRR.out, ← hke]; exact HA.out
      clear hke
      go_wp2_with fail
      go_ret
      exact ⟨rfl, hb⟩

set_option maxHeartbeats 4000000 in
theorem refTold_any (v : Value) (E : List (List UInt8)) (n : List UInt8) (other bare : Nat) (most : Bool) (zo zb : Int) (w : World) (hzo : zo = (other : Int)) (hzb : zb = (bare : Int)) (ho : other ≤ farN) (hbr : bare ≤ farN) (hr : Reads w v (E.map strV)) (hE : ∀ e ∈ E, e.length < 4294967296) (hn : E.length < 4294967296) :
    Calls Tryz.prog 58 #[v, strV n, .int .i64 zo, .int .i64 zb, .bool most] w fun r w' => r = .returned (.int .i64 (intO (toldE n other bare most E))) ∧ Below w.heap.size w w' := by
  subst hzo hzb
  obtain ⟨ao, cap, rfl⟩ := Reads.strs hr
  unfold farN at ho hbr
  have HR := hid hr
  have HE := hid hE
  clear hr hE
  go_enter Tryz.func58, Tryz.ntmps58
  go_wp2
  go_loopw [11, 12] (fun o i wr => ∃ (k : Nat), k ≤ E.length ∧ i = .int .i64 k ∧ o = .int .i64 (intO (toldE n other bare most (E.take k))) ∧ Below w.heap.size w wr) (fun _ i _ => E.length - (intOf i).toNat)
  case atStart => exact ⟨0, Nat.zero_le _, rfl, rfl, Below.refl _ _⟩
  case round =>
    obtain ⟨k, hk, rfl, rfl, hb⟩ := hrel
    by_cases hlt : k < E.length
    · obtain ⟨e, he⟩ : ∃ e, E[k]? = some e := ⟨_, List.getElem?_eq_getElem hlt⟩
      obtain ⟨b, off, rfl, hc⟩ := Reads.str (HR.out.below hb) he
      have hel := HE.out e (List.mem_of_getElem? he)
      have HT := hid (take_str he)
      clear he
      have hst := toldE_snoc n other bare most (E.take k) e
      rw [← HT.out] at hst
      have hdir : dirE n other bare e = if lowerL (nameE e) == n then some (if hasE e then secE (argE e) other else bare) else none := rfl
      have hfar := secE_far (argE e) other (by unfold farN; omega)
      unfold farN at hfar
      have c1 := fun W => refCut_any e W hel
      have hnl := nameE_len e
      have hal := argE_len e
      have c2 := fun W => refLower_any ⟨(nameE e).toArray⟩ W (by rw [szL]; omega)
      have c3 := fun W => refSeconds_any (argE e) other (other : Int) W rfl (by omega)
      rw [dtL] at c2
      obtain ⟨q, hq⟩ : ∃ q, (lowerL (nameE e) == n) = q := ⟨_, rfl⟩
      rw [hq] at hdir
      generalize lowerL (nameE e) = ln at hq c2
      generalize nameE e = ne at c1 c2
      generalize secE (argE e) other = sx at c3 hdir hfar
      generalize argE e = ae at c1 c3
      obtain ⟨hz, hhz⟩ : ∃ z, hasE e = z := ⟨_, rfl⟩
      rw [hhz] at c1 hdir
      obtain ⟨o, hob⟩ : ∃ o, toldE n other bare most (E.take k) = o := ⟨_, rfl⟩
      rw [hob] at hst ⊢
      have C1 := hid c1
      have C2 := hid c2
      have C3 := hid c3
      clear c1 c2 c3 hnl hal hel hhz hob
      cases q
      · have hst2 : toldE n other bare most (E.take (k + 1)) = o := by rw [hst, hdir]; exact comb_none _ _
        have HST := hid hst2
        have hq2 : (ln != n) = true := by rw [bne, hq]; rfl
        clear hst hst2 hdir
        go_wp2_with fail
        refine (C1.out _).mono ?_
        rintro e1 w1 ⟨rfl, hb1⟩
        go_wp2_with fail
        refine (C2.out _).mono ?_
        rintro e2 w2 ⟨rfl, hb2⟩
        have hbn := chain2 (chain2 hb hb.size hb1) (Nat.le_trans hb.size hb1.size) hb2
        go_wp2_with fail
        go_roundw
        case rel => exact ⟨k + 1, hlt, by go_num, by rw [HST.out], hbn⟩
        case measure => simp [intOf]; omega
      · have hq2 : (ln != n) = false := by rw [bne, hq]; rfl
        simp only [if_true] at hdir
        rw [hdir] at hst
        clear hdir
        obtain ⟨t, ht⟩ : ∃ t, (if hz = true then sx else bare) = t := ⟨_, rfl⟩
        rw [ht] at hst
        have htf : t ≤ 2147483648 := by rw [← ht]; split <;> omega
        have HST := hid hst
        have key : ∀ (x : Int), 0 ≤ x ∨ x = -1 → x = intO o → intO (comb most o (some t)) = if x < 0 then (t : Int) else if most = true then (if x < (t : Int) then (t : Int) else x) else (if (t : Int) < x then (t : Int) else x) := by
          intro x _ hx
          subst hx
          cases o with
          | none => rfl
          | some y =>
            have e1 : intO (some y) = (y : Int) := rfl
            rw [e1, if_neg (by omega)]
            cases most
            · rw [if_neg (by simp)]
              show ((min y t : Nat) : Int) = _
              by_cases h : t < y
              · rw [if_pos (by omega), Nat.min_eq_right (by omega)]
              · rw [if_neg (by omega), Nat.min_eq_left (by omega)]
            · rw [if_pos rfl]
              show ((max y t : Nat) : Int) = _
              by_cases h : y < t
              · rw [if_pos (by omega), Nat.max_eq_right (by omega)]
              · rw [if_neg (by omega), Nat.max_eq_left (by omega)]
        have hx0 : 0 ≤ intO o ∨ intO o = -1 := by cases o <;> simp [intO]
        have key2 := key (intO o) hx0 rfl
        clear key hst
        generalize intO o = x at key2 hx0 ⊢
        have HK := hid key2
        clear key2
        have hcase : (x = -1) ∨ (0 ≤ x ∧ most = true ∧ x < (t : Int)) ∨ (0 ≤ x ∧ most = true ∧ (t : Int) ≤ x) ∨ (0 ≤ x ∧ most = false ∧ (t : Int) < x) ∨ (0 ≤ x ∧ most = false ∧ x ≤ (t : Int)) := by
          cases most
          · simp; omega
          · simp; omega
        cases hz
        · have ht' : bare = t := by simpa using ht
          subst ht'
          clear ht
          rcases hcase with rfl | ⟨h0, rfl, h1⟩ | ⟨h0, rfl, h1⟩ | ⟨h0, rfl, h1⟩ | ⟨h0, rfl, h1⟩
          all_goals
            go_wp2_with fail
            refine (C1.out _).mono ?_
            rintro e1 w1 ⟨rfl, hb1⟩
            go_wp2_with fail
            refine (C2.out _).mono ?_
            rintro e2 w2 ⟨rfl, hb2⟩
            go_wp2_with fail
            refine (C3.out _).mono ?_
            rintro e3 w3 ⟨rfl, hb3⟩
            have hbn := chain2 (chain2 (chain2 hb hb.size hb1) (Nat.le_trans hb.size hb1.size) hb2) (Nat.le_trans (Nat.le_trans hb.size hb1.size) hb2.size) hb3
            go_wp2_with fail
            go_roundw
            case rel => exact ⟨k + 1, hlt, by go_num, by rw [HST.out, HK.out]; simp; try omega, hbn⟩
            case measure => simp [intOf]; omega
        · have ht' : sx = t := by simpa using ht
          subst ht'
          clear ht
          rcases hcase with rfl | ⟨h0, rfl, h1⟩ | ⟨h0, rfl, h1⟩ | ⟨h0, rfl, h1⟩ | ⟨h0, rfl, h1⟩
          all_goals
            go_wp2_with fail
            refine (C1.out _).mono ?_
            rintro e1 w1 ⟨rfl, hb1⟩
            go_wp2_with fail
            refine (C2.out _).mono ?_
            rintro e2 w2 ⟨rfl, hb2⟩
            go_wp2_with fail
            refine (C3.out _).mono ?_
            rintro e3 w3 ⟨rfl, hb3⟩
            have hbn := chain2 (chain2 (chain2 hb hb.size hb1) (Nat.le_trans hb.size hb1.size) hb2) (Nat.le_trans (Nat.le_trans hb.size hb1.size) hb2.size) hb3
            go_wp2_with fail
            go_roundw
            case rel => exact ⟨k + 1, hlt, by go_num, by rw [HST.out, HK.out]; simp; try omega, hbn⟩
            case measure => simp [intOf]; omega
    · have hke : E.take k = E := List.take_of_length_le (by omega)
      rw [hke]
      clear hke
      obtain ⟨o, hob⟩ : ∃ o, toldE n other bare most E = o := ⟨_, rfl⟩
      rw [hob]
      have HO := hid hob
      clear hob
      go_wp2_with fail
      go_ret
      exact ⟨ret_int (by rw [HO.out]), hb⟩
end Go.Proofs.YtejdlplgkmelkaaGreatDoor
/-
  Contracts of the document's answers of layer 4: Of.
-/
namespace Go.Proofs.YtejdlplgkmelkaaGreatDoor
open Go.RowKit Go.Pantry

theorem infoRC : (Tryz.prog.info? 65).map (·.size) = some 10 := by kernel_rfl

set_option maxHeartbeats 8000000 in
theorem refOf_any (v : Value) (L : List Fld) (w : World) (hr : Reads2 w v L) (hL : ∀ f ∈ L, f.1.length ≤ 100000 ∧ f.2.length ≤ 100000) (hn : L.length ≤ 1000) :
    Calls Tryz.prog 33 #[v] w fun e w' => e = .returned (ctlV (ctlF L)) ∧ Below w.heap.size w w' := by
  have hL1 : ∀ f ∈ L, f.1.length < 4294967296 := fun f hf => by have := (hL f hf).1; omega
  have hL2 : ∀ f ∈ L, f.2.length ≤ 100000 := fun f hf => (hL f hf).2
  obtain ⟨hz, hzs⟩ := elementsF_size (n := nCC) hL2 hn
  have ce := fun W h => refElements_any v L ⟨nCC.toArray⟩ W h hL1 hL2 hn (by decide)
  have cg := fun W h => refGet_any v L ⟨nCC.toArray⟩ W h hL1 hL2 hn (by decide)
  have ch := fun W h => refHas_any v L ⟨nPragma.toArray⟩ ⟨nNoCache.toArray⟩ W h hL1 hL2 hn (by decide) (by decide)
  rw [dtL] at ce cg
  rw [dtL, dtL] at ch
  have hc : ctlF L = ctlE (elementsF L nCC) ((allF L nCC).isEmpty && hasF L nPragma nNoCache) := rfl
  have hal := allF_len L nCC
  generalize elementsF L nCC = E at ce hc hz hzs
  generalize getF L nCC = G at cg
  obtain ⟨T, hT⟩ : ∃ T, allF L nCC = T := ⟨_, rfl⟩
  rw [hT] at cg hc hal
  generalize hasF L nPragma nNoCache = hp at ch hc
  have hEs : ∀ e ∈ E, e.length < 4294967296 := fun e he => by have := hzs e he; omega
  have sd := fun n W v h => refSaid_any v E n W h hEs (by omega)
  have td := fun n o b m zo zb W v hzo hzb ho hb h => refTold_any v E n o b m zo zb W hzo hzb ho hb h hEs (by omega)
  have CE := hid ce
  have CG := hid cg
  have CH := hid ch
  have SD := hid sd
  have TD := hid td
  have HC := hid hc
  have HR := hid hr
  clear ce cg ch sd td hc hr hL hL1 hL2 hzs hEs hT
  go_enter Tryz.func33, Tryz.ntmps33
  obtain ⟨W, hW⟩ : ∃ W, W = w.alloc (.cells zeroC 65) := ⟨_, rfl⟩
  have hbW : Below w.heap.size w W := by rw [hW]; exact below_alloc _ _
  have hro : rowIs W w.heap.size zeroC 65 := by rw [hW]; exact rowIs_new _ _ _
  unfold zeroC at hW
  go_wp2_with fail
  rw [← hW]
  clear hW
  refine (CE.out _ (HR.out.below hbW)).mono ?_
  rintro e w1 ⟨⟨ve, rfl, hoe⟩, hb1⟩
  replace hro := hro.below hb1
  have HE := hid hoe.reads
  have hb := chain2 hbW hbW.size hb1
  clear hb1 hbW hoe
  go_wp2_with fail
  refine (SD.out nNoStore _ _ HE.out).mono ?_
  rintro e w2 ⟨rfl, hb2⟩
  go_wp2_with fail
  refine (SD.out nNoCache _ _ (HE.out.below hb2)).mono ?_
  rintro e w3 ⟨rfl, hb3⟩
  replace hb2 := chain2 hb2 hb2.size hb3
  clear hb3
  go_wp2_with fail
  refine (SD.out nPrivate _ _ (HE.out.below hb2)).mono ?_
  rintro e w4 ⟨rfl, hb3⟩
  replace hb2 := chain2 hb2 hb2.size hb3
  clear hb3
  go_wp2_with fail
  refine (SD.out nPublic _ _ (HE.out.below hb2)).mono ?_
  rintro e w5 ⟨rfl, hb3⟩
  replace hb2 := chain2 hb2 hb2.size hb3
  clear hb3
  go_wp2_with fail
  refine (SD.out nOnly _ _ (HE.out.below hb2)).mono ?_
  rintro e w6 ⟨rfl, hb3⟩
  replace hb2 := chain2 hb2 hb2.size hb3
  clear hb3
  replace hro := hro.below hb2
  have HE6 := hid (HE.out.below hb2)
  replace hb := chain2 hb hb.size hb2
  clear hb2 HE
  obtain ⟨s0, hs0⟩ : ∃ s, saidE nNoStore E = s := ⟨_, rfl⟩
  obtain ⟨s1, hs1⟩ : ∃ s, saidE nNoCache E = s := ⟨_, rfl⟩
  obtain ⟨s2, hs2⟩ : ∃ s, saidE nPrivate E = s := ⟨_, rfl⟩
  obtain ⟨s3, hs3⟩ : ∃ s, saidE nPublic E = s := ⟨_, rfl⟩
  obtain ⟨s5, hs5⟩ : ∃ s, saidE nOnly E = s := ⟨_, rfl⟩
  rw [hs0, hs1, hs2, hs3, hs5]
  have h1 := ctl_one s0 s1 s2 s3 false s5 0 0 0 0
  obtain ⟨V, hV⟩ : ∃ V, V = (w6.alloc (.cells #[.bool false, .bool false, .bool false, .bool false, .bool false, .bool false, .int .i64 0, .int .i64 0, .int .i64 0, .int .i64 0] 65)).setRow w6.heap.size #[.bool s0, .bool s1, .bool s2, .bool s3, .bool false, .bool s5, .int .i64 0, .int .i64 0, .int .i64 0, .int .i64 0] := ⟨_, rfl⟩
  have hbg : Below w6.heap.size w6 V := by rw [hV]; exact below_setRow (below_alloc _ _) (Nat.le_refl _) _
  have hrc : rowIs V w6.heap.size #[.bool s0, .bool s1, .bool s2, .bool s3, .bool false, .bool s5, .int .i64 0, .int .i64 0, .int .i64 0, .int .i64 0] 65 := by rw [hV]; exact (rowIs_new _ _ _).setRow _
  go_wp2_with (refine wpList_store_row rfl 65 _ _ rfl w6.heap.size _ rfl rfl 65 zeroC (rowIs_new _ _ _) infoRC rfl h1 ?_)
  rw [← hV]
  clear hV h1
  refine (SD.out nMust _ _ (HE6.out.below hbg)).mono ?_
  rintro e w7 ⟨rfl, hb3⟩
  replace hrc := hrc.below hb3
  replace hbg := chain2 hbg hbg.size hb3
  clear hb3
  have hmu : ∃ (mu : Bool), mu = (saidE nMust E || saidE nProxy E) ∧ (saidE nMust E = true ∧ mu = true ∨ saidE nMust E = false ∧ mu = saidE nProxy E) := by
    cases saidE nMust E
    · exact ⟨saidE nProxy E, rfl, .inr ⟨rfl, rfl⟩⟩
    · exact ⟨true, rfl, .inl ⟨rfl, rfl⟩⟩
  obtain ⟨mu, hmu, hcase⟩ := hmu
  have HMU := hid hmu
  have hc0 : ∃ w8, True := ⟨w7, trivial⟩
  clear hmu hc0
  obtain ⟨sm, hsm⟩ : ∃ s, saidE nMust E = s := ⟨_, rfl⟩
  rw [hsm] at hcase ⊢
  clear hsm
  have hfar : (farN : Int) = 2147483648 := rfl
  rcases hcase with ⟨rfl, rfl⟩ | ⟨rfl, rfl⟩
  focus
    have hc : w7.cell? ⟨w6.heap.size, 4, none⟩ = some (.bool false) := hrc.cell 4
    have hf := hrc.free 4
    replace hrc := hrc.setCell 4 (.bool true)
    replace hbg := hbg.setCell (p := ⟨w6.heap.size, 4, none⟩) (Nat.le_refl _) (.bool true)
    go_wp2_with fail
    clear hc hf
    generalize w7.setCell ⟨w6.heap.size, 4, none⟩ (.bool true) = w8 at hrc hbg ⊢
    obtain ⟨mu, hmm⟩ : ∃ mu, mu = true := ⟨_, rfl⟩
    replace hrc : rowIs w8 w6.heap.size #[.bool s0, .bool s1, .bool s2, .bool s3, .bool mu, .bool s5, .int .i64 0, .int .i64 0, .int .i64 0, .int .i64 0] 65 := by rw [hmm]; exact hrc
    replace HMU : Hid (mu = (saidE nMust E || saidE nProxy E)) := by rw [hmm]; exact HMU
    clear hmm
  rotate_left
  focus
    go_wp2_with fail
    refine (SD.out nProxy _ _ (HE6.out.below hbg)).mono ?_
    rintro e w7 ⟨rfl, hb3⟩
    replace hrc := hrc.below hb3
    replace hbg := chain2 hbg hbg.size hb3
    clear hb3
    have hc : w7.cell? ⟨w6.heap.size, 4, none⟩ = some (.bool false) := hrc.cell 4
    have hf := hrc.free 4
    obtain ⟨sp, hsp⟩ : ∃ s, saidE nProxy E = s := ⟨_, rfl⟩
    have HMU : Hid (sp = (saidE nMust E || saidE nProxy E)) := by rw [← hsp]; exact HMU
    rw [hsp]
    replace hrc := hrc.setCell 4 (.bool sp)
    replace hbg := hbg.setCell (p := ⟨w6.heap.size, 4, none⟩) (Nat.le_refl _) (.bool sp)
    clear hsp
    go_wp2_with fail
    clear hc hf
    generalize w7.setCell ⟨w6.heap.size, 4, none⟩ (.bool sp) = w8 at hrc hbg ⊢
    obtain ⟨mu, hmm⟩ : ∃ mu, mu = sp := ⟨_, rfl⟩
    replace hrc : rowIs w8 w6.heap.size #[.bool s0, .bool s1, .bool s2, .bool s3, .bool mu, .bool s5, .int .i64 0, .int .i64 0, .int .i64 0, .int .i64 0] 65 := by rw [hmm]; exact hrc
    replace HMU : Hid (mu = (saidE nMust E || saidE nProxy E)) := by rw [hmm]; exact HMU
    clear hmm
  all_goals
    refine (TD.out nMaxAge 0 0 false 0 0 _ _ rfl rfl (by decide) (by decide) (HE6.out.below hbg)).mono ?_
    rintro e w9 ⟨rfl, hb3⟩
    replace hrc := hrc.below hb3
    replace hbg := chain2 hbg hbg.size hb3
    clear hb3
    have hc : w9.cell? ⟨w6.heap.size, 6, none⟩ = some (.int .i64 0) := hrc.cell 6
    have hf := hrc.free 6
    replace hrc := hrc.setCell 6 (.int .i64 (intO (toldE nMaxAge 0 0 false E)))
    replace hbg := hbg.setCell (p := ⟨w6.heap.size, 6, none⟩) (Nat.le_refl _) (.int .i64 (intO (toldE nMaxAge 0 0 false E)))
    go_wp2_with fail
    clear hc hf
    generalize w9.setCell ⟨w6.heap.size, 6, none⟩ (.int .i64 (intO (toldE nMaxAge 0 0 false E))) = x9 at hrc hbg ⊢
    replace hrc : rowIs x9 w6.heap.size #[.bool s0, .bool s1, .bool s2, .bool s3, .bool mu, .bool s5, .int .i64 (intO (toldE nMaxAge 0 0 false E)), .int .i64 0, .int .i64 0, .int .i64 0] 65 := hrc
    refine (TD.out nShared 0 0 false 0 0 _ _ rfl rfl (by decide) (by decide) (HE6.out.below hbg)).mono ?_
    rintro e w10 ⟨rfl, hb3⟩
    replace hrc := hrc.below hb3
    replace hbg := chain2 hbg hbg.size hb3
    clear hb3
    have hc : w10.cell? ⟨w6.heap.size, 7, none⟩ = some (.int .i64 0) := hrc.cell 7
    have hf := hrc.free 7
    replace hrc := hrc.setCell 7 (.int .i64 (intO (toldE nShared 0 0 false E)))
    replace hbg := hbg.setCell (p := ⟨w6.heap.size, 7, none⟩) (Nat.le_refl _) (.int .i64 (intO (toldE nShared 0 0 false E)))
    go_wp2_with fail
    clear hc hf
    generalize w10.setCell ⟨w6.heap.size, 7, none⟩ (.int .i64 (intO (toldE nShared 0 0 false E))) = x10 at hrc hbg ⊢
    replace hrc : rowIs x10 w6.heap.size #[.bool s0, .bool s1, .bool s2, .bool s3, .bool mu, .bool s5, .int .i64 (intO (toldE nMaxAge 0 0 false E)), .int .i64 (intO (toldE nShared 0 0 false E)), .int .i64 0, .int .i64 0] 65 := hrc
    refine (TD.out nMinFresh farN farN true farN farN _ _ rfl rfl (by decide) (by decide) (HE6.out.below hbg)).mono ?_
    rintro e w11 ⟨rfl, hb3⟩
    replace hrc := hrc.below hb3
    replace hbg := chain2 hbg hbg.size hb3
    clear hb3
    have hc : w11.cell? ⟨w6.heap.size, 8, none⟩ = some (.int .i64 0) := hrc.cell 8
    have hf := hrc.free 8
    replace hrc := hrc.setCell 8 (.int .i64 (intO (toldE nMinFresh farN farN true E)))
    replace hbg := hbg.setCell (p := ⟨w6.heap.size, 8, none⟩) (Nat.le_refl _) (.int .i64 (intO (toldE nMinFresh farN farN true E)))
    go_wp2_with fail
    clear hc hf
    generalize w11.setCell ⟨w6.heap.size, 8, none⟩ (.int .i64 (intO (toldE nMinFresh farN farN true E))) = x11 at hrc hbg ⊢
    replace hrc : rowIs x11 w6.heap.size #[.bool s0, .bool s1, .bool s2, .bool s3, .bool mu, .bool s5, .int .i64 (intO (toldE nMaxAge 0 0 false E)), .int .i64 (intO (toldE nShared 0 0 false E)), .int .i64 (intO (toldE nMinFresh farN farN true E)), .int .i64 0] 65 := hrc
    refine (TD.out nMaxStale 0 farN false 0 farN _ _ rfl rfl (by decide) (by decide) (HE6.out.below hbg)).mono ?_
    rintro e w12 ⟨rfl, hb3⟩
    replace hrc := hrc.below hb3
    replace hbg := chain2 hbg hbg.size hb3
    clear hb3
    have hc : w12.cell? ⟨w6.heap.size, 9, none⟩ = some (.int .i64 0) := hrc.cell 9
    have hf := hrc.free 9
    replace hrc := hrc.setCell 9 (.int .i64 (intO (toldE nMaxStale 0 farN false E)))
    replace hbg := hbg.setCell (p := ⟨w6.heap.size, 9, none⟩) (Nat.le_refl _) (.int .i64 (intO (toldE nMaxStale 0 farN false E)))
    go_wp2_with fail
    clear hc hf
    generalize w12.setCell ⟨w6.heap.size, 9, none⟩ (.int .i64 (intO (toldE nMaxStale 0 farN false E))) = x12 at hrc hbg ⊢
    replace hrc : rowIs x12 w6.heap.size #[.bool s0, .bool s1, .bool s2, .bool s3, .bool mu, .bool s5, .int .i64 (intO (toldE nMaxAge 0 0 false E)), .int .i64 (intO (toldE nShared 0 0 false E)), .int .i64 (intO (toldE nMinFresh farN farN true E)), .int .i64 (intO (toldE nMaxStale 0 farN false E))] 65 := hrc
    refine (CG.out _ ((HR.out.below hb).below hbg)).mono ?_
    rintro e w13 ⟨rfl, hb3⟩
    replace hrc := hrc.below hb3
    replace hbg := chain2 hbg hbg.size hb3
    clear hb3
    cases T with
    | nil =>
      go_wp2_with fail
      refine (CH.out _ ((HR.out.below hb).below hbg)).mono ?_
      rintro e w14 ⟨rfl, hb3⟩
      replace hrc := hrc.below hb3
      replace hbg := chain2 hbg hbg.size hb3
      clear hb3
      cases hp
      · have h9 := ctl_one s0 (s1) s2 s3 mu s5 (intO (toldE nMaxAge 0 0 false E)) (intO (toldE nShared 0 0 false E)) (intO (toldE nMinFresh farN farN true E)) (intO (toldE nMaxStale 0 farN false E))
        have hbf := chain2 hb hb.size hbg
        replace hro := hro.below hbg
        go_wp2_with (first
          | (refine wpList_load_row rfl 65 _ rfl w6.heap.size rfl 65 _ (0, 0) _ hrc Tryz.underlying65 rfl infoRC ?_)
          | (refine wpList_store_row rfl 65 _ _ rfl w.heap.size _ rfl rfl 65 zeroC hro infoRC rfl h9 ?_))
        refine bodyPost_ret (results_row Tryz.results33 _ _ w.heap.size _ rfl (hro.setRow _) Tryz.underlying65 rfl infoRC) rfl ?_
        refine ⟨?_, below_setRow hbf (Nat.le_refl _) _⟩
        rw [HC.out, HMU.out, ← hs0, ← hs1, ← hs2, ← hs3, ← hs5]
        simp [ctlE]

      · have hc : w14.cell? ⟨w6.heap.size, 1, none⟩ = some (.bool s1) := hrc.cell 1
        have hf := hrc.free 1
        replace hrc := hrc.setCell 1 (.bool true)
        replace hbg := hbg.setCell (p := ⟨w6.heap.size, 1, none⟩) (Nat.le_refl _) (.bool true)
        replace hrc : rowIs (w14.setCell ⟨w6.heap.size, 1, none⟩ (.bool true)) w6.heap.size #[.bool s0, .bool true, .bool s2, .bool s3, .bool mu, .bool s5, .int .i64 (intO (toldE nMaxAge 0 0 false E)), .int .i64 (intO (toldE nShared 0 0 false E)), .int .i64 (intO (toldE nMinFresh farN farN true E)), .int .i64 (intO (toldE nMaxStale 0 farN false E))] 65 := hrc
        have h9 := ctl_one s0 true s2 s3 mu s5 (intO (toldE nMaxAge 0 0 false E)) (intO (toldE nShared 0 0 false E)) (intO (toldE nMinFresh farN farN true E)) (intO (toldE nMaxStale 0 farN false E))
        have hbf := chain2 hb hb.size hbg
        replace hro := hro.below hbg
        go_wp2_with (first
          | (refine wpList_load_row rfl 65 _ rfl w6.heap.size rfl 65 _ (0, 0) _ hrc Tryz.underlying65 rfl infoRC ?_)
          | (refine wpList_store_row rfl 65 _ _ rfl w.heap.size _ rfl rfl 65 zeroC hro infoRC rfl h9 ?_))
        refine bodyPost_ret (results_row Tryz.results33 _ _ w.heap.size _ rfl (hro.setRow _) Tryz.underlying65 rfl infoRC) rfl ?_
        refine ⟨?_, below_setRow hbf (Nat.le_refl _) _⟩
        rw [HC.out, HMU.out, ← hs0, ← hs2, ← hs3, ← hs5]
        simp [ctlE]

    | cons a r =>
      have ez : (((a :: r).length : Int) == 0) = false := by simp; omega
      · have h9 := ctl_one s0 (s1) s2 s3 mu s5 (intO (toldE nMaxAge 0 0 false E)) (intO (toldE nShared 0 0 false E)) (intO (toldE nMinFresh farN farN true E)) (intO (toldE nMaxStale 0 farN false E))
        have hbf := chain2 hb hb.size hbg
        replace hro := hro.below hbg
        go_wp2_with (first
          | (refine wpList_load_row rfl 65 _ rfl w6.heap.size rfl 65 _ (0, 0) _ hrc Tryz.underlying65 rfl infoRC ?_)
          | (refine wpList_store_row rfl 65 _ _ rfl w.heap.size _ rfl rfl 65 zeroC hro infoRC rfl h9 ?_))
        refine bodyPost_ret (results_row Tryz.results33 _ _ w.heap.size _ rfl (hro.setRow _) Tryz.underlying65 rfl infoRC) rfl ?_
        refine ⟨?_, below_setRow hbf (Nat.le_refl _) _⟩
        rw [HC.out, HMU.out, ← hs0, ← hs1, ← hs2, ← hs3, ← hs5]
        simp [ctlE]

end Go.Proofs.YtejdlplgkmelkaaGreatDoor
