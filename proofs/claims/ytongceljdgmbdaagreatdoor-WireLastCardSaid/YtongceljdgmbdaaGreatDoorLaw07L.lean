/-
  The walk of the statement WireLast.
-/
import Derived.Test.YtongceljdgmbdaaGreatDoorLaw07A
import Derived.Test.YtongceljdgmbdaaGreatDoorPureAll2
namespace Go.Proofs.YtongceljdgmbdaaGreatDoor
open Go.RowKit Go.Pantry

/-- a reader that asked for the next request: what it has, and the error's number -/
def Asked (s : Rd) (e : Nat) : Prop := s.closed = false ∧ (e = 0 → s.wrong = 0) ∧ (e ≠ 0 → s.wrong = tellX e ∧ e ≠ 43)
theorem asked_of {w0 w w' : World} {g : Nat} {v : Value} {c : List UInt8} {e : Ending} (h : MsgR qryCells qryZero w0 g v w (queryX ⟨c, false, 0⟩) e w') :
    ∃ (k : Nat) (m t : List UInt8) (z : Int) (ao ap : Option Addr) (n cp d cq : Nat) (v' : Value) (s' : Rd), e = .returned (.tuple #[.agg #[strV m, strV t, .int .i64 z, .slice ao n cp, .slice ap d cq], .int .i64 (k : Int)]) ∧ Rdr w0 w' g v' s' ∧ Asked s' k ∧ s'.came.length ≤ c.length ∧ (k = 0 → s'.came.length < c.length) ∧ In (fun k => v.ownBlock = some k) v' := by
  obtain ⟨hx, v', hr, hk, hi⟩ := h
  cases hq : queryX ⟨c, false, 0⟩ with
  | mk y s' => ?_
  rw [hq] at hx hr
  cases y with
  | error k =>
    obtain ⟨hk0, rfl⟩ := hx
    obtain ⟨e1, e2, e3⟩ := queryX_fail hq
    simp only at hr
    subst e3
    exact ⟨k, [], [], 0, none, none, 0, 0, 0, 0, v', _, rfl, hr, ⟨rfl, fun h => absurd h hk0, fun _ => ⟨rfl, e2⟩⟩, Nat.le_refl _, fun h => absurd h hk0, hi⟩
  | ok p =>
    obtain ⟨h, b⟩ := p
    obtain ⟨vl, vb, rfl, hol, hob⟩ := hx
    obtain ⟨aol, cl, rfl⟩ := ownsRow_form hol
    obtain ⟨aob, cb, rfl⟩ := ownsRow_bytes_form hob
    obtain ⟨e1, e2⟩ := queryX_good hq
    simp only at hr
    have hc : s'.closed = false := by rw [e1]
    have hw : s'.wrong = 0 := by rw [e1]
    exact ⟨0, _, _, _, _, _, _, _, _, _, v', s', rfl, hr, ⟨hc, fun _ => hw, fun h => absurd rfl h⟩, by omega, fun _ => e2, hi⟩
set_option maxRecDepth 100000 in
set_option maxHeartbeats 8000000 in
theorem wireLast_walk (v : Value) (l : List UInt8) (vm : Value) (M : List (List UInt8)) (w : World) (hm : MaxOk w) (hl : Reads w v (l.map byteV) ∧ (∀ ao n cap, v = .slice ao n cap → n ≤ cap) ∧ l.length ≤ maxLen) (hM : ReadsBB w vm M ∧ M.length ≤ maxLen) :
    Calls Tryz.prog 7 #[v, vm] w fun e w' => e = .returned (.bool true) ∧ Below w.heap.size w w' := by
  obtain ⟨hr, hroom, hll⟩ := hl
  obtain ⟨ao, cap, rfl⟩ := hr.form
  rw [List.length_map] at *
  unfold maxLen at hll
  obtain ⟨hMr, hMl⟩ := hM
  obtain ⟨aom, capm, rfl⟩ := readsBB_form hMr
  unfold maxLen at hMl
  have HRB := hid hr
  have HM := hid hm
  have HMR := hid hMr
  have CA := hid (anchor_any w hm)
  clear hr hroom hm hMr
  by_cases h1 : (5000 : Int) < (l.length : Int)
  · go_enter Tryz.func7, Tryz.ntmps7
    go_wp2_with fail
    refine CA.out.mono ?_
    rintro e w1 ⟨rfl, hb1⟩
    go_wp2_with fail
    go_ret
    exact ⟨rfl, hb1⟩
  by_cases h2 : (20 : Int) < (M.length : Int)
  · go_enter Tryz.func7, Tryz.ntmps7
    go_wp2_with fail
    refine CA.out.mono ?_
    rintro e w1 ⟨rfl, hb1⟩
    go_wp2_with fail
    go_ret
    exact ⟨rfl, hb1⟩
  have CN := hid (fun W => newReader_any W)
  have HL := hid (And.intro h1 h2)
  go_enter Tryz.func7, Tryz.ntmps7
  go_wp2_with fail
  refine CA.out.mono ?_
  rintro e w1 ⟨rfl, hb1⟩
  go_wp2_with fail
  refine (CN.out _).mono ?_
  rintro e w2 ⟨rfl, hw2⟩
  have q2 := rdr_new w w1 hb1
  rw [← hw2] at q2
  clear hw2
  have c1 := feedR_any q2 (.slice ao l.length cap) l (HRB.out.below q2.bl) (by simp) (by omega)
  rw [feedX_ok (by simp; omega)] at c1
  rw [List.nil_append] at c1
  have C1 := hid c1
  clear c1 q2 CN CA
  generalize w1.heap.size = g at *
  go_wp2_with fail
  refine C1.out.mono ?_
  rintro e w3 ⟨v3, rfl, q3, -⟩
  have c2 := queryR_any q3 HM.out (by simp only; omega)
  have C2 := hid c2
  clear C1 c2 q3
  go_wp2_with fail
  refine C2.out.mono ?_
  rintro e w4 hx
  obtain ⟨k4, m4, t4, z4, ao4, ap4, n4, cp4, d4, cq4, v4, s4, rfl, q4, ha4, hl4, -⟩ := asked_of hx
  have q5 := q4.then (below_alloc w4 (.cells #[strV m4, strV t4, .int .i64 z4, .slice ao4 n4 cp4, .slice ap4 d4 cq4] 42))
  have HI : Hid (∃ (k : Nat) (v' : Value) (s' : Rd), Value.int .i64 (k4 : Int) = .int .i64 (k : Int) ∧ Rdr w (w4.alloc (.cells #[strV m4, strV t4, .int .i64 z4, .slice ao4 n4 cp4, .slice ap4 d4 cq4] 42)) g v' s' ∧ Asked s' k ∧ s'.came.length ≤ 8192) := ⟨k4, v4, s4, rfl, q5, ha4, by omega⟩
  clear C2 hx q4 ha4 hl4 q5
  go_wp2_with fail
  go_loopw [7] (fun ev wr => ∃ (k : Nat) (v' : Value) (s' : Rd), ev = .int .i64 (k : Int) ∧ Rdr w wr g v' s' ∧ Asked s' k ∧ s'.came.length ≤ 8192) (fun ev wr => lenAt wr g + (1 - (intOf ev).toNat))
  case atStart => exact HI.out
  case round =>
    clear HI
    obtain ⟨k, v6, s6, rfl, q6, ha6, hl6⟩ := hrel
    by_cases hk0 : k = 0
    · subst hk0
      obtain ⟨c6, closed6, wrong6⟩ := s6
      obtain ⟨hcl, hw0, -⟩ := ha6
      have hwr := hw0 rfl
      clear hw0
      simp only at hcl hwr hl6
      subst hcl hwr
      have c2 := queryR_any q6 HM.out (by simp only; omega)
      have C2 := hid c2
      have hlen := q6.rd.len
      clear c2 q6
      go_wp2_with fail
      refine C2.out.mono ?_
      rintro e w7 hx
      obtain ⟨k7, m7, t7, z7, ao7, ap7, n7, cp7, d7, cq7, v7, s7, rfl, q7, ha7, hl7, hs7, -⟩ := asked_of hx
      clear C2 hx
      have HQ := hid (And.intro q7 (And.intro ha7 (And.intro hl7 hs7)))
      clear q7 ha7 hl7 hs7
      go_wp2_with fail
      go_roundw
      case rel => exact ⟨k7, v7, s7, rfl, HQ.out.1, HQ.out.2.1, Nat.le_trans HQ.out.2.2.1 hl6⟩
      case measure =>
        have e1 := HQ.out.1.rd.len
        have e2 := HQ.out.2.2.1
        have e3 := HQ.out.2.2.2
        rw [e1, hlen]
        simp only [intOf]
        by_cases h0 : k7 = 0
        · subst h0; have := e3 rfl; simp; omega
        · omega
    · have hz : ((k : Int) == 0) = false := by simp; omega
      obtain ⟨hcl, -, hw0⟩ := ha6
      obtain ⟨hw6, h43⟩ := hw0 hk0
      clear hw0
      by_cases h20 : k = 20
      · subst h20
        obtain ⟨c6, closed6, wrong6⟩ := s6
        simp only at hcl hw6 hl6
        subst hcl hw6
        have c2 := feedR_any q6 (.slice none 0 0) [] ⟨none, 0, rfl, (fun j u hj => by cases hj), fun _ => rfl⟩ (by simp only; omega) (by simp)
        have e20 : tellX 20 = 0 := rfl
        rw [e20, feedX_ok (by simp; omega)] at c2
        have C2 := hid c2
        clear c2 q6 e20
        go_wp2_with fail
        refine C2.out.mono ?_
        rintro e w7 ⟨v7, rfl, q7, -⟩
        have HB := hid q7.bl
        clear C2 q7
        go_wp2_with fail
        go_ret
        exact ⟨rfl, HB.out⟩
      · have hz20 : ((k : Int) == 20) = false := by simp; omega
        have ht : tellX k = k := by unfold tellX; rw [if_neg (by omega)]
        rw [ht] at hw6
        have c2 := leftR_any q6
        have C2 := hid c2
        have HW := hid (And.intro hw6 hk0)
        have HLS := hid hl6
        clear c2 ht h43 h20 hk0 hw6 hcl hl6
        go_wp2_with fail
        refine C2.out.mono ?_
        rintro e w7 ⟨rfl, rfl⟩
        clear C2
        go_wp2_with fail
        generalize wr = wb at *
        go_loopw [50] (fun i wr => ∃ (j : Nat) (v' : Value), j ≤ M.length ∧ i = .int .i64 (j : Int) ∧ Rdr w wr g v' s6) (fun i _ => M.length - (intOf i).toNat)
        case atStart => exact ⟨0, v6, Nat.zero_le _, rfl, q6⟩
        case round =>
          clear q6
          obtain ⟨j, v8, hj, rfl, q8⟩ := hrel
          by_cases hjm : j < M.length
          · obtain ⟨x, hx⟩ : ∃ x, M[j]? = some x := ⟨_, List.getElem?_eq_getElem hjm⟩
            obtain ⟨bm, off, al, cx, rfl, hcx, hbx⟩ := readsBB_at (readsBB_below HMR.out q8.bl) hx
            have hjz : (j : Int) < (M.length : Int) := by omega
            have HB := hid q8.bl
            by_cases h300 : (300 : Int) < (x.length : Int)
            · clear q8 hbx
              go_wp2_with fail
              go_ret
              exact ⟨rfl, HB.out⟩
            · have c2 := feedR_any q8 (.slice al x.length cx) x (bytesRead hbx) HLS.out (by omega)
              rw [feedX_wrong (by rw [HW.out.1]; exact HW.out.2)] at c2
              have C2 := hid c2
              have HJ := hid hj
              have hne : ((s6.came.length : Int) != (s6.came.length : Int)) = false := by simp
              have hne2 : ((k : Int) != (k : Int)) = false := by simp
              have hwj : IntKind.i64.wrap ((j : Int) + 1) = ((j + 1 : Nat) : Int) := by rw [IntWalk.i64_in _ (by omega)]; simp
              clear q8 hbx c2 hx hj
              go_wp2_with fail
              refine C2.out.mono ?_
              rintro e w8 ⟨v9, rfl, q9, -⟩
              have c3 := leftR_any q9
              have C3 := hid c3
              have Q9 := hid q9
              clear C2 c3 q9 hcx
              go_wp2_with fail
              refine C3.out.mono ?_
              rintro e w9 ⟨rfl, rfl⟩
              have c4 := queryR_any Q9.out HM.out HLS.out
              rw [queryX_wrong (by rw [HW.out.1]; exact HW.out.2)] at c4
              have C4 := hid c4
              clear C3 c4
              go_wp2_with fail
              refine C4.out.mono ?_
              rintro e w10 ⟨⟨-, rfl⟩, v10, q10, -⟩
              have q11 := q10.then (below_alloc w10 (.cells #[.string ⟨#[]⟩, .string ⟨#[]⟩, .int .i64 0, .slice none 0 0, .slice none 0 0] 42))
              have HQ := hid q11
              have hk6 := HW.out.1
              clear C4 Q9 q10 q11
              rw [hk6]
              go_wp2_with fail
              go_roundw
              case rel => exact ⟨j + 1, v10, hjm, by simp, HQ.out⟩
              case measure => simp only [intOf]; omega
          · have hje : j = M.length := by omega
            subst hje
            have c2 := closeR_any q8
            have C2 := hid c2
            have hne2 : ((k : Int) == (k : Int)) = true := by simp
            clear c2 q8 hjm hj
            go_wp2_with fail
            refine C2.out.mono ?_
            rintro e w8 ⟨⟨u, rfl⟩, q9, -⟩
            have c3 := replyR_any q9 [71, 69, 84] HM.out HLS.out
            rw [replyX_wrong (by show s6.wrong ≠ 0; rw [HW.out.1]; exact HW.out.2)] at c3
            have C3 := hid c3
            clear C2 c3 q9
            go_wp2_with fail
            refine C3.out.mono ?_
            rintro e w10 ⟨⟨-, rfl⟩, v10, q10, -⟩
            have q11 := q10.then (below_alloc w10 (.cells #[.int .i64 0, .string ⟨#[]⟩, .int .i64 0, .slice none 0 0, .slice none 0 0] 55))
            have HQ := hid q11
            have hk6 := HW.out.1
            clear C3 q10 q11
            simp only
            rw [hk6]
            go_wp2_with fail
            go_ret
            exact ⟨rfl, HQ.out.bl⟩
end Go.Proofs.YtongceljdgmbdaaGreatDoor
