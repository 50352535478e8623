/-
  The walk of the statement WireRow.
-/
import Derived.Test.YtongceljdgmbdaaGreatDoorLaw07A
import Derived.Test.YtongceljdgmbdaaGreatDoorWireF
namespace Go.Proofs.YtongceljdgmbdaaGreatDoor
open Go.RowKit Go.Pantry

/-- the request number k -/
def rowH (k : Nat) (b : List UInt8) : Hd := ⟨[80, 85, 84], [47, (97 + k).toUInt8], 0, 1, putL [] (if b = [] then none else some b.length)⟩
def putOf (k : Nat) (b : List UInt8) : List UInt8 := textReq (rowH k b) ++ b
def putsFrom : Nat → List (List UInt8) → List UInt8
  | _, [] => []
  | k, b :: r => putOf k b ++ putsFrom (k + 1) r
theorem putsFrom_snoc : ∀ (l : List (List UInt8)) (k : Nat) (b : List UInt8), putsFrom k (l ++ [b]) = putsFrom k l ++ putOf (k + l.length) b
  | [], k, b => by simp [putsFrom]
  | a :: l, k, b => by
    rw [List.cons_append, putsFrom, putsFrom_snoc l (k + 1) b, putsFrom, List.append_assoc, List.length_cons, show k + 1 + l.length = k + (l.length + 1) by omega]
theorem rowC (k : Nat) (h : k < 12) : ((97 + k).toUInt8).toNat = 97 + k := by
  show (97 + k) % 256 = 97 + k
  omega
theorem rowF (b : List UInt8) (h : b.length ≤ 3000) : rightFs (putL [] (if b = [] then none else some b.length)) = true := by
  by_cases hb : b = []
  · rw [if_pos hb]; rfl
  · rw [if_neg hb]
    show rightFs (bareL [] ++ [lenFld b.length]) = true
    have e : bareL [] ++ [lenFld b.length] = [lenFld b.length] := rfl
    rw [e]
    unfold rightFs
    simp only [List.all_cons, List.all_nil, lenFld_right (show b.length < 100000 by omega)]
    rfl
theorem rowT (k : Nat) (h : k < 12) : seenL [47, (97 + k).toUInt8] = true := by
  unfold seenL
  simp only [List.all_cons, List.all_nil, rowC k h]
  have h1 : decide (33 ≤ 97 + k) = true := by simp; omega
  have h2 : decide (97 + k ≤ 126) = true := by simp; omega
  rw [h1, h2]
  rfl
theorem rowQ (k : Nat) (h : k < 12) (b : List UInt8) (hb : b.length ≤ 3000) : rightQ [80, 85, 84] [47, (97 + k).toUInt8] 1 (putL [] (if b = [] then none else some b.length)) = true := by
  unfold rightQ formedR longR
  rw [rowF b hb, rowT k h]
  rfl
theorem rowR (k : Nat) (h : k < 12) (b : List UInt8) (hb : b.length ≤ 3000) : rightReq (rowH k b) = true := by
  unfold rightReq rowH
  simp only
  rw [rowF b hb, rowT k h]
  rfl
theorem rowLen (k : Nat) (b : List UInt8) (hb : b.length ≤ 3000) : (textReq (rowH k b)).length ≤ 100 := by
  have h5 := decL_len 4 b.length (by omega)
  unfold textReq rowH reqLine linesT
  by_cases he : b = []
  · rw [if_pos he]
    have e : putL [] none = [] := rfl
    rw [e]
    simp [verL, v11, crlf]
  · rw [if_neg he]
    have e : putL [] (some b.length) = [lenFld b.length] := rfl
    rw [e]
    simp [verL, v11, crlf, fldLine, lenFld, clN]
    omega
theorem putOf_len (k : Nat) (b : List UInt8) (hb : b.length ≤ 500) : (putOf k b).length ≤ 600 := by
  unfold putOf
  have := rowLen k b (by omega)
  rw [List.length_append]; omega
theorem putsFrom_len : ∀ (l : List (List UInt8)) (k : Nat), (∀ b ∈ l, b.length ≤ 500) → (putsFrom k l).length ≤ 600 * l.length
  | [], _, _ => by simp [putsFrom]
  | b :: l, k, h => by
    have h1 := putOf_len k b (h b (List.mem_cons_self ..))
    have h2 := putsFrom_len l (k + 1) (fun x hx => h x (List.mem_cons_of_mem _ hx))
    rw [putsFrom, List.length_append, List.length_cons]
    omega
theorem row_put (k : Nat) (h : k < 12) (b : List UInt8) (hb : b.length ≤ 500) : putX (rightQ [80, 85, 84] [47, (97 + k).toUInt8] 1 (putL [] (if b = [] then none else some b.length))) (textH (reqLine ⟨[80, 85, 84], [47, (97 + k).toUInt8], 0, (1 : Int).toNat, []⟩) (putL [] (if b = [] then none else some b.length))) b false = .ok (putOf k b) := by
  have hl := rowLen k b (by omega)
  have e : textH (reqLine ⟨[80, 85, 84], [47, (97 + k).toUInt8], 0, (1 : Int).toNat, []⟩) (putL [] (if b = [] then none else some b.length)) = textReq (rowH k b) := rfl
  rw [rowQ k h b (by omega), e]
  unfold putX putOf
  rw [if_neg (by simp), if_neg (by omega), if_neg (by omega)]
  rfl
theorem row_read (k : Nat) (h : k < 12) (b rest : List UInt8) (hb : b.length ≤ 500) : queryX ⟨putOf k b ++ rest, false, 0⟩ = (.ok (rowH k b, b), ⟨rest, false, 0⟩) := by
  have hl := rowLen k b (by omega)
  unfold putOf
  exact query_put (L := []) rfl rfl (rowR k h b (by omega)) (by omega) (by omega)
theorem row_none : queryX ⟨[], false, 0⟩ = (.error 20, ⟨[], false, 0⟩) := by kernel_rfl
theorem row_end : queryX ⟨[], true, 0⟩ = (.error 43, ⟨[], true, 0⟩) := by kernel_rfl
set_option maxRecDepth 100000 in
set_option maxHeartbeats 8000000 in
theorem wireRow_walk (vm : Value) (M : List (List UInt8)) (w : World) (hm : MaxOk w) (ht : Tab10 w) (hM : ReadsBB w vm M ∧ M.length ≤ maxLen) :
    Calls Tryz.prog 8 #[vm] w fun e w' => e = .returned (.bool true) ∧ Below w.heap.size w w' := by
  obtain ⟨hMr, hMl⟩ := hM
  obtain ⟨aom, capm, rfl⟩ := readsBB_form hMr
  unfold maxLen at hMl
  have HM := hid hm
  have HT := hid ht
  have HMR := hid hMr
  have CA := hid (anchor_any w hm)
  clear hm ht hMr
  by_cases h2 : (12 : Int) < (M.length : Int)
  · go_enter Tryz.func8, Tryz.ntmps8
    go_wp2_with fail
    refine CA.out.mono ?_
    rintro e w1 ⟨rfl, hb1⟩
    go_wp2_with fail
    go_ret
    exact ⟨rfl, hb1⟩
  have CN := hid (fun W => newReader_any W)
  go_enter Tryz.func8, Tryz.ntmps8
  go_wp2_with fail
  refine CA.out.mono ?_
  rintro e w1 ⟨rfl, hb1⟩
  go_wp2_with fail
  refine (CN.out _).mono ?_
  rintro e w2 ⟨rfl, hw2⟩
  have q2 := rdr_new w w1 hb1
  rw [← hw2] at q2
  clear hw2 CN CA hb1
  generalize w1.heap.size = g at *
  have HI : Hid (∃ (j : Nat) (v' : Value), j ≤ M.length ∧ Value.int .i64 0 = .int .i64 (j : Int) ∧ Rdr w w2 g v' ⟨putsFrom 0 (M.take j), false, 0⟩ ∧ (∀ b ∈ M.take j, b.length ≤ 500)) := ⟨0, _, Nat.zero_le _, rfl, q2, by simp⟩
  clear q2
  have hM12 : M.length ≤ 12 := by omega
  have HL := hid hM12
  clear h2 hM12
  go_wp2_with fail
  go_loopw [25] (fun i wr => ∃ (j : Nat) (v' : Value), j ≤ M.length ∧ i = .int .i64 (j : Int) ∧ Rdr w wr g v' ⟨putsFrom 0 (M.take j), false, 0⟩ ∧ (∀ b ∈ M.take j, b.length ≤ 500)) (fun i _ => M.length - (intOf i).toNat)
  case atStart => exact HI.out
  case round =>
    clear HI
    obtain ⟨j, v8, hj, rfl, q8, hall⟩ := hrel
    by_cases hjm : j < M.length
    · obtain ⟨x, hx⟩ : ∃ x, M[j]? = some x := ⟨_, List.getElem?_eq_getElem hjm⟩
      obtain ⟨bm, off, al, cx, rfl, hcx, hbx⟩ := readsBB_at (readsBB_below HMR.out q8.bl) hx
      have hjz : (j : Int) < (M.length : Int) := by omega
      have HB := hid q8.bl
      by_cases h500 : (500 : Int) < (x.length : Int)
      · clear q8 hbx hall
        go_wp2_with fail
        go_ret
        exact ⟨rfl, HB.out⟩
      · have hj12 : j < 12 := by have := HL.out; omega
        have hw1 : IntKind.i64.wrap (97 + (j : Int)) = 97 + (j : Int) := IntWalk.i64_in _ (by omega)
        obtain ⟨c, hc⟩ : ∃ c, (97 + j).toUInt8 = c := ⟨_, rfl⟩
        have hcn : (c.toNat : Int) = 97 + (j : Int) := by rw [← hc, rowC j hj12]; simp
        have hrd : Reads (wr.alloc (.cells #[.int .u8 (97 + (j : Int))] 5)) (.slice (some ⟨wr.heap.size, 0, none⟩) 1 1) ([c].map byteV) := by
          have h := reads_new wr ([c].map byteV) 5 1
          have e : [c].map byteV = [Value.int .u8 (97 + (j : Int))] := by simp [hcn]
          rw [e] at h ⊢
          exact h
        have hcv := reads_string (P := Tryz.prog) hrd 27 9 5 Tryz.underlying27 Tryz.underlying5 Tryz.underlying9
        have hadd := fun W => run_string_add_lists (P := Tryz.prog) W [47] [c] (by simp) (by simp)
        obtain ⟨W2, hW2⟩ : ∃ W, W = (wr.alloc (.cells #[.int .u8 (97 + (j : Int))] 5)).alloc (.cells #[strV [80, 85, 84], strV [47, c], .int .i64 1, .slice none 0 0, .slice al x.length cx] 42) := ⟨_, rfl⟩
        have hb2 : Below wr.heap.size wr W2 := by rw [hW2]; exact (below_alloc _ _).alloc (by simp) _
        have q9 := q8.then hb2
        have hbx2 := bytes_below hbx hb2
        have c1 := putQuery_any [80, 85, 84] [47, c] 1 (.slice none 0 0) (.slice al x.length cx) [] x W2 (by simp) (by simp) ⟨none, 0, rfl, (fun j p hj => by cases hj), (fun _ => rfl), by simp⟩ ⟨by simp, fun f hf => by cases hf⟩ (by simp) hbx2 (by omega) (HT.out.below q9.bl)
        have hrp := row_put j hj12 x (by omega)
        rw [hc] at hrp
        rw [hrp] at c1
        have C1 := hid c1
        have hwj : IntKind.i64.wrap ((j : Int) + 1) = ((j + 1 : Nat) : Int) := by rw [IntWalk.i64_in _ (by omega)]; simp
        have HA := hid hall
        have Q9 := hid q9
        have HX := hid hx
        have HXL := hid h500
        have HC := hid (And.intro hj12 hc)
        have hcell5 : wr.heap.size + 1 = wr.heap.size + 1 := rfl
        clear q8 hall hbx hx c1 q9 hb2 hbx2 hrd hrp hc hcn hj12 h500 hcell5
        go_wp2_with fail
        rw [← hW2]
        clear hW2 hcv hadd
        refine C1.out.mono ?_
        rintro e w3 ⟨hp, hb3⟩
        obtain ⟨ao3, c3, rfl, hby3⟩ := hp
        have q10 := Q9.out.then hb3
        have hlen : (putsFrom 0 (M.take j)).length ≤ 7200 := by
          have h1 := putsFrom_len (M.take j) 0 HA.out
          have h2 : (M.take j).length ≤ j := by rw [List.length_take]; omega
          have h3 := HC.out.1
          omega
        have hpl := putOf_len j x (by have := HXL.out; omega)
        have c4 := feedR_any q10 _ _ (bytesRead hby3) (by simp only; omega) (by omega)
        rw [feedX_ok (by omega)] at c4
        have e2 : putsFrom 0 (M.take j) ++ putOf j x = putsFrom 0 (M.take (j + 1)) := by
          have hxx := List.getElem?_eq_some_iff.1 HX.out
          obtain ⟨h1, rfl⟩ := hxx
          rw [List.take_succ_eq_append_getElem h1, putsFrom_snoc, List.length_take, Nat.zero_add, Nat.min_eq_left (by omega)]
        rw [e2] at c4
        have C4 := hid c4
        clear hb3 hby3 q10 c4 e2 C1 hlen hpl
        generalize (putOf j x).length = pl at *
        go_wp2_with fail
        refine C4.out.mono ?_
        rintro e w4 ⟨v10, rfl, q11, -⟩
        have Q11 := hid q11
        clear C4 q11 Q9
        go_wp2_with fail
        go_roundw
        case rel =>
          refine ⟨j + 1, v10, hjm, by simp, Q11.out, fun b hb => ?_⟩
          have hxx := List.getElem?_eq_some_iff.1 HX.out
          obtain ⟨h1, rfl⟩ := hxx
          rw [List.take_succ_eq_append_getElem h1] at hb
          rcases List.mem_append.1 hb with hb | hb
          · exact HA.out b hb
          · obtain rfl : b = M[j] := by simpa using hb
            have := HXL.out; omega
        case measure => simp only [intOf]; omega
    · have hje : j = M.length := by omega
      subst hje
      rw [List.take_length] at hall q8
      have HALL := hid hall
      have HI : Hid (∃ (j : Nat) (v' : Value), j ≤ M.length ∧ Value.int .i64 0 = .int .i64 (j : Int) ∧ Rdr w wr g v' ⟨putsFrom j (M.drop j), false, 0⟩) := ⟨0, v8, Nat.zero_le _, rfl, q8⟩
      clear hall q8 hjm hj
      go_wp2_with fail
      generalize wr = wb at *
      go_loopw [59] (fun i wr => ∃ (j : Nat) (v' : Value), j ≤ M.length ∧ i = .int .i64 (j : Int) ∧ Rdr w wr g v' ⟨putsFrom j (M.drop j), false, 0⟩) (fun i _ => M.length - (intOf i).toNat)
      case atStart => exact HI.out
      case round =>
        clear HI
        obtain ⟨j, v8, hj, rfl, q8⟩ := hrel
        by_cases hjm : j < M.length
        · obtain ⟨x, hx⟩ : ∃ x, M[j]? = some x := ⟨_, List.getElem?_eq_getElem hjm⟩
          obtain ⟨bm, off, al, cx, rfl, hcx0, hbx⟩ := readsBB_at HMR.out hx
          have hcx := kept hcx0 q8.bl
          clear hcx0
          have hjz : (j : Int) < (M.length : Int) := by omega
          have hj12 : j < 12 := by have := HL.out; omega
          have hw1 : IntKind.i64.wrap (97 + (j : Int)) = 97 + (j : Int) := IntWalk.i64_in _ (by omega)
          have hx5 : x.length ≤ 500 := HALL.out x (List.mem_of_getElem? hx)
          have c2 := queryR_any q8 HM.out (by
            have h1 := putsFrom_len (M.drop j) j (fun b hb => HALL.out b (List.mem_of_mem_drop hb))
            have h2 : (M.drop j).length ≤ 12 := by rw [List.length_drop]; have := HL.out; omega
            simp only; omega)
          have e3 : putsFrom j (M.drop j) = putOf j x ++ putsFrom (j + 1) (M.drop (j + 1)) := by
            have hxx := List.getElem?_eq_some_iff.1 hx
            obtain ⟨h1, rfl⟩ := hxx
            rw [List.drop_eq_getElem_cons h1, putsFrom]
          rw [e3, row_read j hj12 x _ hx5] at c2
          obtain ⟨c, hc⟩ : ∃ c, (97 + j).toUInt8 = c := ⟨_, rfl⟩
          have hcn : (c.toNat : Int) = 97 + (j : Int) := by rw [← hc, rowC j hj12]; simp
          have hadd := fun W => run_string_add_lists (P := Tryz.prog) W [47] [c] (by simp) (by simp)
          have hwj : IntKind.i64.wrap ((j : Int) + 1) = ((j + 1 : Nat) : Int) := by rw [IntWalk.i64_in _ (by omega)]; simp
          have C2 := hid c2
          have HBX := hid hbx
          have HC := hid (And.intro hc hcn)
          clear q8 c2 e3 hbx hx hj12 hc hcn hx5
          go_wp2_with fail
          refine C2.out.mono ?_
          rintro e w4 ⟨⟨vl, vb, rfl, hol, hob⟩, v10, q10, hkq, hiq⟩
          obtain ⟨aob, cb, rfl⟩ := ownsRow_bytes_form hob
          obtain ⟨aol, cl, rfl⟩ := ownsRow_form hol
          obtain ⟨W7, hW7⟩ : ∃ W, W = w4.alloc (.cells #[strV [80, 85, 84], strV [47, c], .int .i64 1, .slice aol (rowH j x).flds.length cl, .slice aob x.length cb] 42) := ⟨_, rfl⟩
          have hb7 : Below w4.heap.size w4 W7 := by rw [hW7]; exact below_alloc _ _
          have q11 := q10.then hb7
          have cv1 := ownsRow_string (hob.below hb7) 27 9 Tryz.underlying27 Tryz.underlying5 Tryz.underlying9
          have hbx7 := bytesRead (bytes_below HBX.out q11.bl)
          have cv2 := reads_string (P := Tryz.prog) hbx7 27 9 5 Tryz.underlying27 Tryz.underlying5 Tryz.underlying9
          have hrd : Reads (W7.alloc (.cells #[.int .u8 (97 + (j : Int))] 5)) (.slice (some ⟨W7.heap.size, 0, none⟩) 1 1) ([c].map byteV) := by
            have h := reads_new W7 ([c].map byteV) 5 1
            have e : [c].map byteV = [Value.int .u8 (97 + (j : Int))] := by simp [HC.out.2]
            rw [e] at h ⊢
            exact h
          have hcv := reads_string (P := Tryz.prog) hrd 27 9 5 Tryz.underlying27 Tryz.underlying5 Tryz.underlying9
          have hs7 : W7.heap.size = w4.heap.size + 1 := by rw [hW7]; simp
          rw [hs7, hW7] at hcv
          rw [hW7] at cv1 cv2
          have Q11 := hid (q11.then (below_alloc W7 (.cells #[.int .u8 (97 + (j : Int))] 5)))
          rw [hW7] at Q11
          unfold rowH
          simp only [HC.out.1]
          unfold rowH at cv1 cv2 hcv Q11
          simp only at cv1 cv2 hcv Q11
          clear C2 q10 q11 hkq hiq hol hob hb7 hbx7 hrd hs7 hW7
          go_wp2_with fail
          go_roundw
          case rel => exact ⟨j + 1, v10, hjm, by simp, Q11.out⟩
          case measure => simp only [intOf]; omega
        · have hje : j = M.length := by omega
          subst hje
          rw [List.drop_length] at q8
          change Rdr w wr g v8 ⟨[], false, 0⟩ at q8
          have c2 := queryR_any q8 HM.out (by simp)
          rw [row_none] at c2
          have C2 := hid c2
          clear q8 c2 hjm hj
          go_wp2_with fail
          refine C2.out.mono ?_
          rintro e w4 ⟨⟨-, rfl⟩, v10, q10, -⟩
          have q11 := q10.then (below_alloc w4 (.cells qryZero 42))
          have c3 := closeR_any q11
          have C3 := hid c3
          clear C2 q10 q11 c3
          go_wp2_with fail
          refine C3.out.mono ?_
          rintro e w5 ⟨⟨u, rfl⟩, q12, -⟩
          have c4 := queryR_any q12 HM.out (by simp)
          rw [row_end] at c4
          have C4 := hid c4
          clear C3 q12 c4
          go_wp2_with fail
          refine C4.out.mono ?_
          rintro e w6 ⟨⟨-, rfl⟩, v13, q13, -⟩
          have q14 := q13.then (below_alloc w6 (.cells qryZero 42))
          have c5 := leftR_any q14
          have C5 := hid c5
          have Q14 := hid q14
          clear C4 q13 q14 c5
          go_wp2_with fail
          refine C5.out.mono ?_
          rintro e w7 ⟨rfl, rfl⟩
          go_wp2_with fail
          go_ret
          exact ⟨rfl, Q14.out.bl⟩
end Go.Proofs.YtongceljdgmbdaaGreatDoor
