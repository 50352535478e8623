/-
  Several texts in one: WireI, WireE, WireF.
-/
import Derived.Test.YtongceljdgmbdaaGreatDoorW7fResI
import Derived.Test.YtongceljdgmbdaaGreatDoorPureWire2
import Derived.Test.YtongceljdgmbdaaGreatDoorW7f02
import Derived.Test.YtongceljdgmbdaaGreatDoorW7f10
import Derived.Test.YtongceljdgmbdaaGreatDoorW7f03
/-
  strconv.Itoa at any number.
-/
namespace Go.Proofs.YtongceljdgmbdaaGreatDoor
open Go.RowKit Go.Pantry Go.Sort

theorem itoa_any (n : Nat) (h : n < 1000000) (w : World) (ht : Tab10 w) :
    Calls Tryz.prog 71 #[.int .i64 (n : Int)] w fun e w' => e = .returned (strV (decL n)) ∧ Below w.heap.size w w' := by
  refine (Tryz.strconv_Itoa (n : Int) (by omega) (by omega) w ht).mono ?_
  rintro e w' ⟨rfl, k, os, rfl⟩
  rw [decL_itoa n]
  exact ⟨rfl, below_of_grow _ _ _⟩
end Go.Proofs.YtongceljdgmbdaaGreatDoor
/-
  Contracts of package wire: lengthOf, bodiless, join.
-/
namespace Go.Proofs.YtongceljdgmbdaaGreatDoor
open Go.RowKit Go.Pantry

theorem infoFieldS : (Tryz.prog.info? 104).map (·.size) = some 2 := by kernel_rfl
theorem one2s (a b : List UInt8) : (#[strV a, strV b] : Array Value).all (·.oneCell') = true := by simp [Value.oneCell']
set_option maxRecDepth 100000 in
theorem lengthOf_any (ao : Option Addr) (n c : Nat) (hn : n < 100000) (w : World) (ht : Tab10 w) :
    Calls Tryz.prog 43 #[.slice ao n c] w fun e w' => e = .returned (.agg #[strV clN, strV (decL n)]) ∧ Below w.heap.size w w' := by
  obtain ⟨W0, hW0⟩ : ∃ W, W = w.alloc (.cells #[.string ⟨#[]⟩, .string ⟨#[]⟩] 104) := ⟨_, rfl⟩
  have hb0 : Below w.heap.size w W0 := by rw [hW0]; exact below_alloc _ _
  have hres : rowIs W0 w.heap.size #[.string ⟨#[]⟩, .string ⟨#[]⟩] 104 := by rw [hW0]; exact rowIs_new _ _ _
  have C1 := hid (itoa_any n (by omega) W0 (ht.below hb0))
  go_enter Tryz.func43, Tryz.ntmps43
  go_wp2_with fail
  rw [← hW0]
  clear hW0
  refine C1.out.mono ?_
  rintro e w1 ⟨rfl, hb1⟩
  have HR := hid (hres.below hb1)
  have HB := hid (chain2 hb0 hb0.size hb1)
  clear C1 hres hb0 hb1 ht
  go_wp2_with (refine wpList_store_row rfl 104 _ _ rfl w.heap.size _ rfl rfl 104 #[.string ⟨#[]⟩, .string ⟨#[]⟩] HR.out infoFieldS rfl (one2s clN (decL n)) ?_)
  refine bodyPost_ret (results_row Tryz.results43 _ _ w.heap.size _ rfl (HR.out.setRow #[strV clN, strV (decL n)]) Tryz.underlying104 rfl infoFieldS) rfl ?_
  exact ⟨rfl, below_setRow HB.out (Nat.le_refl _) _⟩
theorem eqlFr0 (w : World) : (binOp .eql 96 (.agg #[.int .i64 0, .int .i64 0]) (.agg #[.int .i64 0, .int .i64 0])).run Tryz.prog w = .ok (.bool true) w := by kernel_rfl
theorem eqlFr3 (w : World) : (binOp .eql 96 (.agg #[.int .i64 3, .int .i64 0]) (.agg #[.int .i64 0, .int .i64 0])).run Tryz.prog w = .ok (.bool false) w := by kernel_rfl
set_option maxRecDepth 100000 in
theorem bodiless_any (mt : List UInt8) (st : Int) (w : World) :
    Calls Tryz.prog 51 #[strV mt, .int .i64 st] w fun e w' => e = .returned (.bool (bareX (mt == [72, 69, 65, 68]) st)) ∧ Below w.heap.size w w' := by
  have c1 := OfResponse_any mt [] st 0 (.slice none 0 0) [] w ⟨none, 0, rfl, (fun j p hj => by cases hj), (fun _ => rfl), by simp⟩ ⟨by simp, fun f hf => by cases hf⟩
  rw [show frameX 0 3 [] = .ok (3, 0) by rfl] at c1
  have e0 := fun W => eqlFr0 W
  have e3 := fun W => eqlFr3 W
  cases hx : bareX (mt == [72, 69, 65, 68]) st with
  | true =>
    rw [hx, if_pos rfl] at c1
    have C1 := hid c1
    clear c1 hx
    go_enter Tryz.func51, Tryz.ntmps51
    go_wp2_with fail
    refine C1.out.mono ?_
    rintro e w1 ⟨hf, hb1⟩
    have hf2 : e = .returned (.tuple #[.agg #[.int .i64 0, .int .i64 0], .int .i64 0]) := hf
    subst hf2
    clear hf C1
    go_wp2_with fail
    go_ret
    exact ⟨rfl, hb1.alloc hb1.size _⟩
  | false =>
    rw [hx, if_neg (by simp)] at c1
    have C1 := hid c1
    clear c1 hx
    go_enter Tryz.func51, Tryz.ntmps51
    go_wp2_with fail
    refine C1.out.mono ?_
    rintro e w1 ⟨hf, hb1⟩
    have hf2 : e = .returned (.tuple #[.agg #[.int .i64 3, .int .i64 0], .int .i64 0]) := hf
    subst hf2
    clear hf C1
    go_wp2_with fail
    go_ret
    exact ⟨rfl, hb1.alloc hb1.size _⟩
/-- what writing tells -/
def PutPost (_B : Nat) (x : Except Nat (List UInt8)) (e : Ending) (w' : World) : Prop := match x with
  | .error k => k ≠ 0 ∧ e = .returned (.tuple #[.slice none 0 0, .int .i64 (k : Int)])
  | .ok s => ∃ ao c, e = .returned (.tuple #[.slice ao s.length c, .int .i64 0]) ∧ Bytes w' (.slice ao s.length c) s
set_option maxRecDepth 100000 in
theorem join_err (T : List UInt8) (k : Nat) (hk : k ≠ 0) (ao : Option Addr) (n c : Nat) (w : World) :
    Calls Tryz.prog 45 #[strV T, .int .i64 (k : Int), .slice ao n c] w fun e w' => e = .returned (.tuple #[.slice none 0 0, .int .i64 (k : Int)]) ∧ w = w' := by
  have hz : ((k : Int) != 0) = true := by simp; omega
  go_enter Tryz.func45, Tryz.ntmps45
  go_wp2
  go_ret2
  exact ⟨rfl, rfl⟩
set_option maxRecDepth 100000 in
theorem join_ok (T b : List UInt8) (vb : Value) (w : World) (hb : Bytes w vb b) (hT : T.length ≤ 100000) (hbl : b.length ≤ 1000000000) :
    Calls Tryz.prog 45 #[strV T, .int .i64 0, vb] w fun e w' => PutPost w.heap.size (if 2048 < b.length then .error 23 else .ok (T ++ b)) e w' ∧ Below w.heap.size w w' := by
  obtain ⟨aob, cb, rfl, hcb⟩ := bytes_form hb
  by_cases h : 2048 < b.length
  · rw [if_pos h]
    have hz : (2048 : Int) < (b.length : Int) := by omega
    clear hb
    go_enter Tryz.func45, Tryz.ntmps45
    go_wp2
    go_ret2
    exact ⟨⟨by decide, rfl⟩, Below.refl _ _⟩
  · rw [if_neg h]
    have hz : ¬ (2048 : Int) < (b.length : Int) := by omega
    obtain ⟨capb, W8, cur, fz, hcv, hg8, hfz, hcc, htk, hxc, hbW8⟩ := bytes_conv (P := Tryz.prog) w T 9 27 5 Tryz.underlying9 Tryz.underlying27 Tryz.underlying5
    have hxl : (T.map byteV).length = T.length := List.length_map ..
    have hrest := (bytesRead hb).below hbW8
    rw [← hxl] at htk hxc
    have hnn : (T.map byteV).length + (b.map byteV).length < 4294967296 := by rw [List.length_map, List.length_map]; omega
    have HA := hid (And.intro hg8 (And.intro hfz (And.intro hcc (And.intro htk (And.intro hxc (And.intro hrest (And.intro hnn hbW8)))))))
    clear hg8 hfz hcc htk hxc hrest hnn hbW8 hb
    go_enter Tryz.func45, Tryz.ntmps45
    go_wp2_with (at_builtin; (refine wpList_append_marked2 _ rfl _ _ 27 rfl w.heap.size 5 Tryz.underlying27 infoU8 (by decide) (T.map byteV) (by rw [hxl]; rfl) HA.out.1 HA.out.2.1 HA.out.2.2.1 HA.out.2.2.2.1 HA.out.2.2.2.2.1 HA.out.2.2.2.2.2.1 (oneCell_bytes b) rfl HA.out.2.2.2.2.2.2.1 (Nat.le_refl _) ?_); intro v9 w9 hrd9 hrm9 hb9)
    obtain ⟨-, -, -, -, -, -, -, hbW8⟩ := HA.out
    rw [← List.map_append] at hrd9
    obtain ⟨ao5, cp5, rfl⟩ := hrd9.form
    rw [List.length_map] at hrd9 hrm9 ⊢
    have hroom := hrm9 _ _ _ rfl
    go_ret2
    exact ⟨⟨ao5, cp5, rfl, bytes_of hrd9 hroom⟩, hbW8.trans hb9⟩
end Go.Proofs.YtongceljdgmbdaaGreatDoor
/-
  Contract of package wire: PutQuery.
-/
namespace Go.Proofs.YtongceljdgmbdaaGreatDoor
open Go.RowKit Go.Pantry

theorem PutPost.base {B B' : Nat} {x : Except Nat (List UInt8)} {e : Ending} {w' : World} (h : PutPost B x e w') : PutPost B' x e w' := by
  cases x with
  | error k => exact h
  | ok s => exact h
theorem rightQ_pos {m t : List UInt8} {z : Int} {L : List Fld} (h : rightQ m t z L = true) : 0 ≤ z := by
  unfold rightQ formedR at h
  simp only [Bool.and_eq_true, Bool.or_eq_true, beq_iff_eq] at h
  rcases h.1.1.2 with h | h <;> omega
theorem okFs_putL {L : List Fld} (hk : okFs L) (hl : L.length ≤ 999) {o : Option Nat} (ho : ∀ n, o = some n → n < 100000) : okFs (putL L o) := by
  refine ⟨by have := putL_len L o; omega, fun f hf => ?_⟩
  cases o with
  | none => exact hk.2 f (bareL_mem hf)
  | some n =>
    rcases List.mem_append.1 hf with hf | hf
    · exact hk.2 f (bareL_mem hf)
    · have hn := ho n rfl
      obtain rfl : f = lenFld n := by simpa using hf
      have := decL_len 4 n (by simpa using hn)
      exact ⟨by show clN.length ≤ 100000; decide, by show (decL n).length ≤ _; omega⟩
theorem okFs_len (n : Nat) (h : n < 100000) : okFs [lenFld n] := by
  refine ⟨by simp, fun f hf => ?_⟩
  obtain rfl : f = lenFld n := by simpa using hf
  have := decL_len 4 n (by simpa using h)
  exact ⟨by show clN.length ≤ 100000; decide, by show (decL n).length ≤ _; omega⟩
theorem reads2_drew {w : World} {v : Value} {L : List Fld} (h : Reads2 w v L) : Reads2 w.drew v L := h.below ((Below.refl _ _).drew)
theorem okFs_bareL {L : List Fld} (hk : okFs L) : okFs (bareL L) := ⟨Nat.le_trans (bareL_len L) hk.1, fun f hf => hk.2 f (bareL_mem hf)⟩
set_option maxRecDepth 100000 in
set_option maxHeartbeats 8000000 in
theorem putQuery_any (m t : List UInt8) (z : Int) (vl vb : Value) (L : List Fld) (b : List UInt8) (w : World) (hm : m.length ≤ 100) (ht : t.length ≤ 1100) (hr : Reads2 w vl L) (hk : okFs L) (hl : L.length ≤ 999) (hb : Bytes w vb b) (hbl : b.length < 100000) (htab : Tab10 w) :
    Calls Tryz.prog 24 #[.agg #[strV m, strV t, .int .i64 z, vl, vb]] w fun e w' => PutPost w.heap.size (putX (rightQ m t z (putL L (if b = [] then none else some b.length))) (textH (reqLine ⟨m, t, 0, z.toNat, []⟩) (putL L (if b = [] then none else some b.length))) b false) e w' ∧ Below w.heap.size w w' := by
  generalize ho : (if b = [] then none else some b.length) = o
  have HO := hid ho
  clear ho
  obtain ⟨aol, cl, rfl⟩ := hr.form
  obtain ⟨aob, cb, rfl, hcb⟩ := bytes_form hb
  obtain ⟨W1, hW1⟩ : ∃ W, W = w.alloc (.cells #[strV m, strV t, .int .i64 z, .slice aol L.length cl, .slice aob b.length cb] 42) := ⟨_, rfl⟩
  have hb1 : Below w.heap.size w W1 := by rw [hW1]; exact below_alloc _ _
  have hg1 : rowIs W1 w.heap.size #[strV m, strV t, .int .i64 z, .slice aol L.length cl, .slice aob b.length cb] 42 := by rw [hW1]; exact rowIs_new _ _ _
  obtain ⟨W2, hW2⟩ : ∃ W, W = W1.alloc (.cells #[strV clN, strV teN] 9) := ⟨_, rfl⟩
  have hb12 : Below W1.heap.size W1 W2 := by rw [hW2]; exact below_alloc _ _
  have hn2 : Reads W2 (.slice (some ⟨W1.heap.size, 0, none⟩) 2 2) ([clN, teN].map strV) := by rw [hW2]; exact reads_new W1 ([clN, teN].map strV) 9 2
  have hs1 : W1.heap.size = w.heap.size + 1 := by rw [hW1]; simp
  have hb2 := chain2 hb1 hb1.size hb12
  have hg2 := hg1.below hb12
  have c1 := lWithout_any (.slice aol L.length cl) (.slice (some ⟨W1.heap.size, 0, none⟩) 2 2) L [clN, teN] W2 (hr.below hb2) hk hn2 ⟨by simp, fun n hn => by simp at hn; rcases hn with rfl | rfl <;> decide⟩
  rw [hs1, show outsF L [clN, teN] = bareL L from rfl] at c1
  have C1 := hid c1
  have HBY := hid hb
  have HTB := hid htab
  rw [hW1] at hW2
  clear c1 hb12 hn2 hb1 hg1 hr hb htab hs1 hW1
  go_enter Tryz.func24, Tryz.ntmps24
  go_wp2_with fail
  unfold clN teN at hW2
  rw [← hW2]
  clear hW2
  refine C1.out.mono ?_
  rintro e w3 ⟨⟨v1, k1, rfl, ho1⟩, hb3⟩
  have hg3 := hg2.below hb3
  have hbA := chain2 hb2 hb2.size hb3
  have hgl2 := hg2.lt
  have hr1 := ho1.reads2
  obtain ⟨hk1, hr1⟩ := hr1
  obtain ⟨ao1, c1, rfl⟩ := hr1.form
  have hin1 := ownsRow_in ho1
  obtain ⟨W4, hW4⟩ : ∃ W, W = w3.setCell ⟨w.heap.size, 3, none⟩ (.slice ao1 (bareL L).length c1) := ⟨_, rfl⟩
  have hk4 : Kept (fun k => k = w.heap.size) w3 W4 := by rw [hW4]; exact (Kept.refl (fun k => k = w.heap.size) _).setCell (i := 3) (.inl rfl) _
  have hg4 : rowIs W4 w.heap.size #[strV m, strV t, .int .i64 z, .slice ao1 (bareL L).length c1, .slice aob b.length cb] 42 := by rw [hW4]; exact hg3.setCell 3 _
  have hr4 : Reads2 W4 (.slice ao1 (bareL L).length c1) (bareL L) := reads2_kept hr1 hk4 (hin1.mono fun k hk => by have := hk.1; omega)
  have hbB : Below w.heap.size w W4 := by rw [hW4]; exact hbA.setCell (p := ⟨w.heap.size, 3, none⟩) (Nat.le_refl _) _
  have hc3 := hg3.cell 3
  have hf3 := hg3.free 3
  have HR4 := hid hr4
  change Hid (Reads2 W4 _ (putL L none)) at HR4
  clear hg2 hb2 C1 hb3 hg3 hbA ho1 hr1 hin1 hk4 hr4 hgl2 hk1
  by_cases hbe : b = []
  · subst hbe
    have ho := HO.out
    rw [if_pos rfl] at ho
    subst ho
    clear HO
    simp only [List.length_nil] at *
    have hkP := okFs_putL hk hl (o := none) (fun n h => by cases h)
    have hrow := hg4
    have HP := HR4
    clear hg4 HR4
    generalize ao1 = aoP at *
    generalize (bareL L).length = nP at *
    generalize c1 = cP at *
    have g0 := hrow.cell 0
    have g1 := hrow.cell 1
    have g2 := hrow.cell 2
    have g3 := hrow.cell 3
    have c4 := hrow.cell 4
    rw [hW4] at g0 g1 g2 g3 c4
    have hbo := bytes_below HBY.out hbB
    have hgl := hrow.lt
    obtain ⟨T, hT⟩ : ∃ T, textH (reqLine ⟨m, t, 0, z.toNat, []⟩) (putL L none) = T := ⟨_, rfl⟩
    have HT := hid hT
    cases hq : rightQ m t z (putL L none) with
    | false =>
      have CS := hid (ShowRequest_no m t z (.slice aoP nP cP) (putL L none) W4 hm ht HP.out hkP hq)
      have CJ := hid (fun W' => join_err [] 10 (by decide) aob 0 cb W')
      have HQ := hid hq
      clear hq hkP HP hT
      go_wp2_with fail
      rw [← hW4]
      clear hW4 g0 g1 g2 g3 c4 hc3 hf3
      refine CS.out.mono ?_
      rintro e w5 ⟨rfl, hb5⟩
      have g4 := (hrow.below hb5).cell 4
      have HB := hid (chain2 hbB hbB.size hb5)
      clear CS hb5 hrow hbB hbo
      go_wp2_with fail
      refine (CJ.out _).mono ?_
      rintro e w6 ⟨rfl, rfl⟩
      go_wp2_with fail
      go_ret2
      refine ⟨?_, HB.out⟩
      rw [HQ.out]
      unfold putX
      rw [if_pos rfl]
      exact ⟨by decide, rfl⟩
    | true =>
      have hz0 : 0 ≤ z := rightQ_pos hq
      have cs := ShowRequest_yes m t z (.slice aoP nP cP) (putL L none) W4 hm ht HP.out hkP hz0 hq
      rw [hT] at cs
      have HQ := hid hq
      by_cases h4 : 4096 < T.length
      · simp only [if_pos h4] at cs
        have CS := hid cs
        have CJ := hid (fun W' => join_err [] 22 (by decide) aob 0 cb W')
        have H4 := hid h4
        clear hq hkP HP cs hT h4 hz0
        go_wp2_with fail
        rw [← hW4]
        clear hW4 g0 g1 g2 g3 c4 hc3 hf3
        refine CS.out.mono ?_
        rintro e w5 ⟨rfl, hb5⟩
        have g4 := (hrow.below hb5).cell 4
        have HB := hid (chain2 hbB hbB.size hb5)
        clear CS hb5 hrow hbB hbo
        go_wp2_with fail
        refine (CJ.out _).mono ?_
        rintro e w6 ⟨rfl, rfl⟩
        go_wp2_with fail
        go_ret2
        refine ⟨?_, HB.out⟩
        rw [HQ.out, HT.out]
        unfold putX
        rw [if_neg (by simp), if_pos H4.out]
        exact ⟨by decide, rfl⟩
      · simp only [if_neg h4] at cs
        have CS := hid cs
        have CJ := hid (fun W' hW' => join_ok T ([] : List UInt8) (.slice aob 0 cb) W' hW' (by omega) (by first | omega | (simp only [List.length_nil] at *; omega)))
        have H4 := hid h4
        clear hq hkP HP cs hT h4 hz0
        go_wp2_with fail
        rw [← hW4]
        clear hW4 g0 g1 g2 g3 c4 hc3 hf3
        refine CS.out.mono ?_
        rintro e w5 ⟨rfl, hb5⟩
        have g4 := (hrow.below hb5).cell 4
        have hbo5 := bytes_below hbo hb5
        have hbN := chain2 hbB hbB.size hb5
        have HB := hid hbN
        have HBO := hid hbo5
        clear CS hb5 hrow hbB hbo hbo5 hbN
        go_wp2_with fail
        refine (CJ.out _ HBO.out).mono ?_
        rintro e w6 ⟨hp, hb6⟩
        have HB6 := hid (chain2 HB.out HB.out.size hb6)
        have hpw : PutPost w.heap.size (putX true T ([] : List UInt8) false) e w6 := by
          unfold putX
          rw [if_neg (by simp), if_neg H4.out]
          simp only [Bool.false_eq_true, if_false]
          exact hp.base
        clear hp hb6 CJ
        obtain ⟨X, hX⟩ : ∃ X, putX true T ([] : List UInt8) false = X := ⟨_, rfl⟩
        rw [hX] at hpw
        have HX := hid hX
        clear hX
        cases X with
        | error k =>
          obtain ⟨hk0, rfl⟩ := hpw
          have HK := hid hk0
          clear hk0
          go_wp2_with fail
          go_ret2
          refine ⟨?_, HB6.out⟩
          rw [HQ.out, HT.out, HX.out]
          exact ⟨HK.out, rfl⟩
        | ok s =>
          obtain ⟨ao9, c9, rfl, hby9⟩ := hpw
          have HY := hid hby9
          clear hby9
          go_wp2_with fail
          go_ret2
          refine ⟨?_, HB6.out⟩
          rw [HQ.out, HT.out, HX.out]
          exact ⟨ao9, c9, rfl, HY.out⟩
  · have hz0 : 0 < b.length := List.length_pos_iff.2 hbe
    have hz1 : (0 : Int) < (b.length : Int) := by omega
    have g0 := hg4.cell 0
    have g1 := hg4.cell 1
    have g2 := hg4.cell 2
    have g3 := hg4.cell 3
    have c4 := hg4.cell 4
    have s4 := c4
    rw [hW4] at s4
    have ho := HO.out
    rw [if_neg hbe] at ho
    subst ho
    clear HO
    go_wp2_with fail
    rw [← hW4]
    clear hW4 s4 hc3 hf3
    have HTB4 := hid (HTB.out.below hbB)
    refine wp_region_held_drew (S := fun _ => True) (by kernel_rfl) trivial (fun hH => ?_)
    refine wpAnyH_take (i := 0) (v := ?_) rfl (by kernel_rfl) (by kernel_rfl) (by kernel_rfl) (fun _ _ _ h => h) (Or.inl ⟨by kernel_rfl, ?_⟩) hH ?_
    rotate_left
    · intro W hS
      go_simp
      first | done | with_reducible rfl
    simp only [Act.put, List.getElem_toArray, List.getElem_cons_zero, List.setIfInBounds_toArray, List.set_cons_zero, List.set_cons_succ]
    refine wpAnyH_take (i := 1) (v := ?_) rfl (by kernel_rfl) (by kernel_rfl) (by kernel_rfl) (fun _ _ _ h => h) (Or.inl ⟨by kernel_rfl, ?_⟩) hH ?_
    rotate_left
    · intro W hS
      go_simp
      first | done | with_reducible rfl
    simp only [Act.put, List.getElem_toArray, List.getElem_cons_succ, List.getElem_cons_zero, List.setIfInBounds_toArray, List.set_cons_zero, List.set_cons_succ]
    refine wpAnyH_take (i := 2) (v := ?_) rfl (by kernel_rfl) (by kernel_rfl) (by kernel_rfl) (fun _ _ _ h => h) (Or.inl ⟨by kernel_rfl, ?_⟩) hH ?_
    rotate_left
    · intro W hS
      go_simp
      first | done | with_reducible rfl
    simp only [Act.put, List.getElem_toArray, List.getElem_cons_succ, List.getElem_cons_zero, List.setIfInBounds_toArray, List.set_cons_zero, List.set_cons_succ]
    refine wpAnyH_take (i := 4) (v := ?_) rfl (by kernel_rfl) (by kernel_rfl) (by kernel_rfl) (fun _ _ _ h => h) (Or.inl ⟨by kernel_rfl, ?_⟩) hH ?_
    rotate_left
    · intro W hS
      go_simp
      first | done | with_reducible rfl
    simp only [Act.put, List.getElem_toArray, List.getElem_cons_succ, List.getElem_cons_zero, List.setIfInBounds_toArray, List.set_cons_zero, List.set_cons_succ]
    have hgD : rowIs W4.drew w.heap.size #[strV m, strV t, .int .i64 z, .slice ao1 (bareL L).length c1, .slice aob b.length cb] 42 := hg4
    have hbD := hbB.drew
    have HPD := hid (reads2_drew HR4.out)
    have HTD := hid (HTB4.out.below (Below.drew (Below.refl _ _)))
    clear g0 g1 g2 g3 c4 hg4 hbB HR4 HTB4 hH hz0 hz1
    generalize W4.drew = wd at *
    change Hid (Reads2 wd _ (bareL L)) at HPD
    refine wpAnyH_ready (rs := [3, 5]) (by kernel_rfl) (by simp) ?_
    refine AllReadyH.cons rfl (fun K hK => ?_) (AllReadyH.cons rfl (fun K hK => ?_) AllReadyH.nil)
    ·
      have q1 := hgD.cell 3
      go_simp
      clear q1
      refine hK.out _ _ trivial (fun _ => ?_)
      clear hK K
      try simp only [Act.put, List.getElem_toArray, List.getElem_cons_succ, List.getElem_cons_zero, List.setIfInBounds_toArray, List.set_cons_zero, List.set_cons_succ]
      refine wpAnyH_ready (rs := [5]) (by kernel_rfl) (by simp) ?_
      refine AllReadyH.cons rfl (fun K hK => ?_) AllReadyH.nil
      have q2 := hgD.cell 4
      go_simp
      clear q2
      refine hK.out _ _ trivial (fun _ => ?_)
      clear hK K
      try simp only [Act.put, List.getElem_toArray, List.getElem_cons_succ, List.getElem_cons_zero, List.setIfInBounds_toArray, List.set_cons_zero, List.set_cons_succ]
      refine wpAnyH_ready (rs := [6]) (by kernel_rfl) (by simp) ?_
      refine AllReadyH.cons rfl (fun K hK => ?_) AllReadyH.nil
      go_simp
      refine (lengthOf_any aob b.length cb hbl wd HTD.out).mono ?_
      rintro e wx3 ⟨rfl, hx3⟩
      have hg3x := hgD.below hx3
      have hb3x := chain2 hbD hbD.size hx3
      have HP3x := hid (HPD.out.below hx3)
      clear hgD hbD HPD HTD hx3
      refine hK.out _ _ trivial (fun _ => ?_)
      clear hK K
      try simp only [Act.put, List.getElem_toArray, List.getElem_cons_succ, List.getElem_cons_zero, List.setIfInBounds_toArray, List.set_cons_zero, List.set_cons_succ]
      refine wpAnyH_ready (rs := [7]) (by kernel_rfl) (by simp) ?_
      refine AllReadyH.cons rfl (fun K hK => ?_) AllReadyH.nil
      obtain ⟨wx4, hW4⟩ : ∃ W, W = wx3.alloc (.cells #[strV clN, strV (decL b.length)] 104) := ⟨_, rfl⟩
      have hx4 : Below wx3.heap.size wx3 wx4 := by rw [hW4]; exact below_alloc _ _
      have HM4x := hid (show Reads2 wx4 (.slice (some ⟨wx3.heap.size, 0, none⟩) 1 1) [lenFld b.length] from by rw [hW4]; exact reads2_new_at wx3 (lenFld b.length) 104 1 _ rfl)
      go_simp
      rw [← hW4]
      have hg4x := hg3x.below hx4
      have hb4x := chain2 hb3x hb3x.size hx4
      have HP4x := hid (HP3x.out.below hx4)
      clear hg3x hb3x HP3x hx4 hW4
      refine hK.out _ _ trivial (fun _ => ?_)
      clear hK K
      try simp only [Act.put, List.getElem_toArray, List.getElem_cons_succ, List.getElem_cons_zero, List.setIfInBounds_toArray, List.set_cons_zero, List.set_cons_succ]
      refine wpAnyH_ready (rs := [8]) (by kernel_rfl) (by simp) ?_
      refine AllReadyH.cons rfl (fun K hK => ?_) AllReadyH.nil
      go_simp
      refine (lWith_any _ _ (bareL L) [lenFld b.length] wx4 HP4x.out (okFs_bareL hk) HM4x.out (okFs_len b.length hbl)).mono ?_
      rintro e wx5 ⟨⟨v9, k9, rfl, ho9⟩, hx5⟩
      rw [with_len] at ho9
      obtain ⟨-, hr9⟩ := ho9.reads2
      obtain ⟨ao9, c9, rfl⟩ := hr9.form
      generalize (bareL L ++ [lenFld b.length]).length = N9 at hr9 ho9 ⊢
      have hin9 := (ownsRow_in ho9)
      have hlg9 := hg4x.lt
      have hg5x := hg4x.below hx5
      have hb5x := chain2 hb4x hb4x.size hx5
      have q3 := hg5x.cell 3
      have f3 := hg5x.free 3
      have hk9 := (Kept.refl (fun k => k = w.heap.size) wx5).setCell (i := 3) (.inl rfl) (.slice ao9 N9 c9)
      have HP := hid (reads2_kept hr9 hk9 (hin9.mono fun k hk => by have := hk.1; omega))
      change Hid (Reads2 _ _ (putL L (some b.length))) at HP
      have hrow := hg5x.setCell 3 (.slice ao9 N9 c9)
      have hbB := hb5x.setCell (p := ⟨w.heap.size, 3, none⟩) (Nat.le_refl _) (.slice ao9 N9 c9)
      have HROW := hid (And.intro hrow hbB)
      clear hg4x hb4x HP4x HM4x hx5 ho9 hr9 hin9 hk9 hg5x hb5x hrow hbB hlg9
      refine hK.out _ _ trivial (fun _ => ?_)
      clear hK K
      try simp only [Act.put, List.getElem_toArray, List.getElem_cons_succ, List.getElem_cons_zero, List.setIfInBounds_toArray, List.set_cons_zero, List.set_cons_succ]
      refine wpAnyH_take (i := 9) (v := ?_) rfl (by kernel_rfl) (by kernel_rfl) (by kernel_rfl) (fun _ _ _ h => h) (Or.inl ⟨by kernel_rfl, ?_⟩) trivial ?_
      rotate_left
      · intro W hS
        go_simp
        first | done | with_reducible rfl
      simp only [Act.put, List.getElem_toArray, List.getElem_cons_succ, List.getElem_cons_zero, List.setIfInBounds_toArray, List.set_cons_zero, List.set_cons_succ]
      refine wpAnyH_take (i := 10) (v := ?_) rfl (by kernel_rfl) (by kernel_rfl) (by kernel_rfl) (fun _ _ _ h => h) (Or.inl ⟨by kernel_rfl, ?_⟩) trivial ?_
      rotate_left
      · intro W hS
        go_simp
        first | done | with_reducible rfl
      simp only [Act.put, List.getElem_toArray, List.getElem_cons_succ, List.getElem_cons_zero, List.setIfInBounds_toArray, List.set_cons_zero, List.set_cons_succ]
      refine wpAnyH_take (i := 11) (v := ?_) rfl (by kernel_rfl) (by kernel_rfl) (by kernel_rfl) (fun _ _ _ h => h) (Or.inl ⟨by kernel_rfl, ?_⟩) trivial ?_
      rotate_left
      · intro W hS
        go_simp
        first | done | with_reducible rfl
      simp only [Act.put, List.getElem_toArray, List.getElem_cons_succ, List.getElem_cons_zero, List.setIfInBounds_toArray, List.set_cons_zero, List.set_cons_succ]
      refine wpAnyH_ready (rs := [12]) (by kernel_rfl) (by simp) ?_
      refine AllReadyH.cons rfl (fun K hK => ?_) AllReadyH.nil
      go_simp
      refine hK.out _ _ trivial (fun _ => ?_)
      clear hK K
      try simp only [Act.put, List.getElem_toArray, List.getElem_cons_succ, List.getElem_cons_zero, List.setIfInBounds_toArray, List.set_cons_zero, List.set_cons_succ]
      refine wpAnyH_done (by kernel_rfl) ?_ _
      clear q3 f3
      obtain ⟨hrow, hbB⟩ := HROW.out
      have hkP := okFs_putL hk hl (o := some b.length) (fun n h => by cases h; exact hbl)
      obtain ⟨wf, hwf⟩ : ∃ W, W = wx5.setCell ⟨w.heap.size, 3, none⟩ (.slice ao9 N9 c9) := ⟨_, rfl⟩
      rw [← hwf] at hrow hbB HP ⊢
      clear hwf HROW
      generalize ao9 = aoP at *
      generalize N9 = nP at *
      generalize c9 = cP at *
      have g0 := hrow.cell 0
      have g1 := hrow.cell 1
      have g2 := hrow.cell 2
      have g3 := hrow.cell 3
      have hbo := bytes_below HBY.out hbB
      have hgl := hrow.lt
      obtain ⟨T, hT⟩ : ∃ T, textH (reqLine ⟨m, t, 0, z.toNat, []⟩) (putL L (some b.length)) = T := ⟨_, rfl⟩
      have HT := hid hT
      cases hq : rightQ m t z (putL L (some b.length)) with
      | false =>
        have CS := hid (ShowRequest_no m t z (.slice aoP nP cP) (putL L (some b.length)) wf hm ht HP.out hkP hq)
        have CJ := hid (fun W' => join_err [] 10 (by decide) aob b.length cb W')
        have HQ := hid hq
        clear hq hkP HP hT
        go_wp2_with fail
        skip
        refine CS.out.mono ?_
        rintro e w5 ⟨rfl, hb5⟩
        have g4 := (hrow.below hb5).cell 4
        have HB := hid (chain2 hbB hbB.size hb5)
        clear CS hb5 hrow hbB hbo
        go_wp2_with fail
        refine (CJ.out _).mono ?_
        rintro e w6 ⟨rfl, rfl⟩
        go_wp2_with fail
        go_ret2
        refine ⟨?_, HB.out⟩
        rw [HQ.out]
        unfold putX
        rw [if_pos rfl]
        exact ⟨by decide, rfl⟩
      | true =>
        have hz0 : 0 ≤ z := rightQ_pos hq
        have cs := ShowRequest_yes m t z (.slice aoP nP cP) (putL L (some b.length)) wf hm ht HP.out hkP hz0 hq
        rw [hT] at cs
        have HQ := hid hq
        by_cases h4 : 4096 < T.length
        · simp only [if_pos h4] at cs
          have CS := hid cs
          have CJ := hid (fun W' => join_err [] 22 (by decide) aob b.length cb W')
          have H4 := hid h4
          clear hq hkP HP cs hT h4 hz0
          go_wp2_with fail
          skip
          refine CS.out.mono ?_
          rintro e w5 ⟨rfl, hb5⟩
          have g4 := (hrow.below hb5).cell 4
          have HB := hid (chain2 hbB hbB.size hb5)
          clear CS hb5 hrow hbB hbo
          go_wp2_with fail
          refine (CJ.out _).mono ?_
          rintro e w6 ⟨rfl, rfl⟩
          go_wp2_with fail
          go_ret2
          refine ⟨?_, HB.out⟩
          rw [HQ.out, HT.out]
          unfold putX
          rw [if_neg (by simp), if_pos H4.out]
          exact ⟨by decide, rfl⟩
        · simp only [if_neg h4] at cs
          have CS := hid cs
          have CJ := hid (fun W' hW' => join_ok T b (.slice aob b.length cb) W' hW' (by omega) (by first | omega | (simp only [List.length_nil] at *; omega)))
          have H4 := hid h4
          clear hq hkP HP cs hT h4 hz0
          go_wp2_with fail
          skip
          refine CS.out.mono ?_
          rintro e w5 ⟨rfl, hb5⟩
          have g4 := (hrow.below hb5).cell 4
          have hbo5 := bytes_below hbo hb5
          have hbN := chain2 hbB hbB.size hb5
          have HB := hid hbN
          have HBO := hid hbo5
          clear CS hb5 hrow hbB hbo hbo5 hbN
          go_wp2_with fail
          refine (CJ.out _ HBO.out).mono ?_
          rintro e w6 ⟨hp, hb6⟩
          have HB6 := hid (chain2 HB.out HB.out.size hb6)
          have hpw : PutPost w.heap.size (putX true T b false) e w6 := by
            unfold putX
            rw [if_neg (by simp), if_neg H4.out]
            simp only [Bool.false_eq_true, if_false]
            exact hp.base
          clear hp hb6 CJ
          obtain ⟨X, hX⟩ : ∃ X, putX true T b false = X := ⟨_, rfl⟩
          rw [hX] at hpw
          have HX := hid hX
          clear hX
          cases X with
          | error k =>
            obtain ⟨hk0, rfl⟩ := hpw
            have HK := hid hk0
            clear hk0
            go_wp2_with fail
            go_ret2
            refine ⟨?_, HB6.out⟩
            rw [HQ.out, HT.out, HX.out]
            exact ⟨HK.out, rfl⟩
          | ok s =>
            obtain ⟨ao9, c9, rfl, hby9⟩ := hpw
            have HY := hid hby9
            clear hby9
            go_wp2_with fail
            go_ret2
            refine ⟨?_, HB6.out⟩
            rw [HQ.out, HT.out, HX.out]
            exact ⟨ao9, c9, rfl, HY.out⟩
    ·
      have q1 := hgD.cell 4
      go_simp
      clear q1
      refine hK.out _ _ trivial (fun _ => ?_)
      clear hK K
      try simp only [Act.put, List.getElem_toArray, List.getElem_cons_succ, List.getElem_cons_zero, List.setIfInBounds_toArray, List.set_cons_zero, List.set_cons_succ]
      refine wpAnyH_ready (rs := [3, 6]) (by kernel_rfl) (by simp) ?_
      refine AllReadyH.cons rfl (fun K hK => ?_) (AllReadyH.cons rfl (fun K hK => ?_) AllReadyH.nil)
      ·
        have q2 := hgD.cell 3
        go_simp
        clear q2
        refine hK.out _ _ trivial (fun _ => ?_)
        clear hK K
        try simp only [Act.put, List.getElem_toArray, List.getElem_cons_succ, List.getElem_cons_zero, List.setIfInBounds_toArray, List.set_cons_zero, List.set_cons_succ]
        refine wpAnyH_ready (rs := [6]) (by kernel_rfl) (by simp) ?_
        refine AllReadyH.cons rfl (fun K hK => ?_) AllReadyH.nil
        go_simp
        refine (lengthOf_any aob b.length cb hbl wd HTD.out).mono ?_
        rintro e wx3 ⟨rfl, hx3⟩
        have hg3x := hgD.below hx3
        have hb3x := chain2 hbD hbD.size hx3
        have HP3x := hid (HPD.out.below hx3)
        clear hgD hbD HPD HTD hx3
        refine hK.out _ _ trivial (fun _ => ?_)
        clear hK K
        try simp only [Act.put, List.getElem_toArray, List.getElem_cons_succ, List.getElem_cons_zero, List.setIfInBounds_toArray, List.set_cons_zero, List.set_cons_succ]
        refine wpAnyH_ready (rs := [7]) (by kernel_rfl) (by simp) ?_
        refine AllReadyH.cons rfl (fun K hK => ?_) AllReadyH.nil
        obtain ⟨wx4, hW4⟩ : ∃ W, W = wx3.alloc (.cells #[strV clN, strV (decL b.length)] 104) := ⟨_, rfl⟩
        have hx4 : Below wx3.heap.size wx3 wx4 := by rw [hW4]; exact below_alloc _ _
        have HM4x := hid (show Reads2 wx4 (.slice (some ⟨wx3.heap.size, 0, none⟩) 1 1) [lenFld b.length] from by rw [hW4]; exact reads2_new_at wx3 (lenFld b.length) 104 1 _ rfl)
        go_simp
        rw [← hW4]
        have hg4x := hg3x.below hx4
        have hb4x := chain2 hb3x hb3x.size hx4
        have HP4x := hid (HP3x.out.below hx4)
        clear hg3x hb3x HP3x hx4 hW4
        refine hK.out _ _ trivial (fun _ => ?_)
        clear hK K
        try simp only [Act.put, List.getElem_toArray, List.getElem_cons_succ, List.getElem_cons_zero, List.setIfInBounds_toArray, List.set_cons_zero, List.set_cons_succ]
        refine wpAnyH_ready (rs := [8]) (by kernel_rfl) (by simp) ?_
        refine AllReadyH.cons rfl (fun K hK => ?_) AllReadyH.nil
        go_simp
        refine (lWith_any _ _ (bareL L) [lenFld b.length] wx4 HP4x.out (okFs_bareL hk) HM4x.out (okFs_len b.length hbl)).mono ?_
        rintro e wx5 ⟨⟨v9, k9, rfl, ho9⟩, hx5⟩
        rw [with_len] at ho9
        obtain ⟨-, hr9⟩ := ho9.reads2
        obtain ⟨ao9, c9, rfl⟩ := hr9.form
        generalize (bareL L ++ [lenFld b.length]).length = N9 at hr9 ho9 ⊢
        have hin9 := (ownsRow_in ho9)
        have hlg9 := hg4x.lt
        have hg5x := hg4x.below hx5
        have hb5x := chain2 hb4x hb4x.size hx5
        have q3 := hg5x.cell 3
        have f3 := hg5x.free 3
        have hk9 := (Kept.refl (fun k => k = w.heap.size) wx5).setCell (i := 3) (.inl rfl) (.slice ao9 N9 c9)
        have HP := hid (reads2_kept hr9 hk9 (hin9.mono fun k hk => by have := hk.1; omega))
        change Hid (Reads2 _ _ (putL L (some b.length))) at HP
        have hrow := hg5x.setCell 3 (.slice ao9 N9 c9)
        have hbB := hb5x.setCell (p := ⟨w.heap.size, 3, none⟩) (Nat.le_refl _) (.slice ao9 N9 c9)
        have HROW := hid (And.intro hrow hbB)
        clear hg4x hb4x HP4x HM4x hx5 ho9 hr9 hin9 hk9 hg5x hb5x hrow hbB hlg9
        refine hK.out _ _ trivial (fun _ => ?_)
        clear hK K
        try simp only [Act.put, List.getElem_toArray, List.getElem_cons_succ, List.getElem_cons_zero, List.setIfInBounds_toArray, List.set_cons_zero, List.set_cons_succ]
        refine wpAnyH_take (i := 9) (v := ?_) rfl (by kernel_rfl) (by kernel_rfl) (by kernel_rfl) (fun _ _ _ h => h) (Or.inl ⟨by kernel_rfl, ?_⟩) trivial ?_
        rotate_left
        · intro W hS
          go_simp
          first | done | with_reducible rfl
        simp only [Act.put, List.getElem_toArray, List.getElem_cons_succ, List.getElem_cons_zero, List.setIfInBounds_toArray, List.set_cons_zero, List.set_cons_succ]
        refine wpAnyH_take (i := 10) (v := ?_) rfl (by kernel_rfl) (by kernel_rfl) (by kernel_rfl) (fun _ _ _ h => h) (Or.inl ⟨by kernel_rfl, ?_⟩) trivial ?_
        rotate_left
        · intro W hS
          go_simp
          first | done | with_reducible rfl
        simp only [Act.put, List.getElem_toArray, List.getElem_cons_succ, List.getElem_cons_zero, List.setIfInBounds_toArray, List.set_cons_zero, List.set_cons_succ]
        refine wpAnyH_take (i := 11) (v := ?_) rfl (by kernel_rfl) (by kernel_rfl) (by kernel_rfl) (fun _ _ _ h => h) (Or.inl ⟨by kernel_rfl, ?_⟩) trivial ?_
        rotate_left
        · intro W hS
          go_simp
          first | done | with_reducible rfl
        simp only [Act.put, List.getElem_toArray, List.getElem_cons_succ, List.getElem_cons_zero, List.setIfInBounds_toArray, List.set_cons_zero, List.set_cons_succ]
        refine wpAnyH_ready (rs := [12]) (by kernel_rfl) (by simp) ?_
        refine AllReadyH.cons rfl (fun K hK => ?_) AllReadyH.nil
        go_simp
        refine hK.out _ _ trivial (fun _ => ?_)
        clear hK K
        try simp only [Act.put, List.getElem_toArray, List.getElem_cons_succ, List.getElem_cons_zero, List.setIfInBounds_toArray, List.set_cons_zero, List.set_cons_succ]
        refine wpAnyH_done (by kernel_rfl) ?_ _
        clear q3 f3
        obtain ⟨hrow, hbB⟩ := HROW.out
        have hkP := okFs_putL hk hl (o := some b.length) (fun n h => by cases h; exact hbl)
        obtain ⟨wf, hwf⟩ : ∃ W, W = wx5.setCell ⟨w.heap.size, 3, none⟩ (.slice ao9 N9 c9) := ⟨_, rfl⟩
        rw [← hwf] at hrow hbB HP ⊢
        clear hwf HROW
        generalize ao9 = aoP at *
        generalize N9 = nP at *
        generalize c9 = cP at *
        have g0 := hrow.cell 0
        have g1 := hrow.cell 1
        have g2 := hrow.cell 2
        have g3 := hrow.cell 3
        have hbo := bytes_below HBY.out hbB
        have hgl := hrow.lt
        obtain ⟨T, hT⟩ : ∃ T, textH (reqLine ⟨m, t, 0, z.toNat, []⟩) (putL L (some b.length)) = T := ⟨_, rfl⟩
        have HT := hid hT
        cases hq : rightQ m t z (putL L (some b.length)) with
        | false =>
          have CS := hid (ShowRequest_no m t z (.slice aoP nP cP) (putL L (some b.length)) wf hm ht HP.out hkP hq)
          have CJ := hid (fun W' => join_err [] 10 (by decide) aob b.length cb W')
          have HQ := hid hq
          clear hq hkP HP hT
          go_wp2_with fail
          skip
          refine CS.out.mono ?_
          rintro e w5 ⟨rfl, hb5⟩
          have g4 := (hrow.below hb5).cell 4
          have HB := hid (chain2 hbB hbB.size hb5)
          clear CS hb5 hrow hbB hbo
          go_wp2_with fail
          refine (CJ.out _).mono ?_
          rintro e w6 ⟨rfl, rfl⟩
          go_wp2_with fail
          go_ret2
          refine ⟨?_, HB.out⟩
          rw [HQ.out]
          unfold putX
          rw [if_pos rfl]
          exact ⟨by decide, rfl⟩
        | true =>
          have hz0 : 0 ≤ z := rightQ_pos hq
          have cs := ShowRequest_yes m t z (.slice aoP nP cP) (putL L (some b.length)) wf hm ht HP.out hkP hz0 hq
          rw [hT] at cs
          have HQ := hid hq
          by_cases h4 : 4096 < T.length
          · simp only [if_pos h4] at cs
            have CS := hid cs
            have CJ := hid (fun W' => join_err [] 22 (by decide) aob b.length cb W')
            have H4 := hid h4
            clear hq hkP HP cs hT h4 hz0
            go_wp2_with fail
            skip
            refine CS.out.mono ?_
            rintro e w5 ⟨rfl, hb5⟩
            have g4 := (hrow.below hb5).cell 4
            have HB := hid (chain2 hbB hbB.size hb5)
            clear CS hb5 hrow hbB hbo
            go_wp2_with fail
            refine (CJ.out _).mono ?_
            rintro e w6 ⟨rfl, rfl⟩
            go_wp2_with fail
            go_ret2
            refine ⟨?_, HB.out⟩
            rw [HQ.out, HT.out]
            unfold putX
            rw [if_neg (by simp), if_pos H4.out]
            exact ⟨by decide, rfl⟩
          · simp only [if_neg h4] at cs
            have CS := hid cs
            have CJ := hid (fun W' hW' => join_ok T b (.slice aob b.length cb) W' hW' (by omega) (by first | omega | (simp only [List.length_nil] at *; omega)))
            have H4 := hid h4
            clear hq hkP HP cs hT h4 hz0
            go_wp2_with fail
            skip
            refine CS.out.mono ?_
            rintro e w5 ⟨rfl, hb5⟩
            have g4 := (hrow.below hb5).cell 4
            have hbo5 := bytes_below hbo hb5
            have hbN := chain2 hbB hbB.size hb5
            have HB := hid hbN
            have HBO := hid hbo5
            clear CS hb5 hrow hbB hbo hbo5 hbN
            go_wp2_with fail
            refine (CJ.out _ HBO.out).mono ?_
            rintro e w6 ⟨hp, hb6⟩
            have HB6 := hid (chain2 HB.out HB.out.size hb6)
            have hpw : PutPost w.heap.size (putX true T b false) e w6 := by
              unfold putX
              rw [if_neg (by simp), if_neg H4.out]
              simp only [Bool.false_eq_true, if_false]
              exact hp.base
            clear hp hb6 CJ
            obtain ⟨X, hX⟩ : ∃ X, putX true T b false = X := ⟨_, rfl⟩
            rw [hX] at hpw
            have HX := hid hX
            clear hX
            cases X with
            | error k =>
              obtain ⟨hk0, rfl⟩ := hpw
              have HK := hid hk0
              clear hk0
              go_wp2_with fail
              go_ret2
              refine ⟨?_, HB6.out⟩
              rw [HQ.out, HT.out, HX.out]
              exact ⟨HK.out, rfl⟩
            | ok s =>
              obtain ⟨ao9, c9, rfl, hby9⟩ := hpw
              have HY := hid hby9
              clear hby9
              go_wp2_with fail
              go_ret2
              refine ⟨?_, HB6.out⟩
              rw [HQ.out, HT.out, HX.out]
              exact ⟨ao9, c9, rfl, HY.out⟩
      ·
        go_simp
        refine (lengthOf_any aob b.length cb hbl wd HTD.out).mono ?_
        rintro e wx2 ⟨rfl, hx2⟩
        have hg2x := hgD.below hx2
        have hb2x := chain2 hbD hbD.size hx2
        have HP2x := hid (HPD.out.below hx2)
        clear hgD hbD HPD HTD hx2
        refine hK.out _ _ trivial (fun _ => ?_)
        clear hK K
        try simp only [Act.put, List.getElem_toArray, List.getElem_cons_succ, List.getElem_cons_zero, List.setIfInBounds_toArray, List.set_cons_zero, List.set_cons_succ]
        refine wpAnyH_ready (rs := [3, 7]) (by kernel_rfl) (by simp) ?_
        refine AllReadyH.cons rfl (fun K hK => ?_) (AllReadyH.cons rfl (fun K hK => ?_) AllReadyH.nil)
        ·
          have q3 := hg2x.cell 3
          go_simp
          clear q3
          refine hK.out _ _ trivial (fun _ => ?_)
          clear hK K
          try simp only [Act.put, List.getElem_toArray, List.getElem_cons_succ, List.getElem_cons_zero, List.setIfInBounds_toArray, List.set_cons_zero, List.set_cons_succ]
          refine wpAnyH_ready (rs := [7]) (by kernel_rfl) (by simp) ?_
          refine AllReadyH.cons rfl (fun K hK => ?_) AllReadyH.nil
          obtain ⟨wx4, hW4⟩ : ∃ W, W = wx2.alloc (.cells #[strV clN, strV (decL b.length)] 104) := ⟨_, rfl⟩
          have hx4 : Below wx2.heap.size wx2 wx4 := by rw [hW4]; exact below_alloc _ _
          have HM4x := hid (show Reads2 wx4 (.slice (some ⟨wx2.heap.size, 0, none⟩) 1 1) [lenFld b.length] from by rw [hW4]; exact reads2_new_at wx2 (lenFld b.length) 104 1 _ rfl)
          go_simp
          rw [← hW4]
          have hg4x := hg2x.below hx4
          have hb4x := chain2 hb2x hb2x.size hx4
          have HP4x := hid (HP2x.out.below hx4)
          clear hg2x hb2x HP2x hx4 hW4
          refine hK.out _ _ trivial (fun _ => ?_)
          clear hK K
          try simp only [Act.put, List.getElem_toArray, List.getElem_cons_succ, List.getElem_cons_zero, List.setIfInBounds_toArray, List.set_cons_zero, List.set_cons_succ]
          refine wpAnyH_ready (rs := [8]) (by kernel_rfl) (by simp) ?_
          refine AllReadyH.cons rfl (fun K hK => ?_) AllReadyH.nil
          go_simp
          refine (lWith_any _ _ (bareL L) [lenFld b.length] wx4 HP4x.out (okFs_bareL hk) HM4x.out (okFs_len b.length hbl)).mono ?_
          rintro e wx5 ⟨⟨v9, k9, rfl, ho9⟩, hx5⟩
          rw [with_len] at ho9
          obtain ⟨-, hr9⟩ := ho9.reads2
          obtain ⟨ao9, c9, rfl⟩ := hr9.form
          generalize (bareL L ++ [lenFld b.length]).length = N9 at hr9 ho9 ⊢
          have hin9 := (ownsRow_in ho9)
          have hlg9 := hg4x.lt
          have hg5x := hg4x.below hx5
          have hb5x := chain2 hb4x hb4x.size hx5
          have q3 := hg5x.cell 3
          have f3 := hg5x.free 3
          have hk9 := (Kept.refl (fun k => k = w.heap.size) wx5).setCell (i := 3) (.inl rfl) (.slice ao9 N9 c9)
          have HP := hid (reads2_kept hr9 hk9 (hin9.mono fun k hk => by have := hk.1; omega))
          change Hid (Reads2 _ _ (putL L (some b.length))) at HP
          have hrow := hg5x.setCell 3 (.slice ao9 N9 c9)
          have hbB := hb5x.setCell (p := ⟨w.heap.size, 3, none⟩) (Nat.le_refl _) (.slice ao9 N9 c9)
          have HROW := hid (And.intro hrow hbB)
          clear hg4x hb4x HP4x HM4x hx5 ho9 hr9 hin9 hk9 hg5x hb5x hrow hbB hlg9
          refine hK.out _ _ trivial (fun _ => ?_)
          clear hK K
          try simp only [Act.put, List.getElem_toArray, List.getElem_cons_succ, List.getElem_cons_zero, List.setIfInBounds_toArray, List.set_cons_zero, List.set_cons_succ]
          refine wpAnyH_take (i := 9) (v := ?_) rfl (by kernel_rfl) (by kernel_rfl) (by kernel_rfl) (fun _ _ _ h => h) (Or.inl ⟨by kernel_rfl, ?_⟩) trivial ?_
          rotate_left
          · intro W hS
            go_simp
            first | done | with_reducible rfl
          simp only [Act.put, List.getElem_toArray, List.getElem_cons_succ, List.getElem_cons_zero, List.setIfInBounds_toArray, List.set_cons_zero, List.set_cons_succ]
          refine wpAnyH_take (i := 10) (v := ?_) rfl (by kernel_rfl) (by kernel_rfl) (by kernel_rfl) (fun _ _ _ h => h) (Or.inl ⟨by kernel_rfl, ?_⟩) trivial ?_
          rotate_left
          · intro W hS
            go_simp
            first | done | with_reducible rfl
          simp only [Act.put, List.getElem_toArray, List.getElem_cons_succ, List.getElem_cons_zero, List.setIfInBounds_toArray, List.set_cons_zero, List.set_cons_succ]
          refine wpAnyH_take (i := 11) (v := ?_) rfl (by kernel_rfl) (by kernel_rfl) (by kernel_rfl) (fun _ _ _ h => h) (Or.inl ⟨by kernel_rfl, ?_⟩) trivial ?_
          rotate_left
          · intro W hS
            go_simp
            first | done | with_reducible rfl
          simp only [Act.put, List.getElem_toArray, List.getElem_cons_succ, List.getElem_cons_zero, List.setIfInBounds_toArray, List.set_cons_zero, List.set_cons_succ]
          refine wpAnyH_ready (rs := [12]) (by kernel_rfl) (by simp) ?_
          refine AllReadyH.cons rfl (fun K hK => ?_) AllReadyH.nil
          go_simp
          refine hK.out _ _ trivial (fun _ => ?_)
          clear hK K
          try simp only [Act.put, List.getElem_toArray, List.getElem_cons_succ, List.getElem_cons_zero, List.setIfInBounds_toArray, List.set_cons_zero, List.set_cons_succ]
          refine wpAnyH_done (by kernel_rfl) ?_ _
          clear q3 f3
          obtain ⟨hrow, hbB⟩ := HROW.out
          have hkP := okFs_putL hk hl (o := some b.length) (fun n h => by cases h; exact hbl)
          obtain ⟨wf, hwf⟩ : ∃ W, W = wx5.setCell ⟨w.heap.size, 3, none⟩ (.slice ao9 N9 c9) := ⟨_, rfl⟩
          rw [← hwf] at hrow hbB HP ⊢
          clear hwf HROW
          generalize ao9 = aoP at *
          generalize N9 = nP at *
          generalize c9 = cP at *
          have g0 := hrow.cell 0
          have g1 := hrow.cell 1
          have g2 := hrow.cell 2
          have g3 := hrow.cell 3
          have hbo := bytes_below HBY.out hbB
          have hgl := hrow.lt
          obtain ⟨T, hT⟩ : ∃ T, textH (reqLine ⟨m, t, 0, z.toNat, []⟩) (putL L (some b.length)) = T := ⟨_, rfl⟩
          have HT := hid hT
          cases hq : rightQ m t z (putL L (some b.length)) with
          | false =>
            have CS := hid (ShowRequest_no m t z (.slice aoP nP cP) (putL L (some b.length)) wf hm ht HP.out hkP hq)
            have CJ := hid (fun W' => join_err [] 10 (by decide) aob b.length cb W')
            have HQ := hid hq
            clear hq hkP HP hT
            go_wp2_with fail
            skip
            refine CS.out.mono ?_
            rintro e w5 ⟨rfl, hb5⟩
            have g4 := (hrow.below hb5).cell 4
            have HB := hid (chain2 hbB hbB.size hb5)
            clear CS hb5 hrow hbB hbo
            go_wp2_with fail
            refine (CJ.out _).mono ?_
            rintro e w6 ⟨rfl, rfl⟩
            go_wp2_with fail
            go_ret2
            refine ⟨?_, HB.out⟩
            rw [HQ.out]
            unfold putX
            rw [if_pos rfl]
            exact ⟨by decide, rfl⟩
          | true =>
            have hz0 : 0 ≤ z := rightQ_pos hq
            have cs := ShowRequest_yes m t z (.slice aoP nP cP) (putL L (some b.length)) wf hm ht HP.out hkP hz0 hq
            rw [hT] at cs
            have HQ := hid hq
            by_cases h4 : 4096 < T.length
            · simp only [if_pos h4] at cs
              have CS := hid cs
              have CJ := hid (fun W' => join_err [] 22 (by decide) aob b.length cb W')
              have H4 := hid h4
              clear hq hkP HP cs hT h4 hz0
              go_wp2_with fail
              skip
              refine CS.out.mono ?_
              rintro e w5 ⟨rfl, hb5⟩
              have g4 := (hrow.below hb5).cell 4
              have HB := hid (chain2 hbB hbB.size hb5)
              clear CS hb5 hrow hbB hbo
              go_wp2_with fail
              refine (CJ.out _).mono ?_
              rintro e w6 ⟨rfl, rfl⟩
              go_wp2_with fail
              go_ret2
              refine ⟨?_, HB.out⟩
              rw [HQ.out, HT.out]
              unfold putX
              rw [if_neg (by simp), if_pos H4.out]
              exact ⟨by decide, rfl⟩
            · simp only [if_neg h4] at cs
              have CS := hid cs
              have CJ := hid (fun W' hW' => join_ok T b (.slice aob b.length cb) W' hW' (by omega) (by first | omega | (simp only [List.length_nil] at *; omega)))
              have H4 := hid h4
              clear hq hkP HP cs hT h4 hz0
              go_wp2_with fail
              skip
              refine CS.out.mono ?_
              rintro e w5 ⟨rfl, hb5⟩
              have g4 := (hrow.below hb5).cell 4
              have hbo5 := bytes_below hbo hb5
              have hbN := chain2 hbB hbB.size hb5
              have HB := hid hbN
              have HBO := hid hbo5
              clear CS hb5 hrow hbB hbo hbo5 hbN
              go_wp2_with fail
              refine (CJ.out _ HBO.out).mono ?_
              rintro e w6 ⟨hp, hb6⟩
              have HB6 := hid (chain2 HB.out HB.out.size hb6)
              have hpw : PutPost w.heap.size (putX true T b false) e w6 := by
                unfold putX
                rw [if_neg (by simp), if_neg H4.out]
                simp only [Bool.false_eq_true, if_false]
                exact hp.base
              clear hp hb6 CJ
              obtain ⟨X, hX⟩ : ∃ X, putX true T b false = X := ⟨_, rfl⟩
              rw [hX] at hpw
              have HX := hid hX
              clear hX
              cases X with
              | error k =>
                obtain ⟨hk0, rfl⟩ := hpw
                have HK := hid hk0
                clear hk0
                go_wp2_with fail
                go_ret2
                refine ⟨?_, HB6.out⟩
                rw [HQ.out, HT.out, HX.out]
                exact ⟨HK.out, rfl⟩
              | ok s =>
                obtain ⟨ao9, c9, rfl, hby9⟩ := hpw
                have HY := hid hby9
                clear hby9
                go_wp2_with fail
                go_ret2
                refine ⟨?_, HB6.out⟩
                rw [HQ.out, HT.out, HX.out]
                exact ⟨ao9, c9, rfl, HY.out⟩
        ·
          obtain ⟨wx3, hW3⟩ : ∃ W, W = wx2.alloc (.cells #[strV clN, strV (decL b.length)] 104) := ⟨_, rfl⟩
          have hx3 : Below wx2.heap.size wx2 wx3 := by rw [hW3]; exact below_alloc _ _
          have HM3x := hid (show Reads2 wx3 (.slice (some ⟨wx2.heap.size, 0, none⟩) 1 1) [lenFld b.length] from by rw [hW3]; exact reads2_new_at wx2 (lenFld b.length) 104 1 _ rfl)
          go_simp
          rw [← hW3]
          have hg3x := hg2x.below hx3
          have hb3x := chain2 hb2x hb2x.size hx3
          have HP3x := hid (HP2x.out.below hx3)
          clear hg2x hb2x HP2x hx3 hW3
          refine hK.out _ _ trivial (fun _ => ?_)
          clear hK K
          try simp only [Act.put, List.getElem_toArray, List.getElem_cons_succ, List.getElem_cons_zero, List.setIfInBounds_toArray, List.set_cons_zero, List.set_cons_succ]
          refine wpAnyH_ready (rs := [3]) (by kernel_rfl) (by simp) ?_
          refine AllReadyH.cons rfl (fun K hK => ?_) AllReadyH.nil
          have q4 := hg3x.cell 3
          go_simp
          clear q4
          refine hK.out _ _ trivial (fun _ => ?_)
          clear hK K
          try simp only [Act.put, List.getElem_toArray, List.getElem_cons_succ, List.getElem_cons_zero, List.setIfInBounds_toArray, List.set_cons_zero, List.set_cons_succ]
          refine wpAnyH_ready (rs := [8]) (by kernel_rfl) (by simp) ?_
          refine AllReadyH.cons rfl (fun K hK => ?_) AllReadyH.nil
          go_simp
          refine (lWith_any _ _ (bareL L) [lenFld b.length] wx3 HP3x.out (okFs_bareL hk) HM3x.out (okFs_len b.length hbl)).mono ?_
          rintro e wx5 ⟨⟨v9, k9, rfl, ho9⟩, hx5⟩
          rw [with_len] at ho9
          obtain ⟨-, hr9⟩ := ho9.reads2
          obtain ⟨ao9, c9, rfl⟩ := hr9.form
          generalize (bareL L ++ [lenFld b.length]).length = N9 at hr9 ho9 ⊢
          have hin9 := (ownsRow_in ho9)
          have hlg9 := hg3x.lt
          have hg5x := hg3x.below hx5
          have hb5x := chain2 hb3x hb3x.size hx5
          have q3 := hg5x.cell 3
          have f3 := hg5x.free 3
          have hk9 := (Kept.refl (fun k => k = w.heap.size) wx5).setCell (i := 3) (.inl rfl) (.slice ao9 N9 c9)
          have HP := hid (reads2_kept hr9 hk9 (hin9.mono fun k hk => by have := hk.1; omega))
          change Hid (Reads2 _ _ (putL L (some b.length))) at HP
          have hrow := hg5x.setCell 3 (.slice ao9 N9 c9)
          have hbB := hb5x.setCell (p := ⟨w.heap.size, 3, none⟩) (Nat.le_refl _) (.slice ao9 N9 c9)
          have HROW := hid (And.intro hrow hbB)
          clear hg3x hb3x HP3x HM3x hx5 ho9 hr9 hin9 hk9 hg5x hb5x hrow hbB hlg9
          refine hK.out _ _ trivial (fun _ => ?_)
          clear hK K
          try simp only [Act.put, List.getElem_toArray, List.getElem_cons_succ, List.getElem_cons_zero, List.setIfInBounds_toArray, List.set_cons_zero, List.set_cons_succ]
          refine wpAnyH_take (i := 9) (v := ?_) rfl (by kernel_rfl) (by kernel_rfl) (by kernel_rfl) (fun _ _ _ h => h) (Or.inl ⟨by kernel_rfl, ?_⟩) trivial ?_
          rotate_left
          · intro W hS
            go_simp
            first | done | with_reducible rfl
          simp only [Act.put, List.getElem_toArray, List.getElem_cons_succ, List.getElem_cons_zero, List.setIfInBounds_toArray, List.set_cons_zero, List.set_cons_succ]
          refine wpAnyH_take (i := 10) (v := ?_) rfl (by kernel_rfl) (by kernel_rfl) (by kernel_rfl) (fun _ _ _ h => h) (Or.inl ⟨by kernel_rfl, ?_⟩) trivial ?_
          rotate_left
          · intro W hS
            go_simp
            first | done | with_reducible rfl
          simp only [Act.put, List.getElem_toArray, List.getElem_cons_succ, List.getElem_cons_zero, List.setIfInBounds_toArray, List.set_cons_zero, List.set_cons_succ]
          refine wpAnyH_take (i := 11) (v := ?_) rfl (by kernel_rfl) (by kernel_rfl) (by kernel_rfl) (fun _ _ _ h => h) (Or.inl ⟨by kernel_rfl, ?_⟩) trivial ?_
          rotate_left
          · intro W hS
            go_simp
            first | done | with_reducible rfl
          simp only [Act.put, List.getElem_toArray, List.getElem_cons_succ, List.getElem_cons_zero, List.setIfInBounds_toArray, List.set_cons_zero, List.set_cons_succ]
          refine wpAnyH_ready (rs := [12]) (by kernel_rfl) (by simp) ?_
          refine AllReadyH.cons rfl (fun K hK => ?_) AllReadyH.nil
          go_simp
          refine hK.out _ _ trivial (fun _ => ?_)
          clear hK K
          try simp only [Act.put, List.getElem_toArray, List.getElem_cons_succ, List.getElem_cons_zero, List.setIfInBounds_toArray, List.set_cons_zero, List.set_cons_succ]
          refine wpAnyH_done (by kernel_rfl) ?_ _
          clear q3 f3
          obtain ⟨hrow, hbB⟩ := HROW.out
          have hkP := okFs_putL hk hl (o := some b.length) (fun n h => by cases h; exact hbl)
          obtain ⟨wf, hwf⟩ : ∃ W, W = wx5.setCell ⟨w.heap.size, 3, none⟩ (.slice ao9 N9 c9) := ⟨_, rfl⟩
          rw [← hwf] at hrow hbB HP ⊢
          clear hwf HROW
          generalize ao9 = aoP at *
          generalize N9 = nP at *
          generalize c9 = cP at *
          have g0 := hrow.cell 0
          have g1 := hrow.cell 1
          have g2 := hrow.cell 2
          have g3 := hrow.cell 3
          have hbo := bytes_below HBY.out hbB
          have hgl := hrow.lt
          obtain ⟨T, hT⟩ : ∃ T, textH (reqLine ⟨m, t, 0, z.toNat, []⟩) (putL L (some b.length)) = T := ⟨_, rfl⟩
          have HT := hid hT
          cases hq : rightQ m t z (putL L (some b.length)) with
          | false =>
            have CS := hid (ShowRequest_no m t z (.slice aoP nP cP) (putL L (some b.length)) wf hm ht HP.out hkP hq)
            have CJ := hid (fun W' => join_err [] 10 (by decide) aob b.length cb W')
            have HQ := hid hq
            clear hq hkP HP hT
            go_wp2_with fail
            skip
            refine CS.out.mono ?_
            rintro e w5 ⟨rfl, hb5⟩
            have g4 := (hrow.below hb5).cell 4
            have HB := hid (chain2 hbB hbB.size hb5)
            clear CS hb5 hrow hbB hbo
            go_wp2_with fail
            refine (CJ.out _).mono ?_
            rintro e w6 ⟨rfl, rfl⟩
            go_wp2_with fail
            go_ret2
            refine ⟨?_, HB.out⟩
            rw [HQ.out]
            unfold putX
            rw [if_pos rfl]
            exact ⟨by decide, rfl⟩
          | true =>
            have hz0 : 0 ≤ z := rightQ_pos hq
            have cs := ShowRequest_yes m t z (.slice aoP nP cP) (putL L (some b.length)) wf hm ht HP.out hkP hz0 hq
            rw [hT] at cs
            have HQ := hid hq
            by_cases h4 : 4096 < T.length
            · simp only [if_pos h4] at cs
              have CS := hid cs
              have CJ := hid (fun W' => join_err [] 22 (by decide) aob b.length cb W')
              have H4 := hid h4
              clear hq hkP HP cs hT h4 hz0
              go_wp2_with fail
              skip
              refine CS.out.mono ?_
              rintro e w5 ⟨rfl, hb5⟩
              have g4 := (hrow.below hb5).cell 4
              have HB := hid (chain2 hbB hbB.size hb5)
              clear CS hb5 hrow hbB hbo
              go_wp2_with fail
              refine (CJ.out _).mono ?_
              rintro e w6 ⟨rfl, rfl⟩
              go_wp2_with fail
              go_ret2
              refine ⟨?_, HB.out⟩
              rw [HQ.out, HT.out]
              unfold putX
              rw [if_neg (by simp), if_pos H4.out]
              exact ⟨by decide, rfl⟩
            · simp only [if_neg h4] at cs
              have CS := hid cs
              have CJ := hid (fun W' hW' => join_ok T b (.slice aob b.length cb) W' hW' (by omega) (by first | omega | (simp only [List.length_nil] at *; omega)))
              have H4 := hid h4
              clear hq hkP HP cs hT h4 hz0
              go_wp2_with fail
              skip
              refine CS.out.mono ?_
              rintro e w5 ⟨rfl, hb5⟩
              have g4 := (hrow.below hb5).cell 4
              have hbo5 := bytes_below hbo hb5
              have hbN := chain2 hbB hbB.size hb5
              have HB := hid hbN
              have HBO := hid hbo5
              clear CS hb5 hrow hbB hbo hbo5 hbN
              go_wp2_with fail
              refine (CJ.out _ HBO.out).mono ?_
              rintro e w6 ⟨hp, hb6⟩
              have HB6 := hid (chain2 HB.out HB.out.size hb6)
              have hpw : PutPost w.heap.size (putX true T b false) e w6 := by
                unfold putX
                rw [if_neg (by simp), if_neg H4.out]
                simp only [Bool.false_eq_true, if_false]
                exact hp.base
              clear hp hb6 CJ
              obtain ⟨X, hX⟩ : ∃ X, putX true T b false = X := ⟨_, rfl⟩
              rw [hX] at hpw
              have HX := hid hX
              clear hX
              cases X with
              | error k =>
                obtain ⟨hk0, rfl⟩ := hpw
                have HK := hid hk0
                clear hk0
                go_wp2_with fail
                go_ret2
                refine ⟨?_, HB6.out⟩
                rw [HQ.out, HT.out, HX.out]
                exact ⟨HK.out, rfl⟩
              | ok s =>
                obtain ⟨ao9, c9, rfl, hby9⟩ := hpw
                have HY := hid hby9
                clear hby9
                go_wp2_with fail
                go_ret2
                refine ⟨?_, HB6.out⟩
                rw [HQ.out, HT.out, HX.out]
                exact ⟨ao9, c9, rfl, HY.out⟩
end Go.Proofs.YtongceljdgmbdaaGreatDoor
