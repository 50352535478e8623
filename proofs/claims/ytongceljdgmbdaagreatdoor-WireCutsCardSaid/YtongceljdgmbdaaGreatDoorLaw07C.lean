/-
  The walk of the statement WireCuts.
-/
import Derived.Test.YtongceljdgmbdaaGreatDoorLaw07B
import Derived.Test.YtongceljdgmbdaaGreatDoorMadeQ
namespace Go.Proofs.YtongceljdgmbdaaGreatDoor
open Go.RowKit Go.Pantry

theorem infoIntC : (Tryz.prog.info? 3).map (fun i => (i.zero, i.size, i.bytes)) = some (some (.int .i64 0), 1, 8) := by kernel_rfl
theorem infoQryC : (Tryz.prog.info? 42).map (fun i => (i.zero, i.size, i.bytes)) = some (some (.agg qryZero), 5, 88) := by kernel_rfl
theorem oneCell_ints (l : List Int) : ∀ u ∈ l.map (Value.int .i64), u.oneCell' = true := fun u hu => by
  obtain ⟨x, -, rfl⟩ := List.mem_map.1 hu
  rfl
theorem own_form5 {w : World} {B : Nat} {e : TypeId} {size : Nat} {v : Value} {n : Nat} {xs : List Value} (h : w.ownsRow B e size v n xs) : ∃ ao c, v = .slice ao n c := by
  rcases h.2 with ⟨hv, rfl⟩ | ⟨g', cap', cur, hv, _⟩
  · exact ⟨none, 0, hv⟩
  · exact ⟨_, _, hv⟩
theorem own_some {w : World} {B : Nat} {e : TypeId} {size : Nat} {v : Value} {n : Nat} {xs : List Value} (h : w.ownsRow B e size v n xs) (hn : 0 < n) : ∃ g c, v = .slice (some ⟨g, 0, none⟩) n c := by
  rcases h.2 with ⟨_, h0⟩ | ⟨g', cap', cur, hv, _⟩
  · omega
  · exact ⟨_, _, hv⟩
/-- b[a:a+k] -/
theorem bytes_both {P : Program} (t : TypeId) (ht : P.underlying t = some (.slice (P.elem t))) (h1 : ∀ W, (sizeOf (P.elem t)).run P W = .ok 1 W) {w : World} {v : Value} {l : List UInt8} (h : Bytes w v l) (a k : Nat) (hk : a + k ≤ l.length) :
    ∃ ao' cap', (∀ W, (Instr.slice t v (some (.int .i64 (a : Int))) (some (.int .i64 ((a + k : Nat) : Int))) none).run P W = .ok (.slice ao' k cap') W) ∧ Bytes w (.slice ao' k cap') ((l.drop a).take k) := by
  obtain ⟨ao1, cap1, hs1, hb1⟩ := bytes_low (P := P) t ht h1 h a (by omega)
  obtain ⟨ao, cap, rfl, hc, hr⟩ := h
  have hrun := hs1 (default : World)
  rw [run_slice_l _ t ao l.length cap ht .i64 (a : Int) (by omega) (by omega), h1] at hrun
  simp only [Result.andThen, sliced, Int.toNat_natCast] at hrun
  refine ⟨(if cap = a then ao else ao.map (·.add (a * 1))), cap - a, fun W => ?_, ?_⟩
  · rw [run_slice_lh W t ao l.length cap ht .i64 .i64 (a : Int) ((a + k : Nat) : Int) (by omega) (by omega) (by omega), h1]
    simp only [Result.andThen, sliced, Int.toNat_natCast]
    rw [show a + k - a = k by omega]
  · have hv : Value.slice ao1 (l.length - a) cap1 = .slice (if cap = a then ao else ao.map (·.add (a * 1))) (l.length - a) (cap - a) := by
      injection hrun with h _
      exact h.symm
    rw [hv] at hb1
    have hl : ((l.drop a).take k).length = k := by rw [List.length_take, List.length_drop]; omega
    refine ⟨_, _, by rw [hl], by rw [hl]; omega, ?_⟩
    have hh := (bytesRead hb1).take k (by rw [List.length_map, List.length_drop]; omega)
    rw [List.map_take]
    exact hh
/-- x[lo:hi] by an equation of what it gives. -/
theorem wpList_slice_both {P : Program} {ops : Array Oper} {rest : List Oper} {o : Oper} {a : Act} {w : World} {Q : Exit → Act → World → Prop} (hg : o.guard = none) (t : TypeId) (x lo hi : Operand) (ho : o.op = .slice t x (some lo) (some hi) none)
    {vx vo vl vr : Value} (hx : a.eval x = vx) (hlo : a.eval lo = vo) (hl : a.eval hi = vl) (ht : P.underlying t = some (.slice (P.elem t))) (hr : (Instr.slice t vx (some vo) (some vl) none).run P w = .ok vr w)
    (h : wpList P ops Q rest (a.put o.dst vr) w) : wpList P ops Q (o :: rest) a w :=
  wpList_plain hg fun _ hK => by
    unfold Oper.wp execOp
    simp only [ho, hx, hlo, hl, Option.map_some, Option.map_none, Sem.run_bind, run_sliceAt_slice w t vx (some vo) (some vl) none ht, hr, Sem.run_pure, Result.andThen_ok]
    exact hK _ _ h
set_option maxRecDepth 100000 in
set_option maxHeartbeats 8000000 in
theorem wireCuts_walk (v : Value) (l : List UInt8) (vc : Value) (cs : List Int) (w : World) (hm : MaxOk w) (hl : Reads w v (l.map byteV) ∧ (∀ ao n cap, v = .slice ao n cap → n ≤ cap) ∧ l.length ≤ maxLen) (hc : Reads w vc (cs.map (Value.int .i64)) ∧ (∀ x ∈ cs, (Lit.int .i64 x).wf = true) ∧ cs.length ≤ maxLen) :
    Calls Tryz.prog 4 #[v, vc] w fun e w' => e = .returned (.bool true) ∧ Below w.heap.size w w' := by
  obtain ⟨hr, hroom, hll⟩ := hl
  obtain ⟨ao, cap, rfl⟩ := hr.form
  obtain ⟨hrc, hwf, hcl⟩ := hc
  obtain ⟨aoc, capc, rfl⟩ := hrc.form
  rw [List.length_map] at *
  unfold maxLen at hll hcl
  have hcap := hroom ao l.length cap rfl
  have HBY := hid (bytes_of hr hcap)
  have HRC := hid hrc
  have HWF := hid hwf
  have HM := hid hm
  have CA := hid (anchor_any w hm)
  clear hr hroom hm hrc hwf hcap
  by_cases h1 : (3000 : Int) < (l.length : Int)
  · go_enter Tryz.func4, Tryz.ntmps4
    go_wp2_with fail
    refine CA.out.mono ?_
    rintro e w1 ⟨rfl, hb1⟩
    go_wp2_with fail
    go_ret
    exact ⟨rfl, hb1⟩
  by_cases h2 : (30 : Int) < (cs.length : Int)
  · go_enter Tryz.func4, Tryz.ntmps4
    go_wp2_with fail
    refine CA.out.mono ?_
    rintro e w1 ⟨rfl, hb1⟩
    go_wp2_with fail
    go_ret
    exact ⟨rfl, hb1⟩
  have CN := hid (fun W => newReader_any W)
  have HL : Hid (l.length ≤ 3000 ∧ cs.length ≤ 30) := hid ⟨by omega, by omega⟩
  clear h1 h2
  have h1 : ¬ (3000 : Int) < (l.length : Int) := by have := HL.out.1; omega
  have h2 : ¬ (30 : Int) < (cs.length : Int) := by have := HL.out.2; omega
  go_enter Tryz.func4, Tryz.ntmps4
  go_wp2_with fail
  refine CA.out.mono ?_
  rintro e w1 ⟨rfl, hb1⟩
  clear CA
  go_wp2_with fail
  refine (CN.out _).mono ?_
  rintro e w2 ⟨rfl, hw2⟩
  have q2 := rdr_new w w1 hb1
  rw [← hw2] at q2
  have hs2 : w2.heap.size = w1.heap.size + 1 := by rw [hw2]; simp
  obtain ⟨gr, hgr⟩ : ∃ g, w1.heap.size = g := ⟨_, rfl⟩
  rw [hgr] at q2 hs2 ⊢
  have Q2 := hid (And.intro q2 hs2)
  clear hw2 q2 hgr hs2 hb1
  go_wp2_with fail
  refine (CN.out _).mono ?_
  rintro e w3 ⟨rfl, hw3⟩
  have p3 := rdr_new w w2 Q2.out.1.bl
  rw [← hw3] at p3
  have hb3 : Below w2.heap.size w2 w3 := by rw [hw3]; exact below_alloc _ _
  have q3 := Q2.out.1.then hb3
  have hne : gr ≠ w2.heap.size := by have := Q2.out.2; omega
  obtain ⟨gs, hgs⟩ : ∃ g, w2.heap.size = g := ⟨_, rfl⟩
  rw [hgs] at p3 hne ⊢
  have c4 := feedR_any p3 (.slice ao l.length cap) l (bytesRead (bytes_below HBY.out p3.bl)) (by simp) (by omega)
  rw [feedX_ok (by have := HL.out.1; simp; omega), List.nil_append] at c4
  have C4 := hid c4
  have HQ3 := hid (And.intro q3 hne)
  clear hw3 hb3 hgs c4 q3 hne p3 Q2 CN
  go_wp2_with fail
  refine C4.out.mono ?_
  rintro e w4 ⟨vs, rfl, p4, hk4, hi4⟩
  have q4 := HQ3.out.1.kept hk4 (fun k hk e => by
    rcases hk with hk | hk
    · rcases e with e | e
      · exact HQ3.out.2 (hk.symm.trans e)
      · cases e
    · cases hk) (fun k hk => by
    rcases hk with hk | hk
    · subst hk; exact p4.lo _ (.inl rfl)
    · cases hk)
  have hapart : ∀ k, Fp gr (.slice none 0 0) k → ¬ Fp gs vs k := fun k hk e => by
    rcases hk with hk | hk
    · rcases e with e | e
      · exact HQ3.out.2 (hk.symm.trans e)
      · rcases hi4 k e with h | h
        · cases h
        · have := Fp.lt HQ3.out.1.rd (k := k) (.inl hk); omega
    · cases hk
  -- the pieces' lengths
  have ho4 : (w4.alloc (.cells #[] 3)).ownsRow 0 3 1 (.slice (some ⟨w4.heap.size, 0, none⟩) 0 0) 0 [] := World.ownsRow_made w4 #[] 0 (Nat.zero_le _) (by simp) (by simp)
  have hs5 := HRC.out.below (p4.bl.trans ((below_alloc w4 (.cells #[] 3)).mono p4.bl.size))
  have hn5 : 0 + (cs.map (Value.int .i64)).length < 4294967296 := by rw [List.length_map]; have := HL.out.2; omega
  have hn6 : 0 + (cs.map (Value.int .i64)).length + ([(l.length : Int)].map (Value.int .i64)).length < 4294967296 := by simp only [List.length_map, List.length_cons, List.length_nil]; have := HL.out.2; omega
  have HO4 := hid ho4
  have HS5 := hid hs5
  have HN5 := hid hn5
  have HN6 := hid hn6
  have HQ4 := hid (And.intro q4 (And.intro p4 hapart))
  clear C4 HQ3 hk4 hi4 p4 q4 hapart ho4 hs5 hn5 hn6
  go_wp2_with (at_builtin; refine wpList_unguard rfl ?_; first | (refine wpList_append_more _ rfl _ _ 62 rfl 0 3 Tryz.underlying62 infoIntC rfl (by decide) rfl HO4.out HS5.out (oneCell_ints _) rfl HN5.out (Nat.zero_le _) ?_; intro v6 w6 ho6 hg6 hi6; have HO6 := hid (ho6.alloc (.cells #[.int .i64 (l.length : Int)] 3)); have HS6 := hid (reads_new w6 ([(l.length : Int)].map (Value.int .i64)) 3 1); have HG6 := hid (And.intro hg6 hi6); clear ho6 hg6 hi6) | (refine wpList_append_more _ rfl _ _ 62 rfl 0 3 Tryz.underlying62 infoIntC rfl (by decide) rfl HO6.out HS6.out (oneCell_ints _) rfl HN6.out (Nat.zero_le _) ?_; intro v7 w7 ho7 hg7 hi7; simp only [List.length_map, List.length_cons, List.length_nil, Nat.zero_add, List.nil_append, ← List.map_append] at ho7; obtain ⟨gn, cn, rfl⟩ := own_some ho7 (Nat.succ_pos _)))
  obtain ⟨hg6, hi6⟩ := HG6.out
  obtain ⟨q4, p4, hapart⟩ := HQ4.out
  have hs4 : (w4.alloc (.cells #[] 3)).heap.size = w4.heap.size + 1 := by simp
  have hs6 : (w6.alloc (.cells #[.int .i64 (l.length : Int)] 3)).heap.size = w6.heap.size + 1 := by simp
  have hz6 := hg6.size
  have h6 : ∀ k, v6.ownBlock = some k → w4.heap.size ≤ k := fun k hk => by
    rcases hi6 k hk with h | h
    · cases h; exact Nat.le_refl _
    · omega
  have h7 : ∀ k, (Value.slice (some ⟨gn, 0, none⟩) (cs.length + 1) cn).ownBlock = some k → w4.heap.size ≤ k := fun k hk => by
    rcases hi7 k hk with h | h
    · exact h6 k h
    · omega
  have kp := ((((Kept.refl (fun _ => False) w4).alloc (.cells #[] 3)).grown hg6 (fun k hk h => (by have e : k = w4.heap.size := (by cases hk; rfl); omega))).alloc (.cells #[.int .i64 (l.length : Int)] 3)).grown hg7 (fun k hk h => by have := h6 k hk; omega)
  have hC : Cuts w w7 gr (.slice none 0 0) ⟨[], false, 0⟩ gs vs ⟨l, false, 0⟩ (.slice none 0 0) [] (.slice (some ⟨gn, 0, none⟩) (cs.length + 1) cn) (cs ++ [(l.length : Int)]) := by
    refine ⟨q4.kept kp (fun _ _ h => h) (fun _ h => h.elim), p4.kept kp (fun _ _ h => h) (fun _ h => h.elim), World.ownsRow_nil _ _ _ _, fun m hm => (by cases hm), ho7.reads, fun k hk => ⟨fun e => ?_, (ho7.lt k hk).2⟩, hapart, fun k hk => (by cases hk), fun k hk => (by cases hk)⟩
    have := h7 k hk
    rcases e with e | e | e
    · have := Fp.lt q4.rd e; omega
    · have := Fp.lt p4.rd e; omega
    · cases e
  have HI : Hid (∃ (k a n : Nat) (M : List Msg) (vr : Value) (rr : Rd), Value.int .i64 0 = .int .i64 (a : Int) ∧ Value.int .i64 0 = .int .i64 (n : Int) ∧ Value.int .i64 0 = .int .i64 (k : Int) ∧ CutJ l (cs.length + 1) k a (M.map Msg.x) rr n ∧ Cuts w w7 gr vr rr gs vs ⟨l, false, 0⟩ (.slice none 0 0) M (.slice (some ⟨gn, 0, none⟩) (cs.length + 1) cn) (cs ++ [(l.length : Int)])) :=
    hid ⟨0, 0, 0, [], .slice none 0 0, _, rfl, rfl, rfl, cutJ_start _ _, hC⟩
  clear hg6 hi6 q4 p4 hapart hs4 hs6 hz6 h6 h7 kp hC ho7 hg7 hi7 HG6 HS6 HO6 HO4 HS5 HN5 HN6 HQ4
  go_loopw [7, 8, 9, 45] (fun va at' la i wr => ∃ (k a n : Nat) (M : List Msg) (vr : Value) (rr : Rd), at' = .int .i64 (a : Int) ∧ la = .int .i64 (n : Int) ∧ i = .int .i64 (k : Int) ∧ CutJ l (cs.length + 1) k a (M.map Msg.x) rr n ∧ Cuts w wr gr vr rr gs vs ⟨l, false, 0⟩ va M (.slice (some ⟨gn, 0, none⟩) (cs.length + 1) cn) (cs ++ [(l.length : Int)])) (fun _ _ _ i _ => (cs.length + 1) - (intOf i).toNat)
  case atStart => exact HI.out
  case round =>
    clear HI
    obtain ⟨k, a, n, M, vr, rr, rfl, rfl, rfl, hJ, hC⟩ := hrel
    have HJ := hid hJ
    have HC := hid hC
    by_cases hk : k < cs.length + 1
    · have hkz : (k : Int) < (cs.length : Int) + 1 := by omega
      obtain ⟨x, hx⟩ : ∃ x, (cs ++ [(l.length : Int)])[k]? = some x := ⟨_, List.getElem?_eq_getElem (by simp; omega)⟩
      have hcell : wr.cell? ⟨gn, k, none⟩ = some (.int .i64 x) := by
        obtain ⟨ao', cap', hv, hc, hz⟩ := hC.n
        injection hv with hv1 hv2 hv3
        subst hv1
        obtain ⟨b, off, he, hcell⟩ := hc k (.int .i64 x) (by rw [List.getElem?_map, hx]; rfl)
        cases he
        rw [Nat.zero_add] at hcell
        exact hcell
      clear hJ hC
      by_cases hla : n = 0 ∨ n = 20
      · have hL := HJ.out.live hla
        have hal := hL.1
        obtain ⟨j, hj⟩ : ∃ j : Nat, min (max x 0) ((l.length - a : Nat) : Int) = (j : Int) := ⟨(min (max x 0) ((l.length - a : Nat) : Int)).toNat, by rw [Int.toNat_of_nonneg (by omega)]⟩
        have hal' : a + j ≤ l.length := by omega
        have hat : k + 1 = cs.length + 1 → a + j = l.length := fun e => by
          have e2 : k = cs.length := by omega
          rw [e2, List.getElem?_append_right (Nat.le_refl _)] at hx
          simp at hx
          omega
        have hl3 := HL.out.1
        have hw1 : IntKind.i64.wrap ((l.length : Int) - (a : Int)) = ((l.length - a : Nat) : Int) := by rw [IntWalk.i64_in _ (by omega)]; omega
        have hw2 : IntKind.i64.wrap ((a : Int) + (j : Int)) = ((a + j : Nat) : Int) := by rw [IntWalk.i64_in _ (by omega)]; simp
        obtain ⟨aox, cx, hsl, hbx⟩ := bytes_both (P := Tryz.prog) 27 (by kernel_rfl) (fun _ => by kernel_rfl) (bytes_below HBY.out HC.out.r.bl) a j hal'
        have c2 := feedR_any HC.out.r (.slice aox j cx) _ (bytesRead hbx) (by have := hL.len; omega) (by rw [List.length_take, List.length_drop]; omega)
        have hfd := hL.feed hl3 hal'
        rw [hfd.1] at c2
        have C2 := hid c2
        have HLV := hid (And.intro hfd.2 hat)
        have HH := hid hsl
        clear c2 hfd hL hbx hat hx hl3 hal hal' hsl
        rcases hla with rfl | rfl
        all_goals
          go_wp2_with (refine wpList_slice_both rfl 27 _ _ _ rfl rfl rfl rfl (by kernel_rfl) (HH.out _) ?_)
          clear HH
          refine C2.out.mono ?_
          rintro e w8 ⟨vr2, rfl, q8, hk8, hi8⟩
          have hC8 := HC.out.stepR q8 hk8 hi8
          obtain ⟨c8, hc8⟩ : ∃ c, rr.came ++ (l.drop a).take j = c := ⟨_, rfl⟩
          have hJ8 := HLV.out.1
          rw [hc8] at hC8 hJ8
          have HI : Hid (∃ (M : List Msg) (vr : Value) (rr : Rd), LiveJ l (a + j) (M.map Msg.x) rr ∧ Cuts w w8 gr vr rr gs vs ⟨l, false, 0⟩ u7 M (.slice (some ⟨gn, 0, none⟩) (cs.length + 1) cn) (cs ++ [(l.length : Int)])) := hid ⟨M, vr2, _, hJ8, hC8⟩
          clear C2 q8 hk8 hi8 hC8 hJ8 hc8 HJ HC hcell
          go_wp2_with fail
          go_loopw [7] (fun va wr => ∃ (M : List Msg) (vr : Value) (rr : Rd), LiveJ l (a + j) (M.map Msg.x) rr ∧ Cuts w wr gr vr rr gs vs ⟨l, false, 0⟩ va M (.slice (some ⟨gn, 0, none⟩) (cs.length + 1) cn) (cs ++ [(l.length : Int)])) (fun _ wr => lenAt wr gr)
          case atStart => exact HI.out
          case round =>
            clear HI
            obtain ⟨M2, vr3, rr3, hJ3, hC3⟩ := hrel
            obtain ⟨aoa, ca, rfl⟩ := own_form5 hC3.a
            have hl3 := hJ3.len
            have hln := hC3.r.rd.len
            have hml : M2.length ≤ 3000 := by rw [List.length_map] at hl3; have := HL.out.1; omega
            have c3 := queryR_any hC3.r HM.out (by have := HL.out.1; omega)
            cases hq : queryX rr3 with
            | mk y t => ?_
            rw [hq] at c3
            have HJ3 := hid hJ3
            have HC3 := hid hC3
            have HQ := hid hq
            have HLN := hid (And.intro hln hml)
            clear hJ3 hC3 hl3 hml hln hq
            cases y with
            | error er =>
              have C3 := hid c3
              clear c3
              go_wp2_with fail
              refine C3.out.mono ?_
              rintro e w9 ⟨⟨hne, rfl⟩, v10, q10, hk10, hi10⟩
              have hC9 := (HC3.out.stepR q10 hk10 (hi10.mono fun _ h => .inl h)).then (below_alloc w9 (.cells qryZero 42))
              have HC9 := hid hC9
              have hne2 : ((er : Int) != 0) = true := by simp; omega
              have hwk : IntKind.i64.wrap ((k : Int) + 1) = ((k + 1 : Nat) : Int) := by rw [IntWalk.i64_in _ (by have := HL.out.2; omega)]; simp
              have HNE := hid hne
              clear C3 q10 hk10 hi10 hC9 hne
              go_wp2_with fail
              go_roundw
              case rel => exact ⟨k + 1, a + j, er, M2, v10, t, rfl, rfl, by simp, HJ3.out.told HL.out.1 HQ.out hk HLV.out.2, HC9.out⟩
              case measure => simp only [intOf]; omega
            | ok p =>
              obtain ⟨h, b⟩ := p
              have hfl := queryX_flds HQ.out
              have C3 := hid c3
              have HFL := hid hfl.1
              clear c3 hfl
              go_wp2_with fail
              refine C3.out.mono ?_
              rintro e w9 ⟨⟨vl, vb, rfl, hol, hob⟩, v10, q10, hk10, hi10⟩
              obtain ⟨aob, cb, rfl⟩ := ownsRow_bytes_form hob
              obtain ⟨aol, cl, rfl⟩ := ownsRow_form hol
              have hC9 := HC3.out.stepR q10 hk10 (hi10.mono fun _ h => .inl h)
              have hkm : Kp w9 (Xc gr v10 gs vs (.slice aoa M2.length ca)) ⟨h, b, .slice aol h.flds.length cl, .slice aob b.length cb⟩ := kp_new HFL.out hol hob (fun k hk e => by
                have hz := hk10.size
                rcases e with e | e | e
                · rcases e with e | e
                  · have := Fp.lt HC3.out.r.rd (k := k) (.inl e); omega
                  · have := Fp.lt HC3.out.r.rd (k := k) (.inr (hi10 k e)); omega
                · have := Fp.lt HC3.out.s.rd e; omega
                · have := (HC3.out.aLt e).2; omega)
              have hbX : Below w9.heap.size w9 (w9.alloc (.cells (qryCells h (.slice aol h.flds.length cl) (.slice aob b.length cb)) 42)) := below_alloc _ _
              have hC10 := hC9.then hbX
              have hk10' := hkm.step (Z := Xc gr v10 gs vs (.slice aoa M2.length ca)) (Kept.of_below (X := fun _ => False) hbX) (fun _ _ h => h.elim) (fun _ _ h => h)
              have hB10 : w.heap.size ≤ (w9.alloc (.cells (qryCells h (.slice aol h.flds.length cl) (.slice aob b.length cb)) 42)).heap.size := by have := hC10.r.bl.size; exact this
              have HC10 := hid hC10
              have HK10 := hid hk10'
              have HB10 := hid hB10
              have hlt := (queryX_good (c := rr3.came) (by
                obtain ⟨-, c, hr, -⟩ := HJ3.out
                have h := HQ.out
                rw [hr] at h ⊢
                exact h)).2
              have HLT := hid hlt
              clear C3 hol hob q10 hk10 hi10 hC9 hkm hbX hC10 hk10' hB10 hlt
              go_wp2_with (at_builtin; go_must (refine wpList_append_five _ rfl _ _ 63 rfl w.heap.size 42 Tryz.underlying63 infoQryC rfl (by decide) rfl HC10.out.a (Msg.cells ⟨h, b, .slice aol h.flds.length cl, .slice aob b.length cb⟩) rfl (fun u hu => by simp [Msg.cells] at hu; rcases hu with rfl | rfl | rfl | rfl | rfl <;> rfl) rfl (by first | rfl | simp) (by have := HLN.out.2; omega) HB10.out ?_); intro v11 w11 ho11 hg11 hi11)
              go_roundw
              case rel =>
                have hJ4 := HJ3.out.got HL.out.1 HQ.out
                have hC4 := HC10.out.more ho11 hg11 hi11 HK10.out
                exact ⟨M2 ++ [⟨h, b, .slice aol h.flds.length cl, .slice aob b.length cb⟩], v10, t, by rw [List.map_append]; exact hJ4.1, hC4⟩
              case measure =>
                have hC4 := HC10.out.more ho11 hg11 hi11 HK10.out
                rw [hC4.r.rd.len, HLN.out.1]
                exact HLT.out
      · have hz1 : ((n : Int) != 0) = true := by simp; omega
        have hz2 : ((n : Int) != 20) = true := by simp; omega
        obtain ⟨rest, tl, hrun, hlast⟩ := HJ.out.fin (.inl ⟨by omega, by omega⟩)
        obtain ⟨aoa, ca, rfl⟩ := own_form5 HC.out.a
        have hml : M.length ≤ 3000 := by have h := HJ.out.2.2.2.1; rw [List.length_map] at h; have := HL.out.1; omega
        have HML := hid hml
        have HLA := hid hlast
        have HI : Hid (∃ (j : Nat) (vs' : Value) (ss : Rd), j ≤ M.length ∧ Value.int .i64 0 = .int .i64 (j : Int) ∧ Cuts w wr gr vr rr gs vs' ss (.slice aoa M.length ca) M (.slice (some ⟨gn, 0, none⟩) (cs.length + 1) cn) (cs ++ [(l.length : Int)]) ∧ Run ((M.map Msg.x).drop j) ss ⟨rest, false, 0⟩ ∧ ss.came.length ≤ 3000) := hid ⟨0, vs, ⟨l, false, 0⟩, Nat.zero_le _, rfl, HC.out, hrun, HL.out.1⟩
        clear hrun hlast hml HJ HC
        go_wp2_with fail
        generalize wr = wb at *
        go_loopw [89] (fun i wr => ∃ (j : Nat) (vs' : Value) (ss : Rd), j ≤ M.length ∧ i = .int .i64 (j : Int) ∧ Cuts w wr gr vr rr gs vs' ss (.slice aoa M.length ca) M (.slice (some ⟨gn, 0, none⟩) (cs.length + 1) cn) (cs ++ [(l.length : Int)]) ∧ Run ((M.map Msg.x).drop j) ss ⟨rest, false, 0⟩ ∧ ss.came.length ≤ 3000) (fun i _ => M.length - (intOf i).toNat)
        case atStart => exact HI.out
        case round =>
          clear HI
          obtain ⟨j, vs9, ss, hj, rfl, hC, hrun, hss⟩ := hrel
          by_cases hjm : j < M.length
          · have hjz : (j : Int) < (M.length : Int) := by omega
            obtain ⟨m, hm⟩ : ∃ m, M[j]? = some m := ⟨_, List.getElem?_eq_getElem hjm⟩
            obtain ⟨ga, ca', hga⟩ := own_some hC.a (by omega)
            obtain ⟨rfl, rfl⟩ : aoa = some ⟨ga, 0, none⟩ ∧ ca = ca' := by injection hga with h1 h2 h3; exact ⟨h1, h3⟩
            obtain ⟨h, b, vl, vb⟩ := m
            have hmem := List.mem_of_getElem? hm
            have hkm := hC.kp _ hmem
            have hr0 : Reads2 wr vl h.flds := hkm.2.1
            have hb0 : Bytes wr vb b := hkm.2.2.1
            obtain ⟨aol, cl, rfl⟩ := hr0.form
            obtain ⟨aob, cb, rfl, -⟩ := bytes_form hb0
            have hcl : ∀ i u, i < 5 → (Msg.cells ⟨h, b, .slice aol h.flds.length cl, .slice aob b.length cb⟩)[i]? = some u → wr.cell? ⟨ga, j * 5 + i, none⟩ = some u := fun i u hi hu => by
              have h1 := hC.a.cells (g := ga) rfl (5 * j + i) u (by rw [cellsM_at M j _ hm i hi]; exact hu)
              rw [addAt2] at h1
              rw [show j * 5 + i = 0 + (5 * j + i) by omega]
              exact h1
            have q0 : wr.cell? ⟨ga, j * 5, none⟩ = some (strV h.first) := hcl 0 _ (by decide) rfl
            have q1 : wr.cell? ⟨ga, j * 5 + 1, none⟩ = some (strV h.second) := hcl 1 _ (by decide) rfl
            have q2 : wr.cell? ⟨ga, j * 5 + 2, none⟩ = some (.int .i64 (h.minor : Int)) := hcl 2 _ (by decide) rfl
            have q3 : wr.cell? ⟨ga, j * 5 + 3, none⟩ = some (.slice aol h.flds.length cl) := hcl 3 _ (by decide) rfl
            have q4 : wr.cell? ⟨ga, j * 5 + 4, none⟩ = some (.slice aob b.length cb) := hcl 4 _ (by decide) rfl
            have hd : (M.map Msg.x).drop j = (h, b) :: (M.map Msg.x).drop (j + 1) := by
              obtain ⟨h1, h2⟩ := List.getElem?_eq_some_iff.1 hm
              rw [List.drop_eq_getElem_cons (by rw [List.length_map]; exact h1), List.getElem_map, h2]; rfl
            rw [hd] at hrun
            obtain ⟨us, hqs, hrun2⟩ := hrun
            have hus : us.came.length ≤ 3000 := by have := (nextX_ok hqs).1; omega
            obtain ⟨cx, hcx⟩ : ∃ c, c = (#[strV h.first, strV h.second, .int .i64 (h.minor : Int), .slice aol h.flds.length cl, .slice aob b.length cb] : Array Value) := ⟨_, rfl⟩
            obtain ⟨W1, hW1⟩ : ∃ W, W = wr.alloc (.cells #[strV h.first, strV h.second, .int .i64 (h.minor : Int), .slice aol h.flds.length cl, .slice aob b.length cb] 42) := ⟨_, rfl⟩
            have hb1 : Below wr.heap.size wr W1 := by rw [hW1]; exact below_alloc _ _
            have hbx : rowIs W1 wr.heap.size #[strV h.first, strV h.second, .int .i64 (h.minor : Int), .slice aol h.flds.length cl, .slice aob b.length cb] 42 := by rw [hW1]; exact rowIs_new _ _ _
            have hC1 := hC.then hb1
            have hgx : ∀ k, Fp gs vs9 k → k ≠ wr.heap.size := fun k hk => by have := Fp.lt hC.s.rd hk; omega
            have c3 := queryR_any hC1.s HM.out (by omega)
            rw [hqs] at c3
            have C3 := hid c3
            have HC1 := hid hC1
            have HBX := hid (And.intro hbx hgx)
            have HR2 := hid (And.intro hrun2 (And.intro hus hmem))
            have hwj : IntKind.i64.wrap ((j : Int) + 1) = ((j + 1 : Nat) : Int) := by rw [IntWalk.i64_in _ (by have := HML.out; omega)]; simp
            clear c3 hC hC1 hbx hgx hrun2 hus hmem hkm hr0 hb0 hcl hd hqs hb1 hss hga hcx cx
            go_wp2_with fail
            rw [← hW1]
            clear hW1 q0 q1 q2 q3 q4
            refine C3.out.mono ?_
            rintro e w9 ⟨⟨vl2, vb2, rfl, hol, hob⟩, v10, q10, hk10, hi10⟩
            obtain ⟨aob2, cb2, rfl⟩ := ownsRow_bytes_form hob
            obtain ⟨aol2, cl2, rfl⟩ := ownsRow_form hol
            have hC9 := HC1.out.stepS q10 hk10 hi10
            have hbx9 := HBX.out.1.kept hk10 (fun e => HBX.out.2 _ e rfl)
            obtain ⟨W2, hW2⟩ : ∃ W, W = w9.alloc (.cells #[strV h.first, strV h.second, .int .i64 (h.minor : Int), .slice aol2 h.flds.length cl2, .slice aob2 b.length cb2] 42) := ⟨_, rfl⟩
            have hb2 : Below w9.heap.size w9 W2 := by rw [hW2]; exact below_alloc _ _
            have HB2 := hid (show rowIs W2 w9.heap.size #[strV h.first, strV h.second, .int .i64 (h.minor : Int), .slice aol2 h.flds.length cl2, .slice aob2 b.length cb2] 42 from by rw [hW2]; exact rowIs_new _ _ _)
            have HB1 := hid (hbx9.below hb2)
            have hC2 := hC9.then hb2
            have hkx := hC2.kp _ HR2.out.2.2
            have HC2 := hid hC2
            have HKX := hid hkx
            have HV2 := hid (And.intro (hol.below hb2).reads2.2 (bytesRead (ownsRow_bytes (hob.below hb2))))
            clear C3 q10 hk10 hi10 hC9 hbx9 hb2 hC2 hkx hol hob
            go_wp2_with fail
            rw [← hW2]
            clear hW2
            refine wp_region_held_drew (S := fun W => Below W2.heap.size W2 W) (by kernel_rfl) (show Below W2.heap.size W2 W2.drew from (Below.refl _ _).drew) (fun hH => ?_)
            refine wpAnyH_take (i := 0) (v := ?_) rfl (by kernel_rfl) (by kernel_rfl) (by kernel_rfl) (fun _ _ _ h => h) (Or.inl ⟨by kernel_rfl, ?_⟩) hH ?_
            rotate_left
            · intro W hS
              have k0 := (HB2.out.below hS).cell 0
              have k1 := (HB2.out.below hS).cell 1
              have k2 := (HB2.out.below hS).cell 2
              have k3 := (HB2.out.below hS).cell 3
              have k4 := (HB2.out.below hS).cell 4
              have j0 := (HB1.out.below hS).cell 0
              have j1 := (HB1.out.below hS).cell 1
              have j2 := (HB1.out.below hS).cell 2
              have j3 := (HB1.out.below hS).cell 3
              have j4 := (HB1.out.below hS).cell 4
              go_simp
              first | done | with_reducible rfl
            simp only [Act.put, List.getElem_toArray, List.getElem_cons_succ, List.getElem_cons_zero, List.setIfInBounds_toArray, List.set_cons_zero, List.set_cons_succ]
            refine wpAnyH_take (i := 1) (v := ?_) rfl (by kernel_rfl) (by kernel_rfl) (by kernel_rfl) (fun _ _ _ h => h) (Or.inl ⟨by kernel_rfl, ?_⟩) hH ?_
            rotate_left
            · intro W hS
              have k0 := (HB2.out.below hS).cell 0
              have k1 := (HB2.out.below hS).cell 1
              have k2 := (HB2.out.below hS).cell 2
              have k3 := (HB2.out.below hS).cell 3
              have k4 := (HB2.out.below hS).cell 4
              have j0 := (HB1.out.below hS).cell 0
              have j1 := (HB1.out.below hS).cell 1
              have j2 := (HB1.out.below hS).cell 2
              have j3 := (HB1.out.below hS).cell 3
              have j4 := (HB1.out.below hS).cell 4
              go_simp
              first | done | with_reducible rfl
            simp only [Act.put, List.getElem_toArray, List.getElem_cons_succ, List.getElem_cons_zero, List.setIfInBounds_toArray, List.set_cons_zero, List.set_cons_succ]
            refine wpAnyH_take (i := 2) (v := ?_) rfl (by kernel_rfl) (by kernel_rfl) (by kernel_rfl) (fun _ _ _ h => h) (Or.inl ⟨by kernel_rfl, ?_⟩) hH ?_
            rotate_left
            · intro W hS
              have k0 := (HB2.out.below hS).cell 0
              have k1 := (HB2.out.below hS).cell 1
              have k2 := (HB2.out.below hS).cell 2
              have k3 := (HB2.out.below hS).cell 3
              have k4 := (HB2.out.below hS).cell 4
              have j0 := (HB1.out.below hS).cell 0
              have j1 := (HB1.out.below hS).cell 1
              have j2 := (HB1.out.below hS).cell 2
              have j3 := (HB1.out.below hS).cell 3
              have j4 := (HB1.out.below hS).cell 4
              go_simp
              first | done | with_reducible rfl
            simp only [Act.put, List.getElem_toArray, List.getElem_cons_succ, List.getElem_cons_zero, List.setIfInBounds_toArray, List.set_cons_zero, List.set_cons_succ]
            refine wpAnyH_take (i := 3) (v := ?_) rfl (by kernel_rfl) (by kernel_rfl) (by kernel_rfl) (fun _ _ _ h => h) (Or.inl ⟨by kernel_rfl, ?_⟩) hH ?_
            rotate_left
            · intro W hS
              have k0 := (HB2.out.below hS).cell 0
              have k1 := (HB2.out.below hS).cell 1
              have k2 := (HB2.out.below hS).cell 2
              have k3 := (HB2.out.below hS).cell 3
              have k4 := (HB2.out.below hS).cell 4
              have j0 := (HB1.out.below hS).cell 0
              have j1 := (HB1.out.below hS).cell 1
              have j2 := (HB1.out.below hS).cell 2
              have j3 := (HB1.out.below hS).cell 3
              have j4 := (HB1.out.below hS).cell 4
              go_simp
              first | done | with_reducible rfl
            simp only [Act.put, List.getElem_toArray, List.getElem_cons_succ, List.getElem_cons_zero, List.setIfInBounds_toArray, List.set_cons_zero, List.set_cons_succ]
            refine wpAnyH_take (i := 4) (v := ?_) rfl (by kernel_rfl) (by kernel_rfl) (by kernel_rfl) (fun _ _ _ h => h) (Or.inl ⟨by kernel_rfl, ?_⟩) hH ?_
            rotate_left
            · intro W hS
              have k0 := (HB2.out.below hS).cell 0
              have k1 := (HB2.out.below hS).cell 1
              have k2 := (HB2.out.below hS).cell 2
              have k3 := (HB2.out.below hS).cell 3
              have k4 := (HB2.out.below hS).cell 4
              have j0 := (HB1.out.below hS).cell 0
              have j1 := (HB1.out.below hS).cell 1
              have j2 := (HB1.out.below hS).cell 2
              have j3 := (HB1.out.below hS).cell 3
              have j4 := (HB1.out.below hS).cell 4
              go_simp
              first | done | with_reducible rfl
            simp only [Act.put, List.getElem_toArray, List.getElem_cons_succ, List.getElem_cons_zero, List.setIfInBounds_toArray, List.set_cons_zero, List.set_cons_succ]
            refine wpAnyH_take (i := 6) (v := ?_) rfl (by kernel_rfl) (by kernel_rfl) (by kernel_rfl) (fun _ _ _ h => h) (Or.inl ⟨by kernel_rfl, ?_⟩) hH ?_
            rotate_left
            · intro W hS
              have k0 := (HB2.out.below hS).cell 0
              have k1 := (HB2.out.below hS).cell 1
              have k2 := (HB2.out.below hS).cell 2
              have k3 := (HB2.out.below hS).cell 3
              have k4 := (HB2.out.below hS).cell 4
              have j0 := (HB1.out.below hS).cell 0
              have j1 := (HB1.out.below hS).cell 1
              have j2 := (HB1.out.below hS).cell 2
              have j3 := (HB1.out.below hS).cell 3
              have j4 := (HB1.out.below hS).cell 4
              go_simp
              first | done | with_reducible rfl
            simp only [Act.put, List.getElem_toArray, List.getElem_cons_succ, List.getElem_cons_zero, List.setIfInBounds_toArray, List.set_cons_zero, List.set_cons_succ]
            refine wpAnyH_take (i := 7) (v := ?_) rfl (by kernel_rfl) (by kernel_rfl) (by kernel_rfl) (fun _ _ _ h => h) (Or.inl ⟨by kernel_rfl, ?_⟩) hH ?_
            rotate_left
            · intro W hS
              have k0 := (HB2.out.below hS).cell 0
              have k1 := (HB2.out.below hS).cell 1
              have k2 := (HB2.out.below hS).cell 2
              have k3 := (HB2.out.below hS).cell 3
              have k4 := (HB2.out.below hS).cell 4
              have j0 := (HB1.out.below hS).cell 0
              have j1 := (HB1.out.below hS).cell 1
              have j2 := (HB1.out.below hS).cell 2
              have j3 := (HB1.out.below hS).cell 3
              have j4 := (HB1.out.below hS).cell 4
              go_simp
              first | done | with_reducible rfl
            simp only [Act.put, List.getElem_toArray, List.getElem_cons_succ, List.getElem_cons_zero, List.setIfInBounds_toArray, List.set_cons_zero, List.set_cons_succ]
            refine wpAnyH_take (i := 8) (v := ?_) rfl (by kernel_rfl) (by kernel_rfl) (by kernel_rfl) (fun _ _ _ h => h) (Or.inl ⟨by kernel_rfl, ?_⟩) hH ?_
            rotate_left
            · intro W hS
              have k0 := (HB2.out.below hS).cell 0
              have k1 := (HB2.out.below hS).cell 1
              have k2 := (HB2.out.below hS).cell 2
              have k3 := (HB2.out.below hS).cell 3
              have k4 := (HB2.out.below hS).cell 4
              have j0 := (HB1.out.below hS).cell 0
              have j1 := (HB1.out.below hS).cell 1
              have j2 := (HB1.out.below hS).cell 2
              have j3 := (HB1.out.below hS).cell 3
              have j4 := (HB1.out.below hS).cell 4
              go_simp
              first | done | with_reducible rfl
            simp only [Act.put, List.getElem_toArray, List.getElem_cons_succ, List.getElem_cons_zero, List.setIfInBounds_toArray, List.set_cons_zero, List.set_cons_succ]
            refine wpAnyH_take (i := 9) (v := ?_) rfl (by kernel_rfl) (by kernel_rfl) (by kernel_rfl) (fun _ _ _ h => h) (Or.inl ⟨by kernel_rfl, ?_⟩) hH ?_
            rotate_left
            · intro W hS
              have k0 := (HB2.out.below hS).cell 0
              have k1 := (HB2.out.below hS).cell 1
              have k2 := (HB2.out.below hS).cell 2
              have k3 := (HB2.out.below hS).cell 3
              have k4 := (HB2.out.below hS).cell 4
              have j0 := (HB1.out.below hS).cell 0
              have j1 := (HB1.out.below hS).cell 1
              have j2 := (HB1.out.below hS).cell 2
              have j3 := (HB1.out.below hS).cell 3
              have j4 := (HB1.out.below hS).cell 4
              go_simp
              first | done | with_reducible rfl
            simp only [Act.put, List.getElem_toArray, List.getElem_cons_succ, List.getElem_cons_zero, List.setIfInBounds_toArray, List.set_cons_zero, List.set_cons_succ]
            refine wpAnyH_take (i := 11) (v := ?_) rfl (by kernel_rfl) (by kernel_rfl) (by kernel_rfl) (fun _ _ _ h => h) (Or.inl ⟨by kernel_rfl, ?_⟩) hH ?_
            rotate_left
            · intro W hS
              have k0 := (HB2.out.below hS).cell 0
              have k1 := (HB2.out.below hS).cell 1
              have k2 := (HB2.out.below hS).cell 2
              have k3 := (HB2.out.below hS).cell 3
              have k4 := (HB2.out.below hS).cell 4
              have j0 := (HB1.out.below hS).cell 0
              have j1 := (HB1.out.below hS).cell 1
              have j2 := (HB1.out.below hS).cell 2
              have j3 := (HB1.out.below hS).cell 3
              have j4 := (HB1.out.below hS).cell 4
              go_simp
              first | done | with_reducible rfl
            simp only [Act.put, List.getElem_toArray, List.getElem_cons_succ, List.getElem_cons_zero, List.setIfInBounds_toArray, List.set_cons_zero, List.set_cons_succ]
            refine wpAnyH_take (i := 12) (v := ?_) rfl (by kernel_rfl) (by kernel_rfl) (by kernel_rfl) (fun _ _ _ h => h) (Or.inl ⟨by kernel_rfl, ?_⟩) hH ?_
            rotate_left
            · intro W hS
              have k0 := (HB2.out.below hS).cell 0
              have k1 := (HB2.out.below hS).cell 1
              have k2 := (HB2.out.below hS).cell 2
              have k3 := (HB2.out.below hS).cell 3
              have k4 := (HB2.out.below hS).cell 4
              have j0 := (HB1.out.below hS).cell 0
              have j1 := (HB1.out.below hS).cell 1
              have j2 := (HB1.out.below hS).cell 2
              have j3 := (HB1.out.below hS).cell 3
              have j4 := (HB1.out.below hS).cell 4
              go_simp
              first | done | with_reducible rfl
            simp only [Act.put, List.getElem_toArray, List.getElem_cons_succ, List.getElem_cons_zero, List.setIfInBounds_toArray, List.set_cons_zero, List.set_cons_succ]
            have hS0 : Below W2.heap.size W2 W2.drew := (Below.refl _ _).drew
            clear hH
            generalize W2.drew = wd at *
            refine wpAnyH_ready (rs := [5]) (by kernel_rfl) (by simp) ?_
            refine AllReadyH.cons rfl (fun K hK => ?_) AllReadyH.nil
            go_simp
            refine (madeReq_any h.first h.second (h.minor : Int) (.slice aol2 h.flds.length cl2) h.flds wd (HV2.out.1.below hS0) HKX.out.1).mono ?_
            rintro e wx1 ⟨⟨ax5, cx5, rfl, hr5⟩, hbx1⟩
            have hS1 := chain2 hS0 hS0.size hbx1
            refine hK.out _ _ hS1 (fun _ => ?_)
            clear hK K
            try simp only [Act.put, List.getElem_toArray, List.getElem_cons_succ, List.getElem_cons_zero, List.setIfInBounds_toArray, List.set_cons_zero, List.set_cons_succ]
            refine wpAnyH_ready (rs := [10]) (by kernel_rfl) (by simp) ?_
            refine AllReadyH.cons rfl (fun K hK => ?_) AllReadyH.nil
            go_simp
            refine (madeReq_any h.first h.second (h.minor : Int) (.slice aol h.flds.length cl) h.flds wx1 (HKX.out.2.1.below hS1) HKX.out.1).mono ?_
            rintro e wx2 ⟨⟨ax10, cx10, rfl, hr10⟩, hbx2⟩
            have hS2 := chain2 hS1 hS1.size hbx2
            refine hK.out _ _ hS2 (fun _ => ?_)
            clear hK K
            try simp only [Act.put, List.getElem_toArray, List.getElem_cons_succ, List.getElem_cons_zero, List.setIfInBounds_toArray, List.set_cons_zero, List.set_cons_succ]
            refine wpAnyH_ready (rs := [13]) (by kernel_rfl) (by simp) ?_
            refine AllReadyH.cons rfl (fun K hK => ?_) AllReadyH.nil
            go_simp
            refine (same_eq h.first h.second 0 (h.minor : Int) h.flds ax5 ax10 cx5 cx10 (.slice aob2 b.length cb2) (.slice aob b.length cb) b wx2 (hr5.below hbx2) (hr10) HKX.out.1 (HV2.out.2.below hS2) ((bytesRead HKX.out.2.2.1).below hS2)).mono ?_
            rintro e wx3 ⟨rfl, hbx3⟩
            have hS3 := chain2 hS2 hS2.size hbx3
            refine hK.out _ _ hS3 (fun _ => ?_)
            clear hK K
            try simp only [Act.put, List.getElem_toArray, List.getElem_cons_succ, List.getElem_cons_zero, List.setIfInBounds_toArray, List.set_cons_zero, List.set_cons_succ]
            refine wpAnyH_take (i := 14) (v := ?_) rfl (by kernel_rfl) (by kernel_rfl) (by kernel_rfl) (fun _ _ _ h => h) (Or.inl ⟨by kernel_rfl, ?_⟩) hS3 ?_
            rotate_left
            · intro W hS
              have k0 := (HB2.out.below hS).cell 0
              have k1 := (HB2.out.below hS).cell 1
              have k2 := (HB2.out.below hS).cell 2
              have k3 := (HB2.out.below hS).cell 3
              have k4 := (HB2.out.below hS).cell 4
              have j0 := (HB1.out.below hS).cell 0
              have j1 := (HB1.out.below hS).cell 1
              have j2 := (HB1.out.below hS).cell 2
              have j3 := (HB1.out.below hS).cell 3
              have j4 := (HB1.out.below hS).cell 4
              go_simp
              first | done | with_reducible rfl
            simp only [Act.put, List.getElem_toArray, List.getElem_cons_succ, List.getElem_cons_zero, List.setIfInBounds_toArray, List.set_cons_zero, List.set_cons_succ]
            refine wpAnyH_take (i := 15) (v := ?_) rfl (by kernel_rfl) (by kernel_rfl) (by kernel_rfl) (fun _ _ _ h => h) (Or.inl ⟨by kernel_rfl, ?_⟩) hS3 ?_
            rotate_left
            · intro W hS
              have k0 := (HB2.out.below hS).cell 0
              have k1 := (HB2.out.below hS).cell 1
              have k2 := (HB2.out.below hS).cell 2
              have k3 := (HB2.out.below hS).cell 3
              have k4 := (HB2.out.below hS).cell 4
              have j0 := (HB1.out.below hS).cell 0
              have j1 := (HB1.out.below hS).cell 1
              have j2 := (HB1.out.below hS).cell 2
              have j3 := (HB1.out.below hS).cell 3
              have j4 := (HB1.out.below hS).cell 4
              go_simp
              first | done | with_reducible rfl
            simp only [Act.put, List.getElem_toArray, List.getElem_cons_succ, List.getElem_cons_zero, List.setIfInBounds_toArray, List.set_cons_zero, List.set_cons_succ]
            refine wpAnyH_done (by kernel_rfl) ?_ _
            have hC3 := HC2.out.then hS3
            have HC3 := hid hC3
            clear hC3
            go_wp2_with fail
            go_roundw
            case rel => exact ⟨j + 1, v10, us, hjm, by simp, HC3.out, HR2.out.1, HR2.out.2.1⟩
            case measure => simp only [intOf]; omega
          · have hje : j = M.length := by omega
            subst hje
            rw [List.drop_eq_nil_of_le (by simp)] at hrun
            have hrun : ss = ⟨rest, false, 0⟩ := hrun
            subst hrun
            have c3 := queryR_any hC.s HM.out (by omega)
            rw [HLA.out] at c3
            have C3 := hid c3
            clear c3 hC hjm hj hss
            go_wp2_with fail
            refine C3.out.mono ?_
            rintro e w9 ⟨⟨hne, rfl⟩, v10, q10, hk10, hi10⟩
            have q11 := q10.then (below_alloc w9 (.cells qryZero 42))
            have HB := hid q11.bl
            have hee : ((n : Int) == (n : Int)) = true := by simp
            clear C3 q10 hk10 hi10 q11
            go_wp2_with fail
            go_ret
            exact ⟨rfl, HB.out⟩
    · have hkz : ¬ (k : Int) < (cs.length : Int) + 1 := by omega
      obtain ⟨rest, tl, hrun, hlast⟩ := HJ.out.fin (.inr ⟨by have := HJ.out.2.1; omega, by omega⟩)
      obtain ⟨aoa, ca, rfl⟩ := own_form5 HC.out.a
      have hml : M.length ≤ 3000 := by have h := HJ.out.2.2.2.1; rw [List.length_map] at h; have := HL.out.1; omega
      have HML := hid hml
      have HLA := hid hlast
      have HI : Hid (∃ (j : Nat) (vs' : Value) (ss : Rd), j ≤ M.length ∧ Value.int .i64 0 = .int .i64 (j : Int) ∧ Cuts w wr gr vr rr gs vs' ss (.slice aoa M.length ca) M (.slice (some ⟨gn, 0, none⟩) (cs.length + 1) cn) (cs ++ [(l.length : Int)]) ∧ Run ((M.map Msg.x).drop j) ss ⟨rest, false, 0⟩ ∧ ss.came.length ≤ 3000) := hid ⟨0, vs, ⟨l, false, 0⟩, Nat.zero_le _, rfl, HC.out, hrun, HL.out.1⟩
      clear hJ hC
      clear hrun hlast hml HJ HC
      go_wp2_with fail
      generalize wr = wb at *
      go_loopw [89] (fun i wr => ∃ (j : Nat) (vs' : Value) (ss : Rd), j ≤ M.length ∧ i = .int .i64 (j : Int) ∧ Cuts w wr gr vr rr gs vs' ss (.slice aoa M.length ca) M (.slice (some ⟨gn, 0, none⟩) (cs.length + 1) cn) (cs ++ [(l.length : Int)]) ∧ Run ((M.map Msg.x).drop j) ss ⟨rest, false, 0⟩ ∧ ss.came.length ≤ 3000) (fun i _ => M.length - (intOf i).toNat)
      case atStart => exact HI.out
      case round =>
        clear HI
        obtain ⟨j, vs9, ss, hj, rfl, hC, hrun, hss⟩ := hrel
        by_cases hjm : j < M.length
        · have hjz : (j : Int) < (M.length : Int) := by omega
          obtain ⟨m, hm⟩ : ∃ m, M[j]? = some m := ⟨_, List.getElem?_eq_getElem hjm⟩
          obtain ⟨ga, ca', hga⟩ := own_some hC.a (by omega)
          obtain ⟨rfl, rfl⟩ : aoa = some ⟨ga, 0, none⟩ ∧ ca = ca' := by injection hga with h1 h2 h3; exact ⟨h1, h3⟩
          obtain ⟨h, b, vl, vb⟩ := m
          have hmem := List.mem_of_getElem? hm
          have hkm := hC.kp _ hmem
          have hr0 : Reads2 wr vl h.flds := hkm.2.1
          have hb0 : Bytes wr vb b := hkm.2.2.1
          obtain ⟨aol, cl, rfl⟩ := hr0.form
          obtain ⟨aob, cb, rfl, -⟩ := bytes_form hb0
          have hcl : ∀ i u, i < 5 → (Msg.cells ⟨h, b, .slice aol h.flds.length cl, .slice aob b.length cb⟩)[i]? = some u → wr.cell? ⟨ga, j * 5 + i, none⟩ = some u := fun i u hi hu => by
            have h1 := hC.a.cells (g := ga) rfl (5 * j + i) u (by rw [cellsM_at M j _ hm i hi]; exact hu)
            rw [addAt2] at h1
            rw [show j * 5 + i = 0 + (5 * j + i) by omega]
            exact h1
          have q0 : wr.cell? ⟨ga, j * 5, none⟩ = some (strV h.first) := hcl 0 _ (by decide) rfl
          have q1 : wr.cell? ⟨ga, j * 5 + 1, none⟩ = some (strV h.second) := hcl 1 _ (by decide) rfl
          have q2 : wr.cell? ⟨ga, j * 5 + 2, none⟩ = some (.int .i64 (h.minor : Int)) := hcl 2 _ (by decide) rfl
          have q3 : wr.cell? ⟨ga, j * 5 + 3, none⟩ = some (.slice aol h.flds.length cl) := hcl 3 _ (by decide) rfl
          have q4 : wr.cell? ⟨ga, j * 5 + 4, none⟩ = some (.slice aob b.length cb) := hcl 4 _ (by decide) rfl
          have hd : (M.map Msg.x).drop j = (h, b) :: (M.map Msg.x).drop (j + 1) := by
            obtain ⟨h1, h2⟩ := List.getElem?_eq_some_iff.1 hm
            rw [List.drop_eq_getElem_cons (by rw [List.length_map]; exact h1), List.getElem_map, h2]; rfl
          rw [hd] at hrun
          obtain ⟨us, hqs, hrun2⟩ := hrun
          have hus : us.came.length ≤ 3000 := by have := (nextX_ok hqs).1; omega
          obtain ⟨cx, hcx⟩ : ∃ c, c = (#[strV h.first, strV h.second, .int .i64 (h.minor : Int), .slice aol h.flds.length cl, .slice aob b.length cb] : Array Value) := ⟨_, rfl⟩
          obtain ⟨W1, hW1⟩ : ∃ W, W = wr.alloc (.cells #[strV h.first, strV h.second, .int .i64 (h.minor : Int), .slice aol h.flds.length cl, .slice aob b.length cb] 42) := ⟨_, rfl⟩
          have hb1 : Below wr.heap.size wr W1 := by rw [hW1]; exact below_alloc _ _
          have hbx : rowIs W1 wr.heap.size #[strV h.first, strV h.second, .int .i64 (h.minor : Int), .slice aol h.flds.length cl, .slice aob b.length cb] 42 := by rw [hW1]; exact rowIs_new _ _ _
          have hC1 := hC.then hb1
          have hgx : ∀ k, Fp gs vs9 k → k ≠ wr.heap.size := fun k hk => by have := Fp.lt hC.s.rd hk; omega
          have c3 := queryR_any hC1.s HM.out (by omega)
          rw [hqs] at c3
          have C3 := hid c3
          have HC1 := hid hC1
          have HBX := hid (And.intro hbx hgx)
          have HR2 := hid (And.intro hrun2 (And.intro hus hmem))
          have hwj : IntKind.i64.wrap ((j : Int) + 1) = ((j + 1 : Nat) : Int) := by rw [IntWalk.i64_in _ (by have := HML.out; omega)]; simp
          clear c3 hC hC1 hbx hgx hrun2 hus hmem hkm hr0 hb0 hcl hd hqs hb1 hss hga hcx cx
          go_wp2_with fail
          rw [← hW1]
          clear hW1 q0 q1 q2 q3 q4
          refine C3.out.mono ?_
          rintro e w9 ⟨⟨vl2, vb2, rfl, hol, hob⟩, v10, q10, hk10, hi10⟩
          obtain ⟨aob2, cb2, rfl⟩ := ownsRow_bytes_form hob
          obtain ⟨aol2, cl2, rfl⟩ := ownsRow_form hol
          have hC9 := HC1.out.stepS q10 hk10 hi10
          have hbx9 := HBX.out.1.kept hk10 (fun e => HBX.out.2 _ e rfl)
          obtain ⟨W2, hW2⟩ : ∃ W, W = w9.alloc (.cells #[strV h.first, strV h.second, .int .i64 (h.minor : Int), .slice aol2 h.flds.length cl2, .slice aob2 b.length cb2] 42) := ⟨_, rfl⟩
          have hb2 : Below w9.heap.size w9 W2 := by rw [hW2]; exact below_alloc _ _
          have HB2 := hid (show rowIs W2 w9.heap.size #[strV h.first, strV h.second, .int .i64 (h.minor : Int), .slice aol2 h.flds.length cl2, .slice aob2 b.length cb2] 42 from by rw [hW2]; exact rowIs_new _ _ _)
          have HB1 := hid (hbx9.below hb2)
          have hC2 := hC9.then hb2
          have hkx := hC2.kp _ HR2.out.2.2
          have HC2 := hid hC2
          have HKX := hid hkx
          have HV2 := hid (And.intro (hol.below hb2).reads2.2 (bytesRead (ownsRow_bytes (hob.below hb2))))
          clear C3 q10 hk10 hi10 hC9 hbx9 hb2 hC2 hkx hol hob
          go_wp2_with fail
          rw [← hW2]
          clear hW2
          refine wp_region_held_drew (S := fun W => Below W2.heap.size W2 W) (by kernel_rfl) (show Below W2.heap.size W2 W2.drew from (Below.refl _ _).drew) (fun hH => ?_)
          refine wpAnyH_take (i := 0) (v := ?_) rfl (by kernel_rfl) (by kernel_rfl) (by kernel_rfl) (fun _ _ _ h => h) (Or.inl ⟨by kernel_rfl, ?_⟩) hH ?_
          rotate_left
          · intro W hS
            have k0 := (HB2.out.below hS).cell 0
            have k1 := (HB2.out.below hS).cell 1
            have k2 := (HB2.out.below hS).cell 2
            have k3 := (HB2.out.below hS).cell 3
            have k4 := (HB2.out.below hS).cell 4
            have j0 := (HB1.out.below hS).cell 0
            have j1 := (HB1.out.below hS).cell 1
            have j2 := (HB1.out.below hS).cell 2
            have j3 := (HB1.out.below hS).cell 3
            have j4 := (HB1.out.below hS).cell 4
            go_simp
            first | done | with_reducible rfl
          simp only [Act.put, List.getElem_toArray, List.getElem_cons_succ, List.getElem_cons_zero, List.setIfInBounds_toArray, List.set_cons_zero, List.set_cons_succ]
          refine wpAnyH_take (i := 1) (v := ?_) rfl (by kernel_rfl) (by kernel_rfl) (by kernel_rfl) (fun _ _ _ h => h) (Or.inl ⟨by kernel_rfl, ?_⟩) hH ?_
          rotate_left
          · intro W hS
            have k0 := (HB2.out.below hS).cell 0
            have k1 := (HB2.out.below hS).cell 1
            have k2 := (HB2.out.below hS).cell 2
            have k3 := (HB2.out.below hS).cell 3
            have k4 := (HB2.out.below hS).cell 4
            have j0 := (HB1.out.below hS).cell 0
            have j1 := (HB1.out.below hS).cell 1
            have j2 := (HB1.out.below hS).cell 2
            have j3 := (HB1.out.below hS).cell 3
            have j4 := (HB1.out.below hS).cell 4
            go_simp
            first | done | with_reducible rfl
          simp only [Act.put, List.getElem_toArray, List.getElem_cons_succ, List.getElem_cons_zero, List.setIfInBounds_toArray, List.set_cons_zero, List.set_cons_succ]
          refine wpAnyH_take (i := 2) (v := ?_) rfl (by kernel_rfl) (by kernel_rfl) (by kernel_rfl) (fun _ _ _ h => h) (Or.inl ⟨by kernel_rfl, ?_⟩) hH ?_
          rotate_left
          · intro W hS
            have k0 := (HB2.out.below hS).cell 0
            have k1 := (HB2.out.below hS).cell 1
            have k2 := (HB2.out.below hS).cell 2
            have k3 := (HB2.out.below hS).cell 3
            have k4 := (HB2.out.below hS).cell 4
            have j0 := (HB1.out.below hS).cell 0
            have j1 := (HB1.out.below hS).cell 1
            have j2 := (HB1.out.below hS).cell 2
            have j3 := (HB1.out.below hS).cell 3
            have j4 := (HB1.out.below hS).cell 4
            go_simp
            first | done | with_reducible rfl
          simp only [Act.put, List.getElem_toArray, List.getElem_cons_succ, List.getElem_cons_zero, List.setIfInBounds_toArray, List.set_cons_zero, List.set_cons_succ]
          refine wpAnyH_take (i := 3) (v := ?_) rfl (by kernel_rfl) (by kernel_rfl) (by kernel_rfl) (fun _ _ _ h => h) (Or.inl ⟨by kernel_rfl, ?_⟩) hH ?_
          rotate_left
          · intro W hS
            have k0 := (HB2.out.below hS).cell 0
            have k1 := (HB2.out.below hS).cell 1
            have k2 := (HB2.out.below hS).cell 2
            have k3 := (HB2.out.below hS).cell 3
            have k4 := (HB2.out.below hS).cell 4
            have j0 := (HB1.out.below hS).cell 0
            have j1 := (HB1.out.below hS).cell 1
            have j2 := (HB1.out.below hS).cell 2
            have j3 := (HB1.out.below hS).cell 3
            have j4 := (HB1.out.below hS).cell 4
            go_simp
            first | done | with_reducible rfl
          simp only [Act.put, List.getElem_toArray, List.getElem_cons_succ, List.getElem_cons_zero, List.setIfInBounds_toArray, List.set_cons_zero, List.set_cons_succ]
          refine wpAnyH_take (i := 4) (v := ?_) rfl (by kernel_rfl) (by kernel_rfl) (by kernel_rfl) (fun _ _ _ h => h) (Or.inl ⟨by kernel_rfl, ?_⟩) hH ?_
          rotate_left
          · intro W hS
            have k0 := (HB2.out.below hS).cell 0
            have k1 := (HB2.out.below hS).cell 1
            have k2 := (HB2.out.below hS).cell 2
            have k3 := (HB2.out.below hS).cell 3
            have k4 := (HB2.out.below hS).cell 4
            have j0 := (HB1.out.below hS).cell 0
            have j1 := (HB1.out.below hS).cell 1
            have j2 := (HB1.out.below hS).cell 2
            have j3 := (HB1.out.below hS).cell 3
            have j4 := (HB1.out.below hS).cell 4
            go_simp
            first | done | with_reducible rfl
          simp only [Act.put, List.getElem_toArray, List.getElem_cons_succ, List.getElem_cons_zero, List.setIfInBounds_toArray, List.set_cons_zero, List.set_cons_succ]
          refine wpAnyH_take (i := 6) (v := ?_) rfl (by kernel_rfl) (by kernel_rfl) (by kernel_rfl) (fun _ _ _ h => h) (Or.inl ⟨by kernel_rfl, ?_⟩) hH ?_
          rotate_left
          · intro W hS
            have k0 := (HB2.out.below hS).cell 0
            have k1 := (HB2.out.below hS).cell 1
            have k2 := (HB2.out.below hS).cell 2
            have k3 := (HB2.out.below hS).cell 3
            have k4 := (HB2.out.below hS).cell 4
            have j0 := (HB1.out.below hS).cell 0
            have j1 := (HB1.out.below hS).cell 1
            have j2 := (HB1.out.below hS).cell 2
            have j3 := (HB1.out.below hS).cell 3
            have j4 := (HB1.out.below hS).cell 4
            go_simp
            first | done | with_reducible rfl
          simp only [Act.put, List.getElem_toArray, List.getElem_cons_succ, List.getElem_cons_zero, List.setIfInBounds_toArray, List.set_cons_zero, List.set_cons_succ]
          refine wpAnyH_take (i := 7) (v := ?_) rfl (by kernel_rfl) (by kernel_rfl) (by kernel_rfl) (fun _ _ _ h => h) (Or.inl ⟨by kernel_rfl, ?_⟩) hH ?_
          rotate_left
          · intro W hS
            have k0 := (HB2.out.below hS).cell 0
            have k1 := (HB2.out.below hS).cell 1
            have k2 := (HB2.out.below hS).cell 2
            have k3 := (HB2.out.below hS).cell 3
            have k4 := (HB2.out.below hS).cell 4
            have j0 := (HB1.out.below hS).cell 0
            have j1 := (HB1.out.below hS).cell 1
            have j2 := (HB1.out.below hS).cell 2
            have j3 := (HB1.out.below hS).cell 3
            have j4 := (HB1.out.below hS).cell 4
            go_simp
            first | done | with_reducible rfl
          simp only [Act.put, List.getElem_toArray, List.getElem_cons_succ, List.getElem_cons_zero, List.setIfInBounds_toArray, List.set_cons_zero, List.set_cons_succ]
          refine wpAnyH_take (i := 8) (v := ?_) rfl (by kernel_rfl) (by kernel_rfl) (by kernel_rfl) (fun _ _ _ h => h) (Or.inl ⟨by kernel_rfl, ?_⟩) hH ?_
          rotate_left
          · intro W hS
            have k0 := (HB2.out.below hS).cell 0
            have k1 := (HB2.out.below hS).cell 1
            have k2 := (HB2.out.below hS).cell 2
            have k3 := (HB2.out.below hS).cell 3
            have k4 := (HB2.out.below hS).cell 4
            have j0 := (HB1.out.below hS).cell 0
            have j1 := (HB1.out.below hS).cell 1
            have j2 := (HB1.out.below hS).cell 2
            have j3 := (HB1.out.below hS).cell 3
            have j4 := (HB1.out.below hS).cell 4
            go_simp
            first | done | with_reducible rfl
          simp only [Act.put, List.getElem_toArray, List.getElem_cons_succ, List.getElem_cons_zero, List.setIfInBounds_toArray, List.set_cons_zero, List.set_cons_succ]
          refine wpAnyH_take (i := 9) (v := ?_) rfl (by kernel_rfl) (by kernel_rfl) (by kernel_rfl) (fun _ _ _ h => h) (Or.inl ⟨by kernel_rfl, ?_⟩) hH ?_
          rotate_left
          · intro W hS
            have k0 := (HB2.out.below hS).cell 0
            have k1 := (HB2.out.below hS).cell 1
            have k2 := (HB2.out.below hS).cell 2
            have k3 := (HB2.out.below hS).cell 3
            have k4 := (HB2.out.below hS).cell 4
            have j0 := (HB1.out.below hS).cell 0
            have j1 := (HB1.out.below hS).cell 1
            have j2 := (HB1.out.below hS).cell 2
            have j3 := (HB1.out.below hS).cell 3
            have j4 := (HB1.out.below hS).cell 4
            go_simp
            first | done | with_reducible rfl
          simp only [Act.put, List.getElem_toArray, List.getElem_cons_succ, List.getElem_cons_zero, List.setIfInBounds_toArray, List.set_cons_zero, List.set_cons_succ]
          refine wpAnyH_take (i := 11) (v := ?_) rfl (by kernel_rfl) (by kernel_rfl) (by kernel_rfl) (fun _ _ _ h => h) (Or.inl ⟨by kernel_rfl, ?_⟩) hH ?_
          rotate_left
          · intro W hS
            have k0 := (HB2.out.below hS).cell 0
            have k1 := (HB2.out.below hS).cell 1
            have k2 := (HB2.out.below hS).cell 2
            have k3 := (HB2.out.below hS).cell 3
            have k4 := (HB2.out.below hS).cell 4
            have j0 := (HB1.out.below hS).cell 0
            have j1 := (HB1.out.below hS).cell 1
            have j2 := (HB1.out.below hS).cell 2
            have j3 := (HB1.out.below hS).cell 3
            have j4 := (HB1.out.below hS).cell 4
            go_simp
            first | done | with_reducible rfl
          simp only [Act.put, List.getElem_toArray, List.getElem_cons_succ, List.getElem_cons_zero, List.setIfInBounds_toArray, List.set_cons_zero, List.set_cons_succ]
          refine wpAnyH_take (i := 12) (v := ?_) rfl (by kernel_rfl) (by kernel_rfl) (by kernel_rfl) (fun _ _ _ h => h) (Or.inl ⟨by kernel_rfl, ?_⟩) hH ?_
          rotate_left
          · intro W hS
            have k0 := (HB2.out.below hS).cell 0
            have k1 := (HB2.out.below hS).cell 1
            have k2 := (HB2.out.below hS).cell 2
            have k3 := (HB2.out.below hS).cell 3
            have k4 := (HB2.out.below hS).cell 4
            have j0 := (HB1.out.below hS).cell 0
            have j1 := (HB1.out.below hS).cell 1
            have j2 := (HB1.out.below hS).cell 2
            have j3 := (HB1.out.below hS).cell 3
            have j4 := (HB1.out.below hS).cell 4
            go_simp
            first | done | with_reducible rfl
          simp only [Act.put, List.getElem_toArray, List.getElem_cons_succ, List.getElem_cons_zero, List.setIfInBounds_toArray, List.set_cons_zero, List.set_cons_succ]
          have hS0 : Below W2.heap.size W2 W2.drew := (Below.refl _ _).drew
          clear hH
          generalize W2.drew = wd at *
          refine wpAnyH_ready (rs := [5]) (by kernel_rfl) (by simp) ?_
          refine AllReadyH.cons rfl (fun K hK => ?_) AllReadyH.nil
          go_simp
          refine (madeReq_any h.first h.second (h.minor : Int) (.slice aol2 h.flds.length cl2) h.flds wd (HV2.out.1.below hS0) HKX.out.1).mono ?_
          rintro e wx1 ⟨⟨ax5, cx5, rfl, hr5⟩, hbx1⟩
          have hS1 := chain2 hS0 hS0.size hbx1
          refine hK.out _ _ hS1 (fun _ => ?_)
          clear hK K
          try simp only [Act.put, List.getElem_toArray, List.getElem_cons_succ, List.getElem_cons_zero, List.setIfInBounds_toArray, List.set_cons_zero, List.set_cons_succ]
          refine wpAnyH_ready (rs := [10]) (by kernel_rfl) (by simp) ?_
          refine AllReadyH.cons rfl (fun K hK => ?_) AllReadyH.nil
          go_simp
          refine (madeReq_any h.first h.second (h.minor : Int) (.slice aol h.flds.length cl) h.flds wx1 (HKX.out.2.1.below hS1) HKX.out.1).mono ?_
          rintro e wx2 ⟨⟨ax10, cx10, rfl, hr10⟩, hbx2⟩
          have hS2 := chain2 hS1 hS1.size hbx2
          refine hK.out _ _ hS2 (fun _ => ?_)
          clear hK K
          try simp only [Act.put, List.getElem_toArray, List.getElem_cons_succ, List.getElem_cons_zero, List.setIfInBounds_toArray, List.set_cons_zero, List.set_cons_succ]
          refine wpAnyH_ready (rs := [13]) (by kernel_rfl) (by simp) ?_
          refine AllReadyH.cons rfl (fun K hK => ?_) AllReadyH.nil
          go_simp
          refine (same_eq h.first h.second 0 (h.minor : Int) h.flds ax5 ax10 cx5 cx10 (.slice aob2 b.length cb2) (.slice aob b.length cb) b wx2 (hr5.below hbx2) (hr10) HKX.out.1 (HV2.out.2.below hS2) ((bytesRead HKX.out.2.2.1).below hS2)).mono ?_
          rintro e wx3 ⟨rfl, hbx3⟩
          have hS3 := chain2 hS2 hS2.size hbx3
          refine hK.out _ _ hS3 (fun _ => ?_)
          clear hK K
          try simp only [Act.put, List.getElem_toArray, List.getElem_cons_succ, List.getElem_cons_zero, List.setIfInBounds_toArray, List.set_cons_zero, List.set_cons_succ]
          refine wpAnyH_take (i := 14) (v := ?_) rfl (by kernel_rfl) (by kernel_rfl) (by kernel_rfl) (fun _ _ _ h => h) (Or.inl ⟨by kernel_rfl, ?_⟩) hS3 ?_
          rotate_left
          · intro W hS
            have k0 := (HB2.out.below hS).cell 0
            have k1 := (HB2.out.below hS).cell 1
            have k2 := (HB2.out.below hS).cell 2
            have k3 := (HB2.out.below hS).cell 3
            have k4 := (HB2.out.below hS).cell 4
            have j0 := (HB1.out.below hS).cell 0
            have j1 := (HB1.out.below hS).cell 1
            have j2 := (HB1.out.below hS).cell 2
            have j3 := (HB1.out.below hS).cell 3
            have j4 := (HB1.out.below hS).cell 4
            go_simp
            first | done | with_reducible rfl
          simp only [Act.put, List.getElem_toArray, List.getElem_cons_succ, List.getElem_cons_zero, List.setIfInBounds_toArray, List.set_cons_zero, List.set_cons_succ]
          refine wpAnyH_take (i := 15) (v := ?_) rfl (by kernel_rfl) (by kernel_rfl) (by kernel_rfl) (fun _ _ _ h => h) (Or.inl ⟨by kernel_rfl, ?_⟩) hS3 ?_
          rotate_left
          · intro W hS
            have k0 := (HB2.out.below hS).cell 0
            have k1 := (HB2.out.below hS).cell 1
            have k2 := (HB2.out.below hS).cell 2
            have k3 := (HB2.out.below hS).cell 3
            have k4 := (HB2.out.below hS).cell 4
            have j0 := (HB1.out.below hS).cell 0
            have j1 := (HB1.out.below hS).cell 1
            have j2 := (HB1.out.below hS).cell 2
            have j3 := (HB1.out.below hS).cell 3
            have j4 := (HB1.out.below hS).cell 4
            go_simp
            first | done | with_reducible rfl
          simp only [Act.put, List.getElem_toArray, List.getElem_cons_succ, List.getElem_cons_zero, List.setIfInBounds_toArray, List.set_cons_zero, List.set_cons_succ]
          refine wpAnyH_done (by kernel_rfl) ?_ _
          have hC3 := HC2.out.then hS3
          have HC3 := hid hC3
          clear hC3
          go_wp2_with fail
          go_roundw
          case rel => exact ⟨j + 1, v10, us, hjm, by simp, HC3.out, HR2.out.1, HR2.out.2.1⟩
          case measure => simp only [intOf]; omega
        · have hje : j = M.length := by omega
          subst hje
          rw [List.drop_eq_nil_of_le (by simp)] at hrun
          have hrun : ss = ⟨rest, false, 0⟩ := hrun
          subst hrun
          have c3 := queryR_any hC.s HM.out (by omega)
          rw [HLA.out] at c3
          have C3 := hid c3
          clear c3 hC hjm hj hss
          go_wp2_with fail
          refine C3.out.mono ?_
          rintro e w9 ⟨⟨hne, rfl⟩, v10, q10, hk10, hi10⟩
          have q11 := q10.then (below_alloc w9 (.cells qryZero 42))
          have HB := hid q11.bl
          have hee : ((n : Int) == (n : Int)) = true := by simp
          clear C3 q10 hk10 hi10 q11
          go_wp2_with fail
          go_ret
          exact ⟨rfl, HB.out⟩
end Go.Proofs.YtongceljdgmbdaaGreatDoor
