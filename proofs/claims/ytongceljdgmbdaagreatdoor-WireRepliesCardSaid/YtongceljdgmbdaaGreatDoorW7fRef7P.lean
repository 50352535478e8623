/-
  The document's answers of layer 7: Put.
-/
import Derived.Test.YtongceljdgmbdaaGreatDoorW7fWireG
import Derived.Test.YtongceljdgmbdaaGreatDoorW7fRef7D
import Derived.Test.YtongceljdgmbdaaGreatDoorW7f03
import Derived.Test.YtongceljdgmbdaaGreatDoorW7f14

namespace Go.Proofs.YtongceljdgmbdaaGreatDoor
open Go.RowKit Go.Pantry

theorem wp_append_fld {P : Program} {o : Oper} {a : Act} {K : Act → World → Prop} {Q : Exit → Act → World → Prop} (w : World) (s x : Operand) (t : TypeId)
    (ho : o.op = .call { callee := .builtin .append, args := #[s, x], argTypes := #[t, t] })
    (B : Nat) (e : TypeId) {z : Value} {bytes : Nat} (ht : P.underlying t = some (.slice e)) (hi : (P.info? e).map (fun i => (i.zero, i.size, i.bytes)) = some (some z, 2, bytes)) (hzs : z.cells.size = 2) (hby : bytes ≤ 4096)
    {v : Value} {n : Nat} {L : List Fld} (hs : a.eval s = v) (hown : w.ownsRow B e 2 v n (fldCells L)) (p : Fld)
    {g : Nat} (hx : a.eval x = .slice (some ⟨g, 0, none⟩) 1 1) (hgs : g = w.heap.size) (hn : n < 4294967296) (hB : B ≤ w.heap.size)
    (h : ∀ v' w', w'.ownsRow B e 2 v' (n + 1) (fldCells (L ++ [p])) → Below B w w' → K (a.put o.dst v') w') :
    o.wp P a (w.alloc (.cells #[strV p.1, strV p.2] e)) K Q := by
  subst hgs
  obtain ⟨i0, h1, h2, h3, h4⟩ := info_parts hi
  refine wp_append_own _ s x t ho B e i0 z 2 bytes ht h1 h2 h3 h4 hzs (by decide) v n _ hs (hown.alloc _) ⟨w.heap.size, 0, none⟩ 1 1 [strV p.1, strV p.2] hx rfl ?_ ?_ ?_ ?_ ?_ ?_
  · intro j y hj
    have e0 : (⟨w.heap.size, 0, none⟩ : Addr).add j = ⟨w.heap.size, j, none⟩ := by unfold Addr.add; split <;> simp_all
    rw [e0, World.cell?_alloc_at _ _ _ _ rfl]
    simpa using hj
  · intro y hy
    rcases List.mem_cons.1 hy with rfl | hy
    · rfl
    · rcases List.mem_cons.1 hy with rfl | hy
      · rfl
      · cases hy
  · unfold maxLen; omega
  · calc (n + 1) * bytes ≤ 4294967296 * 4096 := Nat.mul_le_mul (by omega) hby
      _ ≤ 140737488355328 := by decide
  · simp; omega
  · intro v' w' ho' hg _
    have hg' : w.grownBy w' v.ownBlock := ⟨hg.os, hg.tape, hg.output, Nat.le_trans (by simp) hg.size, fun k hk hne => (hg.block k (by simp; omega) hne).trans (Below.heap_alloc _ _ _ hk)⟩
    refine h v' w' ?_ ((Below.refl B w).grown hg' hB (fun k hk => (hown.lt k hk).1))
    rw [fldCells_append]
    exact ho'
theorem outs_bare (L : List Fld) : outF (outF L clL) teL = bareL L := by
  unfold outF bareL outsF
  rw [List.filter_filter]
  congr 1
  funext f
  have e1 : isF clL f = isF clN f := isF_same (by decide +kernel) f
  have e2 : isF teL f = isF teN f := isF_same (by decide +kernel) f
  simp only [List.any_cons, List.any_nil, e1, e2, Bool.or_false, Bool.not_or]
  exact Bool.and_comm _ _
set_option maxRecDepth 100000 in
set_option maxHeartbeats 16000000 in
theorem refPutQ_any (mt m t : List UInt8) (st z : Int) (vl vb : Value) (L : List Fld) (b : List UInt8) (w : World) (hm : m.length ≤ 100) (ht : t.length ≤ 1100) (hr : Reads2 w vl L) (hk : okFs L) (hl : L.length ≤ 999) (hb : Bytes w vb b) (hbl : b.length < 100000) :
    Calls Tryz.prog 25 #[.bool true, strV mt, hdV m t st z vl, vb] w fun e w' => PutPost w.heap.size (putX (rightQ m t z (putL L (if b = [] then none else some b.length))) (textH (reqLine ⟨m, t, 0, z.toNat, []⟩) (putL L (if b = [] then none else some b.length))) b false) e w' ∧ Below w.heap.size w w' := by
  obtain ⟨aol, cl, rfl⟩ := hr.form
  obtain ⟨aob, cb, rfl, hcb⟩ := bytes_form hb
  obtain ⟨W1, hW1⟩ : ∃ W, W = w.alloc (.cells #[strV m, strV t, .int .i64 st, .int .i64 z, .slice aol L.length cl] 47) := ⟨_, rfl⟩
  have hb1 : Below w.heap.size w W1 := by rw [hW1]; exact below_alloc _ _
  have hg1 : rowIs W1 w.heap.size #[strV m, strV t, .int .i64 st, .int .i64 z, .slice aol L.length cl] 47 := by rw [hW1]; exact rowIs_new _ _ _
  have cw1 := refWithout_any (.slice aol L.length cl) L ⟨#[99, 111, 110, 116, 101, 110, 116, 45, 108, 101, 110, 103, 116, 104]⟩ W1 (hr.below hb1) (fun f hf => by have := (hk.2 f hf).1; omega) (by have := hk.1; omega) (by decide)
  rw [show outF L (⟨#[99, 111, 110, 116, 101, 110, 116, 45, 108, 101, 110, 103, 116, 104]⟩ : ByteArray).data.toList = outF L clL from rfl] at cw1
  have CW1 := hid cw1
  have HBY := hid hb
  clear hr hb cw1
  generalize ho : (if b = [] then none else some b.length) = o
  have HO := hid ho
  clear ho
  go_enter Tryz.func25, Tryz.ntmps25
  go_wp2_with fail
  rw [← hW1]
  clear hW1
  refine CW1.out.mono ?_
  rintro e w2 ⟨⟨va, ka, rfl, hoa⟩, hb2⟩
  have hga := hg1.below hb2
  have hba := chain2 hb1 hb1.size hb2
  obtain ⟨hka, hra⟩ := hoa.reads2
  have cw2 := refWithout_any va (outF L clL) ⟨#[116, 114, 97, 110, 115, 102, 101, 114, 45, 101, 110, 99, 111, 100, 105, 110, 103]⟩ w2 hra (fun f hf => by have := (hk.2 f (List.mem_filter.1 hf).1).1; omega) (by have := outF_len L clL; omega) (by decide)
  rw [show outF (outF L clL) (⟨#[116, 114, 97, 110, 115, 102, 101, 114, 45, 101, 110, 99, 111, 100, 105, 110, 103]⟩ : ByteArray).data.toList = bareL L from outs_bare L] at cw2
  have CW2 := hid cw2
  clear CW1 hb2 hg1 hb1 hoa hka hra cw2
  go_wp2_with fail
  refine CW2.out.mono ?_
  rintro e w3 ⟨⟨vb1, k1, rfl, hob0⟩, hb3⟩
  have hg3 := hga.below hb3
  have hbA := chain2 hba hba.size hb3
  have hgl3 := hga.lt
  have hob1 := hob0.base (show w.heap.size + 1 ≤ w2.heap.size by omega)
  obtain ⟨hk1, hr1⟩ := hob1.reads2
  obtain ⟨ao1, c1, rfl⟩ := hr1.form
  have hlb := bareL_len L
  obtain ⟨n1, hn1⟩ : ∃ n1, (bareL L).length = n1 := ⟨_, rfl⟩
  rw [hn1] at hob1 hr1 hlb ⊢
  have hk1n : k1 < 4294967296 := by
    have h := hob1.1
    rw [fldCells_len, hn1] at h
    have := hk.1
    omega
  have HN1 := hid hk1n
  obtain ⟨W4, hW4⟩ : ∃ W, W = w3.setCell ⟨w.heap.size, 4, none⟩ (.slice ao1 n1 c1) := ⟨_, rfl⟩
  have hk4 : Kept (fun k => k = w.heap.size) w3 W4 := by rw [hW4]; exact (Kept.refl (fun k => k = w.heap.size) _).setCell (i := 4) (.inl rfl) _
  have hg4 : rowIs W4 w.heap.size #[strV m, strV t, .int .i64 st, .int .i64 z, .slice ao1 n1 c1] 47 := by rw [hW4]; exact hg3.setCell 4 _
  have ho4 := ownsRow_kept hob1 hk4 ((ownsRow_in hob1).mono fun k hk => by have := hk.1; omega)
  have hbB : Below w.heap.size w W4 := by rw [hW4]; exact hbA.setCell (p := ⟨w.heap.size, 4, none⟩) (Nat.le_refl _) _
  have hc4 := hg3.cell 4
  have hf4 := hg3.free 4
  have HR4 := hid ho4.reads2.2
  change Hid (Reads2 W4 _ (putL L none)) at HR4
  have HO4 := hid ho4
  clear hga hba CW2 hb3 hg3 hbA hob0 hob1 hr1 hk4 ho4 hgl3 hk1 hk1n hlb hn1
  by_cases hbe : b = []
  · subst hbe
    have ho := HO.out
    rw [if_pos rfl] at ho
    subst ho
    clear HO
    simp only [List.length_nil] at *
    have hkP := okFs_putL hk hl (o := none) (fun n h => by cases h)
    have hrow := hg4
    have HP := HR4
    clear hg4 HR4 HO4 HN1
    generalize ao1 = aoP at *
    generalize n1 = nP at *
    generalize c1 = cP at *

    have g0 := hrow.cell 0
    have g1 := hrow.cell 1
    have g2 := hrow.cell 2
    have g3 := hrow.cell 3
    have g4 := hrow.cell 4
    rw [hW4] at g0 g1 g2 g3 g4
    have hgl := hrow.lt
    obtain ⟨T, hT⟩ : ∃ T, textH (reqLine ⟨m, t, 0, z.toNat, []⟩) (putL L none) = T := ⟨_, rfl⟩
    have HT := hid hT
    have CR := hid (refRightReq_any m t st z (.slice aoP nP cP) (putL L none) W4 (by omega) (by omega) HP.out hkP)
    cases hq : rightQ m t z (putL L none) with
    | false =>
      rw [hq] at CR
      have HQ := hid hq
      clear hq hkP HP hT
      go_wp2_with fail
      rw [← hW4]
      clear hW4 g0 g1 g2 g3 g4 hc4 hf4
      refine CR.out.mono ?_
      rintro e w5 ⟨rfl, hb5⟩
      have HB := hid (chain2 hbB hbB.size hb5)
      clear CR hb5 hrow hbB
      go_wp2_with fail
      go_ret2
      refine ⟨?_, HB.out⟩
      unfold putX
      rw [HQ.out, if_pos rfl]
      exact ⟨by decide, rfl⟩
    | true =>
      rw [hq] at CR
      have HQ := hid hq
      have hz0 := rightQ_pos hq
      have ct := fun W' h => refTextReq_any m t st z (.slice aoP nP cP) (putL L none) W' hm ht hz0 h hkP
      rw [hT] at ct
      have CT := hid ct
      clear hq hkP hT ct hz0
      go_wp2_with fail
      rw [← hW4]
      clear hW4 g0 g1 g2 g3 g4 hc4 hf4
      refine CR.out.mono ?_
      rintro e w5 ⟨rfl, hb5⟩
      have hrow5 := hrow.below hb5
      have hbN := chain2 hbB hbB.size hb5
      have HP5 := hid (HP.out.below hb5)
      have g0 := hrow5.cell 0
      have g1 := hrow5.cell 1
      have g2 := hrow5.cell 2
      have g3 := hrow5.cell 3
      have g4 := hrow5.cell 4
      clear CR hb5 hrow hbB HP
      go_wp2_with fail
      refine (CT.out _ HP5.out).mono ?_
      rintro e w6 ⟨rfl, hb6⟩
      have HB6 := hid (chain2 hbN hbN.size hb6)
      clear CT HP5 g0 g1 g2 g3 g4 hrow5 hbN hb6
      by_cases h4 : 4096 < T.length
      · have h4z : (4096 : Int) < (T.length : Int) := by omega
        have H4 := hid h4
        clear h4
        go_wp2_with fail
        go_ret2
        refine ⟨?_, HB6.out⟩
        unfold putX
        rw [HQ.out, HT.out, if_neg (by simp), if_pos H4.out]
        exact ⟨by decide, rfl⟩
      · have h4z : ¬ (4096 : Int) < (T.length : Int) := by omega
        have H4 := hid h4
        clear h4
        by_cases h2 : 2048 < 0
        · exact absurd h2 (by simp)
        · have h2z : ¬ (2048 : Int) < (0 : Int) := by omega
          have H2 := hid h2
          clear h2
          obtain ⟨capb, W8, cur, fz, hcv, hg8, hfz, hcc, htk, hxc, hbW8⟩ := bytes_conv (P := Tryz.prog) w6 T 9 27 5 Tryz.underlying9 Tryz.underlying27 Tryz.underlying5
          have hxl : (T.map byteV).length = T.length := List.length_map ..
          have hrest := (bytesRead (bytes_below HBY.out HB6.out)).below hbW8
          rw [← hxl] at htk hxc
          have hnn : (T.map byteV).length + (List.map byteV ([] : List UInt8)).length < 4294967296 := by rw [List.length_map, List.length_map]; have := H4.out; first | omega | (simp only [List.length_nil]; omega)
          have HA := hid (And.intro hg8 (And.intro hfz (And.intro hcc (And.intro htk (And.intro hxc (And.intro hrest (And.intro hnn hbW8)))))))
          clear hg8 hfz hcc htk hxc hrest hnn hbW8
          go_wp2_with (at_builtin; (refine wpList_append_marked2 _ rfl _ _ 27 rfl w6.heap.size 5 Tryz.underlying27 infoU8 (by decide) (T.map byteV) (by rw [hxl]; rfl) HA.out.1 HA.out.2.1 HA.out.2.2.1 HA.out.2.2.2.1 HA.out.2.2.2.2.1 HA.out.2.2.2.2.2.1 (oneCell_bytes ([] : List UInt8)) rfl HA.out.2.2.2.2.2.2.1 (Nat.le_refl _) ?_); intro v9 w9 hrd9 hrm9 hb9)
          obtain ⟨-, -, -, -, -, -, -, hbW8⟩ := HA.out
          rw [← List.map_append] at hrd9
          obtain ⟨ao5, cp5, rfl⟩ := hrd9.form
          rw [List.length_map] at hrd9 hrm9 ⊢
          have hroom := hrm9 _ _ _ rfl
          have HY9 := hid (bytes_of hrd9 hroom)
          have HB9 := hid (chain2 HB6.out HB6.out.size (hbW8.trans hb9))
          clear hrd9 hrm9 hroom hbW8 hb9 HA
          go_ret2
          refine ⟨?_, HB9.out⟩
          unfold putX
          try simp only [List.length_nil]
          rw [HQ.out, HT.out, if_neg (by simp), if_neg H4.out, if_neg H2.out]
          exact ⟨_, _, rfl, HY9.out⟩
  · have hz0 : 0 < b.length := List.length_pos_iff.2 hbe
    have hz1 : (0 : Int) < (b.length : Int) := by omega
    have ho := HO.out
    rw [if_neg hbe] at ho
    subst ho
    clear HO
    have g0 := hg4.cell 4
    rw [hW4] at g0
    go_wp2_with fail
    rw [← hW4]
    clear hW4 hc4 hf4 g0
    refine wp_region_held_drew (S := fun _ => True) (by kernel_rfl) trivial (fun hH => ?_)
    refine wpAnyH_take (i := 0) (v := ?_) rfl (by kernel_rfl) (by kernel_rfl) (by kernel_rfl) (fun _ _ _ h => h) (Or.inl ⟨by kernel_rfl, ?_⟩) hH ?_
    rotate_left
    · intro W hS
      go_simp
      first | done | with_reducible rfl
    simp only [Act.put, List.getElem_toArray, List.getElem_cons_succ, List.getElem_cons_zero, List.setIfInBounds_toArray, List.set_cons_zero, List.set_cons_succ]
    refine wpAnyH_take (i := 2) (v := ?_) rfl (by kernel_rfl) (by kernel_rfl) (by kernel_rfl) (fun _ _ _ h => h) (Or.inl ⟨by kernel_rfl, ?_⟩) hH ?_
    rotate_left
    · intro W hS
      go_simp
      first | done | with_reducible rfl
    simp only [Act.put, List.getElem_toArray, List.getElem_cons_succ, List.getElem_cons_zero, List.setIfInBounds_toArray, List.set_cons_zero, List.set_cons_succ]
    refine wpAnyH_take (i := 3) (v := ?_) rfl (by kernel_rfl) (by kernel_rfl) (by kernel_rfl) (fun _ _ _ h => h) (Or.inl ⟨by kernel_rfl, ?_⟩) hH ?_
    rotate_left
    · intro W hS
      go_simp
      first | done | with_reducible rfl
    simp only [Act.put, List.getElem_toArray, List.getElem_cons_succ, List.getElem_cons_zero, List.setIfInBounds_toArray, List.set_cons_zero, List.set_cons_succ]
    have hgD : rowIs W4.drew w.heap.size #[strV m, strV t, .int .i64 st, .int .i64 z, .slice ao1 n1 c1] 47 := hg4
    have hbD := hbB.drew
    have HPD := hid (HO4.out.below ((Below.refl _ _).drew))
    clear hg4 hbB HR4 HO4 hH
    generalize W4.drew = wd at *
    refine wpAnyH_ready (rs := [1, 4]) (by kernel_rfl) (by simp) ?_
    refine AllReadyH.cons rfl (fun K hK => ?_) (AllReadyH.cons rfl (fun K hK => ?_) AllReadyH.nil)
    ·
      have q1 := hgD.cell 4
      have p1 := fun o => (hgD.below (below_alloc wd o)).cell 4
      go_simp
      clear q1 p1
      refine hK.out _ _ trivial (fun _ => ?_)
      clear hK K
      try simp only [Act.put, List.getElem_toArray, List.getElem_cons_succ, List.getElem_cons_zero, List.setIfInBounds_toArray, List.set_cons_zero, List.set_cons_succ]
      refine wpAnyH_ready (rs := [4]) (by kernel_rfl) (by simp) ?_
      refine AllReadyH.cons rfl (fun K hK => ?_) AllReadyH.nil
      go_simp
      refine (digits_any 4 b.length _ wd rfl (by have := hbl; omega) (by decide)).mono ?_
      rintro e wx2 ⟨rfl, hx2⟩
      have hg2x := hgD.below hx2
      have hb2x := chain2 hbD hbD.size hx2
      have HP2x := hid (HPD.out.below hx2)
      clear hgD hbD HPD hx2
      refine hK.out _ _ trivial (fun _ => ?_)
      clear hK K
      try simp only [Act.put, List.getElem_toArray, List.getElem_cons_succ, List.getElem_cons_zero, List.setIfInBounds_toArray, List.set_cons_zero, List.set_cons_succ]
      refine wpAnyH_take (i := 5) (v := ?_) rfl (by kernel_rfl) (by kernel_rfl) (by kernel_rfl) (fun _ _ _ h => h) (Or.inl ⟨by kernel_rfl, ?_⟩) trivial ?_
      rotate_left
      · intro W hS
        go_simp
        first | done | with_reducible rfl
      simp only [Act.put, List.getElem_toArray, List.getElem_cons_succ, List.getElem_cons_zero, List.setIfInBounds_toArray, List.set_cons_zero, List.set_cons_succ]
      refine wpAnyH_ready (rs := [6]) (by kernel_rfl) (by simp) ?_
      refine AllReadyH.cons rfl (fun K hK => ?_) AllReadyH.nil
      have hz3x := hid (Nat.succ_le_of_lt hg2x.lt)
      go_simp
      refine hK.out _ _ trivial (fun _ => ?_)
      clear hK K
      try simp only [Act.put, List.getElem_toArray, List.getElem_cons_succ, List.getElem_cons_zero, List.setIfInBounds_toArray, List.set_cons_zero, List.set_cons_succ]
      refine wpAnyH_ready (rs := [7]) (by kernel_rfl) (by simp) ?_
      refine AllReadyH.cons rfl (fun K hK => ?_) AllReadyH.nil
      refine wp_append_fld (v := .slice ao1 n1 c1) (n := k1) (L := bareL L) (g := wx2.heap.size) wx2 _ _ 45 rfl (w.heap.size + 1) 112 Tryz.underlying45 infoFld3 rfl (by decide) rfl HP2x.out (clN, digF 5 b.length) rfl rfl HN1.out hz3x.out ?_
      intro v9 wx4 ho9 hx4
      rw [← decL_five hbl] at ho9
      obtain ⟨-, hr9⟩ := ho9.reads2
      obtain ⟨ao9, c9, rfl⟩ := hr9.form
      generalize (bareL L ++ [(clN, decL b.length)]).length = N9 at hr9 ho9 ⊢
      have hin9 := (ownsRow_in ho9)
      have hg4x : rowIs wx4 w.heap.size #[strV m, strV t, .int .i64 st, .int .i64 z, .slice ao1 n1 c1] 47 := (hx4.block w.heap.size (Nat.lt_succ_self _)).trans hg2x
      have hb4x := hb2x.trans (hx4.mono (Nat.le_succ _))
      have q4 := hg4x.cell 4
      have f4 := hg4x.free 4
      have hk9 := (Kept.refl (fun k => k = w.heap.size) wx4).setCell (i := 4) (.inl rfl) (.slice ao9 N9 c9)
      have HP := hid (reads2_kept hr9 hk9 (hin9.mono fun k hk => by have := hk.1; omega))
      change Hid (Reads2 _ _ (putL L (some b.length))) at HP
      have hrow := hg4x.setCell 4 (.slice ao9 N9 c9)
      have hbB := hb4x.setCell (p := ⟨w.heap.size, 4, none⟩) (Nat.le_refl _) (.slice ao9 N9 c9)
      have HROW := hid (And.intro hrow hbB)
      clear hg2x hb2x HP2x hz3x hx4 ho9 hr9 hin9 hk9 hg4x hb4x hrow hbB
      refine hK.out _ _ trivial (fun _ => ?_)
      clear hK K
      try simp only [Act.put, List.getElem_toArray, List.getElem_cons_succ, List.getElem_cons_zero, List.setIfInBounds_toArray, List.set_cons_zero, List.set_cons_succ]
      refine wpAnyH_take (i := 8) (v := ?_) rfl (by kernel_rfl) (by kernel_rfl) (by kernel_rfl) (fun _ _ _ h => h) (Or.inl ⟨by kernel_rfl, ?_⟩) trivial ?_
      rotate_left
      · intro W hS
        go_simp
        first | done | with_reducible rfl
      simp only [Act.put, List.getElem_toArray, List.getElem_cons_succ, List.getElem_cons_zero, List.setIfInBounds_toArray, List.set_cons_zero, List.set_cons_succ]
      refine wpAnyH_ready (rs := [9]) (by kernel_rfl) (by simp) ?_
      refine AllReadyH.cons rfl (fun K hK => ?_) AllReadyH.nil
      go_simp
      refine hK.out _ _ trivial (fun _ => ?_)
      clear hK K
      try simp only [Act.put, List.getElem_toArray, List.getElem_cons_succ, List.getElem_cons_zero, List.setIfInBounds_toArray, List.set_cons_zero, List.set_cons_succ]
      refine wpAnyH_done (by kernel_rfl) ?_ _
      clear q4 f4
      obtain ⟨hrow, hbB⟩ := HROW.out
      have hkP := okFs_putL hk hl (o := some b.length) (fun n h => by cases h; exact hbl)
      obtain ⟨wf, hwf⟩ : ∃ W, W = wx4.setCell ⟨w.heap.size, 4, none⟩ (.slice ao9 N9 c9) := ⟨_, rfl⟩
      rw [← hwf] at hrow hbB HP ⊢
      clear hwf HROW
      generalize ao9 = aoP at *
      generalize N9 = nP at *
      generalize c9 = cP at *
      have g0 := hrow.cell 0
      have g1 := hrow.cell 1
      have g2 := hrow.cell 2
      have g3 := hrow.cell 3
      have g4 := hrow.cell 4
      have hgl := hrow.lt
      obtain ⟨T, hT⟩ : ∃ T, textH (reqLine ⟨m, t, 0, z.toNat, []⟩) (putL L (some b.length)) = T := ⟨_, rfl⟩
      have HT := hid hT
      have CR := hid (refRightReq_any m t st z (.slice aoP nP cP) (putL L (some b.length)) wf (by omega) (by omega) HP.out hkP)
      cases hq : rightQ m t z (putL L (some b.length)) with
      | false =>
        rw [hq] at CR
        have HQ := hid hq
        clear hq hkP HP hT
        go_wp2_with fail
        skip
        refine CR.out.mono ?_
        rintro e w5 ⟨rfl, hb5⟩
        have HB := hid (chain2 hbB hbB.size hb5)
        clear CR hb5 hrow hbB
        go_wp2_with fail
        go_ret2
        refine ⟨?_, HB.out⟩
        unfold putX
        rw [HQ.out, if_pos rfl]
        exact ⟨by decide, rfl⟩
      | true =>
        rw [hq] at CR
        have HQ := hid hq
        have hz0 := rightQ_pos hq
        have ct := fun W' h => refTextReq_any m t st z (.slice aoP nP cP) (putL L (some b.length)) W' hm ht hz0 h hkP
        rw [hT] at ct
        have CT := hid ct
        clear hq hkP hT ct hz0
        go_wp2_with fail
        skip
        refine CR.out.mono ?_
        rintro e w5 ⟨rfl, hb5⟩
        have hrow5 := hrow.below hb5
        have hbN := chain2 hbB hbB.size hb5
        have HP5 := hid (HP.out.below hb5)
        have g0 := hrow5.cell 0
        have g1 := hrow5.cell 1
        have g2 := hrow5.cell 2
        have g3 := hrow5.cell 3
        have g4 := hrow5.cell 4
        clear CR hb5 hrow hbB HP
        go_wp2_with fail
        refine (CT.out _ HP5.out).mono ?_
        rintro e w6 ⟨rfl, hb6⟩
        have HB6 := hid (chain2 hbN hbN.size hb6)
        clear CT HP5 g0 g1 g2 g3 g4 hrow5 hbN hb6
        by_cases h4 : 4096 < T.length
        · have h4z : (4096 : Int) < (T.length : Int) := by omega
          have H4 := hid h4
          clear h4
          go_wp2_with fail
          go_ret2
          refine ⟨?_, HB6.out⟩
          unfold putX
          rw [HQ.out, HT.out, if_neg (by simp), if_pos H4.out]
          exact ⟨by decide, rfl⟩
        · have h4z : ¬ (4096 : Int) < (T.length : Int) := by omega
          have H4 := hid h4
          clear h4
          by_cases h2 : 2048 < b.length
          · have h2z : (2048 : Int) < (b.length : Int) := by omega
            have H2 := hid h2
            clear h2
            go_wp2_with fail
            go_ret2
            refine ⟨?_, HB6.out⟩
            unfold putX
            rw [HQ.out, HT.out, if_neg (by simp), if_neg H4.out, if_pos H2.out]
            exact ⟨by decide, rfl⟩
          · have h2z : ¬ (2048 : Int) < (b.length : Int) := by omega
            have H2 := hid h2
            clear h2
            obtain ⟨capb, W8, cur, fz, hcv, hg8, hfz, hcc, htk, hxc, hbW8⟩ := bytes_conv (P := Tryz.prog) w6 T 9 27 5 Tryz.underlying9 Tryz.underlying27 Tryz.underlying5
            have hxl : (T.map byteV).length = T.length := List.length_map ..
            have hrest := (bytesRead (bytes_below HBY.out HB6.out)).below hbW8
            rw [← hxl] at htk hxc
            have hnn : (T.map byteV).length + (List.map byteV b).length < 4294967296 := by rw [List.length_map, List.length_map]; have := H4.out; first | omega | (simp only [List.length_nil]; omega)
            have HA := hid (And.intro hg8 (And.intro hfz (And.intro hcc (And.intro htk (And.intro hxc (And.intro hrest (And.intro hnn hbW8)))))))
            clear hg8 hfz hcc htk hxc hrest hnn hbW8
            go_wp2_with (at_builtin; (refine wpList_append_marked2 _ rfl _ _ 27 rfl w6.heap.size 5 Tryz.underlying27 infoU8 (by decide) (T.map byteV) (by rw [hxl]; rfl) HA.out.1 HA.out.2.1 HA.out.2.2.1 HA.out.2.2.2.1 HA.out.2.2.2.2.1 HA.out.2.2.2.2.2.1 (oneCell_bytes b) rfl HA.out.2.2.2.2.2.2.1 (Nat.le_refl _) ?_); intro v9 w9 hrd9 hrm9 hb9)
            obtain ⟨-, -, -, -, -, -, -, hbW8⟩ := HA.out
            rw [← List.map_append] at hrd9
            obtain ⟨ao5, cp5, rfl⟩ := hrd9.form
            rw [List.length_map] at hrd9 hrm9 ⊢
            have hroom := hrm9 _ _ _ rfl
            have HY9 := hid (bytes_of hrd9 hroom)
            have HB9 := hid (chain2 HB6.out HB6.out.size (hbW8.trans hb9))
            clear hrd9 hrm9 hroom hbW8 hb9 HA
            go_ret2
            refine ⟨?_, HB9.out⟩
            unfold putX
            try simp only [List.length_nil]
            rw [HQ.out, HT.out, if_neg (by simp), if_neg H4.out, if_neg H2.out]
            exact ⟨_, _, rfl, HY9.out⟩
    ·
      go_simp
      refine (digits_any 4 b.length _ wd rfl (by have := hbl; omega) (by decide)).mono ?_
      rintro e wx1 ⟨rfl, hx1⟩
      have hg1x := hgD.below hx1
      have hb1x := chain2 hbD hbD.size hx1
      have HP1x := hid (HPD.out.below hx1)
      clear hgD hbD HPD hx1
      refine hK.out _ _ trivial (fun _ => ?_)
      clear hK K
      try simp only [Act.put, List.getElem_toArray, List.getElem_cons_succ, List.getElem_cons_zero, List.setIfInBounds_toArray, List.set_cons_zero, List.set_cons_succ]
      refine wpAnyH_take (i := 5) (v := ?_) rfl (by kernel_rfl) (by kernel_rfl) (by kernel_rfl) (fun _ _ _ h => h) (Or.inl ⟨by kernel_rfl, ?_⟩) trivial ?_
      rotate_left
      · intro W hS
        go_simp
        first | done | with_reducible rfl
      simp only [Act.put, List.getElem_toArray, List.getElem_cons_succ, List.getElem_cons_zero, List.setIfInBounds_toArray, List.set_cons_zero, List.set_cons_succ]
      refine wpAnyH_ready (rs := [1, 6]) (by kernel_rfl) (by simp) ?_
      refine AllReadyH.cons rfl (fun K hK => ?_) (AllReadyH.cons rfl (fun K hK => ?_) AllReadyH.nil)
      ·
        have q2 := hg1x.cell 4
        have p2 := fun o => (hg1x.below (below_alloc wx1 o)).cell 4
        go_simp
        clear q2 p2
        refine hK.out _ _ trivial (fun _ => ?_)
        clear hK K
        try simp only [Act.put, List.getElem_toArray, List.getElem_cons_succ, List.getElem_cons_zero, List.setIfInBounds_toArray, List.set_cons_zero, List.set_cons_succ]
        refine wpAnyH_ready (rs := [6]) (by kernel_rfl) (by simp) ?_
        refine AllReadyH.cons rfl (fun K hK => ?_) AllReadyH.nil
        have hz3x := hid (Nat.succ_le_of_lt hg1x.lt)
        go_simp
        refine hK.out _ _ trivial (fun _ => ?_)
        clear hK K
        try simp only [Act.put, List.getElem_toArray, List.getElem_cons_succ, List.getElem_cons_zero, List.setIfInBounds_toArray, List.set_cons_zero, List.set_cons_succ]
        refine wpAnyH_ready (rs := [7]) (by kernel_rfl) (by simp) ?_
        refine AllReadyH.cons rfl (fun K hK => ?_) AllReadyH.nil
        refine wp_append_fld (v := .slice ao1 n1 c1) (n := k1) (L := bareL L) (g := wx1.heap.size) wx1 _ _ 45 rfl (w.heap.size + 1) 112 Tryz.underlying45 infoFld3 rfl (by decide) rfl HP1x.out (clN, digF 5 b.length) rfl rfl HN1.out hz3x.out ?_
        intro v9 wx4 ho9 hx4
        rw [← decL_five hbl] at ho9
        obtain ⟨-, hr9⟩ := ho9.reads2
        obtain ⟨ao9, c9, rfl⟩ := hr9.form
        generalize (bareL L ++ [(clN, decL b.length)]).length = N9 at hr9 ho9 ⊢
        have hin9 := (ownsRow_in ho9)
        have hg4x : rowIs wx4 w.heap.size #[strV m, strV t, .int .i64 st, .int .i64 z, .slice ao1 n1 c1] 47 := (hx4.block w.heap.size (Nat.lt_succ_self _)).trans hg1x
        have hb4x := hb1x.trans (hx4.mono (Nat.le_succ _))
        have q4 := hg4x.cell 4
        have f4 := hg4x.free 4
        have hk9 := (Kept.refl (fun k => k = w.heap.size) wx4).setCell (i := 4) (.inl rfl) (.slice ao9 N9 c9)
        have HP := hid (reads2_kept hr9 hk9 (hin9.mono fun k hk => by have := hk.1; omega))
        change Hid (Reads2 _ _ (putL L (some b.length))) at HP
        have hrow := hg4x.setCell 4 (.slice ao9 N9 c9)
        have hbB := hb4x.setCell (p := ⟨w.heap.size, 4, none⟩) (Nat.le_refl _) (.slice ao9 N9 c9)
        have HROW := hid (And.intro hrow hbB)
        clear hg1x hb1x HP1x hz3x hx4 ho9 hr9 hin9 hk9 hg4x hb4x hrow hbB
        refine hK.out _ _ trivial (fun _ => ?_)
        clear hK K
        try simp only [Act.put, List.getElem_toArray, List.getElem_cons_succ, List.getElem_cons_zero, List.setIfInBounds_toArray, List.set_cons_zero, List.set_cons_succ]
        refine wpAnyH_take (i := 8) (v := ?_) rfl (by kernel_rfl) (by kernel_rfl) (by kernel_rfl) (fun _ _ _ h => h) (Or.inl ⟨by kernel_rfl, ?_⟩) trivial ?_
        rotate_left
        · intro W hS
          go_simp
          first | done | with_reducible rfl
        simp only [Act.put, List.getElem_toArray, List.getElem_cons_succ, List.getElem_cons_zero, List.setIfInBounds_toArray, List.set_cons_zero, List.set_cons_succ]
        refine wpAnyH_ready (rs := [9]) (by kernel_rfl) (by simp) ?_
        refine AllReadyH.cons rfl (fun K hK => ?_) AllReadyH.nil
        go_simp
        refine hK.out _ _ trivial (fun _ => ?_)
        clear hK K
        try simp only [Act.put, List.getElem_toArray, List.getElem_cons_succ, List.getElem_cons_zero, List.setIfInBounds_toArray, List.set_cons_zero, List.set_cons_succ]
        refine wpAnyH_done (by kernel_rfl) ?_ _
        clear q4 f4
        obtain ⟨hrow, hbB⟩ := HROW.out
        have hkP := okFs_putL hk hl (o := some b.length) (fun n h => by cases h; exact hbl)
        obtain ⟨wf, hwf⟩ : ∃ W, W = wx4.setCell ⟨w.heap.size, 4, none⟩ (.slice ao9 N9 c9) := ⟨_, rfl⟩
        rw [← hwf] at hrow hbB HP ⊢
        clear hwf HROW
        generalize ao9 = aoP at *
        generalize N9 = nP at *
        generalize c9 = cP at *
        have g0 := hrow.cell 0
        have g1 := hrow.cell 1
        have g2 := hrow.cell 2
        have g3 := hrow.cell 3
        have g4 := hrow.cell 4
        have hgl := hrow.lt
        obtain ⟨T, hT⟩ : ∃ T, textH (reqLine ⟨m, t, 0, z.toNat, []⟩) (putL L (some b.length)) = T := ⟨_, rfl⟩
        have HT := hid hT
        have CR := hid (refRightReq_any m t st z (.slice aoP nP cP) (putL L (some b.length)) wf (by omega) (by omega) HP.out hkP)
        cases hq : rightQ m t z (putL L (some b.length)) with
        | false =>
          rw [hq] at CR
          have HQ := hid hq
          clear hq hkP HP hT
          go_wp2_with fail
          skip
          refine CR.out.mono ?_
          rintro e w5 ⟨rfl, hb5⟩
          have HB := hid (chain2 hbB hbB.size hb5)
          clear CR hb5 hrow hbB
          go_wp2_with fail
          go_ret2
          refine ⟨?_, HB.out⟩
          unfold putX
          rw [HQ.out, if_pos rfl]
          exact ⟨by decide, rfl⟩
        | true =>
          rw [hq] at CR
          have HQ := hid hq
          have hz0 := rightQ_pos hq
          have ct := fun W' h => refTextReq_any m t st z (.slice aoP nP cP) (putL L (some b.length)) W' hm ht hz0 h hkP
          rw [hT] at ct
          have CT := hid ct
          clear hq hkP hT ct hz0
          go_wp2_with fail
          skip
          refine CR.out.mono ?_
          rintro e w5 ⟨rfl, hb5⟩
          have hrow5 := hrow.below hb5
          have hbN := chain2 hbB hbB.size hb5
          have HP5 := hid (HP.out.below hb5)
          have g0 := hrow5.cell 0
          have g1 := hrow5.cell 1
          have g2 := hrow5.cell 2
          have g3 := hrow5.cell 3
          have g4 := hrow5.cell 4
          clear CR hb5 hrow hbB HP
          go_wp2_with fail
          refine (CT.out _ HP5.out).mono ?_
          rintro e w6 ⟨rfl, hb6⟩
          have HB6 := hid (chain2 hbN hbN.size hb6)
          clear CT HP5 g0 g1 g2 g3 g4 hrow5 hbN hb6
          by_cases h4 : 4096 < T.length
          · have h4z : (4096 : Int) < (T.length : Int) := by omega
            have H4 := hid h4
            clear h4
            go_wp2_with fail
            go_ret2
            refine ⟨?_, HB6.out⟩
            unfold putX
            rw [HQ.out, HT.out, if_neg (by simp), if_pos H4.out]
            exact ⟨by decide, rfl⟩
          · have h4z : ¬ (4096 : Int) < (T.length : Int) := by omega
            have H4 := hid h4
            clear h4
            by_cases h2 : 2048 < b.length
            · have h2z : (2048 : Int) < (b.length : Int) := by omega
              have H2 := hid h2
              clear h2
              go_wp2_with fail
              go_ret2
              refine ⟨?_, HB6.out⟩
              unfold putX
              rw [HQ.out, HT.out, if_neg (by simp), if_neg H4.out, if_pos H2.out]
              exact ⟨by decide, rfl⟩
            · have h2z : ¬ (2048 : Int) < (b.length : Int) := by omega
              have H2 := hid h2
              clear h2
              obtain ⟨capb, W8, cur, fz, hcv, hg8, hfz, hcc, htk, hxc, hbW8⟩ := bytes_conv (P := Tryz.prog) w6 T 9 27 5 Tryz.underlying9 Tryz.underlying27 Tryz.underlying5
              have hxl : (T.map byteV).length = T.length := List.length_map ..
              have hrest := (bytesRead (bytes_below HBY.out HB6.out)).below hbW8
              rw [← hxl] at htk hxc
              have hnn : (T.map byteV).length + (List.map byteV b).length < 4294967296 := by rw [List.length_map, List.length_map]; have := H4.out; first | omega | (simp only [List.length_nil]; omega)
              have HA := hid (And.intro hg8 (And.intro hfz (And.intro hcc (And.intro htk (And.intro hxc (And.intro hrest (And.intro hnn hbW8)))))))
              clear hg8 hfz hcc htk hxc hrest hnn hbW8
              go_wp2_with (at_builtin; (refine wpList_append_marked2 _ rfl _ _ 27 rfl w6.heap.size 5 Tryz.underlying27 infoU8 (by decide) (T.map byteV) (by rw [hxl]; rfl) HA.out.1 HA.out.2.1 HA.out.2.2.1 HA.out.2.2.2.1 HA.out.2.2.2.2.1 HA.out.2.2.2.2.2.1 (oneCell_bytes b) rfl HA.out.2.2.2.2.2.2.1 (Nat.le_refl _) ?_); intro v9 w9 hrd9 hrm9 hb9)
              obtain ⟨-, -, -, -, -, -, -, hbW8⟩ := HA.out
              rw [← List.map_append] at hrd9
              obtain ⟨ao5, cp5, rfl⟩ := hrd9.form
              rw [List.length_map] at hrd9 hrm9 ⊢
              have hroom := hrm9 _ _ _ rfl
              have HY9 := hid (bytes_of hrd9 hroom)
              have HB9 := hid (chain2 HB6.out HB6.out.size (hbW8.trans hb9))
              clear hrd9 hrm9 hroom hbW8 hb9 HA
              go_ret2
              refine ⟨?_, HB9.out⟩
              unfold putX
              try simp only [List.length_nil]
              rw [HQ.out, HT.out, if_neg (by simp), if_neg H4.out, if_neg H2.out]
              exact ⟨_, _, rfl, HY9.out⟩
      ·
        have hz2x := hid (Nat.succ_le_of_lt hg1x.lt)
        go_simp
        refine hK.out _ _ trivial (fun _ => ?_)
        clear hK K
        try simp only [Act.put, List.getElem_toArray, List.getElem_cons_succ, List.getElem_cons_zero, List.setIfInBounds_toArray, List.set_cons_zero, List.set_cons_succ]
        refine wpAnyH_ready (rs := [1]) (by kernel_rfl) (by simp) ?_
        refine AllReadyH.cons rfl (fun K hK => ?_) AllReadyH.nil
        have q3 := hg1x.cell 4
        have p3 := fun o => (hg1x.below (below_alloc wx1 o)).cell 4
        go_simp
        clear q3 p3
        refine hK.out _ _ trivial (fun _ => ?_)
        clear hK K
        try simp only [Act.put, List.getElem_toArray, List.getElem_cons_succ, List.getElem_cons_zero, List.setIfInBounds_toArray, List.set_cons_zero, List.set_cons_succ]
        refine wpAnyH_ready (rs := [7]) (by kernel_rfl) (by simp) ?_
        refine AllReadyH.cons rfl (fun K hK => ?_) AllReadyH.nil
        refine wp_append_fld (v := .slice ao1 n1 c1) (n := k1) (L := bareL L) (g := wx1.heap.size) wx1 _ _ 45 rfl (w.heap.size + 1) 112 Tryz.underlying45 infoFld3 rfl (by decide) rfl HP1x.out (clN, digF 5 b.length) rfl rfl HN1.out hz2x.out ?_
        intro v9 wx4 ho9 hx4
        rw [← decL_five hbl] at ho9
        obtain ⟨-, hr9⟩ := ho9.reads2
        obtain ⟨ao9, c9, rfl⟩ := hr9.form
        generalize (bareL L ++ [(clN, decL b.length)]).length = N9 at hr9 ho9 ⊢
        have hin9 := (ownsRow_in ho9)
        have hg4x : rowIs wx4 w.heap.size #[strV m, strV t, .int .i64 st, .int .i64 z, .slice ao1 n1 c1] 47 := (hx4.block w.heap.size (Nat.lt_succ_self _)).trans hg1x
        have hb4x := hb1x.trans (hx4.mono (Nat.le_succ _))
        have q4 := hg4x.cell 4
        have f4 := hg4x.free 4
        have hk9 := (Kept.refl (fun k => k = w.heap.size) wx4).setCell (i := 4) (.inl rfl) (.slice ao9 N9 c9)
        have HP := hid (reads2_kept hr9 hk9 (hin9.mono fun k hk => by have := hk.1; omega))
        change Hid (Reads2 _ _ (putL L (some b.length))) at HP
        have hrow := hg4x.setCell 4 (.slice ao9 N9 c9)
        have hbB := hb4x.setCell (p := ⟨w.heap.size, 4, none⟩) (Nat.le_refl _) (.slice ao9 N9 c9)
        have HROW := hid (And.intro hrow hbB)
        clear hg1x hb1x HP1x hz2x hx4 ho9 hr9 hin9 hk9 hg4x hb4x hrow hbB
        refine hK.out _ _ trivial (fun _ => ?_)
        clear hK K
        try simp only [Act.put, List.getElem_toArray, List.getElem_cons_succ, List.getElem_cons_zero, List.setIfInBounds_toArray, List.set_cons_zero, List.set_cons_succ]
        refine wpAnyH_take (i := 8) (v := ?_) rfl (by kernel_rfl) (by kernel_rfl) (by kernel_rfl) (fun _ _ _ h => h) (Or.inl ⟨by kernel_rfl, ?_⟩) trivial ?_
        rotate_left
        · intro W hS
          go_simp
          first | done | with_reducible rfl
        simp only [Act.put, List.getElem_toArray, List.getElem_cons_succ, List.getElem_cons_zero, List.setIfInBounds_toArray, List.set_cons_zero, List.set_cons_succ]
        refine wpAnyH_ready (rs := [9]) (by kernel_rfl) (by simp) ?_
        refine AllReadyH.cons rfl (fun K hK => ?_) AllReadyH.nil
        go_simp
        refine hK.out _ _ trivial (fun _ => ?_)
        clear hK K
        try simp only [Act.put, List.getElem_toArray, List.getElem_cons_succ, List.getElem_cons_zero, List.setIfInBounds_toArray, List.set_cons_zero, List.set_cons_succ]
        refine wpAnyH_done (by kernel_rfl) ?_ _
        clear q4 f4
        obtain ⟨hrow, hbB⟩ := HROW.out
        have hkP := okFs_putL hk hl (o := some b.length) (fun n h => by cases h; exact hbl)
        obtain ⟨wf, hwf⟩ : ∃ W, W = wx4.setCell ⟨w.heap.size, 4, none⟩ (.slice ao9 N9 c9) := ⟨_, rfl⟩
        rw [← hwf] at hrow hbB HP ⊢
        clear hwf HROW
        generalize ao9 = aoP at *
        generalize N9 = nP at *
        generalize c9 = cP at *
        have g0 := hrow.cell 0
        have g1 := hrow.cell 1
        have g2 := hrow.cell 2
        have g3 := hrow.cell 3
        have g4 := hrow.cell 4
        have hgl := hrow.lt
        obtain ⟨T, hT⟩ : ∃ T, textH (reqLine ⟨m, t, 0, z.toNat, []⟩) (putL L (some b.length)) = T := ⟨_, rfl⟩
        have HT := hid hT
        have CR := hid (refRightReq_any m t st z (.slice aoP nP cP) (putL L (some b.length)) wf (by omega) (by omega) HP.out hkP)
        cases hq : rightQ m t z (putL L (some b.length)) with
        | false =>
          rw [hq] at CR
          have HQ := hid hq
          clear hq hkP HP hT
          go_wp2_with fail
          skip
          refine CR.out.mono ?_
          rintro e w5 ⟨rfl, hb5⟩
          have HB := hid (chain2 hbB hbB.size hb5)
          clear CR hb5 hrow hbB
          go_wp2_with fail
          go_ret2
          refine ⟨?_, HB.out⟩
          unfold putX
          rw [HQ.out, if_pos rfl]
          exact ⟨by decide, rfl⟩
        | true =>
          rw [hq] at CR
          have HQ := hid hq
          have hz0 := rightQ_pos hq
          have ct := fun W' h => refTextReq_any m t st z (.slice aoP nP cP) (putL L (some b.length)) W' hm ht hz0 h hkP
          rw [hT] at ct
          have CT := hid ct
          clear hq hkP hT ct hz0
          go_wp2_with fail
          skip
          refine CR.out.mono ?_
          rintro e w5 ⟨rfl, hb5⟩
          have hrow5 := hrow.below hb5
          have hbN := chain2 hbB hbB.size hb5
          have HP5 := hid (HP.out.below hb5)
          have g0 := hrow5.cell 0
          have g1 := hrow5.cell 1
          have g2 := hrow5.cell 2
          have g3 := hrow5.cell 3
          have g4 := hrow5.cell 4
          clear CR hb5 hrow hbB HP
          go_wp2_with fail
          refine (CT.out _ HP5.out).mono ?_
          rintro e w6 ⟨rfl, hb6⟩
          have HB6 := hid (chain2 hbN hbN.size hb6)
          clear CT HP5 g0 g1 g2 g3 g4 hrow5 hbN hb6
          by_cases h4 : 4096 < T.length
          · have h4z : (4096 : Int) < (T.length : Int) := by omega
            have H4 := hid h4
            clear h4
            go_wp2_with fail
            go_ret2
            refine ⟨?_, HB6.out⟩
            unfold putX
            rw [HQ.out, HT.out, if_neg (by simp), if_pos H4.out]
            exact ⟨by decide, rfl⟩
          · have h4z : ¬ (4096 : Int) < (T.length : Int) := by omega
            have H4 := hid h4
            clear h4
            by_cases h2 : 2048 < b.length
            · have h2z : (2048 : Int) < (b.length : Int) := by omega
              have H2 := hid h2
              clear h2
              go_wp2_with fail
              go_ret2
              refine ⟨?_, HB6.out⟩
              unfold putX
              rw [HQ.out, HT.out, if_neg (by simp), if_neg H4.out, if_pos H2.out]
              exact ⟨by decide, rfl⟩
            · have h2z : ¬ (2048 : Int) < (b.length : Int) := by omega
              have H2 := hid h2
              clear h2
              obtain ⟨capb, W8, cur, fz, hcv, hg8, hfz, hcc, htk, hxc, hbW8⟩ := bytes_conv (P := Tryz.prog) w6 T 9 27 5 Tryz.underlying9 Tryz.underlying27 Tryz.underlying5
              have hxl : (T.map byteV).length = T.length := List.length_map ..
              have hrest := (bytesRead (bytes_below HBY.out HB6.out)).below hbW8
              rw [← hxl] at htk hxc
              have hnn : (T.map byteV).length + (List.map byteV b).length < 4294967296 := by rw [List.length_map, List.length_map]; have := H4.out; first | omega | (simp only [List.length_nil]; omega)
              have HA := hid (And.intro hg8 (And.intro hfz (And.intro hcc (And.intro htk (And.intro hxc (And.intro hrest (And.intro hnn hbW8)))))))
              clear hg8 hfz hcc htk hxc hrest hnn hbW8
              go_wp2_with (at_builtin; (refine wpList_append_marked2 _ rfl _ _ 27 rfl w6.heap.size 5 Tryz.underlying27 infoU8 (by decide) (T.map byteV) (by rw [hxl]; rfl) HA.out.1 HA.out.2.1 HA.out.2.2.1 HA.out.2.2.2.1 HA.out.2.2.2.2.1 HA.out.2.2.2.2.2.1 (oneCell_bytes b) rfl HA.out.2.2.2.2.2.2.1 (Nat.le_refl _) ?_); intro v9 w9 hrd9 hrm9 hb9)
              obtain ⟨-, -, -, -, -, -, -, hbW8⟩ := HA.out
              rw [← List.map_append] at hrd9
              obtain ⟨ao5, cp5, rfl⟩ := hrd9.form
              rw [List.length_map] at hrd9 hrm9 ⊢
              have hroom := hrm9 _ _ _ rfl
              have HY9 := hid (bytes_of hrd9 hroom)
              have HB9 := hid (chain2 HB6.out HB6.out.size (hbW8.trans hb9))
              clear hrd9 hrm9 hroom hbW8 hb9 HA
              go_ret2
              refine ⟨?_, HB9.out⟩
              unfold putX
              try simp only [List.length_nil]
              rw [HQ.out, HT.out, if_neg (by simp), if_neg H4.out, if_neg H2.out]
              exact ⟨_, _, rfl, HY9.out⟩
end Go.Proofs.YtongceljdgmbdaaGreatDoor
