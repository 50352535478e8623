/-
  The walk of the statement WirePlays.
-/
import Derived.Test.YtefplhkjcclppaaGreatDoorW8fLaw07P
import Derived.Test.YtefplhkjcclppaaGreatDoorW8f01
import Derived.Test.YtefplhkjcclppaaGreatDoorW8f03

namespace Go.Proofs.YtefplhkjcclppaaGreatDoor
open Go.RowKit Go.Pantry

theorem reads2_nil (w : World) : Reads2 w (.slice none 0 0) [] := ⟨none, 0, rfl, fun j p hj => by simp at hj, (fun _ => rfl), by simp⟩
theorem next_read {rd : List UInt8 → Except Nat (Hd × Nat)} {fr : Hd → Except Nat (Nat × Nat)} {s t : Rd} {h : Hd} {b : List UInt8} (hx : nextX rd fr s = (.ok (h, b), t)) : ∃ n, rd s.came = .ok (h, n) := by
  unfold nextX at hx
  split at hx
  · cases hx
  · cases hr : rd s.came with
    | error e => rw [hr] at hx; cases hx
    | ok p =>
      obtain ⟨h', n⟩ := p
      rw [hr] at hx
      simp only at hx
      split at hx
      · cases hx
      · split at hx
        · cases hx
        · cases hx; exact ⟨n, rfl⟩
theorem query_ok {s t : Rd} {h : Hd} {b : List UInt8} (hx : queryX s = (.ok (h, b), t)) : h.status = 0 ∧ h.flds.length < 1000000 := by
  obtain ⟨n, hr⟩ := next_read hx
  have h1 := readReq_right hr
  have h2 := okFs_read_q hr
  unfold rightReq at h1
  simp only [Bool.and_eq_true, decide_eq_true_eq, beq_iff_eq] at h1
  exact ⟨h1.2, by have := h2.1; omega⟩
theorem reply_ok {hd : Bool} : ∀ {k : Nat} {s t : Rd} {h : Hd} {b : List UInt8}, replyX hd k s = (.ok (h, b), t) → h.second = [] ∧ h.flds.length < 1000000
  | 0, s, t, h, b, hx => by rw [replyX] at hx; cases hx
  | k + 1, s, t, h, b, hx => by
    rw [replyX] at hx
    cases hy : respX hd s with
    | mk y u =>
      rw [hy] at hx
      cases y with
      | error e => cases hx
      | ok p =>
        obtain ⟨h', b'⟩ := p
        simp only at hx
        split at hx
        · exact reply_ok hx
        · cases hx
          obtain ⟨n, hr⟩ := next_read hy
          have h1 := readRes_right hr
          have h2 := okFs_read_s hr
          unfold rightRes at h1
          simp only [Bool.and_eq_true, decide_eq_true_eq, beq_iff_eq] at h1
          exact ⟨h1.2, by have := h2.1; omega⟩
theorem docAt_new (w : World) : DocAt (w.alloc (.cells #[.slice none 0 0, .bool false, .int .i64 0] 29)) w.heap.size (.slice none 0 0) ⟨[], false, 0⟩ :=
  ⟨rowIs_new _ _ _, bytes_nil _, In.nil _ _⟩
set_option maxRecDepth 100000 in
set_option maxHeartbeats 16000000 in
theorem wirePlays_walk (v : Value) (ops : List OpR) (w : World) (hm : MaxOk w) (ho : ReadsOps w v ops ∧ ops.length ≤ maxLen) :
    Calls Tryz.prog 3 #[v] w fun e w' => e = .returned (.bool true) ∧ Below w.heap.size w w' := by
  obtain ⟨hops, hlo⟩ := ho
  obtain ⟨aoo, capo, rfl, -⟩ := id hops
  unfold maxLen at hlo
  have CA := hid (anchor_any w hm)
  have HOPS := hid hops
  have HMX := hid hm
  clear hops hm
  by_cases h60 : 60 < ops.length
  · have e60 : decide ((60 : Int) < (ops.length : Int)) = true := by simp; omega
    go_enter Tryz.func3, Tryz.ntmps3
    go_wp2_with (go_at_call 4; refine CA.out.mono ?_; rintro e w1 ⟨rfl, HB⟩)
    go_ret
    exact ⟨rfl, HB⟩
  · have e60 : decide ((60 : Int) < (ops.length : Int)) = false := by rw [decide_eq_false_iff_not]; omega
    go_enter Tryz.func3, Tryz.ntmps3
    go_wp2_with (go_at_call 4; refine CA.out.mono ?_; rintro e w1 ⟨rfl, HB⟩)
    refine (newReader_any w1).mono ?_
    rintro e w2 ⟨rfl, rfl⟩
    have hr0 := rdr_new w w1 HB
    obtain ⟨w2, hw2⟩ : ∃ W, W = w1.alloc (.cells (rdRow (.slice none 0 0) false 0) 63) := ⟨_, rfl⟩
    rw [← hw2] at hr0 ⊢
    have hs2 : w2.heap.size = w1.heap.size + 1 := by rw [hw2]; simp
    clear hw2
    obtain ⟨W0, hW0⟩ : ∃ W, W = w2.alloc (.cells #[.slice none 0 0, .bool false, .int .i64 0] 29) := ⟨_, rfl⟩
    have hd0 : DocAt W0 w2.heap.size (.slice none 0 0) ⟨[], false, 0⟩ := by rw [hW0]; exact docAt_new w2
    have hr1 : Rdr w W0 w1.heap.size (.slice none 0 0) ⟨[], false, 0⟩ := by rw [hW0]; exact hr0.then (below_alloc _ _)
    have hw1 : w.heap.size ≤ w1.heap.size := HB.size
    have HT0 : Two w W0 w1.heap.size (.slice none 0 0) w2.heap.size (.slice none 0 0) ⟨[], false, 0⟩ :=
      ⟨hr1, hd0, by omega, In.nil _ _, fun hf => hf.elim (fun e => by omega) (fun e => by cases e), In.nil _ _, by simp⟩
    have HTT := hid HT0
    clear hd0 hr1 hr0 HT0 CA
    go_wp2_with fail
    rw [← hW0]
    clear hW0
    rw [hs2] at HTT
    have hgd : w1.heap.size < w1.heap.size + 1 := Nat.lt_succ_self _
    clear hs2
    generalize w1.heap.size + 1 = d at *
    generalize w1.heap.size = g at *
    go_loopw [27] (fun i wr => ∃ (k : Nat) (vv u : Value) (s : Rd), k ≤ ops.length ∧ i = .int .i64 (k : Int) ∧ Two w wr g vv d u s) (fun i _ => ops.length - (intOf i).toNat)
    case atStart => exact ⟨0, _, _, _, Nat.zero_le _, rfl, HTT.out⟩
    case round =>
      obtain ⟨k, vv, u, s, hk, rfl, hT⟩ := hrel
      have HT := hid hT
      clear hT HTT
      by_cases hlt : k < ops.length
      · have f1 : decide ((k : Int) < (ops.length : Int)) = true := by simp; omega
        obtain ⟨o, hok⟩ : ∃ o, ops[k]? = some o := ⟨_, List.getElem?_eq_getElem hlt⟩
        obtain ⟨ao', cap', hv', hcz⟩ := readsOps_below HOPS.out HT.out.r.bl
        cases hv'
        obtain ⟨bb, off, da, dc, rfl, k0, k1, k2, -⟩ := hcz k o hok
        obtain ⟨ao2, cap2, hv2, hcz2⟩ := id HOPS.out
        cases hv2
        obtain ⟨bb2, off2, da2, dc2, he2, j0, j1, j2, hdata⟩ := hcz2 k o hok
        cases he2
        have hdd : (Value.slice da2 o.data.length dc2) = .slice da o.data.length dc := by
          have h3 := kept j2 HT.out.r.bl
          rw [k2] at h3
          exact (Option.some.inj h3).symm
        rw [hdd] at hdata
        have HDATA := hid hdata
        clear hcz hcz2 hok j0 j1 j2 hdd hdata
        obtain ⟨W1, hW1⟩ : ∃ W, W = wr.alloc (.cells #[.int .i64 o.kind, .string ⟨o.method.toArray⟩, .slice da o.data.length dc] 31) := ⟨_, rfl⟩
        have hbox : rowIs W1 wr.heap.size #[.int .i64 o.kind, .string ⟨o.method.toArray⟩, .slice da o.data.length dc] 31 := by rw [hW1]; exact rowIs_new _ _ _
        have HT1 : Two w W1 g vv d u s := by rw [hW1]; exact HT.out.then (below_alloc _ _)
        have hgb : d < wr.heap.size ∧ (∀ j, Fp g vv j → j < wr.heap.size) := ⟨HT.out.m.row.lt, fun j hj => Fp.lt HT.out.r.rd hj⟩
        clear HT
        have hblr := HT1.r.bl
        rw [hW1] at hblr
        by_cases hdl : 9000 < o.data.length
        · have t1 : decide ((9000 : Int) < (o.data.length : Int)) = true := by simp; omega
          clear HT1 hbox hW1
          go_wp2_with fail
          go_ret
          exact ⟨rfl, hblr⟩
        have t1 : decide ((9000 : Int) < (o.data.length : Int)) = false := by rw [decide_eq_false_iff_not]; omega
        by_cases hml : 30 < o.method.length
        · have t2 : decide ((30 : Int) < (o.method.length : Int)) = true := by simp; omega
          clear HT1 hbox hW1
          go_wp2_with fail
          go_ret
          exact ⟨rfl, hblr⟩
        have t2 : decide ((30 : Int) < (o.method.length : Int)) = false := by rw [decide_eq_false_iff_not]; omega
        have HGB := hid hgb
        clear hblr hgb
        by_cases h1 : o.kind = 1
        · have n1 : (o.kind == 1) = true := by rw [h1]; rfl
          clear h1
          go_upto_if 43 with fail
          rw [← hW1]
          clear hW1 k0 k1 k2
          generalize wr.heap.size = gb at *
          have hb9 : o.data.length ≤ 9000 := by omega
          go_wp2_with fail
          have HTD := HT1.then (Below.refl _ _).drew
          refine wp_region_held_drew (S := fun W => rowIs W gb #[.int .i64 o.kind, .string ⟨o.method.toArray⟩, .slice da o.data.length dc] 31) (by kernel_rfl) (show rowIs W1.drew gb _ _ from hbox) (fun hH => ?_)
          refine wpAnyH_take (i := 0) (v := ?_) rfl (by kernel_rfl) (by kernel_rfl) (by kernel_rfl) (fun _ _ _ h => h) (Or.inl ⟨by kernel_rfl, ?_⟩) hH ?_
          rotate_left
          · intro W hS
            have q2 := hS.cell 2
            go_simp
            first | done | with_reducible rfl
          simp only [Act.put, List.getElem_toArray, List.getElem_cons_succ, List.getElem_cons_zero, List.setIfInBounds_toArray, List.set_cons_zero, List.set_cons_succ]
          refine wpAnyH_take (i := 1) (v := ?_) rfl (by kernel_rfl) (by kernel_rfl) (by kernel_rfl) (fun _ _ _ h => h) (Or.inl ⟨by kernel_rfl, ?_⟩) hH ?_
          rotate_left
          · intro W hS
            have q2 := hS.cell 2
            go_simp
            first | done | with_reducible rfl
          simp only [Act.put, List.getElem_toArray, List.getElem_cons_succ, List.getElem_cons_zero, List.setIfInBounds_toArray, List.set_cons_zero, List.set_cons_succ]
          refine wpAnyH_take (i := 2) (v := ?_) rfl (by kernel_rfl) (by kernel_rfl) (by kernel_rfl) (fun _ _ _ h => h) (Or.inl ⟨by kernel_rfl, ?_⟩) hH ?_
          rotate_left
          · intro W hS
            have q2 := hS.cell 2
            go_simp
            first | done | with_reducible rfl
          simp only [Act.put, List.getElem_toArray, List.getElem_cons_succ, List.getElem_cons_zero, List.setIfInBounds_toArray, List.set_cons_zero, List.set_cons_succ]
          refine wpAnyH_take (i := 4) (v := ?_) rfl (by kernel_rfl) (by kernel_rfl) (by kernel_rfl) (fun _ _ _ h => h) (Or.inl ⟨by kernel_rfl, ?_⟩) hH ?_
          rotate_left
          · intro W hS
            have q2 := hS.cell 2
            go_simp
            first | done | with_reducible rfl
          simp only [Act.put, List.getElem_toArray, List.getElem_cons_succ, List.getElem_cons_zero, List.setIfInBounds_toArray, List.set_cons_zero, List.set_cons_succ]
          refine wpAnyH_take (i := 5) (v := ?_) rfl (by kernel_rfl) (by kernel_rfl) (by kernel_rfl) (fun _ _ _ h => h) (Or.inl ⟨by kernel_rfl, ?_⟩) hH ?_
          rotate_left
          · intro W hS
            have q2 := hS.cell 2
            go_simp
            first | done | with_reducible rfl
          simp only [Act.put, List.getElem_toArray, List.getElem_cons_succ, List.getElem_cons_zero, List.setIfInBounds_toArray, List.set_cons_zero, List.set_cons_succ]
          refine wpAnyH_take (i := 6) (v := ?_) rfl (by kernel_rfl) (by kernel_rfl) (by kernel_rfl) (fun _ _ _ h => h) (Or.inl ⟨by kernel_rfl, ?_⟩) hH ?_
          rotate_left
          · intro W hS
            have q2 := hS.cell 2
            go_simp
            first | done | with_reducible rfl
          simp only [Act.put, List.getElem_toArray, List.getElem_cons_succ, List.getElem_cons_zero, List.setIfInBounds_toArray, List.set_cons_zero, List.set_cons_succ]
          refine wpAnyH_ready (rs := [3]) (by kernel_rfl) (by simp) ?_
          refine AllReadyH.cons rfl (fun K hK => ?_) AllReadyH.nil
          go_simp
          refine (feedR_any HTD.r _ o.data (bytesRead (bytes_below HDATA.out HTD.r.bl)) HTD.len (by omega)).mono ?_
          rintro e w5 ⟨v5, rfl, hr5, hk5, hi5⟩
          have HM := HTD.stepR hr5 hk5 hi5
          have hH1 := hH.kept hk5 (fun hf => Nat.lt_irrefl _ (HGB.out.2 _ hf))
          refine hK.out _ _ hH1 (fun hH => ?_)
          clear hK K
          try simp only [Act.put, List.getElem_toArray, List.getElem_cons_succ, List.getElem_cons_zero, List.setIfInBounds_toArray, List.set_cons_zero, List.set_cons_succ]
          refine wpAnyH_ready (rs := [7]) (by kernel_rfl) (by simp) ?_
          refine AllReadyH.cons rfl (fun K hK => ?_) AllReadyH.nil
          go_simp
          refine (docFeed_any d _ s _ o.data w5 HM.m (bytesRead (bytes_below HDATA.out HM.r.bl)) HM.len (by omega)).mono ?_
          rintro e w6 ⟨u6, rfl, hm6, hk6, hi6⟩
          have HTX := HM.stepM hm6 hk6 hi6 (feedX_len o.data HM.len)
          have hH1 := hH.kept hk6 (by have := HGB.out.1; omega)
          refine hK.out _ _ hH1 (fun hH => ?_)
          clear hK K
          try simp only [Act.put, List.getElem_toArray, List.getElem_cons_succ, List.getElem_cons_zero, List.setIfInBounds_toArray, List.set_cons_zero, List.set_cons_succ]
          refine wpAnyH_take (i := 8) (v := ?_) rfl (by kernel_rfl) (by kernel_rfl) (by kernel_rfl) (fun _ _ _ h => h) (Or.inl ⟨by kernel_rfl, ?_⟩) hH ?_
          rotate_left
          · intro W hS
            have q2 := hS.cell 2
            go_simp
            first | done | with_reducible rfl
          simp only [Act.put, List.getElem_toArray, List.getElem_cons_succ, List.getElem_cons_zero, List.setIfInBounds_toArray, List.set_cons_zero, List.set_cons_succ]
          refine wpAnyH_done (by kernel_rfl) ?_ _
          generalize feedX s o.data = X at HTX ⊢
          obtain ⟨x1, tX⟩ := X
          clear hH1 hH HM hm6 hk6 hi6 hr5 hk5 hi5 HTD hbox HT1
          obtain ⟨auX, cuX, rfl, -⟩ := bytes_form HTX.m.by'
          go_wp2_with fail
          refine wp_region_held_drew (S := fun W => Two w W g v5 d (.slice auX tX.came.length cuX) tX) (by kernel_rfl) (HTX.then (Below.refl _ _).drew) (fun hH => ?_)
          refine wpAnyH_take (i := 0) (v := ?_) rfl (by kernel_rfl) (by kernel_rfl) (by kernel_rfl) (fun _ _ _ h => h) (Or.inl ⟨by kernel_rfl, ?_⟩) hH ?_
          rotate_left
          · intro W hS
            have q0 := hS.m.row.cell 0
            go_simp
            first | done | with_reducible rfl
          simp only [Act.put, List.getElem_toArray, List.getElem_cons_succ, List.getElem_cons_zero, List.setIfInBounds_toArray, List.set_cons_zero, List.set_cons_succ]
          refine wpAnyH_take (i := 2) (v := ?_) rfl (by kernel_rfl) (by kernel_rfl) (by kernel_rfl) (fun _ _ _ h => h) (Or.inl ⟨by kernel_rfl, ?_⟩) hH ?_
          rotate_left
          · intro W hS
            have q0 := hS.m.row.cell 0
            go_simp
            first | done | with_reducible rfl
          simp only [Act.put, List.getElem_toArray, List.getElem_cons_succ, List.getElem_cons_zero, List.setIfInBounds_toArray, List.set_cons_zero, List.set_cons_succ]
          refine wpAnyH_take (i := 3) (v := ?_) rfl (by kernel_rfl) (by kernel_rfl) (by kernel_rfl) (fun _ _ _ h => h) (Or.inl ⟨by kernel_rfl, ?_⟩) hH ?_
          rotate_left
          · intro W hS
            have q0 := hS.m.row.cell 0
            go_simp
            first | done | with_reducible rfl
          simp only [Act.put, List.getElem_toArray, List.getElem_cons_succ, List.getElem_cons_zero, List.setIfInBounds_toArray, List.set_cons_zero, List.set_cons_succ]
          refine wpAnyH_take (i := 4) (v := ?_) rfl (by kernel_rfl) (by kernel_rfl) (by kernel_rfl) (fun _ _ _ h => h) (Or.inl ⟨by kernel_rfl, ?_⟩) hH ?_
          rotate_left
          · intro W hS
            have q0 := hS.m.row.cell 0
            go_simp
            first | done | with_reducible rfl
          simp only [Act.put, List.getElem_toArray, List.getElem_cons_succ, List.getElem_cons_zero, List.setIfInBounds_toArray, List.set_cons_zero, List.set_cons_succ]
          refine wpAnyH_take (i := 5) (v := ?_) rfl (by kernel_rfl) (by kernel_rfl) (by kernel_rfl) (fun _ _ _ h => h) (Or.inl ⟨by kernel_rfl, ?_⟩) hH ?_
          rotate_left
          · intro W hS
            have q0 := hS.m.row.cell 0
            go_simp
            first | done | with_reducible rfl
          simp only [Act.put, List.getElem_toArray, List.getElem_cons_succ, List.getElem_cons_zero, List.setIfInBounds_toArray, List.set_cons_zero, List.set_cons_succ]
          refine wpAnyH_take (i := 6) (v := ?_) rfl (by kernel_rfl) (by kernel_rfl) (by kernel_rfl) (fun _ _ _ h => h) (Or.inl ⟨by kernel_rfl, ?_⟩) hH ?_
          rotate_left
          · intro W hS
            have q0 := hS.m.row.cell 0
            go_simp
            first | done | with_reducible rfl
          simp only [Act.put, List.getElem_toArray, List.getElem_cons_succ, List.getElem_cons_zero, List.setIfInBounds_toArray, List.set_cons_zero, List.set_cons_succ]
          refine wpAnyH_ready (rs := [1]) (by kernel_rfl) (by simp) ?_
          refine AllReadyH.cons rfl (fun K hK => ?_) AllReadyH.nil
          go_simp
          refine (leftR_any hH.r).mono ?_
          rintro e w' ⟨rfl, rfl⟩
          refine hK.out _ _ hH (fun hH => ?_)
          clear hK K
          try simp only [Act.put, List.getElem_toArray, List.getElem_cons_succ, List.getElem_cons_zero, List.setIfInBounds_toArray, List.set_cons_zero, List.set_cons_succ]
          refine wpAnyH_take (i := 7) (v := ?_) rfl (by kernel_rfl) (by kernel_rfl) (by kernel_rfl) (fun _ _ _ h => h) (Or.inl ⟨by kernel_rfl, ?_⟩) hH ?_
          rotate_left
          · intro W hS
            have q0 := hS.m.row.cell 0
            go_simp
            first | done | with_reducible rfl
          simp only [Act.put, List.getElem_toArray, List.getElem_cons_succ, List.getElem_cons_zero, List.setIfInBounds_toArray, List.set_cons_zero, List.set_cons_succ]
          refine wpAnyH_done (by kernel_rfl) ?_ _
          have HTZ := hid hH
          clear hH HTX
          go_wp2_with fail
          go_roundw
          case rel => exact ⟨k + 1, _, _, _, by omega, by go_num, HTZ.out⟩
          case measure => simp [intOf]; omega
        have n1 : (o.kind == 1) = false := by rw [beq_eq_false_iff_ne]; exact h1
        by_cases h2 : o.kind = 2
        · have n2 : (o.kind == 2) = true := by rw [h2]; rfl
          clear h1 h2
          go_upto_if 54 with fail
          rw [← hW1]
          clear hW1 k0 k1 k2
          generalize wr.heap.size = gb at *
          have cq := queryR_any HT1.r HMX.out HT1.len
          have hln := HT1.len
          have cd := fun W (h : DocAt W d u s) => doc_query [] d u s W h hln
          obtain ⟨X, hX⟩ : ∃ X, queryX s = X := ⟨_, rfl⟩
          have hlx : X.2.came.length ≤ 8192 := by rw [← hX]; exact Nat.le_trans (nextX_len s) HT1.len
          rw [hX] at cq cd
          obtain ⟨y, tX⟩ := X
          have hbw1 := hbox.cell 1
          cases y with
          | error c =>
            clear hX
            go_wp2_with fail
            refine cq.mono ?_
            rintro e w5 ⟨⟨hc0, rfl⟩, v5, hr5, hk5, hi5⟩
            have HM := HT1.stepR hr5 hk5 (hi5.mono fun j hj => .inl hj)
            have hds : d < W1.heap.size := HT1.m.row.lt
            have hs5 : W1.heap.size ≤ w5.heap.size := hk5.size
            have hbox5 := hbox.kept hk5 (fun hf => Nat.lt_irrefl _ (HGB.out.2 _ hf))
            obtain ⟨W7, hW7⟩ : ∃ W, W = w5.alloc (.cells #[.string ⟨#[]⟩, .string ⟨#[]⟩, .int .i64 0, .slice none 0 0, .slice none 0 0] 42) := ⟨_, rfl⟩
            have hb7 : Below w5.heap.size w5 W7 := by rw [hW7]; exact below_alloc _ _
            have rb7 : rowIs W7 w5.heap.size #[.string ⟨#[]⟩, .string ⟨#[]⟩, .int .i64 0, .slice none 0 0, .slice none 0 0] 42 := by rw [hW7]; exact rowIs_new _ _ _
            have HM7 := HM.then hb7
            have hbox7 := hbox5.below hb7
            have u1 := hbox7.cell 1
            rw [hW7] at u1
            clear hr5 hk5 hi5 HM HT1 hbox hbox5
            go_wp2_with fail
            rw [← hW7]
            refine (cd W7 HM7.m).mono ?_
            rintro e w8 ⟨⟨-, rfl⟩, u8, hm8, hk8, hi8⟩
            have HT8 := HM7.stepM hm8 hk8 (hi8.mono fun j hj => .inl hj) hlx
            have rb8 := rb7.kept hk8 (by show ¬ w5.heap.size = d; omega)
            obtain ⟨W9, hW9⟩ : ∃ W, W = w8.alloc (.cells #[.string ⟨#[]⟩, .string ⟨#[]⟩, .int .i64 0, .int .i64 0, .slice none 0 0] 47) := ⟨_, rfl⟩
            have hb9 : Below w8.heap.size w8 W9 := by rw [hW9]; exact below_alloc _ _
            have rb9 : rowIs W9 w8.heap.size #[.string ⟨#[]⟩, .string ⟨#[]⟩, .int .i64 0, .int .i64 0, .slice none 0 0] 47 := by rw [hW9]; exact rowIs_new _ _ _
            have HT9 := HT8.then hb9
            have rb79 := rb8.below hb9
            have e3 : ((c : Int) != (c : Int)) = false := by simp
            have rd7 := hid (show Reads2 W9 (.slice none ([] : List Fld).length 0) [] from reads2_nil W9)
            have bb7 := hid (bytesRead (bytes_nil W9))
            clear rb7 HM7 hbox7 u1 hW7 cd hm8 hk8 hi8 HT8 rb8 hb7 hb9
            generalize w5.heap.size = b7 at *
            generalize w8.heap.size = b9 at *
            go_wp2_with fail
            rw [← hW9]
            clear hW9
            refine wp_region_held_drew (S := fun W => Below W9.heap.size W9 W ∧ rowIs W b7 #[.string ⟨#[]⟩, .string ⟨#[]⟩, .int .i64 0, .slice none 0 0, .slice none 0 0] 42 ∧ rowIs W b9 #[.string ⟨#[]⟩, .string ⟨#[]⟩, .int .i64 0, .int .i64 0, .slice none 0 0] 47 ∧ Two w W g v5 d u8 tX) (by kernel_rfl) ⟨(Below.refl _ _).drew, rb79, rb9, HT9.then (Below.refl _ _).drew⟩ (fun hH => ?_)
            refine wpAnyH_take (i := 0) (v := ?_) rfl (by kernel_rfl) (by kernel_rfl) (by kernel_rfl) (fun _ _ _ h => h) (Or.inl ⟨by kernel_rfl, ?_⟩) hH ?_
            rotate_left
            · intro W hS
              have q0 := hS.2.1.cell 0
              have q1 := hS.2.1.cell 1
              have q2 := hS.2.1.cell 2
              have q3 := hS.2.1.cell 3
              have q4 := hS.2.1.cell 4
              go_simp
              first | done | with_reducible rfl
            simp only [Act.put, List.getElem_toArray, List.getElem_cons_succ, List.getElem_cons_zero, List.setIfInBounds_toArray, List.set_cons_zero, List.set_cons_succ]
            refine wpAnyH_take (i := 1) (v := ?_) rfl (by kernel_rfl) (by kernel_rfl) (by kernel_rfl) (fun _ _ _ h => h) (Or.inl ⟨by kernel_rfl, ?_⟩) hH ?_
            rotate_left
            · intro W hS
              have q0 := hS.2.1.cell 0
              have q1 := hS.2.1.cell 1
              have q2 := hS.2.1.cell 2
              have q3 := hS.2.1.cell 3
              have q4 := hS.2.1.cell 4
              go_simp
              first | done | with_reducible rfl
            simp only [Act.put, List.getElem_toArray, List.getElem_cons_succ, List.getElem_cons_zero, List.setIfInBounds_toArray, List.set_cons_zero, List.set_cons_succ]
            refine wpAnyH_take (i := 2) (v := ?_) rfl (by kernel_rfl) (by kernel_rfl) (by kernel_rfl) (fun _ _ _ h => h) (Or.inl ⟨by kernel_rfl, ?_⟩) hH ?_
            rotate_left
            · intro W hS
              have q0 := hS.2.1.cell 0
              have q1 := hS.2.1.cell 1
              have q2 := hS.2.1.cell 2
              have q3 := hS.2.1.cell 3
              have q4 := hS.2.1.cell 4
              go_simp
              first | done | with_reducible rfl
            simp only [Act.put, List.getElem_toArray, List.getElem_cons_succ, List.getElem_cons_zero, List.setIfInBounds_toArray, List.set_cons_zero, List.set_cons_succ]
            refine wpAnyH_take (i := 3) (v := ?_) rfl (by kernel_rfl) (by kernel_rfl) (by kernel_rfl) (fun _ _ _ h => h) (Or.inl ⟨by kernel_rfl, ?_⟩) hH ?_
            rotate_left
            · intro W hS
              have q0 := hS.2.1.cell 0
              have q1 := hS.2.1.cell 1
              have q2 := hS.2.1.cell 2
              have q3 := hS.2.1.cell 3
              have q4 := hS.2.1.cell 4
              go_simp
              first | done | with_reducible rfl
            simp only [Act.put, List.getElem_toArray, List.getElem_cons_succ, List.getElem_cons_zero, List.setIfInBounds_toArray, List.set_cons_zero, List.set_cons_succ]
            refine wpAnyH_take (i := 4) (v := ?_) rfl (by kernel_rfl) (by kernel_rfl) (by kernel_rfl) (fun _ _ _ h => h) (Or.inl ⟨by kernel_rfl, ?_⟩) hH ?_
            rotate_left
            · intro W hS
              have q0 := hS.2.1.cell 0
              have q1 := hS.2.1.cell 1
              have q2 := hS.2.1.cell 2
              have q3 := hS.2.1.cell 3
              have q4 := hS.2.1.cell 4
              go_simp
              first | done | with_reducible rfl
            simp only [Act.put, List.getElem_toArray, List.getElem_cons_succ, List.getElem_cons_zero, List.setIfInBounds_toArray, List.set_cons_zero, List.set_cons_succ]
            refine wpAnyH_take (i := 5) (v := ?_) rfl (by kernel_rfl) (by kernel_rfl) (by kernel_rfl) (fun _ _ _ h => h) (Or.inl ⟨by kernel_rfl, ?_⟩) hH ?_
            rotate_left
            · intro W hS
              have q0 := hS.2.1.cell 0
              have q1 := hS.2.1.cell 1
              have q2 := hS.2.1.cell 2
              have q3 := hS.2.1.cell 3
              have q4 := hS.2.1.cell 4
              go_simp
              first | done | with_reducible rfl
            simp only [Act.put, List.getElem_toArray, List.getElem_cons_succ, List.getElem_cons_zero, List.setIfInBounds_toArray, List.set_cons_zero, List.set_cons_succ]
            refine wpAnyH_take (i := 7) (v := ?_) rfl (by kernel_rfl) (by kernel_rfl) (by kernel_rfl) (fun _ _ _ h => h) (Or.inl ⟨by kernel_rfl, ?_⟩) hH ?_
            rotate_left
            · intro W hS
              have q0 := hS.2.1.cell 0
              have q1 := hS.2.1.cell 1
              have q2 := hS.2.1.cell 2
              have q3 := hS.2.1.cell 3
              have q4 := hS.2.1.cell 4
              go_simp
              first | done | with_reducible rfl
            simp only [Act.put, List.getElem_toArray, List.getElem_cons_succ, List.getElem_cons_zero, List.setIfInBounds_toArray, List.set_cons_zero, List.set_cons_succ]
            refine wpAnyH_take (i := 8) (v := ?_) rfl (by kernel_rfl) (by kernel_rfl) (by kernel_rfl) (fun _ _ _ h => h) (Or.inl ⟨by kernel_rfl, ?_⟩) hH ?_
            rotate_left
            · intro W hS
              have q0 := hS.2.1.cell 0
              have q1 := hS.2.1.cell 1
              have q2 := hS.2.1.cell 2
              have q3 := hS.2.1.cell 3
              have q4 := hS.2.1.cell 4
              go_simp
              first | done | with_reducible rfl
            simp only [Act.put, List.getElem_toArray, List.getElem_cons_succ, List.getElem_cons_zero, List.setIfInBounds_toArray, List.set_cons_zero, List.set_cons_succ]
            refine wpAnyH_take (i := 9) (v := .agg #[.string ⟨#[]⟩, .string ⟨#[]⟩, .int .i64 0, .int .i64 0, .slice none 0 0]) rfl (by kernel_rfl) (by kernel_rfl) (by kernel_rfl) (fun _ _ _ h => h) (Or.inl ⟨by kernel_rfl, ?_⟩) hH ?_
            · intro W hS
              exact load_gives (x := .tmp 9) (by kernel_rfl) b9 (by kernel_rfl) hS.2.2.1 Tryz.underlying47 rfl infoHdS
            simp only [Act.put, List.getElem_toArray, List.getElem_cons_succ, List.getElem_cons_zero, List.setIfInBounds_toArray, List.set_cons_zero, List.set_cons_succ]
            refine wpAnyH_take (i := 10) (v := ?_) rfl (by kernel_rfl) (by kernel_rfl) (by kernel_rfl) (fun _ _ _ h => h) (Or.inl ⟨by kernel_rfl, ?_⟩) hH ?_
            rotate_left
            · intro W hS
              have q0 := hS.2.1.cell 0
              have q1 := hS.2.1.cell 1
              have q2 := hS.2.1.cell 2
              have q3 := hS.2.1.cell 3
              have q4 := hS.2.1.cell 4
              go_simp
              first | done | with_reducible rfl
            simp only [Act.put, List.getElem_toArray, List.getElem_cons_succ, List.getElem_cons_zero, List.setIfInBounds_toArray, List.set_cons_zero, List.set_cons_succ]
            refine wpAnyH_ready (rs := [6]) (by kernel_rfl) (by simp) ?_
            refine AllReadyH.cons rfl (fun K hK => ?_) AllReadyH.nil
            go_simp
            refine (madeReq_any [] [] 0 (.slice none 0 0) [] _ (rd7.out.below hH.1) (by simp)).mono ?_
            rintro e wa ⟨⟨aom, cm, rfl, rdm⟩, hbx⟩
            have hS1 := And.intro (hH.1.trans (hbx.mono hH.1.size)) (And.intro (hH.2.1.below hbx) (And.intro (hH.2.2.1.below hbx) (hH.2.2.2.then hbx)))
            refine hK.out _ _ hS1 (fun hH => ?_)
            clear hK K
            try simp only [Act.put, List.getElem_toArray, List.getElem_cons_succ, List.getElem_cons_zero, List.setIfInBounds_toArray, List.set_cons_zero, List.set_cons_succ]
            refine wpAnyH_ready (rs := [11]) (by kernel_rfl) (by simp) ?_
            refine AllReadyH.cons rfl (fun K hK => ?_) AllReadyH.nil
            go_simp
            refine (same_eq [] [] 0 0 [] aom none cm 0 (.slice none 0 0) (.slice none 0 0) [] _ rdm (rd7.out.below hH.1) (by simp) (bb7.out.below hH.1) (bb7.out.below hH.1)).mono ?_
            rintro e wb ⟨rfl, hbx⟩
            have hS1 := And.intro (hH.1.trans (hbx.mono hH.1.size)) (And.intro (hH.2.1.below hbx) (And.intro (hH.2.2.1.below hbx) (hH.2.2.2.then hbx)))
            refine hK.out _ _ hS1 (fun hH => ?_)
            clear hK K
            try simp only [Act.put, List.getElem_toArray, List.getElem_cons_succ, List.getElem_cons_zero, List.setIfInBounds_toArray, List.set_cons_zero, List.set_cons_succ]
            refine wpAnyH_take (i := 12) (v := ?_) rfl (by kernel_rfl) (by kernel_rfl) (by kernel_rfl) (fun _ _ _ h => h) (Or.inl ⟨by kernel_rfl, ?_⟩) hH ?_
            rotate_left
            · intro W hS
              have q0 := hS.2.1.cell 0
              have q1 := hS.2.1.cell 1
              have q2 := hS.2.1.cell 2
              have q3 := hS.2.1.cell 3
              have q4 := hS.2.1.cell 4
              go_simp
              first | done | with_reducible rfl
            simp only [Act.put, List.getElem_toArray, List.getElem_cons_succ, List.getElem_cons_zero, List.setIfInBounds_toArray, List.set_cons_zero, List.set_cons_succ]
            refine wpAnyH_take (i := 13) (v := ?_) rfl (by kernel_rfl) (by kernel_rfl) (by kernel_rfl) (fun _ _ _ h => h) (Or.inl ⟨by kernel_rfl, ?_⟩) hH ?_
            rotate_left
            · intro W hS
              have q0 := hS.2.1.cell 0
              have q1 := hS.2.1.cell 1
              have q2 := hS.2.1.cell 2
              have q3 := hS.2.1.cell 3
              have q4 := hS.2.1.cell 4
              go_simp
              first | done | with_reducible rfl
            simp only [Act.put, List.getElem_toArray, List.getElem_cons_succ, List.getElem_cons_zero, List.setIfInBounds_toArray, List.set_cons_zero, List.set_cons_succ]
            refine wpAnyH_done (by kernel_rfl) ?_ _
            have HTX := hH.2.2.2
            obtain ⟨auX, cuX, rfl, -⟩ := bytes_form HTX.m.by'
            go_wp2_with fail
            refine wp_region_held_drew (S := fun W => Two w W g v5 d (.slice auX tX.came.length cuX) tX) (by kernel_rfl) (HTX.then (Below.refl _ _).drew) (fun hH => ?_)
            refine wpAnyH_take (i := 0) (v := ?_) rfl (by kernel_rfl) (by kernel_rfl) (by kernel_rfl) (fun _ _ _ h => h) (Or.inl ⟨by kernel_rfl, ?_⟩) hH ?_
            rotate_left
            · intro W hS
              have q0 := hS.m.row.cell 0
              go_simp
              first | done | with_reducible rfl
            simp only [Act.put, List.getElem_toArray, List.getElem_cons_succ, List.getElem_cons_zero, List.setIfInBounds_toArray, List.set_cons_zero, List.set_cons_succ]
            refine wpAnyH_take (i := 2) (v := ?_) rfl (by kernel_rfl) (by kernel_rfl) (by kernel_rfl) (fun _ _ _ h => h) (Or.inl ⟨by kernel_rfl, ?_⟩) hH ?_
            rotate_left
            · intro W hS
              have q0 := hS.m.row.cell 0
              go_simp
              first | done | with_reducible rfl
            simp only [Act.put, List.getElem_toArray, List.getElem_cons_succ, List.getElem_cons_zero, List.setIfInBounds_toArray, List.set_cons_zero, List.set_cons_succ]
            refine wpAnyH_take (i := 3) (v := ?_) rfl (by kernel_rfl) (by kernel_rfl) (by kernel_rfl) (fun _ _ _ h => h) (Or.inl ⟨by kernel_rfl, ?_⟩) hH ?_
            rotate_left
            · intro W hS
              have q0 := hS.m.row.cell 0
              go_simp
              first | done | with_reducible rfl
            simp only [Act.put, List.getElem_toArray, List.getElem_cons_succ, List.getElem_cons_zero, List.setIfInBounds_toArray, List.set_cons_zero, List.set_cons_succ]
            refine wpAnyH_take (i := 4) (v := ?_) rfl (by kernel_rfl) (by kernel_rfl) (by kernel_rfl) (fun _ _ _ h => h) (Or.inl ⟨by kernel_rfl, ?_⟩) hH ?_
            rotate_left
            · intro W hS
              have q0 := hS.m.row.cell 0
              go_simp
              first | done | with_reducible rfl
            simp only [Act.put, List.getElem_toArray, List.getElem_cons_succ, List.getElem_cons_zero, List.setIfInBounds_toArray, List.set_cons_zero, List.set_cons_succ]
            refine wpAnyH_take (i := 5) (v := ?_) rfl (by kernel_rfl) (by kernel_rfl) (by kernel_rfl) (fun _ _ _ h => h) (Or.inl ⟨by kernel_rfl, ?_⟩) hH ?_
            rotate_left
            · intro W hS
              have q0 := hS.m.row.cell 0
              go_simp
              first | done | with_reducible rfl
            simp only [Act.put, List.getElem_toArray, List.getElem_cons_succ, List.getElem_cons_zero, List.setIfInBounds_toArray, List.set_cons_zero, List.set_cons_succ]
            refine wpAnyH_take (i := 6) (v := ?_) rfl (by kernel_rfl) (by kernel_rfl) (by kernel_rfl) (fun _ _ _ h => h) (Or.inl ⟨by kernel_rfl, ?_⟩) hH ?_
            rotate_left
            · intro W hS
              have q0 := hS.m.row.cell 0
              go_simp
              first | done | with_reducible rfl
            simp only [Act.put, List.getElem_toArray, List.getElem_cons_succ, List.getElem_cons_zero, List.setIfInBounds_toArray, List.set_cons_zero, List.set_cons_succ]
            refine wpAnyH_ready (rs := [1]) (by kernel_rfl) (by simp) ?_
            refine AllReadyH.cons rfl (fun K hK => ?_) AllReadyH.nil
            go_simp
            refine (leftR_any hH.r).mono ?_
            rintro e w' ⟨rfl, rfl⟩
            refine hK.out _ _ hH (fun hH => ?_)
            clear hK K
            try simp only [Act.put, List.getElem_toArray, List.getElem_cons_succ, List.getElem_cons_zero, List.setIfInBounds_toArray, List.set_cons_zero, List.set_cons_succ]
            refine wpAnyH_take (i := 7) (v := ?_) rfl (by kernel_rfl) (by kernel_rfl) (by kernel_rfl) (fun _ _ _ h => h) (Or.inl ⟨by kernel_rfl, ?_⟩) hH ?_
            rotate_left
            · intro W hS
              have q0 := hS.m.row.cell 0
              go_simp
              first | done | with_reducible rfl
            simp only [Act.put, List.getElem_toArray, List.getElem_cons_succ, List.getElem_cons_zero, List.setIfInBounds_toArray, List.set_cons_zero, List.set_cons_succ]
            refine wpAnyH_done (by kernel_rfl) ?_ _
            have HTZ := hid hH
            clear hH HTX
            go_wp2_with fail
            go_roundw
            case rel => exact ⟨k + 1, _, _, _, by omega, by go_num, HTZ.out⟩
            case measure => simp [intOf]; omega
          | ok p =>
            obtain ⟨h, b⟩ := p
            have hfo := query_ok hX
            obtain ⟨hst, hfl⟩ := hfo
            clear hX
            go_wp2_with fail
            refine cq.mono ?_
            rintro e w5 ⟨⟨vl, vb, rfl, hol, hob⟩, v5, hr5, hk5, hi5⟩
            obtain ⟨aol, cl, rfl⟩ := ownsRow_form hol
            obtain ⟨aob, cb, rfl⟩ := ownsRow_bytes_form hob
            have hinl := fun j hj => (hol.lt j hj).1
            have hinb := fun j hj => (hob.lt j hj).1
            have hol5 := hol.reads2.2
            have hob5 := ownsRow_bytes hob
            have HM := HT1.stepR hr5 hk5 (hi5.mono fun j hj => .inl hj)
            have hds : d < W1.heap.size := HT1.m.row.lt
            have hs5 : W1.heap.size ≤ w5.heap.size := hk5.size
            have hbox5 := hbox.kept hk5 (fun hf => Nat.lt_irrefl _ (HGB.out.2 _ hf))
            obtain ⟨W7, hW7⟩ : ∃ W, W = w5.alloc (.cells #[strV h.first, strV h.second, .int .i64 (h.minor : Int), .slice aol h.flds.length cl, .slice aob b.length cb] 42) := ⟨_, rfl⟩
            have hb7 : Below w5.heap.size w5 W7 := by rw [hW7]; exact below_alloc _ _
            have rb7 : rowIs W7 w5.heap.size #[strV h.first, strV h.second, .int .i64 (h.minor : Int), .slice aol h.flds.length cl, .slice aob b.length cb] 42 := by rw [hW7]; exact rowIs_new _ _ _
            have HM7 := HM.then hb7
            have hbox7 := hbox5.below hb7
            have u1 := hbox7.cell 1
            rw [hW7] at u1
            clear hr5 hk5 hi5 HM HT1 hbox hbox5
            go_wp2_with fail
            rw [← hW7]
            refine (cd W7 HM7.m).mono ?_
            rintro e w8 ⟨⟨vl2, vb2, rfl, hol2, hob2, -⟩, u8, hm8, hk8, hi8⟩
            obtain ⟨aol2, cl2, rfl⟩ := hol2.form
            obtain ⟨aob2, cb2, rfl, -⟩ := bytes_form hob2
            have hol8 := reads2_kept (hol5.below hb7) hk8 (fun j hj e => by have := hinl j hj; have : j = d := e; omega)
            have hob8 := bytes_kept (bytes_below hob5 hb7) hk8 (fun j hj e => by have := hinb j hj; have : j = d := e; omega)
            clear hol hob hol5 hob5 hinl hinb
            have HT8 := HM7.stepM hm8 hk8 (hi8.mono fun j hj => .inl hj) hlx
            have rb8 := rb7.kept hk8 (by show ¬ w5.heap.size = d; omega)
            obtain ⟨W9, hW9⟩ : ∃ W, W = w8.alloc (.cells #[strV h.first, strV h.second, .int .i64 0, .int .i64 (h.minor : Int), .slice aol2 h.flds.length cl2] 47) := ⟨_, rfl⟩
            have hb9 : Below w8.heap.size w8 W9 := by rw [hW9]; exact below_alloc _ _
            have rb9 : rowIs W9 w8.heap.size #[strV h.first, strV h.second, .int .i64 0, .int .i64 (h.minor : Int), .slice aol2 h.flds.length cl2] 47 := by rw [hW9]; exact rowIs_new _ _ _
            have HT9 := HT8.then hb9
            have rb79 := rb8.below hb9
            have rd7 := hid (hol8.below hb9)
            have rd9 := hid (hol2.below hb9)
            have bb7 := hid (bytesRead (bytes_below hob8 hb9))
            have bb9 := hid (bytesRead (bytes_below hob2 hb9))
            clear hol8 hob8 hol2 hob2
            clear rb7 HM7 hbox7 u1 hW7 cd hm8 hk8 hi8 HT8 rb8 hb7 hb9
            generalize w5.heap.size = b7 at *
            generalize w8.heap.size = b9 at *
            go_wp2_with fail
            rw [← hW9]
            clear hW9
            refine wp_region_held_drew (S := fun W => Below W9.heap.size W9 W ∧ rowIs W b7 #[strV h.first, strV h.second, .int .i64 (h.minor : Int), .slice aol h.flds.length cl, .slice aob b.length cb] 42 ∧ rowIs W b9 #[strV h.first, strV h.second, .int .i64 0, .int .i64 (h.minor : Int), .slice aol2 h.flds.length cl2] 47 ∧ Two w W g v5 d u8 tX) (by kernel_rfl) ⟨(Below.refl _ _).drew, rb79, rb9, HT9.then (Below.refl _ _).drew⟩ (fun hH => ?_)
            refine wpAnyH_take (i := 0) (v := ?_) rfl (by kernel_rfl) (by kernel_rfl) (by kernel_rfl) (fun _ _ _ h => h) (Or.inl ⟨by kernel_rfl, ?_⟩) hH ?_
            rotate_left
            · intro W hS
              have q0 := hS.2.1.cell 0
              have q1 := hS.2.1.cell 1
              have q2 := hS.2.1.cell 2
              have q3 := hS.2.1.cell 3
              have q4 := hS.2.1.cell 4
              go_simp
              first | done | with_reducible rfl
            simp only [Act.put, List.getElem_toArray, List.getElem_cons_succ, List.getElem_cons_zero, List.setIfInBounds_toArray, List.set_cons_zero, List.set_cons_succ]
            refine wpAnyH_take (i := 1) (v := ?_) rfl (by kernel_rfl) (by kernel_rfl) (by kernel_rfl) (fun _ _ _ h => h) (Or.inl ⟨by kernel_rfl, ?_⟩) hH ?_
            rotate_left
            · intro W hS
              have q0 := hS.2.1.cell 0
              have q1 := hS.2.1.cell 1
              have q2 := hS.2.1.cell 2
              have q3 := hS.2.1.cell 3
              have q4 := hS.2.1.cell 4
              go_simp
              first | done | with_reducible rfl
            simp only [Act.put, List.getElem_toArray, List.getElem_cons_succ, List.getElem_cons_zero, List.setIfInBounds_toArray, List.set_cons_zero, List.set_cons_succ]
            refine wpAnyH_take (i := 2) (v := ?_) rfl (by kernel_rfl) (by kernel_rfl) (by kernel_rfl) (fun _ _ _ h => h) (Or.inl ⟨by kernel_rfl, ?_⟩) hH ?_
            rotate_left
            · intro W hS
              have q0 := hS.2.1.cell 0
              have q1 := hS.2.1.cell 1
              have q2 := hS.2.1.cell 2
              have q3 := hS.2.1.cell 3
              have q4 := hS.2.1.cell 4
              go_simp
              first | done | with_reducible rfl
            simp only [Act.put, List.getElem_toArray, List.getElem_cons_succ, List.getElem_cons_zero, List.setIfInBounds_toArray, List.set_cons_zero, List.set_cons_succ]
            refine wpAnyH_take (i := 3) (v := ?_) rfl (by kernel_rfl) (by kernel_rfl) (by kernel_rfl) (fun _ _ _ h => h) (Or.inl ⟨by kernel_rfl, ?_⟩) hH ?_
            rotate_left
            · intro W hS
              have q0 := hS.2.1.cell 0
              have q1 := hS.2.1.cell 1
              have q2 := hS.2.1.cell 2
              have q3 := hS.2.1.cell 3
              have q4 := hS.2.1.cell 4
              go_simp
              first | done | with_reducible rfl
            simp only [Act.put, List.getElem_toArray, List.getElem_cons_succ, List.getElem_cons_zero, List.setIfInBounds_toArray, List.set_cons_zero, List.set_cons_succ]
            refine wpAnyH_take (i := 4) (v := ?_) rfl (by kernel_rfl) (by kernel_rfl) (by kernel_rfl) (fun _ _ _ h => h) (Or.inl ⟨by kernel_rfl, ?_⟩) hH ?_
            rotate_left
            · intro W hS
              have q0 := hS.2.1.cell 0
              have q1 := hS.2.1.cell 1
              have q2 := hS.2.1.cell 2
              have q3 := hS.2.1.cell 3
              have q4 := hS.2.1.cell 4
              go_simp
              first | done | with_reducible rfl
            simp only [Act.put, List.getElem_toArray, List.getElem_cons_succ, List.getElem_cons_zero, List.setIfInBounds_toArray, List.set_cons_zero, List.set_cons_succ]
            refine wpAnyH_take (i := 5) (v := ?_) rfl (by kernel_rfl) (by kernel_rfl) (by kernel_rfl) (fun _ _ _ h => h) (Or.inl ⟨by kernel_rfl, ?_⟩) hH ?_
            rotate_left
            · intro W hS
              have q0 := hS.2.1.cell 0
              have q1 := hS.2.1.cell 1
              have q2 := hS.2.1.cell 2
              have q3 := hS.2.1.cell 3
              have q4 := hS.2.1.cell 4
              go_simp
              first | done | with_reducible rfl
            simp only [Act.put, List.getElem_toArray, List.getElem_cons_succ, List.getElem_cons_zero, List.setIfInBounds_toArray, List.set_cons_zero, List.set_cons_succ]
            refine wpAnyH_take (i := 7) (v := ?_) rfl (by kernel_rfl) (by kernel_rfl) (by kernel_rfl) (fun _ _ _ h => h) (Or.inl ⟨by kernel_rfl, ?_⟩) hH ?_
            rotate_left
            · intro W hS
              have q0 := hS.2.1.cell 0
              have q1 := hS.2.1.cell 1
              have q2 := hS.2.1.cell 2
              have q3 := hS.2.1.cell 3
              have q4 := hS.2.1.cell 4
              go_simp
              first | done | with_reducible rfl
            simp only [Act.put, List.getElem_toArray, List.getElem_cons_succ, List.getElem_cons_zero, List.setIfInBounds_toArray, List.set_cons_zero, List.set_cons_succ]
            refine wpAnyH_take (i := 8) (v := ?_) rfl (by kernel_rfl) (by kernel_rfl) (by kernel_rfl) (fun _ _ _ h => h) (Or.inl ⟨by kernel_rfl, ?_⟩) hH ?_
            rotate_left
            · intro W hS
              have q0 := hS.2.1.cell 0
              have q1 := hS.2.1.cell 1
              have q2 := hS.2.1.cell 2
              have q3 := hS.2.1.cell 3
              have q4 := hS.2.1.cell 4
              go_simp
              first | done | with_reducible rfl
            simp only [Act.put, List.getElem_toArray, List.getElem_cons_succ, List.getElem_cons_zero, List.setIfInBounds_toArray, List.set_cons_zero, List.set_cons_succ]
            refine wpAnyH_take (i := 9) (v := .agg #[strV h.first, strV h.second, .int .i64 0, .int .i64 (h.minor : Int), .slice aol2 h.flds.length cl2]) rfl (by kernel_rfl) (by kernel_rfl) (by kernel_rfl) (fun _ _ _ h => h) (Or.inl ⟨by kernel_rfl, ?_⟩) hH ?_
            · intro W hS
              exact load_gives (x := .tmp 9) (by kernel_rfl) b9 (by kernel_rfl) hS.2.2.1 Tryz.underlying47 rfl infoHdS
            simp only [Act.put, List.getElem_toArray, List.getElem_cons_succ, List.getElem_cons_zero, List.setIfInBounds_toArray, List.set_cons_zero, List.set_cons_succ]
            refine wpAnyH_take (i := 10) (v := ?_) rfl (by kernel_rfl) (by kernel_rfl) (by kernel_rfl) (fun _ _ _ h => h) (Or.inl ⟨by kernel_rfl, ?_⟩) hH ?_
            rotate_left
            · intro W hS
              have q0 := hS.2.1.cell 0
              have q1 := hS.2.1.cell 1
              have q2 := hS.2.1.cell 2
              have q3 := hS.2.1.cell 3
              have q4 := hS.2.1.cell 4
              go_simp
              first | done | with_reducible rfl
            simp only [Act.put, List.getElem_toArray, List.getElem_cons_succ, List.getElem_cons_zero, List.setIfInBounds_toArray, List.set_cons_zero, List.set_cons_succ]
            refine wpAnyH_ready (rs := [6]) (by kernel_rfl) (by simp) ?_
            refine AllReadyH.cons rfl (fun K hK => ?_) AllReadyH.nil
            go_simp
            refine (madeReq_any h.first h.second (h.minor : Int) (.slice aol h.flds.length cl) h.flds _ (rd7.out.below hH.1) (by omega)).mono ?_
            rintro e wa ⟨⟨aom, cm, rfl, rdm⟩, hbx⟩
            have hS1 := And.intro (hH.1.trans (hbx.mono hH.1.size)) (And.intro (hH.2.1.below hbx) (And.intro (hH.2.2.1.below hbx) (hH.2.2.2.then hbx)))
            refine hK.out _ _ hS1 (fun hH => ?_)
            clear hK K
            try simp only [Act.put, List.getElem_toArray, List.getElem_cons_succ, List.getElem_cons_zero, List.setIfInBounds_toArray, List.set_cons_zero, List.set_cons_succ]
            refine wpAnyH_ready (rs := [11]) (by kernel_rfl) (by simp) ?_
            refine AllReadyH.cons rfl (fun K hK => ?_) AllReadyH.nil
            go_simp
            refine (same_eq h.first h.second 0 (h.minor : Int) h.flds aom aol2 cm cl2 (.slice aob b.length cb) (.slice aob2 b.length cb2) b _ rdm (rd9.out.below hH.1) (by omega) (bb7.out.below hH.1) (bb9.out.below hH.1)).mono ?_
            rintro e wb ⟨rfl, hbx⟩
            have hS1 := And.intro (hH.1.trans (hbx.mono hH.1.size)) (And.intro (hH.2.1.below hbx) (And.intro (hH.2.2.1.below hbx) (hH.2.2.2.then hbx)))
            refine hK.out _ _ hS1 (fun hH => ?_)
            clear hK K
            try simp only [Act.put, List.getElem_toArray, List.getElem_cons_succ, List.getElem_cons_zero, List.setIfInBounds_toArray, List.set_cons_zero, List.set_cons_succ]
            refine wpAnyH_take (i := 12) (v := ?_) rfl (by kernel_rfl) (by kernel_rfl) (by kernel_rfl) (fun _ _ _ h => h) (Or.inl ⟨by kernel_rfl, ?_⟩) hH ?_
            rotate_left
            · intro W hS
              have q0 := hS.2.1.cell 0
              have q1 := hS.2.1.cell 1
              have q2 := hS.2.1.cell 2
              have q3 := hS.2.1.cell 3
              have q4 := hS.2.1.cell 4
              go_simp
              first | done | with_reducible rfl
            simp only [Act.put, List.getElem_toArray, List.getElem_cons_succ, List.getElem_cons_zero, List.setIfInBounds_toArray, List.set_cons_zero, List.set_cons_succ]
            refine wpAnyH_take (i := 13) (v := ?_) rfl (by kernel_rfl) (by kernel_rfl) (by kernel_rfl) (fun _ _ _ h => h) (Or.inl ⟨by kernel_rfl, ?_⟩) hH ?_
            rotate_left
            · intro W hS
              have q0 := hS.2.1.cell 0
              have q1 := hS.2.1.cell 1
              have q2 := hS.2.1.cell 2
              have q3 := hS.2.1.cell 3
              have q4 := hS.2.1.cell 4
              go_simp
              first | done | with_reducible rfl
            simp only [Act.put, List.getElem_toArray, List.getElem_cons_succ, List.getElem_cons_zero, List.setIfInBounds_toArray, List.set_cons_zero, List.set_cons_succ]
            refine wpAnyH_done (by kernel_rfl) ?_ _
            have HTX := hH.2.2.2
            obtain ⟨auX, cuX, rfl, -⟩ := bytes_form HTX.m.by'
            go_wp2_with fail
            refine wp_region_held_drew (S := fun W => Two w W g v5 d (.slice auX tX.came.length cuX) tX) (by kernel_rfl) (HTX.then (Below.refl _ _).drew) (fun hH => ?_)
            refine wpAnyH_take (i := 0) (v := ?_) rfl (by kernel_rfl) (by kernel_rfl) (by kernel_rfl) (fun _ _ _ h => h) (Or.inl ⟨by kernel_rfl, ?_⟩) hH ?_
            rotate_left
            · intro W hS
              have q0 := hS.m.row.cell 0
              go_simp
              first | done | with_reducible rfl
            simp only [Act.put, List.getElem_toArray, List.getElem_cons_succ, List.getElem_cons_zero, List.setIfInBounds_toArray, List.set_cons_zero, List.set_cons_succ]
            refine wpAnyH_take (i := 2) (v := ?_) rfl (by kernel_rfl) (by kernel_rfl) (by kernel_rfl) (fun _ _ _ h => h) (Or.inl ⟨by kernel_rfl, ?_⟩) hH ?_
            rotate_left
            · intro W hS
              have q0 := hS.m.row.cell 0
              go_simp
              first | done | with_reducible rfl
            simp only [Act.put, List.getElem_toArray, List.getElem_cons_succ, List.getElem_cons_zero, List.setIfInBounds_toArray, List.set_cons_zero, List.set_cons_succ]
            refine wpAnyH_take (i := 3) (v := ?_) rfl (by kernel_rfl) (by kernel_rfl) (by kernel_rfl) (fun _ _ _ h => h) (Or.inl ⟨by kernel_rfl, ?_⟩) hH ?_
            rotate_left
            · intro W hS
              have q0 := hS.m.row.cell 0
              go_simp
              first | done | with_reducible rfl
            simp only [Act.put, List.getElem_toArray, List.getElem_cons_succ, List.getElem_cons_zero, List.setIfInBounds_toArray, List.set_cons_zero, List.set_cons_succ]
            refine wpAnyH_take (i := 4) (v := ?_) rfl (by kernel_rfl) (by kernel_rfl) (by kernel_rfl) (fun _ _ _ h => h) (Or.inl ⟨by kernel_rfl, ?_⟩) hH ?_
            rotate_left
            · intro W hS
              have q0 := hS.m.row.cell 0
              go_simp
              first | done | with_reducible rfl
            simp only [Act.put, List.getElem_toArray, List.getElem_cons_succ, List.getElem_cons_zero, List.setIfInBounds_toArray, List.set_cons_zero, List.set_cons_succ]
            refine wpAnyH_take (i := 5) (v := ?_) rfl (by kernel_rfl) (by kernel_rfl) (by kernel_rfl) (fun _ _ _ h => h) (Or.inl ⟨by kernel_rfl, ?_⟩) hH ?_
            rotate_left
            · intro W hS
              have q0 := hS.m.row.cell 0
              go_simp
              first | done | with_reducible rfl
            simp only [Act.put, List.getElem_toArray, List.getElem_cons_succ, List.getElem_cons_zero, List.setIfInBounds_toArray, List.set_cons_zero, List.set_cons_succ]
            refine wpAnyH_take (i := 6) (v := ?_) rfl (by kernel_rfl) (by kernel_rfl) (by kernel_rfl) (fun _ _ _ h => h) (Or.inl ⟨by kernel_rfl, ?_⟩) hH ?_
            rotate_left
            · intro W hS
              have q0 := hS.m.row.cell 0
              go_simp
              first | done | with_reducible rfl
            simp only [Act.put, List.getElem_toArray, List.getElem_cons_succ, List.getElem_cons_zero, List.setIfInBounds_toArray, List.set_cons_zero, List.set_cons_succ]
            refine wpAnyH_ready (rs := [1]) (by kernel_rfl) (by simp) ?_
            refine AllReadyH.cons rfl (fun K hK => ?_) AllReadyH.nil
            go_simp
            refine (leftR_any hH.r).mono ?_
            rintro e w' ⟨rfl, rfl⟩
            refine hK.out _ _ hH (fun hH => ?_)
            clear hK K
            try simp only [Act.put, List.getElem_toArray, List.getElem_cons_succ, List.getElem_cons_zero, List.setIfInBounds_toArray, List.set_cons_zero, List.set_cons_succ]
            refine wpAnyH_take (i := 7) (v := ?_) rfl (by kernel_rfl) (by kernel_rfl) (by kernel_rfl) (fun _ _ _ h => h) (Or.inl ⟨by kernel_rfl, ?_⟩) hH ?_
            rotate_left
            · intro W hS
              have q0 := hS.m.row.cell 0
              go_simp
              first | done | with_reducible rfl
            simp only [Act.put, List.getElem_toArray, List.getElem_cons_succ, List.getElem_cons_zero, List.setIfInBounds_toArray, List.set_cons_zero, List.set_cons_succ]
            refine wpAnyH_done (by kernel_rfl) ?_ _
            have HTZ := hid hH
            clear hH HTX
            go_wp2_with fail
            go_roundw
            case rel => exact ⟨k + 1, _, _, _, by omega, by go_num, HTZ.out⟩
            case measure => simp [intOf]; omega
        have n2 : (o.kind == 2) = false := by rw [beq_eq_false_iff_ne]; exact h2
        by_cases h3 : o.kind = 3
        · have n3 : (o.kind == 3) = true := by rw [h3]; rfl
          clear h1 h2 h3
          go_upto_if 81 with fail
          rw [← hW1]
          clear hW1 k0 k1 k2
          generalize wr.heap.size = gb at *
          have cq := replyR_any HT1.r o.method HMX.out HT1.len
          have hln := HT1.len
          have cd := fun W (h : DocAt W d u s) => doc_reply d u s o.method W h hln
          obtain ⟨X, hX⟩ : ∃ X, replyX (o.method == [72, 69, 65, 68]) (s.came.length + 1) s = X := ⟨_, rfl⟩
          have hlx : X.2.came.length ≤ 8192 := by rw [← hX]; exact Nat.le_trans (replyX_len _ _ s) HT1.len
          rw [hX] at cq cd
          obtain ⟨y, tX⟩ := X
          have hbw1 := hbox.cell 1
          cases y with
          | error c =>
            clear hX
            go_wp2_with fail
            refine cq.mono ?_
            rintro e w5 ⟨⟨hc0, rfl⟩, v5, hr5, hk5, hi5⟩
            have HM := HT1.stepR hr5 hk5 (hi5.mono fun j hj => .inl hj)
            have hds : d < W1.heap.size := HT1.m.row.lt
            have hs5 : W1.heap.size ≤ w5.heap.size := hk5.size
            have hbox5 := hbox.kept hk5 (fun hf => Nat.lt_irrefl _ (HGB.out.2 _ hf))
            obtain ⟨W7, hW7⟩ : ∃ W, W = w5.alloc (.cells #[.int .i64 0, .string ⟨#[]⟩, .int .i64 0, .slice none 0 0, .slice none 0 0] 55) := ⟨_, rfl⟩
            have hb7 : Below w5.heap.size w5 W7 := by rw [hW7]; exact below_alloc _ _
            have rb7 : rowIs W7 w5.heap.size #[.int .i64 0, .string ⟨#[]⟩, .int .i64 0, .slice none 0 0, .slice none 0 0] 55 := by rw [hW7]; exact rowIs_new _ _ _
            have HM7 := HM.then hb7
            have hbox7 := hbox5.below hb7
            have u1 := hbox7.cell 1
            rw [hW7] at u1
            clear hr5 hk5 hi5 HM HT1 hbox hbox5
            go_wp2_with fail
            rw [← hW7]
            refine (cd W7 HM7.m).mono ?_
            rintro e w8 ⟨⟨-, rfl⟩, u8, hm8, hk8, hi8⟩
            have HT8 := HM7.stepM hm8 hk8 (hi8.mono fun j hj => .inl hj) hlx
            have rb8 := rb7.kept hk8 (by show ¬ w5.heap.size = d; omega)
            obtain ⟨W9, hW9⟩ : ∃ W, W = w8.alloc (.cells #[.string ⟨#[]⟩, .string ⟨#[]⟩, .int .i64 0, .int .i64 0, .slice none 0 0] 47) := ⟨_, rfl⟩
            have hb9 : Below w8.heap.size w8 W9 := by rw [hW9]; exact below_alloc _ _
            have rb9 : rowIs W9 w8.heap.size #[.string ⟨#[]⟩, .string ⟨#[]⟩, .int .i64 0, .int .i64 0, .slice none 0 0] 47 := by rw [hW9]; exact rowIs_new _ _ _
            have HT9 := HT8.then hb9
            have rb79 := rb8.below hb9
            have e3 : ((c : Int) != (c : Int)) = false := by simp
            have rd7 := hid (show Reads2 W9 (.slice none ([] : List Fld).length 0) [] from reads2_nil W9)
            have bb7 := hid (bytesRead (bytes_nil W9))
            clear rb7 HM7 hbox7 u1 hW7 cd hm8 hk8 hi8 HT8 rb8 hb7 hb9
            generalize w5.heap.size = b7 at *
            generalize w8.heap.size = b9 at *
            go_wp2_with fail
            rw [← hW9]
            clear hW9
            refine wp_region_held_drew (S := fun W => Below W9.heap.size W9 W ∧ rowIs W b7 #[.int .i64 0, .string ⟨#[]⟩, .int .i64 0, .slice none 0 0, .slice none 0 0] 55 ∧ rowIs W b9 #[.string ⟨#[]⟩, .string ⟨#[]⟩, .int .i64 0, .int .i64 0, .slice none 0 0] 47 ∧ Two w W g v5 d u8 tX) (by kernel_rfl) ⟨(Below.refl _ _).drew, rb79, rb9, HT9.then (Below.refl _ _).drew⟩ (fun hH => ?_)
            refine wpAnyH_take (i := 0) (v := ?_) rfl (by kernel_rfl) (by kernel_rfl) (by kernel_rfl) (fun _ _ _ h => h) (Or.inl ⟨by kernel_rfl, ?_⟩) hH ?_
            rotate_left
            · intro W hS
              have q0 := hS.2.1.cell 0
              have q1 := hS.2.1.cell 1
              have q2 := hS.2.1.cell 2
              have q3 := hS.2.1.cell 3
              have q4 := hS.2.1.cell 4
              go_simp
              first | done | with_reducible rfl
            simp only [Act.put, List.getElem_toArray, List.getElem_cons_succ, List.getElem_cons_zero, List.setIfInBounds_toArray, List.set_cons_zero, List.set_cons_succ]
            refine wpAnyH_take (i := 1) (v := ?_) rfl (by kernel_rfl) (by kernel_rfl) (by kernel_rfl) (fun _ _ _ h => h) (Or.inl ⟨by kernel_rfl, ?_⟩) hH ?_
            rotate_left
            · intro W hS
              have q0 := hS.2.1.cell 0
              have q1 := hS.2.1.cell 1
              have q2 := hS.2.1.cell 2
              have q3 := hS.2.1.cell 3
              have q4 := hS.2.1.cell 4
              go_simp
              first | done | with_reducible rfl
            simp only [Act.put, List.getElem_toArray, List.getElem_cons_succ, List.getElem_cons_zero, List.setIfInBounds_toArray, List.set_cons_zero, List.set_cons_succ]
            refine wpAnyH_take (i := 2) (v := ?_) rfl (by kernel_rfl) (by kernel_rfl) (by kernel_rfl) (fun _ _ _ h => h) (Or.inl ⟨by kernel_rfl, ?_⟩) hH ?_
            rotate_left
            · intro W hS
              have q0 := hS.2.1.cell 0
              have q1 := hS.2.1.cell 1
              have q2 := hS.2.1.cell 2
              have q3 := hS.2.1.cell 3
              have q4 := hS.2.1.cell 4
              go_simp
              first | done | with_reducible rfl
            simp only [Act.put, List.getElem_toArray, List.getElem_cons_succ, List.getElem_cons_zero, List.setIfInBounds_toArray, List.set_cons_zero, List.set_cons_succ]
            refine wpAnyH_take (i := 3) (v := ?_) rfl (by kernel_rfl) (by kernel_rfl) (by kernel_rfl) (fun _ _ _ h => h) (Or.inl ⟨by kernel_rfl, ?_⟩) hH ?_
            rotate_left
            · intro W hS
              have q0 := hS.2.1.cell 0
              have q1 := hS.2.1.cell 1
              have q2 := hS.2.1.cell 2
              have q3 := hS.2.1.cell 3
              have q4 := hS.2.1.cell 4
              go_simp
              first | done | with_reducible rfl
            simp only [Act.put, List.getElem_toArray, List.getElem_cons_succ, List.getElem_cons_zero, List.setIfInBounds_toArray, List.set_cons_zero, List.set_cons_succ]
            refine wpAnyH_take (i := 4) (v := ?_) rfl (by kernel_rfl) (by kernel_rfl) (by kernel_rfl) (fun _ _ _ h => h) (Or.inl ⟨by kernel_rfl, ?_⟩) hH ?_
            rotate_left
            · intro W hS
              have q0 := hS.2.1.cell 0
              have q1 := hS.2.1.cell 1
              have q2 := hS.2.1.cell 2
              have q3 := hS.2.1.cell 3
              have q4 := hS.2.1.cell 4
              go_simp
              first | done | with_reducible rfl
            simp only [Act.put, List.getElem_toArray, List.getElem_cons_succ, List.getElem_cons_zero, List.setIfInBounds_toArray, List.set_cons_zero, List.set_cons_succ]
            refine wpAnyH_take (i := 5) (v := ?_) rfl (by kernel_rfl) (by kernel_rfl) (by kernel_rfl) (fun _ _ _ h => h) (Or.inl ⟨by kernel_rfl, ?_⟩) hH ?_
            rotate_left
            · intro W hS
              have q0 := hS.2.1.cell 0
              have q1 := hS.2.1.cell 1
              have q2 := hS.2.1.cell 2
              have q3 := hS.2.1.cell 3
              have q4 := hS.2.1.cell 4
              go_simp
              first | done | with_reducible rfl
            simp only [Act.put, List.getElem_toArray, List.getElem_cons_succ, List.getElem_cons_zero, List.setIfInBounds_toArray, List.set_cons_zero, List.set_cons_succ]
            refine wpAnyH_take (i := 7) (v := ?_) rfl (by kernel_rfl) (by kernel_rfl) (by kernel_rfl) (fun _ _ _ h => h) (Or.inl ⟨by kernel_rfl, ?_⟩) hH ?_
            rotate_left
            · intro W hS
              have q0 := hS.2.1.cell 0
              have q1 := hS.2.1.cell 1
              have q2 := hS.2.1.cell 2
              have q3 := hS.2.1.cell 3
              have q4 := hS.2.1.cell 4
              go_simp
              first | done | with_reducible rfl
            simp only [Act.put, List.getElem_toArray, List.getElem_cons_succ, List.getElem_cons_zero, List.setIfInBounds_toArray, List.set_cons_zero, List.set_cons_succ]
            refine wpAnyH_take (i := 8) (v := ?_) rfl (by kernel_rfl) (by kernel_rfl) (by kernel_rfl) (fun _ _ _ h => h) (Or.inl ⟨by kernel_rfl, ?_⟩) hH ?_
            rotate_left
            · intro W hS
              have q0 := hS.2.1.cell 0
              have q1 := hS.2.1.cell 1
              have q2 := hS.2.1.cell 2
              have q3 := hS.2.1.cell 3
              have q4 := hS.2.1.cell 4
              go_simp
              first | done | with_reducible rfl
            simp only [Act.put, List.getElem_toArray, List.getElem_cons_succ, List.getElem_cons_zero, List.setIfInBounds_toArray, List.set_cons_zero, List.set_cons_succ]
            refine wpAnyH_take (i := 9) (v := .agg #[.string ⟨#[]⟩, .string ⟨#[]⟩, .int .i64 0, .int .i64 0, .slice none 0 0]) rfl (by kernel_rfl) (by kernel_rfl) (by kernel_rfl) (fun _ _ _ h => h) (Or.inl ⟨by kernel_rfl, ?_⟩) hH ?_
            · intro W hS
              exact load_gives (x := .tmp 14) (by kernel_rfl) b9 (by kernel_rfl) hS.2.2.1 Tryz.underlying47 rfl infoHdS
            simp only [Act.put, List.getElem_toArray, List.getElem_cons_succ, List.getElem_cons_zero, List.setIfInBounds_toArray, List.set_cons_zero, List.set_cons_succ]
            refine wpAnyH_take (i := 10) (v := ?_) rfl (by kernel_rfl) (by kernel_rfl) (by kernel_rfl) (fun _ _ _ h => h) (Or.inl ⟨by kernel_rfl, ?_⟩) hH ?_
            rotate_left
            · intro W hS
              have q0 := hS.2.1.cell 0
              have q1 := hS.2.1.cell 1
              have q2 := hS.2.1.cell 2
              have q3 := hS.2.1.cell 3
              have q4 := hS.2.1.cell 4
              go_simp
              first | done | with_reducible rfl
            simp only [Act.put, List.getElem_toArray, List.getElem_cons_succ, List.getElem_cons_zero, List.setIfInBounds_toArray, List.set_cons_zero, List.set_cons_succ]
            refine wpAnyH_ready (rs := [6]) (by kernel_rfl) (by simp) ?_
            refine AllReadyH.cons rfl (fun K hK => ?_) AllReadyH.nil
            go_simp
            refine (madeRes_any 0 [] 0 (.slice none 0 0) [] _ (rd7.out.below hH.1) (by simp)).mono ?_
            rintro e wa ⟨⟨aom, cm, rfl, rdm⟩, hbx⟩
            have hS1 := And.intro (hH.1.trans (hbx.mono hH.1.size)) (And.intro (hH.2.1.below hbx) (And.intro (hH.2.2.1.below hbx) (hH.2.2.2.then hbx)))
            refine hK.out _ _ hS1 (fun hH => ?_)
            clear hK K
            try simp only [Act.put, List.getElem_toArray, List.getElem_cons_succ, List.getElem_cons_zero, List.setIfInBounds_toArray, List.set_cons_zero, List.set_cons_succ]
            refine wpAnyH_ready (rs := [11]) (by kernel_rfl) (by simp) ?_
            refine AllReadyH.cons rfl (fun K hK => ?_) AllReadyH.nil
            go_simp
            refine (same_eq [] [] 0 0 [] aom none cm 0 (.slice none 0 0) (.slice none 0 0) [] _ rdm (rd7.out.below hH.1) (by simp) (bb7.out.below hH.1) (bb7.out.below hH.1)).mono ?_
            rintro e wb ⟨rfl, hbx⟩
            have hS1 := And.intro (hH.1.trans (hbx.mono hH.1.size)) (And.intro (hH.2.1.below hbx) (And.intro (hH.2.2.1.below hbx) (hH.2.2.2.then hbx)))
            refine hK.out _ _ hS1 (fun hH => ?_)
            clear hK K
            try simp only [Act.put, List.getElem_toArray, List.getElem_cons_succ, List.getElem_cons_zero, List.setIfInBounds_toArray, List.set_cons_zero, List.set_cons_succ]
            refine wpAnyH_take (i := 12) (v := ?_) rfl (by kernel_rfl) (by kernel_rfl) (by kernel_rfl) (fun _ _ _ h => h) (Or.inl ⟨by kernel_rfl, ?_⟩) hH ?_
            rotate_left
            · intro W hS
              have q0 := hS.2.1.cell 0
              have q1 := hS.2.1.cell 1
              have q2 := hS.2.1.cell 2
              have q3 := hS.2.1.cell 3
              have q4 := hS.2.1.cell 4
              go_simp
              first | done | with_reducible rfl
            simp only [Act.put, List.getElem_toArray, List.getElem_cons_succ, List.getElem_cons_zero, List.setIfInBounds_toArray, List.set_cons_zero, List.set_cons_succ]
            refine wpAnyH_take (i := 13) (v := ?_) rfl (by kernel_rfl) (by kernel_rfl) (by kernel_rfl) (fun _ _ _ h => h) (Or.inl ⟨by kernel_rfl, ?_⟩) hH ?_
            rotate_left
            · intro W hS
              have q0 := hS.2.1.cell 0
              have q1 := hS.2.1.cell 1
              have q2 := hS.2.1.cell 2
              have q3 := hS.2.1.cell 3
              have q4 := hS.2.1.cell 4
              go_simp
              first | done | with_reducible rfl
            simp only [Act.put, List.getElem_toArray, List.getElem_cons_succ, List.getElem_cons_zero, List.setIfInBounds_toArray, List.set_cons_zero, List.set_cons_succ]
            refine wpAnyH_done (by kernel_rfl) ?_ _
            have HTX := hH.2.2.2
            obtain ⟨auX, cuX, rfl, -⟩ := bytes_form HTX.m.by'
            go_wp2_with fail
            refine wp_region_held_drew (S := fun W => Two w W g v5 d (.slice auX tX.came.length cuX) tX) (by kernel_rfl) (HTX.then (Below.refl _ _).drew) (fun hH => ?_)
            refine wpAnyH_take (i := 0) (v := ?_) rfl (by kernel_rfl) (by kernel_rfl) (by kernel_rfl) (fun _ _ _ h => h) (Or.inl ⟨by kernel_rfl, ?_⟩) hH ?_
            rotate_left
            · intro W hS
              have q0 := hS.m.row.cell 0
              go_simp
              first | done | with_reducible rfl
            simp only [Act.put, List.getElem_toArray, List.getElem_cons_succ, List.getElem_cons_zero, List.setIfInBounds_toArray, List.set_cons_zero, List.set_cons_succ]
            refine wpAnyH_take (i := 2) (v := ?_) rfl (by kernel_rfl) (by kernel_rfl) (by kernel_rfl) (fun _ _ _ h => h) (Or.inl ⟨by kernel_rfl, ?_⟩) hH ?_
            rotate_left
            · intro W hS
              have q0 := hS.m.row.cell 0
              go_simp
              first | done | with_reducible rfl
            simp only [Act.put, List.getElem_toArray, List.getElem_cons_succ, List.getElem_cons_zero, List.setIfInBounds_toArray, List.set_cons_zero, List.set_cons_succ]
            refine wpAnyH_take (i := 3) (v := ?_) rfl (by kernel_rfl) (by kernel_rfl) (by kernel_rfl) (fun _ _ _ h => h) (Or.inl ⟨by kernel_rfl, ?_⟩) hH ?_
            rotate_left
            · intro W hS
              have q0 := hS.m.row.cell 0
              go_simp
              first | done | with_reducible rfl
            simp only [Act.put, List.getElem_toArray, List.getElem_cons_succ, List.getElem_cons_zero, List.setIfInBounds_toArray, List.set_cons_zero, List.set_cons_succ]
            refine wpAnyH_take (i := 4) (v := ?_) rfl (by kernel_rfl) (by kernel_rfl) (by kernel_rfl) (fun _ _ _ h => h) (Or.inl ⟨by kernel_rfl, ?_⟩) hH ?_
            rotate_left
            · intro W hS
              have q0 := hS.m.row.cell 0
              go_simp
              first | done | with_reducible rfl
            simp only [Act.put, List.getElem_toArray, List.getElem_cons_succ, List.getElem_cons_zero, List.setIfInBounds_toArray, List.set_cons_zero, List.set_cons_succ]
            refine wpAnyH_take (i := 5) (v := ?_) rfl (by kernel_rfl) (by kernel_rfl) (by kernel_rfl) (fun _ _ _ h => h) (Or.inl ⟨by kernel_rfl, ?_⟩) hH ?_
            rotate_left
            · intro W hS
              have q0 := hS.m.row.cell 0
              go_simp
              first | done | with_reducible rfl
            simp only [Act.put, List.getElem_toArray, List.getElem_cons_succ, List.getElem_cons_zero, List.setIfInBounds_toArray, List.set_cons_zero, List.set_cons_succ]
            refine wpAnyH_take (i := 6) (v := ?_) rfl (by kernel_rfl) (by kernel_rfl) (by kernel_rfl) (fun _ _ _ h => h) (Or.inl ⟨by kernel_rfl, ?_⟩) hH ?_
            rotate_left
            · intro W hS
              have q0 := hS.m.row.cell 0
              go_simp
              first | done | with_reducible rfl
            simp only [Act.put, List.getElem_toArray, List.getElem_cons_succ, List.getElem_cons_zero, List.setIfInBounds_toArray, List.set_cons_zero, List.set_cons_succ]
            refine wpAnyH_ready (rs := [1]) (by kernel_rfl) (by simp) ?_
            refine AllReadyH.cons rfl (fun K hK => ?_) AllReadyH.nil
            go_simp
            refine (leftR_any hH.r).mono ?_
            rintro e w' ⟨rfl, rfl⟩
            refine hK.out _ _ hH (fun hH => ?_)
            clear hK K
            try simp only [Act.put, List.getElem_toArray, List.getElem_cons_succ, List.getElem_cons_zero, List.setIfInBounds_toArray, List.set_cons_zero, List.set_cons_succ]
            refine wpAnyH_take (i := 7) (v := ?_) rfl (by kernel_rfl) (by kernel_rfl) (by kernel_rfl) (fun _ _ _ h => h) (Or.inl ⟨by kernel_rfl, ?_⟩) hH ?_
            rotate_left
            · intro W hS
              have q0 := hS.m.row.cell 0
              go_simp
              first | done | with_reducible rfl
            simp only [Act.put, List.getElem_toArray, List.getElem_cons_succ, List.getElem_cons_zero, List.setIfInBounds_toArray, List.set_cons_zero, List.set_cons_succ]
            refine wpAnyH_done (by kernel_rfl) ?_ _
            have HTZ := hid hH
            clear hH HTX
            go_wp2_with fail
            go_roundw
            case rel => exact ⟨k + 1, _, _, _, by omega, by go_num, HTZ.out⟩
            case measure => simp [intOf]; omega
          | ok p =>
            obtain ⟨h, b⟩ := p
            have hfo := reply_ok hX
            obtain ⟨hst, hfl⟩ := hfo
            clear hX
            go_wp2_with fail
            refine cq.mono ?_
            rintro e w5 ⟨⟨vl, vb, rfl, hol, hob⟩, v5, hr5, hk5, hi5⟩
            obtain ⟨aol, cl, rfl⟩ := ownsRow_form hol
            obtain ⟨aob, cb, rfl⟩ := ownsRow_bytes_form hob
            have hinl := fun j hj => (hol.lt j hj).1
            have hinb := fun j hj => (hob.lt j hj).1
            have hol5 := hol.reads2.2
            have hob5 := ownsRow_bytes hob
            have HM := HT1.stepR hr5 hk5 (hi5.mono fun j hj => .inl hj)
            have hds : d < W1.heap.size := HT1.m.row.lt
            have hs5 : W1.heap.size ≤ w5.heap.size := hk5.size
            have hbox5 := hbox.kept hk5 (fun hf => Nat.lt_irrefl _ (HGB.out.2 _ hf))
            obtain ⟨W7, hW7⟩ : ∃ W, W = w5.alloc (.cells #[.int .i64 (h.status : Int), strV h.first, .int .i64 (h.minor : Int), .slice aol h.flds.length cl, .slice aob b.length cb] 55) := ⟨_, rfl⟩
            have hb7 : Below w5.heap.size w5 W7 := by rw [hW7]; exact below_alloc _ _
            have rb7 : rowIs W7 w5.heap.size #[.int .i64 (h.status : Int), strV h.first, .int .i64 (h.minor : Int), .slice aol h.flds.length cl, .slice aob b.length cb] 55 := by rw [hW7]; exact rowIs_new _ _ _
            have HM7 := HM.then hb7
            have hbox7 := hbox5.below hb7
            have u1 := hbox7.cell 1
            rw [hW7] at u1
            clear hr5 hk5 hi5 HM HT1 hbox hbox5
            go_wp2_with fail
            rw [← hW7]
            refine (cd W7 HM7.m).mono ?_
            rintro e w8 ⟨⟨vl2, vb2, rfl, hol2, hob2, -⟩, u8, hm8, hk8, hi8⟩
            obtain ⟨aol2, cl2, rfl⟩ := hol2.form
            obtain ⟨aob2, cb2, rfl, -⟩ := bytes_form hob2
            have hol8 := reads2_kept (hol5.below hb7) hk8 (fun j hj e => by have := hinl j hj; have : j = d := e; omega)
            have hob8 := bytes_kept (bytes_below hob5 hb7) hk8 (fun j hj e => by have := hinb j hj; have : j = d := e; omega)
            clear hol hob hol5 hob5 hinl hinb
            have HT8 := HM7.stepM hm8 hk8 (hi8.mono fun j hj => .inl hj) hlx
            have rb8 := rb7.kept hk8 (by show ¬ w5.heap.size = d; omega)
            obtain ⟨W9, hW9⟩ : ∃ W, W = w8.alloc (.cells #[strV h.first, .string ⟨#[]⟩, .int .i64 (h.status : Int), .int .i64 (h.minor : Int), .slice aol2 h.flds.length cl2] 47) := ⟨_, rfl⟩
            have hb9 : Below w8.heap.size w8 W9 := by rw [hW9]; exact below_alloc _ _
            have rb9 : rowIs W9 w8.heap.size #[strV h.first, .string ⟨#[]⟩, .int .i64 (h.status : Int), .int .i64 (h.minor : Int), .slice aol2 h.flds.length cl2] 47 := by rw [hW9]; exact rowIs_new _ _ _
            have HT9 := HT8.then hb9
            have rb79 := rb8.below hb9
            have rd7 := hid (hol8.below hb9)
            have rd9 := hid (hol2.below hb9)
            have bb7 := hid (bytesRead (bytes_below hob8 hb9))
            have bb9 := hid (bytesRead (bytes_below hob2 hb9))
            clear hol8 hob8 hol2 hob2
            clear rb7 HM7 hbox7 u1 hW7 cd hm8 hk8 hi8 HT8 rb8 hb7 hb9
            generalize w5.heap.size = b7 at *
            generalize w8.heap.size = b9 at *
            go_wp2_with fail
            rw [← hW9]
            clear hW9
            refine wp_region_held_drew (S := fun W => Below W9.heap.size W9 W ∧ rowIs W b7 #[.int .i64 (h.status : Int), strV h.first, .int .i64 (h.minor : Int), .slice aol h.flds.length cl, .slice aob b.length cb] 55 ∧ rowIs W b9 #[strV h.first, .string ⟨#[]⟩, .int .i64 (h.status : Int), .int .i64 (h.minor : Int), .slice aol2 h.flds.length cl2] 47 ∧ Two w W g v5 d u8 tX) (by kernel_rfl) ⟨(Below.refl _ _).drew, rb79, rb9, HT9.then (Below.refl _ _).drew⟩ (fun hH => ?_)
            refine wpAnyH_take (i := 0) (v := ?_) rfl (by kernel_rfl) (by kernel_rfl) (by kernel_rfl) (fun _ _ _ h => h) (Or.inl ⟨by kernel_rfl, ?_⟩) hH ?_
            rotate_left
            · intro W hS
              have q0 := hS.2.1.cell 0
              have q1 := hS.2.1.cell 1
              have q2 := hS.2.1.cell 2
              have q3 := hS.2.1.cell 3
              have q4 := hS.2.1.cell 4
              go_simp
              first | done | with_reducible rfl
            simp only [Act.put, List.getElem_toArray, List.getElem_cons_succ, List.getElem_cons_zero, List.setIfInBounds_toArray, List.set_cons_zero, List.set_cons_succ]
            refine wpAnyH_take (i := 1) (v := ?_) rfl (by kernel_rfl) (by kernel_rfl) (by kernel_rfl) (fun _ _ _ h => h) (Or.inl ⟨by kernel_rfl, ?_⟩) hH ?_
            rotate_left
            · intro W hS
              have q0 := hS.2.1.cell 0
              have q1 := hS.2.1.cell 1
              have q2 := hS.2.1.cell 2
              have q3 := hS.2.1.cell 3
              have q4 := hS.2.1.cell 4
              go_simp
              first | done | with_reducible rfl
            simp only [Act.put, List.getElem_toArray, List.getElem_cons_succ, List.getElem_cons_zero, List.setIfInBounds_toArray, List.set_cons_zero, List.set_cons_succ]
            refine wpAnyH_take (i := 2) (v := ?_) rfl (by kernel_rfl) (by kernel_rfl) (by kernel_rfl) (fun _ _ _ h => h) (Or.inl ⟨by kernel_rfl, ?_⟩) hH ?_
            rotate_left
            · intro W hS
              have q0 := hS.2.1.cell 0
              have q1 := hS.2.1.cell 1
              have q2 := hS.2.1.cell 2
              have q3 := hS.2.1.cell 3
              have q4 := hS.2.1.cell 4
              go_simp
              first | done | with_reducible rfl
            simp only [Act.put, List.getElem_toArray, List.getElem_cons_succ, List.getElem_cons_zero, List.setIfInBounds_toArray, List.set_cons_zero, List.set_cons_succ]
            refine wpAnyH_take (i := 3) (v := ?_) rfl (by kernel_rfl) (by kernel_rfl) (by kernel_rfl) (fun _ _ _ h => h) (Or.inl ⟨by kernel_rfl, ?_⟩) hH ?_
            rotate_left
            · intro W hS
              have q0 := hS.2.1.cell 0
              have q1 := hS.2.1.cell 1
              have q2 := hS.2.1.cell 2
              have q3 := hS.2.1.cell 3
              have q4 := hS.2.1.cell 4
              go_simp
              first | done | with_reducible rfl
            simp only [Act.put, List.getElem_toArray, List.getElem_cons_succ, List.getElem_cons_zero, List.setIfInBounds_toArray, List.set_cons_zero, List.set_cons_succ]
            refine wpAnyH_take (i := 4) (v := ?_) rfl (by kernel_rfl) (by kernel_rfl) (by kernel_rfl) (fun _ _ _ h => h) (Or.inl ⟨by kernel_rfl, ?_⟩) hH ?_
            rotate_left
            · intro W hS
              have q0 := hS.2.1.cell 0
              have q1 := hS.2.1.cell 1
              have q2 := hS.2.1.cell 2
              have q3 := hS.2.1.cell 3
              have q4 := hS.2.1.cell 4
              go_simp
              first | done | with_reducible rfl
            simp only [Act.put, List.getElem_toArray, List.getElem_cons_succ, List.getElem_cons_zero, List.setIfInBounds_toArray, List.set_cons_zero, List.set_cons_succ]
            refine wpAnyH_take (i := 5) (v := ?_) rfl (by kernel_rfl) (by kernel_rfl) (by kernel_rfl) (fun _ _ _ h => h) (Or.inl ⟨by kernel_rfl, ?_⟩) hH ?_
            rotate_left
            · intro W hS
              have q0 := hS.2.1.cell 0
              have q1 := hS.2.1.cell 1
              have q2 := hS.2.1.cell 2
              have q3 := hS.2.1.cell 3
              have q4 := hS.2.1.cell 4
              go_simp
              first | done | with_reducible rfl
            simp only [Act.put, List.getElem_toArray, List.getElem_cons_succ, List.getElem_cons_zero, List.setIfInBounds_toArray, List.set_cons_zero, List.set_cons_succ]
            refine wpAnyH_take (i := 7) (v := ?_) rfl (by kernel_rfl) (by kernel_rfl) (by kernel_rfl) (fun _ _ _ h => h) (Or.inl ⟨by kernel_rfl, ?_⟩) hH ?_
            rotate_left
            · intro W hS
              have q0 := hS.2.1.cell 0
              have q1 := hS.2.1.cell 1
              have q2 := hS.2.1.cell 2
              have q3 := hS.2.1.cell 3
              have q4 := hS.2.1.cell 4
              go_simp
              first | done | with_reducible rfl
            simp only [Act.put, List.getElem_toArray, List.getElem_cons_succ, List.getElem_cons_zero, List.setIfInBounds_toArray, List.set_cons_zero, List.set_cons_succ]
            refine wpAnyH_take (i := 8) (v := ?_) rfl (by kernel_rfl) (by kernel_rfl) (by kernel_rfl) (fun _ _ _ h => h) (Or.inl ⟨by kernel_rfl, ?_⟩) hH ?_
            rotate_left
            · intro W hS
              have q0 := hS.2.1.cell 0
              have q1 := hS.2.1.cell 1
              have q2 := hS.2.1.cell 2
              have q3 := hS.2.1.cell 3
              have q4 := hS.2.1.cell 4
              go_simp
              first | done | with_reducible rfl
            simp only [Act.put, List.getElem_toArray, List.getElem_cons_succ, List.getElem_cons_zero, List.setIfInBounds_toArray, List.set_cons_zero, List.set_cons_succ]
            refine wpAnyH_take (i := 9) (v := .agg #[strV h.first, .string ⟨#[]⟩, .int .i64 (h.status : Int), .int .i64 (h.minor : Int), .slice aol2 h.flds.length cl2]) rfl (by kernel_rfl) (by kernel_rfl) (by kernel_rfl) (fun _ _ _ h => h) (Or.inl ⟨by kernel_rfl, ?_⟩) hH ?_
            · intro W hS
              exact load_gives (x := .tmp 14) (by kernel_rfl) b9 (by kernel_rfl) hS.2.2.1 Tryz.underlying47 rfl infoHdS
            simp only [Act.put, List.getElem_toArray, List.getElem_cons_succ, List.getElem_cons_zero, List.setIfInBounds_toArray, List.set_cons_zero, List.set_cons_succ]
            refine wpAnyH_take (i := 10) (v := ?_) rfl (by kernel_rfl) (by kernel_rfl) (by kernel_rfl) (fun _ _ _ h => h) (Or.inl ⟨by kernel_rfl, ?_⟩) hH ?_
            rotate_left
            · intro W hS
              have q0 := hS.2.1.cell 0
              have q1 := hS.2.1.cell 1
              have q2 := hS.2.1.cell 2
              have q3 := hS.2.1.cell 3
              have q4 := hS.2.1.cell 4
              go_simp
              first | done | with_reducible rfl
            simp only [Act.put, List.getElem_toArray, List.getElem_cons_succ, List.getElem_cons_zero, List.setIfInBounds_toArray, List.set_cons_zero, List.set_cons_succ]
            refine wpAnyH_ready (rs := [6]) (by kernel_rfl) (by simp) ?_
            refine AllReadyH.cons rfl (fun K hK => ?_) AllReadyH.nil
            go_simp
            refine (madeRes_any (h.status : Int) h.first (h.minor : Int) (.slice aol h.flds.length cl) h.flds _ (rd7.out.below hH.1) (by omega)).mono ?_
            rintro e wa ⟨⟨aom, cm, rfl, rdm⟩, hbx⟩
            have hS1 := And.intro (hH.1.trans (hbx.mono hH.1.size)) (And.intro (hH.2.1.below hbx) (And.intro (hH.2.2.1.below hbx) (hH.2.2.2.then hbx)))
            refine hK.out _ _ hS1 (fun hH => ?_)
            clear hK K
            try simp only [Act.put, List.getElem_toArray, List.getElem_cons_succ, List.getElem_cons_zero, List.setIfInBounds_toArray, List.set_cons_zero, List.set_cons_succ]
            refine wpAnyH_ready (rs := [11]) (by kernel_rfl) (by simp) ?_
            refine AllReadyH.cons rfl (fun K hK => ?_) AllReadyH.nil
            go_simp
            refine (same_eq h.first [] (h.status : Int) (h.minor : Int) h.flds aom aol2 cm cl2 (.slice aob b.length cb) (.slice aob2 b.length cb2) b _ rdm (rd9.out.below hH.1) (by omega) (bb7.out.below hH.1) (bb9.out.below hH.1)).mono ?_
            rintro e wb ⟨rfl, hbx⟩
            have hS1 := And.intro (hH.1.trans (hbx.mono hH.1.size)) (And.intro (hH.2.1.below hbx) (And.intro (hH.2.2.1.below hbx) (hH.2.2.2.then hbx)))
            refine hK.out _ _ hS1 (fun hH => ?_)
            clear hK K
            try simp only [Act.put, List.getElem_toArray, List.getElem_cons_succ, List.getElem_cons_zero, List.setIfInBounds_toArray, List.set_cons_zero, List.set_cons_succ]
            refine wpAnyH_take (i := 12) (v := ?_) rfl (by kernel_rfl) (by kernel_rfl) (by kernel_rfl) (fun _ _ _ h => h) (Or.inl ⟨by kernel_rfl, ?_⟩) hH ?_
            rotate_left
            · intro W hS
              have q0 := hS.2.1.cell 0
              have q1 := hS.2.1.cell 1
              have q2 := hS.2.1.cell 2
              have q3 := hS.2.1.cell 3
              have q4 := hS.2.1.cell 4
              go_simp
              first | done | with_reducible rfl
            simp only [Act.put, List.getElem_toArray, List.getElem_cons_succ, List.getElem_cons_zero, List.setIfInBounds_toArray, List.set_cons_zero, List.set_cons_succ]
            refine wpAnyH_take (i := 13) (v := ?_) rfl (by kernel_rfl) (by kernel_rfl) (by kernel_rfl) (fun _ _ _ h => h) (Or.inl ⟨by kernel_rfl, ?_⟩) hH ?_
            rotate_left
            · intro W hS
              have q0 := hS.2.1.cell 0
              have q1 := hS.2.1.cell 1
              have q2 := hS.2.1.cell 2
              have q3 := hS.2.1.cell 3
              have q4 := hS.2.1.cell 4
              go_simp
              first | done | with_reducible rfl
            simp only [Act.put, List.getElem_toArray, List.getElem_cons_succ, List.getElem_cons_zero, List.setIfInBounds_toArray, List.set_cons_zero, List.set_cons_succ]
            refine wpAnyH_done (by kernel_rfl) ?_ _
            have HTX := hH.2.2.2
            obtain ⟨auX, cuX, rfl, -⟩ := bytes_form HTX.m.by'
            go_wp2_with fail
            refine wp_region_held_drew (S := fun W => Two w W g v5 d (.slice auX tX.came.length cuX) tX) (by kernel_rfl) (HTX.then (Below.refl _ _).drew) (fun hH => ?_)
            refine wpAnyH_take (i := 0) (v := ?_) rfl (by kernel_rfl) (by kernel_rfl) (by kernel_rfl) (fun _ _ _ h => h) (Or.inl ⟨by kernel_rfl, ?_⟩) hH ?_
            rotate_left
            · intro W hS
              have q0 := hS.m.row.cell 0
              go_simp
              first | done | with_reducible rfl
            simp only [Act.put, List.getElem_toArray, List.getElem_cons_succ, List.getElem_cons_zero, List.setIfInBounds_toArray, List.set_cons_zero, List.set_cons_succ]
            refine wpAnyH_take (i := 2) (v := ?_) rfl (by kernel_rfl) (by kernel_rfl) (by kernel_rfl) (fun _ _ _ h => h) (Or.inl ⟨by kernel_rfl, ?_⟩) hH ?_
            rotate_left
            · intro W hS
              have q0 := hS.m.row.cell 0
              go_simp
              first | done | with_reducible rfl
            simp only [Act.put, List.getElem_toArray, List.getElem_cons_succ, List.getElem_cons_zero, List.setIfInBounds_toArray, List.set_cons_zero, List.set_cons_succ]
            refine wpAnyH_take (i := 3) (v := ?_) rfl (by kernel_rfl) (by kernel_rfl) (by kernel_rfl) (fun _ _ _ h => h) (Or.inl ⟨by kernel_rfl, ?_⟩) hH ?_
            rotate_left
            · intro W hS
              have q0 := hS.m.row.cell 0
              go_simp
              first | done | with_reducible rfl
            simp only [Act.put, List.getElem_toArray, List.getElem_cons_succ, List.getElem_cons_zero, List.setIfInBounds_toArray, List.set_cons_zero, List.set_cons_succ]
            refine wpAnyH_take (i := 4) (v := ?_) rfl (by kernel_rfl) (by kernel_rfl) (by kernel_rfl) (fun _ _ _ h => h) (Or.inl ⟨by kernel_rfl, ?_⟩) hH ?_
            rotate_left
            · intro W hS
              have q0 := hS.m.row.cell 0
              go_simp
              first | done | with_reducible rfl
            simp only [Act.put, List.getElem_toArray, List.getElem_cons_succ, List.getElem_cons_zero, List.setIfInBounds_toArray, List.set_cons_zero, List.set_cons_succ]
            refine wpAnyH_take (i := 5) (v := ?_) rfl (by kernel_rfl) (by kernel_rfl) (by kernel_rfl) (fun _ _ _ h => h) (Or.inl ⟨by kernel_rfl, ?_⟩) hH ?_
            rotate_left
            · intro W hS
              have q0 := hS.m.row.cell 0
              go_simp
              first | done | with_reducible rfl
            simp only [Act.put, List.getElem_toArray, List.getElem_cons_succ, List.getElem_cons_zero, List.setIfInBounds_toArray, List.set_cons_zero, List.set_cons_succ]
            refine wpAnyH_take (i := 6) (v := ?_) rfl (by kernel_rfl) (by kernel_rfl) (by kernel_rfl) (fun _ _ _ h => h) (Or.inl ⟨by kernel_rfl, ?_⟩) hH ?_
            rotate_left
            · intro W hS
              have q0 := hS.m.row.cell 0
              go_simp
              first | done | with_reducible rfl
            simp only [Act.put, List.getElem_toArray, List.getElem_cons_succ, List.getElem_cons_zero, List.setIfInBounds_toArray, List.set_cons_zero, List.set_cons_succ]
            refine wpAnyH_ready (rs := [1]) (by kernel_rfl) (by simp) ?_
            refine AllReadyH.cons rfl (fun K hK => ?_) AllReadyH.nil
            go_simp
            refine (leftR_any hH.r).mono ?_
            rintro e w' ⟨rfl, rfl⟩
            refine hK.out _ _ hH (fun hH => ?_)
            clear hK K
            try simp only [Act.put, List.getElem_toArray, List.getElem_cons_succ, List.getElem_cons_zero, List.setIfInBounds_toArray, List.set_cons_zero, List.set_cons_succ]
            refine wpAnyH_take (i := 7) (v := ?_) rfl (by kernel_rfl) (by kernel_rfl) (by kernel_rfl) (fun _ _ _ h => h) (Or.inl ⟨by kernel_rfl, ?_⟩) hH ?_
            rotate_left
            · intro W hS
              have q0 := hS.m.row.cell 0
              go_simp
              first | done | with_reducible rfl
            simp only [Act.put, List.getElem_toArray, List.getElem_cons_succ, List.getElem_cons_zero, List.setIfInBounds_toArray, List.set_cons_zero, List.set_cons_succ]
            refine wpAnyH_done (by kernel_rfl) ?_ _
            have HTZ := hid hH
            clear hH HTX
            go_wp2_with fail
            go_roundw
            case rel => exact ⟨k + 1, _, _, _, by omega, by go_num, HTZ.out⟩
            case measure => simp [intOf]; omega
        have n3 : (o.kind == 3) = false := by rw [beq_eq_false_iff_ne]; exact h3
        by_cases h4 : o.kind = 4
        · have n4 : (o.kind == 4) = true := by rw [h4]; rfl
          clear h1 h2 h3 h4
          go_upto_if 112 with fail
          rw [← hW1]
          clear hW1 k0 k1 k2
          generalize wr.heap.size = gb at *
          go_wp2_with fail
          refine (closeR_any HT1.r).mono ?_
          rintro e w5 ⟨⟨r5, rfl⟩, hr5, hk5⟩
          have HM := HT1.stepR hr5 hk5 (fun _ hk => .inl hk)
          obtain ⟨au5, cu5, rfl, -⟩ := bytes_form HM.m.by'
          have f1 := HM.m.row.free 1
          have s1 := HM.m.row.cell 1
          have hk6 := (Kept.refl (fun k => k = d) w5).setCell (g := d) (i := 1) (.inl rfl) (.bool true)
          have hm6 : DocAt (w5.setCell ⟨d, 1, none⟩ (.bool true)) d (.slice au5 s.came.length cu5) ⟨s.came, true, s.wrong⟩ := ⟨HM.m.row.setCell 1 (.bool true), bytes_kept HM.m.by' hk6 (HM.m.apart.mono fun k hk => hk.1), HM.m.apart.mono fun k hk => ⟨hk.1, by simpa [World.setCell] using hk.2⟩⟩
          have HTX := HM.stepM hm6 hk6 (fun _ hk => .inl hk) HM.len
          obtain ⟨tX, htX⟩ : ∃ x : Rd, x = ⟨s.came, true, s.wrong⟩ := ⟨_, rfl⟩
          obtain ⟨uX, huX⟩ : ∃ x, x = Value.slice au5 s.came.length cu5 := ⟨_, rfl⟩
          rw [← htX, ← huX] at HTX
          clear hm6 hk6 HM hr5 hk5 htX huX hbox HT1
          obtain ⟨auX, cuX, rfl, -⟩ := bytes_form HTX.m.by'
          go_wp2_with fail
          refine wp_region_held_drew (S := fun W => Two w W g vv d (.slice auX tX.came.length cuX) tX) (by kernel_rfl) (HTX.then (Below.refl _ _).drew) (fun hH => ?_)
          refine wpAnyH_take (i := 0) (v := ?_) rfl (by kernel_rfl) (by kernel_rfl) (by kernel_rfl) (fun _ _ _ h => h) (Or.inl ⟨by kernel_rfl, ?_⟩) hH ?_
          rotate_left
          · intro W hS
            have q0 := hS.m.row.cell 0
            go_simp
            first | done | with_reducible rfl
          simp only [Act.put, List.getElem_toArray, List.getElem_cons_succ, List.getElem_cons_zero, List.setIfInBounds_toArray, List.set_cons_zero, List.set_cons_succ]
          refine wpAnyH_take (i := 2) (v := ?_) rfl (by kernel_rfl) (by kernel_rfl) (by kernel_rfl) (fun _ _ _ h => h) (Or.inl ⟨by kernel_rfl, ?_⟩) hH ?_
          rotate_left
          · intro W hS
            have q0 := hS.m.row.cell 0
            go_simp
            first | done | with_reducible rfl
          simp only [Act.put, List.getElem_toArray, List.getElem_cons_succ, List.getElem_cons_zero, List.setIfInBounds_toArray, List.set_cons_zero, List.set_cons_succ]
          refine wpAnyH_take (i := 3) (v := ?_) rfl (by kernel_rfl) (by kernel_rfl) (by kernel_rfl) (fun _ _ _ h => h) (Or.inl ⟨by kernel_rfl, ?_⟩) hH ?_
          rotate_left
          · intro W hS
            have q0 := hS.m.row.cell 0
            go_simp
            first | done | with_reducible rfl
          simp only [Act.put, List.getElem_toArray, List.getElem_cons_succ, List.getElem_cons_zero, List.setIfInBounds_toArray, List.set_cons_zero, List.set_cons_succ]
          refine wpAnyH_take (i := 4) (v := ?_) rfl (by kernel_rfl) (by kernel_rfl) (by kernel_rfl) (fun _ _ _ h => h) (Or.inl ⟨by kernel_rfl, ?_⟩) hH ?_
          rotate_left
          · intro W hS
            have q0 := hS.m.row.cell 0
            go_simp
            first | done | with_reducible rfl
          simp only [Act.put, List.getElem_toArray, List.getElem_cons_succ, List.getElem_cons_zero, List.setIfInBounds_toArray, List.set_cons_zero, List.set_cons_succ]
          refine wpAnyH_take (i := 5) (v := ?_) rfl (by kernel_rfl) (by kernel_rfl) (by kernel_rfl) (fun _ _ _ h => h) (Or.inl ⟨by kernel_rfl, ?_⟩) hH ?_
          rotate_left
          · intro W hS
            have q0 := hS.m.row.cell 0
            go_simp
            first | done | with_reducible rfl
          simp only [Act.put, List.getElem_toArray, List.getElem_cons_succ, List.getElem_cons_zero, List.setIfInBounds_toArray, List.set_cons_zero, List.set_cons_succ]
          refine wpAnyH_take (i := 6) (v := ?_) rfl (by kernel_rfl) (by kernel_rfl) (by kernel_rfl) (fun _ _ _ h => h) (Or.inl ⟨by kernel_rfl, ?_⟩) hH ?_
          rotate_left
          · intro W hS
            have q0 := hS.m.row.cell 0
            go_simp
            first | done | with_reducible rfl
          simp only [Act.put, List.getElem_toArray, List.getElem_cons_succ, List.getElem_cons_zero, List.setIfInBounds_toArray, List.set_cons_zero, List.set_cons_succ]
          refine wpAnyH_ready (rs := [1]) (by kernel_rfl) (by simp) ?_
          refine AllReadyH.cons rfl (fun K hK => ?_) AllReadyH.nil
          go_simp
          refine (leftR_any hH.r).mono ?_
          rintro e w' ⟨rfl, rfl⟩
          refine hK.out _ _ hH (fun hH => ?_)
          clear hK K
          try simp only [Act.put, List.getElem_toArray, List.getElem_cons_succ, List.getElem_cons_zero, List.setIfInBounds_toArray, List.set_cons_zero, List.set_cons_succ]
          refine wpAnyH_take (i := 7) (v := ?_) rfl (by kernel_rfl) (by kernel_rfl) (by kernel_rfl) (fun _ _ _ h => h) (Or.inl ⟨by kernel_rfl, ?_⟩) hH ?_
          rotate_left
          · intro W hS
            have q0 := hS.m.row.cell 0
            go_simp
            first | done | with_reducible rfl
          simp only [Act.put, List.getElem_toArray, List.getElem_cons_succ, List.getElem_cons_zero, List.setIfInBounds_toArray, List.set_cons_zero, List.set_cons_succ]
          refine wpAnyH_done (by kernel_rfl) ?_ _
          have HTZ := hid hH
          clear hH HTX
          go_wp2_with fail
          go_roundw
          case rel => exact ⟨k + 1, _, _, _, by omega, by go_num, HTZ.out⟩
          case measure => simp [intOf]; omega
        · have n4 : (o.kind == 4) = false := by rw [beq_eq_false_iff_ne]; exact h4
          go_upto_if 112 with fail
          rw [← hW1]
          clear hW1 k0 k1 k2
          generalize wr.heap.size = gb at *
          have HTX := HT1
          obtain ⟨vX, hvX⟩ : ∃ x, x = vv := ⟨_, rfl⟩
          obtain ⟨uX, huX⟩ : ∃ x, x = u := ⟨_, rfl⟩
          obtain ⟨tX, htX⟩ : ∃ x, x = s := ⟨_, rfl⟩
          rw [← hvX, ← huX, ← htX] at HTX
          obtain ⟨auX, cuX, rfl, -⟩ := bytes_form HTX.m.by'
          go_wp2_with fail
          refine wp_region_held_drew (S := fun W => Two w W g vX d (.slice auX tX.came.length cuX) tX) (by kernel_rfl) (HTX.then (Below.refl _ _).drew) (fun hH => ?_)
          refine wpAnyH_take (i := 0) (v := ?_) rfl (by kernel_rfl) (by kernel_rfl) (by kernel_rfl) (fun _ _ _ h => h) (Or.inl ⟨by kernel_rfl, ?_⟩) hH ?_
          rotate_left
          · intro W hS
            have q0 := hS.m.row.cell 0
            go_simp
            first | done | with_reducible rfl
          simp only [Act.put, List.getElem_toArray, List.getElem_cons_succ, List.getElem_cons_zero, List.setIfInBounds_toArray, List.set_cons_zero, List.set_cons_succ]
          refine wpAnyH_take (i := 2) (v := ?_) rfl (by kernel_rfl) (by kernel_rfl) (by kernel_rfl) (fun _ _ _ h => h) (Or.inl ⟨by kernel_rfl, ?_⟩) hH ?_
          rotate_left
          · intro W hS
            have q0 := hS.m.row.cell 0
            go_simp
            first | done | with_reducible rfl
          simp only [Act.put, List.getElem_toArray, List.getElem_cons_succ, List.getElem_cons_zero, List.setIfInBounds_toArray, List.set_cons_zero, List.set_cons_succ]
          refine wpAnyH_take (i := 3) (v := ?_) rfl (by kernel_rfl) (by kernel_rfl) (by kernel_rfl) (fun _ _ _ h => h) (Or.inl ⟨by kernel_rfl, ?_⟩) hH ?_
          rotate_left
          · intro W hS
            have q0 := hS.m.row.cell 0
            go_simp
            first | done | with_reducible rfl
          simp only [Act.put, List.getElem_toArray, List.getElem_cons_succ, List.getElem_cons_zero, List.setIfInBounds_toArray, List.set_cons_zero, List.set_cons_succ]
          refine wpAnyH_take (i := 4) (v := ?_) rfl (by kernel_rfl) (by kernel_rfl) (by kernel_rfl) (fun _ _ _ h => h) (Or.inl ⟨by kernel_rfl, ?_⟩) hH ?_
          rotate_left
          · intro W hS
            have q0 := hS.m.row.cell 0
            go_simp
            first | done | with_reducible rfl
          simp only [Act.put, List.getElem_toArray, List.getElem_cons_succ, List.getElem_cons_zero, List.setIfInBounds_toArray, List.set_cons_zero, List.set_cons_succ]
          refine wpAnyH_take (i := 5) (v := ?_) rfl (by kernel_rfl) (by kernel_rfl) (by kernel_rfl) (fun _ _ _ h => h) (Or.inl ⟨by kernel_rfl, ?_⟩) hH ?_
          rotate_left
          · intro W hS
            have q0 := hS.m.row.cell 0
            go_simp
            first | done | with_reducible rfl
          simp only [Act.put, List.getElem_toArray, List.getElem_cons_succ, List.getElem_cons_zero, List.setIfInBounds_toArray, List.set_cons_zero, List.set_cons_succ]
          refine wpAnyH_take (i := 6) (v := ?_) rfl (by kernel_rfl) (by kernel_rfl) (by kernel_rfl) (fun _ _ _ h => h) (Or.inl ⟨by kernel_rfl, ?_⟩) hH ?_
          rotate_left
          · intro W hS
            have q0 := hS.m.row.cell 0
            go_simp
            first | done | with_reducible rfl
          simp only [Act.put, List.getElem_toArray, List.getElem_cons_succ, List.getElem_cons_zero, List.setIfInBounds_toArray, List.set_cons_zero, List.set_cons_succ]
          refine wpAnyH_ready (rs := [1]) (by kernel_rfl) (by simp) ?_
          refine AllReadyH.cons rfl (fun K hK => ?_) AllReadyH.nil
          go_simp
          refine (leftR_any hH.r).mono ?_
          rintro e w' ⟨rfl, rfl⟩
          refine hK.out _ _ hH (fun hH => ?_)
          clear hK K
          try simp only [Act.put, List.getElem_toArray, List.getElem_cons_succ, List.getElem_cons_zero, List.setIfInBounds_toArray, List.set_cons_zero, List.set_cons_succ]
          refine wpAnyH_take (i := 7) (v := ?_) rfl (by kernel_rfl) (by kernel_rfl) (by kernel_rfl) (fun _ _ _ h => h) (Or.inl ⟨by kernel_rfl, ?_⟩) hH ?_
          rotate_left
          · intro W hS
            have q0 := hS.m.row.cell 0
            go_simp
            first | done | with_reducible rfl
          simp only [Act.put, List.getElem_toArray, List.getElem_cons_succ, List.getElem_cons_zero, List.setIfInBounds_toArray, List.set_cons_zero, List.set_cons_succ]
          refine wpAnyH_done (by kernel_rfl) ?_ _
          have HTZ := hid hH
          clear hH HTX
          go_wp2_with fail
          go_roundw
          case rel => exact ⟨k + 1, _, _, _, by omega, by go_num, HTZ.out⟩
          case measure => simp [intOf]; omega
      · have f1 : decide ((k : Int) < (ops.length : Int)) = false := by rw [decide_eq_false_iff_not]; omega
        have HB2 := hid HT.out.r.bl
        clear HT
        go_wp2_with fail
        go_ret
        exact ⟨rfl, HB2.out⟩
end Go.Proofs.YtefplhkjcclppaaGreatDoor
