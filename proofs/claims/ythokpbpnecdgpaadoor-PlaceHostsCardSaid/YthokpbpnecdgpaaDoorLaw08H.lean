/-
  The walk of the statement PlaceHosts.
-/
import Derived.Test.YthokpbpnecdgpaaDoorLaw08L
namespace Go.Proofs.YthokpbpnecdgpaaDoor
open Go.RowKit Go.Pantry

set_option maxRecDepth 100000 in
set_option maxHeartbeats 8000000 in
theorem placeHosts_walk (a b c : ByteArray) (w : World) (hm : MaxOk w) (hl : LaidP w) (ha : a.size ≤ maxLen) (hb : b.size ≤ maxLen) (hc : c.size ≤ maxLen) :
    Calls Tryd.prog 8 #[.string a, .string b, .string c] w fun e w' => e = .returned (.bool true) ∧ Below w.heap.size w w' := by
  have ok : PlaceOk w := ⟨hm, hl.1, hl.2⟩
  have ca := anchor_any w ok
  have CA := hid ca
  have OK := hid ok
  clear ca ok hm hl
  unfold maxLen at ha hb hc
  by_cases h1 : 60 < a.size ∨ 60 < b.size ∨ 300 < c.size
  · have e : decide (60 < (a.size : Int)) = true ∨ (decide (60 < (a.size : Int)) = false ∧ decide (60 < (b.size : Int)) = true) ∨ (decide (60 < (a.size : Int)) = false ∧ decide (60 < (b.size : Int)) = false ∧ decide (300 < (c.size : Int)) = true) := by
      simp only [decide_eq_true_eq, decide_eq_false_iff_not]
      omega
    clear h1
    rcases e with e1 | ⟨e1, e2⟩ | ⟨e1, e2, e3⟩
    all_goals
      go_enter Tryd.func8, Tryd.ntmps8
      go_wp2_with (go_at_call 9; refine CA.out.mono ?_; rintro e w1 ⟨rfl, HB⟩)
      go_ret
      exact ⟨rfl, HB⟩
  · have l1 : a.size ≤ 60 := by omega
    have l2 : b.size ≤ 60 := by omega
    have l3 : c.size ≤ 300 := by omega
    have e1 : decide (60 < (a.size : Int)) = false := by rw [decide_eq_false_iff_not]; omega
    have e2 : decide (60 < (b.size : Int)) = false := by rw [decide_eq_false_iff_not]; omega
    have e3 : decide (300 < (c.size : Int)) = false := by rw [decide_eq_false_iff_not]; omega
    clear h1 ha hb hc
    have z1 := size_list a
    have z2 := size_list b
    have z3 := size_list c
    obtain ⟨A, hA⟩ : ∃ A, a.data.toList = A := ⟨_, rfl⟩
    obtain ⟨B, hB⟩ : ∃ B, b.data.toList = B := ⟨_, rfl⟩
    obtain ⟨C, hC⟩ : ∃ C, c.data.toList = C := ⟨_, rfl⟩
    have va : strV A = .string a := by rw [← hA]
    have vb : strV B = .string b := by rw [← hB]
    have ma : (⟨A.toArray⟩ : ByteArray) = a := by rw [← hA]
    have mc : (⟨C.toArray⟩ : ByteArray) = c := by rw [← hC]
    rw [hA] at z1
    rw [hB] at z2
    rw [hC] at z3
    have s1 := fun W => run_string_add_lists (P := Tryd.prog) W leadL A (by decide) (by omega)
    have s2 := fun W => run_string_add_lists (P := Tryd.prog) W (leadL ++ A) [47] (by simp [leadL]; omega) (by simp)
    have s3 := fun W => run_string_add_lists (P := Tryd.prog) W (leadL ++ A ++ [47]) C (by simp [leadL]; omega) (by omega)
    have s4 := fun W => run_string_add_lists (P := Tryd.prog) W [47] C (by simp) (by omega)
    rw [ma] at s1
    rw [mc] at s3 s4
    obtain ⟨T1, hT1⟩ : ∃ T1, leadL ++ A ++ [47] ++ C = T1 := ⟨_, rfl⟩
    obtain ⟨T2, hT2⟩ : ∃ T2, [47] ++ C = T2 := ⟨_, rfl⟩
    have k1 : T1.length ≤ 40000 := by rw [← hT1]; simp [leadL]; omega
    have k2 : T2.length ≤ 40000 := by rw [← hT2]; simp; omega
    have hown : (∀ x ∈ A, isSQ x = false) → readP T1 B = readP T2 A := fun h => by
      have := place_own (p := C) h B
      rw [← hT1, ← hT2, List.append_assoc]; exact this
    have hhost : ∀ p, readP T2 A = some p → hostL A = some p.host := fun p hp => read_host (by rw [← hT2]; rfl) hp
    rw [hT1] at s3
    rw [hT2] at s4
    have HOWN := hid hown
    have HHOST := hid hhost
    have HA := hid hA
    have VA := hid va
    have VB := hid vb
    obtain ⟨X1, hX1⟩ : ∃ X1, (⟨(leadL ++ A).toArray⟩ : ByteArray) = X1 := ⟨_, rfl⟩
    obtain ⟨X2, hX2⟩ : ∃ X2, (⟨(leadL ++ A ++ [47]).toArray⟩ : ByteArray) = X2 := ⟨_, rfl⟩
    rw [hX1] at s1 s2
    rw [hX2] at s2 s3
    have s1' : ∀ W, (Op.stringOp BinOp.add ⟨#[104, 116, 116, 112, 58, 47, 47]⟩ a).run Tryd.prog W = .ok (.string X1) W := s1
    clear hown hhost hA hB hC va vb ma mc hT1 hT2 hX1 hX2 s1
    go_enter Tryd.func8, Tryd.ntmps8
    go_wp2_with (go_at_call 9; refine CA.out.mono ?_; rintro e w1 ⟨rfl, HB⟩)
    go_loop [31] (fun i => ∃ k : Nat, k ≤ a.size ∧ i = .int .i64 k ∧ ((a.data.toList.take k).all fun x => !isSQ x) = true) (fun i => a.size - (intOf i).toNat)
    case atStart => exact ⟨0, Nat.zero_le _, rfl, rfl⟩
    case round =>
      obtain ⟨k, hk, rfl, hp⟩ := hrel
      have HP := hid hp
      clear hp
      by_cases hlt : k < a.size
      · have hstep := all_take_succ a.data.toList (fun x => !isSQ x) k (by rw [size_list]; exact hlt)
        rw [getElem_list a k hlt] at hstep
        have hsq : isSQ a[k] = (((a[k].toNat : Int) == 47) || ((a[k].toNat : Int) == 63)) := by
          unfold isSQ
          rw [byte_beq a[k] 47 (z := 47) rfl, byte_beq a[k] 63 (z := 63) rfl]
        obtain ⟨q1, hq1⟩ : ∃ q1, ((a[k].toNat : Int) == 47) = q1 := ⟨_, rfl⟩
        obtain ⟨q2, hq2⟩ : ∃ q2, ((a[k].toNat : Int) == 63) = q2 := ⟨_, rfl⟩
        rw [hq1, hq2] at hsq
        have HS := hid hstep
        have HQ := hid hsq
        clear hstep hsq
        cases q1
        · cases q2
          · go_wp2
            go_round
            case rel => exact ⟨k + 1, by omega, by go_num, by rw [HS.out, HP.out, HQ.out]; rfl⟩
            case measure => simp [intOf]; omega
          · go_wp2
            go_ret
            exact ⟨rfl, HB⟩
        · go_wp2
          go_ret
          exact ⟨rfl, HB⟩
      · have hall : ∀ x ∈ A, isSQ x = false := by
          have h := HP.out
          rw [take_all a k hlt, HA.out] at h
          intro x hx
          have := List.all_eq_true.1 h x hx
          simpa using this
        have hsame := HOWN.out hall
        clear hall
        cases hO : readP T2 A with
        | none =>
          rw [hO] at hsame
          have c1 := fun W hW => Read_none hsame W hW k1 (by omega)
          have c2 := fun W hW => Read_none hO W hW k2 (by omega)
          rw [VB.out] at c1
          rw [VA.out] at c2
          have C1 := hid c1
          have C2 := hid c2
          have EQ := fun W => eqlPl [] [] [] false W
          cases hH : hostL A with
          | none =>
            have ch := fun W hW => Host_none hH W hW (by omega)
            rw [VA.out] at ch
            have CH := hid ch
            clear c1 c2 ch hO hsame hH
            go_wp2_with (first
              | (go_at_call 12; refine (CH.out _ (OK.out.below HB)).mono ?_; rintro e w2 ⟨rfl, hb2⟩; replace HB := HB.trans (hb2.mono HB.size))
              | (go_at_call 10; with_reducible refine (C1.out _ (OK.out.below HB)).mono ?_; rintro e w3 ⟨rfl, hb3⟩; replace HB := HB.trans (hb3.mono HB.size); have R1a := rowIs_new w3 #[.string ⟨#[]⟩, .string ⟨#[]⟩, .string ⟨#[]⟩, .bool false] 24)
              | (refine wpList_store_row rfl 24 _ _ rfl w3.heap.size _ rfl rfl 24 #[.string ⟨#[]⟩, .string ⟨#[]⟩, .string ⟨#[]⟩, .bool false] R1a infoPlS rfl (onePl _ _ _ _) ?_; have R1 := R1a.setRow #[strV [], strV [], strV [], .bool false]; replace HB := below_setRow (HB.trans ((below_alloc w3 (.cells #[.string ⟨#[]⟩, .string ⟨#[]⟩, .string ⟨#[]⟩, .bool false] 24)).mono HB.size)) HB.size #[strV [], strV [], strV [], .bool false])
              | (go_at_call 10; with_reducible refine (C2.out _ (OK.out.below HB)).mono ?_; rintro e w4 ⟨rfl, hb4⟩; replace HB := HB.trans (hb4.mono HB.size); have R1b := R1.below hb4; have R1c := R1b.below (below_alloc w4 (.cells #[.string ⟨#[]⟩, .string ⟨#[]⟩, .string ⟨#[]⟩, .bool false] 24)); have R2a := rowIs_new w4 #[.string ⟨#[]⟩, .string ⟨#[]⟩, .string ⟨#[]⟩, .bool false] 24; have hne : w3.heap.size ≠ w4.heap.size := Nat.ne_of_lt R1b.lt)
              | (refine wpList_store_row rfl 24 _ _ rfl w4.heap.size _ rfl rfl 24 #[.string ⟨#[]⟩, .string ⟨#[]⟩, .string ⟨#[]⟩, .bool false] R2a infoPlS rfl (onePl _ _ _ _) ?_; have R2 := R2a.setRow #[strV [], strV [], strV [], .bool false]; have R1 := R1c.setRow_other #[strV [], strV [], strV [], .bool false] hne; replace HB := below_setRow (HB.trans ((below_alloc w4 (.cells #[.string ⟨#[]⟩, .string ⟨#[]⟩, .string ⟨#[]⟩, .bool false] 24)).mono HB.size)) HB.size #[strV [], strV [], strV [], .bool false]; generalize (w4.alloc (.cells #[.string ⟨#[]⟩, .string ⟨#[]⟩, .string ⟨#[]⟩, .bool false] 24)).setRow w4.heap.size #[strV [], strV [], strV [], .bool false] = W5 at R1 R2 HB ⊢; generalize w3.heap.size = g1 at R1 ⊢; generalize w4.heap.size = g2 at R2 ⊢; have L1 := R1.cell 0; clear R1a R1b R1c R2a hne hb2 hb3 hb4)
              | (refine wpList_load_g 24 _ rfl g1 rfl 24 _ _ R1 Tryd.underlying24 rfl infoPlS rfl ?_)
              | (refine wpList_load_g 24 _ rfl g2 rfl 24 _ _ R2 Tryd.underlying24 rfl infoPlS rfl ?_))
            go_ret
            exact ⟨rfl, HB⟩
          | some H =>
            have ch := fun W hW => Host_some hH W hW (by omega)
            rw [VA.out] at ch
            have CH := hid ch
            clear c1 c2 ch hO hsame hH
            go_wp2_with (first
              | (go_at_call 12; refine (CH.out _ (OK.out.below HB)).mono ?_; rintro e w2 ⟨rfl, hb2⟩; replace HB := HB.trans (hb2.mono HB.size))
              | (go_at_call 10; with_reducible refine (C1.out _ (OK.out.below HB)).mono ?_; rintro e w3 ⟨rfl, hb3⟩; replace HB := HB.trans (hb3.mono HB.size); have R1a := rowIs_new w3 #[.string ⟨#[]⟩, .string ⟨#[]⟩, .string ⟨#[]⟩, .bool false] 24)
              | (refine wpList_store_row rfl 24 _ _ rfl w3.heap.size _ rfl rfl 24 #[.string ⟨#[]⟩, .string ⟨#[]⟩, .string ⟨#[]⟩, .bool false] R1a infoPlS rfl (onePl _ _ _ _) ?_; have R1 := R1a.setRow #[strV [], strV [], strV [], .bool false]; replace HB := below_setRow (HB.trans ((below_alloc w3 (.cells #[.string ⟨#[]⟩, .string ⟨#[]⟩, .string ⟨#[]⟩, .bool false] 24)).mono HB.size)) HB.size #[strV [], strV [], strV [], .bool false])
              | (go_at_call 10; with_reducible refine (C2.out _ (OK.out.below HB)).mono ?_; rintro e w4 ⟨rfl, hb4⟩; replace HB := HB.trans (hb4.mono HB.size); have R1b := R1.below hb4; have R1c := R1b.below (below_alloc w4 (.cells #[.string ⟨#[]⟩, .string ⟨#[]⟩, .string ⟨#[]⟩, .bool false] 24)); have R2a := rowIs_new w4 #[.string ⟨#[]⟩, .string ⟨#[]⟩, .string ⟨#[]⟩, .bool false] 24; have hne : w3.heap.size ≠ w4.heap.size := Nat.ne_of_lt R1b.lt)
              | (refine wpList_store_row rfl 24 _ _ rfl w4.heap.size _ rfl rfl 24 #[.string ⟨#[]⟩, .string ⟨#[]⟩, .string ⟨#[]⟩, .bool false] R2a infoPlS rfl (onePl _ _ _ _) ?_; have R2 := R2a.setRow #[strV [], strV [], strV [], .bool false]; have R1 := R1c.setRow_other #[strV [], strV [], strV [], .bool false] hne; replace HB := below_setRow (HB.trans ((below_alloc w4 (.cells #[.string ⟨#[]⟩, .string ⟨#[]⟩, .string ⟨#[]⟩, .bool false] 24)).mono HB.size)) HB.size #[strV [], strV [], strV [], .bool false]; generalize (w4.alloc (.cells #[.string ⟨#[]⟩, .string ⟨#[]⟩, .string ⟨#[]⟩, .bool false] 24)).setRow w4.heap.size #[strV [], strV [], strV [], .bool false] = W5 at R1 R2 HB ⊢; generalize w3.heap.size = g1 at R1 ⊢; generalize w4.heap.size = g2 at R2 ⊢; have L1 := R1.cell 0; clear R1a R1b R1c R2a hne hb2 hb3 hb4)
              | (refine wpList_load_g 24 _ rfl g1 rfl 24 _ _ R1 Tryd.underlying24 rfl infoPlS rfl ?_)
              | (refine wpList_load_g 24 _ rfl g2 rfl 24 _ _ R2 Tryd.underlying24 rfl infoPlS rfl ?_))
            go_ret
            exact ⟨rfl, HB⟩
        | some p =>
          rw [hO] at hsame
          have c1 := fun W hW => Read_some hsame W hW k1 (by omega)
          have c2 := fun W hW => Read_some hO W hW k2 (by omega)
          rw [VB.out] at c1
          rw [VA.out] at c2
          have ch := fun W hW => Host_some (HHOST.out p hO) W hW (by omega)
          rw [VA.out] at ch
          have EQ := fun W => eqlPl p.host p.path p.query p.has W
          obtain ⟨H, P, Q, hs⟩ := p
          simp only at c1 c2 ch EQ
          have C1 := hid c1
          have C2 := hid c2
          have CH := hid ch
          clear c1 c2 ch hO hsame
          go_wp2_with (first
            | (go_at_call 12; refine (CH.out _ (OK.out.below HB)).mono ?_; rintro e w2 ⟨rfl, hb2⟩; replace HB := HB.trans (hb2.mono HB.size))
            | (go_at_call 10; with_reducible refine (C1.out _ (OK.out.below HB)).mono ?_; rintro e w3 ⟨rfl, hb3⟩; replace HB := HB.trans (hb3.mono HB.size); have R1a := rowIs_new w3 #[.string ⟨#[]⟩, .string ⟨#[]⟩, .string ⟨#[]⟩, .bool false] 24)
            | (refine wpList_store_row rfl 24 _ _ rfl w3.heap.size _ rfl rfl 24 #[.string ⟨#[]⟩, .string ⟨#[]⟩, .string ⟨#[]⟩, .bool false] R1a infoPlS rfl (onePl _ _ _ _) ?_; have R1 := R1a.setRow #[strV H, strV P, strV Q, .bool hs]; replace HB := below_setRow (HB.trans ((below_alloc w3 (.cells #[.string ⟨#[]⟩, .string ⟨#[]⟩, .string ⟨#[]⟩, .bool false] 24)).mono HB.size)) HB.size #[strV H, strV P, strV Q, .bool hs])
            | (go_at_call 10; with_reducible refine (C2.out _ (OK.out.below HB)).mono ?_; rintro e w4 ⟨rfl, hb4⟩; replace HB := HB.trans (hb4.mono HB.size); have R1b := R1.below hb4; have R1c := R1b.below (below_alloc w4 (.cells #[.string ⟨#[]⟩, .string ⟨#[]⟩, .string ⟨#[]⟩, .bool false] 24)); have R2a := rowIs_new w4 #[.string ⟨#[]⟩, .string ⟨#[]⟩, .string ⟨#[]⟩, .bool false] 24; have hne : w3.heap.size ≠ w4.heap.size := Nat.ne_of_lt R1b.lt)
            | (refine wpList_store_row rfl 24 _ _ rfl w4.heap.size _ rfl rfl 24 #[.string ⟨#[]⟩, .string ⟨#[]⟩, .string ⟨#[]⟩, .bool false] R2a infoPlS rfl (onePl _ _ _ _) ?_; have R2 := R2a.setRow #[strV H, strV P, strV Q, .bool hs]; have R1 := R1c.setRow_other #[strV H, strV P, strV Q, .bool hs] hne; replace HB := below_setRow (HB.trans ((below_alloc w4 (.cells #[.string ⟨#[]⟩, .string ⟨#[]⟩, .string ⟨#[]⟩, .bool false] 24)).mono HB.size)) HB.size #[strV H, strV P, strV Q, .bool hs]; generalize (w4.alloc (.cells #[.string ⟨#[]⟩, .string ⟨#[]⟩, .string ⟨#[]⟩, .bool false] 24)).setRow w4.heap.size #[strV H, strV P, strV Q, .bool hs] = W5 at R1 R2 HB ⊢; generalize w3.heap.size = g1 at R1 ⊢; generalize w4.heap.size = g2 at R2 ⊢; have L1 := R1.cell 0; clear R1a R1b R1c R2a hne hb2 hb3 hb4)
            | (refine wpList_load_g 24 _ rfl g1 rfl 24 _ _ R1 Tryd.underlying24 rfl infoPlS rfl ?_)
            | (refine wpList_load_g 24 _ rfl g2 rfl 24 _ _ R2 Tryd.underlying24 rfl infoPlS rfl ?_))
          go_ret
          exact ⟨rfl, HB⟩
end Go.Proofs.YthokpbpnecdgpaaDoor
