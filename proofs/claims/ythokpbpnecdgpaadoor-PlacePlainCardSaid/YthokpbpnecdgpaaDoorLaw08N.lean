/-
  The walk of the statement PlacePlain.
-/
import Derived.Test.YthokpbpnecdgpaaDoorLaw08L
import Derived.Test.YthokpbpnecdgpaaDoorPurePlace3
namespace Go.Proofs.YthokpbpnecdgpaaDoor
open Go.RowKit Go.Pantry

theorem onePl4 (a : List UInt8) (b c : ByteArray) (d : Bool) : (#[strV a, .string b, .string c, .bool d] : Array Value).all (·.oneCell') = true := by simp [Value.oneCell']
set_option maxRecDepth 100000 in
set_option maxHeartbeats 8000000 in
theorem placePlain_walk (a : ByteArray) (w : World) (hm : MaxOk w) (hl : LaidP w) (ha : a.size ≤ maxLen) :
    Calls Tryd.prog 7 #[.string a] w fun e w' => e = .returned (.bool true) ∧ Below w.heap.size w w' := by
  have ok : PlaceOk w := ⟨hm, hl.1, hl.2⟩
  have ca := anchor_any w ok
  have CA := hid ca
  have OK := hid ok
  clear ca ok hm hl
  unfold maxLen at ha
  by_cases h1 : 1200 < a.size
  · have e1 : decide (1200 < (a.size : Int)) = true := by simp; omega
    clear h1
    go_enter Tryd.func7, Tryd.ntmps7
    go_wp2_with (go_at_call 9; refine CA.out.mono ?_; rintro e w1 ⟨rfl, HB⟩)
    go_ret
    exact ⟨rfl, HB⟩
  · have l1 : a.size ≤ 1200 := by omega
    have e1 : decide (1200 < (a.size : Int)) = false := by rw [decide_eq_false_iff_not]; omega
    clear h1 ha
    have z1 := size_list a
    obtain ⟨A, hA⟩ : ∃ A, a.data.toList = A := ⟨_, rfl⟩
    have va : strV A = .string a := by rw [← hA]
    rw [hA] at z1
    cases hO : readP A [104] with
    | none =>
      have c1 := fun W hW => Read_none hO W hW (by omega) (by simp)
      rw [va] at c1
      have C1 := hid c1
      clear c1 hO hA va z1 l1
      go_enter Tryd.func7, Tryd.ntmps7
      go_wp2_with (first
        | (go_at_call 9; refine CA.out.mono ?_; rintro e w1 ⟨rfl, HB⟩)
        | (go_at_call 10; with_reducible refine (C1.out _ (OK.out.below HB)).mono ?_; rintro e w3 ⟨rfl, hb3⟩; replace HB := HB.trans (hb3.mono HB.size); have R1a := rowIs_new w3 #[.string ⟨#[]⟩, .string ⟨#[]⟩, .string ⟨#[]⟩, .bool false] 24)
        | (refine wpList_store_row rfl 24 _ _ rfl w3.heap.size _ rfl rfl 24 #[.string ⟨#[]⟩, .string ⟨#[]⟩, .string ⟨#[]⟩, .bool false] R1a infoPlS rfl (onePl _ _ _ _) ?_; replace HB := below_setRow (HB.trans ((below_alloc w3 (.cells #[.string ⟨#[]⟩, .string ⟨#[]⟩, .string ⟨#[]⟩, .bool false] 24)).mono HB.size)) HB.size #[strV [], strV [], strV [], .bool false]))
      go_ret
      exact ⟨rfl, HB⟩
    | some p =>
      have c1 := fun W hW => Read_some hO W hW (by omega) (by simp)
      rw [va] at c1
      obtain ⟨p1, p2, p3, p4, p5⟩ := read_plain hO
      have c2 := fun W hW => Read_some p5 W hW (by omega) (by simp)
      obtain ⟨H, P, Q, hs⟩ := p
      simp only at c1 c2 p1 p2 p3 p4
      obtain ⟨PB, hPB⟩ : ∃ B : ByteArray, B = ⟨P.toArray⟩ := ⟨_, rfl⟩
      have hP : P = PB.data.toList := by rw [hPB]
      obtain ⟨QB, hQB⟩ : ∃ B : ByteArray, B = ⟨Q.toArray⟩ := ⟨_, rfl⟩
      have c1' : ∀ W, PlaceOk W → Calls Tryd.prog 10 #[.string a, strV [104]] W fun e w' => e = .returned (.tuple #[.agg #[strV H, .string PB, .string QB, .bool hs], .int .i64 0]) ∧ Below W.heap.size W w' := by
        rw [hPB, hQB]; exact c1
      have c2' : ∀ W, PlaceOk W → Calls Tryd.prog 10 #[.string PB, strV [104]] W fun e w' => e = .returned (.tuple #[.agg #[strV [104], .string PB, .string ⟨#[]⟩, .bool false], .int .i64 0]) ∧ Below W.heap.size W w' := by
        rw [hPB]; exact c2
      have C1 := hid c1'
      have C2 := hid c2'
      have hsz : PB.size = P.length := by rw [hP, size_list]
      have hne : PB.size ≠ 0 := by
        rw [hsz]; intro h
        cases P with
        | nil => cases p1
        | cons c P => simp at h
      have hpos : 0 < PB.size := by omega
      have h47 : PB[0] = 47 := by
        have h1 := getElem_list PB 0 hpos
        rw [← h1]
        have h2 : PB.data.toList.head? = some 47 := by rw [← hP]; exact p1
        rw [List.head?_eq_getElem?, List.getElem?_eq_getElem (by rw [size_list]; exact hpos)] at h2
        exact Option.some.inj h2
      have hb47 : ((PB[0].toNat : Int) != 47) = false := by rw [h47]; rfl
      have hl5 : PB.size ≤ 512 := by omega
      have e5 : decide (512 < (PB.size : Int)) = false := by rw [decide_eq_false_iff_not]; omega
      rw [hP] at p4
      have P4 := hid p4
      have htn : ¬ PB.toList = [] := by
        rw [Lib.toList_data]; intro h; apply hne; rw [← size_list, h]; rfl
      have hte : PB.toList.isEmpty = false := by
        rw [List.isEmpty_eq_false_iff]; exact htn
      have hcs : hs = true ∨ (hs = false ∧ QB.toList = [] ∧ QB.toList.isEmpty = true) := by
        cases hs with
        | true => exact .inl rfl
        | false =>
          have h : QB.toList = [] := by rw [Lib.toList_data, hQB]; exact p3 rfl
          exact .inr ⟨rfl, h, by rw [h]; rfl⟩
      clear c1 c2 c1' c2' p1 p2 p3 p4 p5 hO hA va z1 l1 hPB hQB hP hsz h47
      rcases hcs with rfl | ⟨rfl, qn, qe⟩
      · go_enter Tryd.func7, Tryd.ntmps7
        go_wp2_with (first
          | (go_at_call 9; refine CA.out.mono ?_; rintro e w1 ⟨rfl, HB⟩)
          | (go_at_call 10; with_reducible refine (C1.out _ (OK.out.below HB)).mono ?_; rintro e w3 ⟨rfl, hb3⟩; replace HB := HB.trans (hb3.mono HB.size); have R1a := rowIs_new w3 #[.string ⟨#[]⟩, .string ⟨#[]⟩, .string ⟨#[]⟩, .bool false] 24)
          | (refine wpList_store_row rfl 24 _ _ rfl w3.heap.size _ rfl rfl 24 #[.string ⟨#[]⟩, .string ⟨#[]⟩, .string ⟨#[]⟩, .bool false] R1a infoPlS rfl (onePl4 _ _ _ _) ?_; have R1 := R1a.setRow #[strV H, .string PB, .string QB, .bool true]; replace HB := below_setRow (HB.trans ((below_alloc w3 (.cells #[.string ⟨#[]⟩, .string ⟨#[]⟩, .string ⟨#[]⟩, .bool false] 24)).mono HB.size)) HB.size #[strV H, .string PB, .string QB, .bool true]; generalize (w3.alloc (.cells #[.string ⟨#[]⟩, .string ⟨#[]⟩, .string ⟨#[]⟩, .bool false] 24)).setRow w3.heap.size #[strV H, .string PB, .string QB, .bool true] = W5 at R1 HB ⊢; generalize w3.heap.size = g1 at R1 ⊢; clear R1a hb3; have k1 := R1.cell 1; have k2 := R1.cell 2; have k3 := R1.cell 3))
        go_loop [5, 6] (fun l i => ∃ la k : Nat, l = .int .i64 la ∧ i = .int .i64 k ∧ la ≤ k ∧ k ≤ PB.size + 1 ∧ (la ≤ PB.size → ∀ x ∈ segL (PB.data.toList.drop la), isDots x = false) ∧ (47 : UInt8) ∉ (PB.data.toList.drop la).take (k - la)) (fun _ i => PB.size + 1 - (intOf i).toNat)
        case atStart => exact ⟨1, 1, rfl, rfl, Nat.le_refl _, by omega, fun _ x hx => P4.out x (by rwa [← List.drop_one]), by simp⟩
        case round =>
          obtain ⟨la, k, rfl, rfl, hlk, hk, hsg, hno⟩ := hrel
          have HSG := hid hsg
          have HNO := hid hno
          clear hsg hno
          by_cases hle : k ≤ PB.size
          · have hld : la ≤ PB.size := by omega
            have fle : decide ((k : Int) ≤ (PB.size : Int)) = true := by simp; omega
            have step : ∀ (he : k = PB.data.toList.length ∨ (∃ h : k < PB.data.toList.length, PB.data.toList[k] = 47)), ((PB.extract la k).toList == [46]) = false ∧ ((PB.extract la k).toList == [46, 46]) = false ∧ (k < PB.data.toList.length → ∀ x ∈ segL (PB.data.toList.drop (k + 1)), isDots x = false) := fun he => by
              obtain ⟨h1, h2⟩ := seg_step hlk (by rw [size_list]; exact hle) (HSG.out hld) HNO.out he
              have e : (PB.extract la k).toList = (PB.data.toList.drop la).take (k - la) := by
                rw [Lib.toList_data, Lib.extract_eq]
              rw [e]
              unfold isDots at h1
              rw [Bool.or_eq_false_iff, beq_eq_false_iff_ne, beq_eq_false_iff_ne] at h1
              exact ⟨by rw [beq_eq_false_iff_ne]; exact h1.1, by rw [beq_eq_false_iff_ne]; exact h1.2, h2⟩
            by_cases hlt : k < PB.size
            · have flt : ((k : Int) == (PB.size : Int)) = false := by rw [beq_eq_false_iff_ne]; omega
              by_cases hq : PB[k] = 47
              · obtain ⟨s1, s2, s3⟩ := step (.inr ⟨by rw [size_list]; exact hlt, by rw [getElem_list PB k hlt]; exact hq⟩)
                have fq : ((PB[k].toNat : Int) == 47) = true := by rw [hq]; rfl
                have S3 := hid s3
                clear s3 step hq
                go_wp2_with fail
                go_round
                case rel => exact ⟨k + 1, k + 1, by go_num, by go_num, by omega, by omega, fun _ => S3.out (by rw [size_list]; exact hlt), by simp⟩
                case measure => simp [intOf]; omega
              · have fq : ((PB[k].toNat : Int) == 47) = false := by
                  rw [← byte_beq PB[k] 47 (z := 47) rfl]; simpa using hq
                have hmore := seg_more hlk (by rw [size_list]; exact hlt) HNO.out (by rw [getElem_list PB k hlt]; exact hq)
                have HM := hid hmore
                clear step hq hmore
                go_wp2_with fail
                go_round
                case rel => exact ⟨la, k + 1, rfl, by go_num, by omega, by omega, HSG.out, HM.out⟩
                case measure => simp [intOf]; omega
            · obtain rfl : k = PB.size := by omega
              obtain ⟨s1, s2, -⟩ := step (.inl (size_list PB).symm)
              clear step
              go_wp2_with fail
              go_round
              case rel => exact ⟨PB.size + 1, PB.size + 1, by go_num, by go_num, by omega, by omega, fun h => absurd h (by omega), by simp⟩
              case measure => simp [intOf] <;> omega
          · have fle : decide ((k : Int) ≤ (PB.size : Int)) = false := by rw [decide_eq_false_iff_not]; omega
            go_wp2_with (first
              | (go_at_call 10; with_reducible refine (C2.out _ (OK.out.below HB)).mono ?_; rintro e w4 ⟨rfl, hb4⟩; have R1b := R1.below hb4; replace HB := HB.trans (hb4.mono HB.size); have R2a := rowIs_new w4 #[.string ⟨#[]⟩, .string ⟨#[]⟩, .string ⟨#[]⟩, .bool false] 24; have R1c := R1b.below (below_alloc w4 (.cells #[.string ⟨#[]⟩, .string ⟨#[]⟩, .string ⟨#[]⟩, .bool false] 24)); have hne2 : g1 ≠ w4.heap.size := Nat.ne_of_lt R1b.lt)
              | (refine wpList_store_row rfl 24 _ _ rfl w4.heap.size _ rfl rfl 24 #[.string ⟨#[]⟩, .string ⟨#[]⟩, .string ⟨#[]⟩, .bool false] R2a infoPlS rfl (onePl4 _ _ _ _) ?_; have R2 := R2a.setRow #[strV [104], .string PB, .string ⟨#[]⟩, .bool false]; have R1d := R1c.setRow_other #[strV [104], .string PB, .string ⟨#[]⟩, .bool false] hne2; replace HB := below_setRow (HB.trans ((below_alloc w4 (.cells #[.string ⟨#[]⟩, .string ⟨#[]⟩, .string ⟨#[]⟩, .bool false] 24)).mono HB.size)) HB.size #[strV [104], .string PB, .string ⟨#[]⟩, .bool false]; generalize (w4.alloc (.cells #[.string ⟨#[]⟩, .string ⟨#[]⟩, .string ⟨#[]⟩, .bool false] 24)).setRow w4.heap.size #[strV [104], .string PB, .string ⟨#[]⟩, .bool false] = W7 at R1d R2 HB ⊢; generalize w4.heap.size = g2 at R2 ⊢; clear R2a R1c R1b hb4 hne2 k1 k2 k3; have k1 := R1d.cell 1; have k4 := R2.cell 1))
            go_ret
            exact ⟨rfl, HB⟩
      · go_enter Tryd.func7, Tryd.ntmps7
        go_wp2_with (first
          | (go_at_call 9; refine CA.out.mono ?_; rintro e w1 ⟨rfl, HB⟩)
          | (go_at_call 10; with_reducible refine (C1.out _ (OK.out.below HB)).mono ?_; rintro e w3 ⟨rfl, hb3⟩; replace HB := HB.trans (hb3.mono HB.size); have R1a := rowIs_new w3 #[.string ⟨#[]⟩, .string ⟨#[]⟩, .string ⟨#[]⟩, .bool false] 24)
          | (refine wpList_store_row rfl 24 _ _ rfl w3.heap.size _ rfl rfl 24 #[.string ⟨#[]⟩, .string ⟨#[]⟩, .string ⟨#[]⟩, .bool false] R1a infoPlS rfl (onePl4 _ _ _ _) ?_; have R1 := R1a.setRow #[strV H, .string PB, .string QB, .bool false]; replace HB := below_setRow (HB.trans ((below_alloc w3 (.cells #[.string ⟨#[]⟩, .string ⟨#[]⟩, .string ⟨#[]⟩, .bool false] 24)).mono HB.size)) HB.size #[strV H, .string PB, .string QB, .bool false]; generalize (w3.alloc (.cells #[.string ⟨#[]⟩, .string ⟨#[]⟩, .string ⟨#[]⟩, .bool false] 24)).setRow w3.heap.size #[strV H, .string PB, .string QB, .bool false] = W5 at R1 HB ⊢; generalize w3.heap.size = g1 at R1 ⊢; clear R1a hb3; have k1 := R1.cell 1; have k2 := R1.cell 2; have k3 := R1.cell 3))
        go_loop [5, 6] (fun l i => ∃ la k : Nat, l = .int .i64 la ∧ i = .int .i64 k ∧ la ≤ k ∧ k ≤ PB.size + 1 ∧ (la ≤ PB.size → ∀ x ∈ segL (PB.data.toList.drop la), isDots x = false) ∧ (47 : UInt8) ∉ (PB.data.toList.drop la).take (k - la)) (fun _ i => PB.size + 1 - (intOf i).toNat)
        case atStart => exact ⟨1, 1, rfl, rfl, Nat.le_refl _, by omega, fun _ x hx => P4.out x (by rwa [← List.drop_one]), by simp⟩
        case round =>
          obtain ⟨la, k, rfl, rfl, hlk, hk, hsg, hno⟩ := hrel
          have HSG := hid hsg
          have HNO := hid hno
          clear hsg hno
          by_cases hle : k ≤ PB.size
          · have hld : la ≤ PB.size := by omega
            have fle : decide ((k : Int) ≤ (PB.size : Int)) = true := by simp; omega
            have step : ∀ (he : k = PB.data.toList.length ∨ (∃ h : k < PB.data.toList.length, PB.data.toList[k] = 47)), ((PB.extract la k).toList == [46]) = false ∧ ((PB.extract la k).toList == [46, 46]) = false ∧ (k < PB.data.toList.length → ∀ x ∈ segL (PB.data.toList.drop (k + 1)), isDots x = false) := fun he => by
              obtain ⟨h1, h2⟩ := seg_step hlk (by rw [size_list]; exact hle) (HSG.out hld) HNO.out he
              have e : (PB.extract la k).toList = (PB.data.toList.drop la).take (k - la) := by
                rw [Lib.toList_data, Lib.extract_eq]
              rw [e]
              unfold isDots at h1
              rw [Bool.or_eq_false_iff, beq_eq_false_iff_ne, beq_eq_false_iff_ne] at h1
              exact ⟨by rw [beq_eq_false_iff_ne]; exact h1.1, by rw [beq_eq_false_iff_ne]; exact h1.2, h2⟩
            by_cases hlt : k < PB.size
            · have flt : ((k : Int) == (PB.size : Int)) = false := by rw [beq_eq_false_iff_ne]; omega
              by_cases hq : PB[k] = 47
              · obtain ⟨s1, s2, s3⟩ := step (.inr ⟨by rw [size_list]; exact hlt, by rw [getElem_list PB k hlt]; exact hq⟩)
                have fq : ((PB[k].toNat : Int) == 47) = true := by rw [hq]; rfl
                have S3 := hid s3
                clear s3 step hq
                go_wp2_with fail
                go_round
                case rel => exact ⟨k + 1, k + 1, by go_num, by go_num, by omega, by omega, fun _ => S3.out (by rw [size_list]; exact hlt), by simp⟩
                case measure => simp [intOf]; omega
              · have fq : ((PB[k].toNat : Int) == 47) = false := by
                  rw [← byte_beq PB[k] 47 (z := 47) rfl]; simpa using hq
                have hmore := seg_more hlk (by rw [size_list]; exact hlt) HNO.out (by rw [getElem_list PB k hlt]; exact hq)
                have HM := hid hmore
                clear step hq hmore
                go_wp2_with fail
                go_round
                case rel => exact ⟨la, k + 1, rfl, by go_num, by omega, by omega, HSG.out, HM.out⟩
                case measure => simp [intOf]; omega
            · obtain rfl : k = PB.size := by omega
              obtain ⟨s1, s2, -⟩ := step (.inl (size_list PB).symm)
              clear step
              go_wp2_with fail
              go_round
              case rel => exact ⟨PB.size + 1, PB.size + 1, by go_num, by go_num, by omega, by omega, fun h => absurd h (by omega), by simp⟩
              case measure => simp [intOf] <;> omega
          · have fle : decide ((k : Int) ≤ (PB.size : Int)) = false := by rw [decide_eq_false_iff_not]; omega
            go_wp2_with (first
              | (go_at_call 10; with_reducible refine (C2.out _ (OK.out.below HB)).mono ?_; rintro e w4 ⟨rfl, hb4⟩; have R1b := R1.below hb4; replace HB := HB.trans (hb4.mono HB.size); have R2a := rowIs_new w4 #[.string ⟨#[]⟩, .string ⟨#[]⟩, .string ⟨#[]⟩, .bool false] 24; have R1c := R1b.below (below_alloc w4 (.cells #[.string ⟨#[]⟩, .string ⟨#[]⟩, .string ⟨#[]⟩, .bool false] 24)); have hne2 : g1 ≠ w4.heap.size := Nat.ne_of_lt R1b.lt)
              | (refine wpList_store_row rfl 24 _ _ rfl w4.heap.size _ rfl rfl 24 #[.string ⟨#[]⟩, .string ⟨#[]⟩, .string ⟨#[]⟩, .bool false] R2a infoPlS rfl (onePl4 _ _ _ _) ?_; have R2 := R2a.setRow #[strV [104], .string PB, .string ⟨#[]⟩, .bool false]; have R1d := R1c.setRow_other #[strV [104], .string PB, .string ⟨#[]⟩, .bool false] hne2; replace HB := below_setRow (HB.trans ((below_alloc w4 (.cells #[.string ⟨#[]⟩, .string ⟨#[]⟩, .string ⟨#[]⟩, .bool false] 24)).mono HB.size)) HB.size #[strV [104], .string PB, .string ⟨#[]⟩, .bool false]; generalize (w4.alloc (.cells #[.string ⟨#[]⟩, .string ⟨#[]⟩, .string ⟨#[]⟩, .bool false] 24)).setRow w4.heap.size #[strV [104], .string PB, .string ⟨#[]⟩, .bool false] = W7 at R1d R2 HB ⊢; generalize w4.heap.size = g2 at R2 ⊢; clear R2a R1c R1b hb4 hne2 k1 k2 k3; have k1 := R1d.cell 1; have k4 := R2.cell 1))
            go_ret
            exact ⟨rfl, HB⟩
end Go.Proofs.YthokpbpnecdgpaaDoor
