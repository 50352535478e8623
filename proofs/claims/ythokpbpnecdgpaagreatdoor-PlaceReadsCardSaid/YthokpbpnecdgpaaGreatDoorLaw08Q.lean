/-
  The walk of the statement PlaceReads.
-/
import Derived.Test.YthokpbpnecdgpaaGreatDoorLaw08L
import Derived.Test.YthokpbpnecdgpaaGreatDoorRef8I
namespace Go.Proofs.YthokpbpnecdgpaaGreatDoor
open Go.RowKit Go.Pantry

theorem equalPl8 (a b c : List UInt8) (d : Bool) (w : World) : (Op.equalIn 10000 28 (.agg #[strV a, strV b, strV c, .bool d]) (.agg #[strV a, strV b, strV c, .bool d])).run Tryz.prog w = .ok true w := by
  have hu : Tryz.prog.underlying 28 = some (.struct (Tryz.prog.fieldsOf 28)) := by kernel_rfl
  have hp : Tryz.prog.stoodInHeld 28 = false := by kernel_rfl
  rw [run_equalIn_agg w 9999 _ _ _ hu hp]
  have hf : (Tryz.prog.fieldsOf 28).toList.map (fun x => (x.name == "_", x.type, x.offset)) = [(false, 9, 0), (false, 9, 1), (false, 9, 2), (false, 4, 3)] := by kernel_rfl
  generalize (Tryz.prog.fieldsOf 28).toList = fs at hf
  have hl : fs.length = 4 := by simpa using congrArg List.length hf
  obtain ⟨f0, f1, f2, f3, rfl⟩ : ∃ f0 f1 f2 f3, fs = [f0, f1, f2, f3] := four_of hl
  simp only [List.map_cons, List.map_nil, List.cons.injEq, Prod.mk.injEq, and_true] at hf
  obtain ⟨⟨n0, t0, o0⟩, ⟨n1, t1, o1⟩, ⟨n2, t2, o2⟩, n3, t3, o3⟩ := hf
  have n0' : f0.name ≠ "_" := by simpa using n0
  have n1' : f1.name ≠ "_" := by simpa using n1
  have n2' : f2.name ≠ "_" := by simpa using n2
  have n3' : f3.name ≠ "_" := by simpa using n3
  have p0 : ∀ (x y z u : Value) (W : World), (part 9 #[x, y, z, u] 0).run Tryz.prog W = .ok x W := by intro x y z u W; kernel_rfl
  have p1 : ∀ (x y z u : Value) (W : World), (part 9 #[x, y, z, u] 1).run Tryz.prog W = .ok y W := by intro x y z u W; kernel_rfl
  have p2 : ∀ (x y z u : Value) (W : World), (part 9 #[x, y, z, u] 2).run Tryz.prog W = .ok z W := by intro x y z u W; kernel_rfl
  have p3 : ∀ (x y z u : Value) (W : World), (part 4 #[x, y, z, u] 3).run Tryz.prog W = .ok u W := by intro x y z u W; kernel_rfl
  have qs : ∀ (x : List UInt8) (W : World), (Op.equalIn 9999 9 (strV x) (strV x)).run Tryz.prog W = .ok true W := by
    intro x W
    have hs : Tryz.prog.underlying 9 = some .string := Tryz.underlying9
    have h := run_equalIn_string (P := Tryz.prog) W 9998 9 ⟨x.toArray⟩ ⟨x.toArray⟩ hs
    simpa using h
  have qb : ∀ (x : Bool) (W : World), (Op.equalIn 9999 4 (.bool x) (.bool x)).run Tryz.prog W = .ok true W := by
    intro x W
    have hs : Tryz.prog.underlying 4 = some .bool := Tryz.underlying4
    have h := run_equalIn_bool (P := Tryz.prog) W 9998 4 x x hs
    simpa using h
  simp [Op.eqFields, n0', n1', n2', n3', t0, t1, t2, t3, o0, o1, o2, o3, p0, p1, p2, p3, qs, qb]
theorem eqlPl8 (a b c : List UInt8) (d : Bool) (w : World) : (binOp .eql 28 (.agg #[strV a, strV b, strV c, .bool d]) (.agg #[strV a, strV b, strV c, .bool d])).run Tryz.prog w = .ok (.bool true) w := by
  rw [run_eql_struct, equalPl8]
  rfl
set_option maxRecDepth 100000 in
set_option maxHeartbeats 8000000 in
theorem placeReads_walk (a b : ByteArray) (w : World) (hm : MaxOk w) (hl : LaidP w) (ha : a.size ≤ maxLen) (hb : b.size ≤ maxLen) :
    Calls Tryz.prog 3 #[.string a, .string b] w fun e w' => e = .returned (.bool true) ∧ Below w.heap.size w w' := by
  have ok : PlaceOk w := ⟨hm, hl.1, hl.2⟩
  have ca := anchor_any w ok
  have CA := hid ca
  have OK := hid ok
  clear ca ok hm hl
  unfold maxLen at ha hb
  by_cases h1 : 1500 < a.size ∨ 200 < b.size
  · have e : decide (1500 < (a.size : Int)) = true ∨ (decide (1500 < (a.size : Int)) = false ∧ decide (200 < (b.size : Int)) = true) := by
      simp only [decide_eq_true_eq, decide_eq_false_iff_not]
      omega
    clear h1
    rcases e with e1 | ⟨e1, e2⟩
    all_goals
      go_enter Tryz.func3, Tryz.ntmps3
      go_wp2_with (go_at_call 4; refine CA.out.mono ?_; rintro e w1 ⟨rfl, HB⟩)
      go_ret
      exact ⟨rfl, HB⟩
  · have l1 : a.size ≤ 1500 := by omega
    have l2 : b.size ≤ 200 := by omega
    have e1 : decide (1500 < (a.size : Int)) = false := by rw [decide_eq_false_iff_not]; omega
    have e2 : decide (200 < (b.size : Int)) = false := by rw [decide_eq_false_iff_not]; omega
    clear h1 ha hb
    have z1 := size_list a
    have z2 := size_list b
    obtain ⟨B, hB⟩ : ∃ B, b.data.toList = B := ⟨_, rfl⟩
    have vb : strV B = .string b := by rw [← hB]
    rw [hB] at z2
    have c1 := fun W (hW : PlaceOk W) => Read_any a.data.toList B W (by omega) (by omega) hW
    have c2 := fun W => refPlace_any a B W (by omega) (by omega)
    have c3 := fun W (hW : PlaceOk W) => Host_any B W (by omega) hW.max hW.tab
    have c4 := fun W => refHost_any b W (by omega)
    rw [strV_self, vb] at c1
    rw [vb] at c2 c3
    rw [hB] at c4
    cases hO : readP a.data.toList B with
    | none =>
      rw [hO] at c1 c2
      have C1 : Hid (∀ W, PlaceOk W → Calls Tryz.prog 5 #[.string a, .string b] W fun e w' => e = .returned (.tuple #[.agg #[strV [], strV [], strV [], .bool false], .int .i64 25]) ∧ Below W.heap.size W w') := hid c1
      have C2 : Hid (∀ W, Calls Tryz.prog 6 #[.string a, .string b] W fun e w' => e = .returned (.tuple #[.agg #[strV [], strV [], strV [], .bool false], .bool false]) ∧ Below W.heap.size W w') := hid c2
      have EQ : ∀ W, (binOp .eql 24 (.agg #[strV [], strV [], strV [], .bool false]) (.agg #[.string ⟨#[]⟩, .string ⟨#[]⟩, .string ⟨#[]⟩, .bool false])).run Tryz.prog W = .ok (.bool true) W := fun W => eqlPl [] [] [] false W
      clear c1 c2 hO
      cases hH : hostL B with
      | none =>
        rw [hH] at c3 c4
        have C3 : Hid (∀ W, PlaceOk W → Calls Tryz.prog 7 #[.string b] W fun e w' => e = .returned (.tuple #[strV [], .int .i64 25]) ∧ Below W.heap.size W w') := hid c3
        have C4 : Hid (∀ W, Calls Tryz.prog 8 #[.string b] W fun e w' => e = .returned (.tuple #[strV [], .bool false]) ∧ Below W.heap.size W w') := hid c4
        clear c3 c4 hH hB vb z1 z2 l1 l2
        go_enter Tryz.func3, Tryz.ntmps3
        go_wp2_with (first
          | (go_at_call 4; refine CA.out.mono ?_; rintro e w1 ⟨rfl, HB⟩)
          | (go_at_call 5; with_reducible refine (C1.out _ (OK.out.below HB)).mono ?_; rintro e w3 ⟨rfl, hb3⟩; replace HB := HB.trans (hb3.mono HB.size); have R1a := rowIs_new w3 #[.string ⟨#[]⟩, .string ⟨#[]⟩, .string ⟨#[]⟩, .bool false] 24)
          | (refine wpList_store_row rfl 24 _ _ rfl w3.heap.size _ rfl rfl 24 #[.string ⟨#[]⟩, .string ⟨#[]⟩, .string ⟨#[]⟩, .bool false] R1a infoPlS rfl (onePl _ _ _ _) ?_; have R1 := R1a.setRow #[strV [], strV [], strV [], .bool false]; replace HB := below_setRow (HB.trans ((below_alloc w3 (.cells #[.string ⟨#[]⟩, .string ⟨#[]⟩, .string ⟨#[]⟩, .bool false] 24)).mono HB.size)) HB.size #[strV [], strV [], strV [], .bool false])
          | (go_at_call 6; with_reducible refine (C2.out _).mono ?_; rintro e w4 ⟨rfl, hb4⟩; replace HB := HB.trans (hb4.mono HB.size); have R1b := R1.below hb4; have R1c := R1b.below (below_alloc w4 (.cells #[.string ⟨#[]⟩, .string ⟨#[]⟩, .string ⟨#[]⟩, .bool false] 28)); have R2a := rowIs_new w4 #[.string ⟨#[]⟩, .string ⟨#[]⟩, .string ⟨#[]⟩, .bool false] 28; have hne : w3.heap.size ≠ w4.heap.size := Nat.ne_of_lt R1b.lt)
          | (refine wpList_store_row rfl 28 _ _ rfl w4.heap.size _ rfl rfl 28 #[.string ⟨#[]⟩, .string ⟨#[]⟩, .string ⟨#[]⟩, .bool false] R2a infoPl8 rfl (onePl _ _ _ _) ?_; have R2 := R2a.setRow #[strV [], strV [], strV [], .bool false]; have R1 := R1c.setRow_other #[strV [], strV [], strV [], .bool false] hne; replace HB := below_setRow (HB.trans ((below_alloc w4 (.cells #[.string ⟨#[]⟩, .string ⟨#[]⟩, .string ⟨#[]⟩, .bool false] 28)).mono HB.size)) HB.size #[strV [], strV [], strV [], .bool false]; generalize (w4.alloc (.cells #[.string ⟨#[]⟩, .string ⟨#[]⟩, .string ⟨#[]⟩, .bool false] 28)).setRow w4.heap.size #[strV [], strV [], strV [], .bool false] = W5 at R1 R2 HB ⊢; generalize w3.heap.size = g1 at R1 ⊢; generalize w4.heap.size = g2 at R2 ⊢; clear R1a R1b R1c R2a hne hb3 hb4)
          | (go_at_call 7; with_reducible refine (C3.out _ (OK.out.below HB)).mono ?_; rintro e w5 ⟨rfl, hb5⟩; replace HB := HB.trans (hb5.mono HB.size); replace R1 := R1.below hb5; replace R2 := R2.below hb5)
          | (go_at_call 8; with_reducible refine (C4.out _).mono ?_; rintro e w6 ⟨rfl, hb6⟩; replace HB := HB.trans (hb6.mono HB.size); replace R1 := R1.below hb6; replace R2 := R2.below hb6)
          | (refine wpList_load_g 24 _ rfl g1 rfl 24 _ _ R1 Tryz.underlying24 rfl infoPlS rfl ?_)
          | (refine wpList_load_g 28 _ rfl g2 rfl 28 _ _ R2 Tryz.underlying28 rfl infoPl8 rfl ?_))
        go_ret
        exact ⟨rfl, HB⟩
      | some X =>
        rw [hH] at c3 c4
        have C3 : Hid (∀ W, PlaceOk W → Calls Tryz.prog 7 #[.string b] W fun e w' => e = .returned (.tuple #[strV X, .int .i64 0]) ∧ Below W.heap.size W w') := hid c3
        have C4 : Hid (∀ W, Calls Tryz.prog 8 #[.string b] W fun e w' => e = .returned (.tuple #[strV X, .bool true]) ∧ Below W.heap.size W w') := hid c4
        clear c3 c4 hH hB vb z1 z2 l1 l2
        go_enter Tryz.func3, Tryz.ntmps3
        go_wp2_with (first
          | (go_at_call 4; refine CA.out.mono ?_; rintro e w1 ⟨rfl, HB⟩)
          | (go_at_call 5; with_reducible refine (C1.out _ (OK.out.below HB)).mono ?_; rintro e w3 ⟨rfl, hb3⟩; replace HB := HB.trans (hb3.mono HB.size); have R1a := rowIs_new w3 #[.string ⟨#[]⟩, .string ⟨#[]⟩, .string ⟨#[]⟩, .bool false] 24)
          | (refine wpList_store_row rfl 24 _ _ rfl w3.heap.size _ rfl rfl 24 #[.string ⟨#[]⟩, .string ⟨#[]⟩, .string ⟨#[]⟩, .bool false] R1a infoPlS rfl (onePl _ _ _ _) ?_; have R1 := R1a.setRow #[strV [], strV [], strV [], .bool false]; replace HB := below_setRow (HB.trans ((below_alloc w3 (.cells #[.string ⟨#[]⟩, .string ⟨#[]⟩, .string ⟨#[]⟩, .bool false] 24)).mono HB.size)) HB.size #[strV [], strV [], strV [], .bool false])
          | (go_at_call 6; with_reducible refine (C2.out _).mono ?_; rintro e w4 ⟨rfl, hb4⟩; replace HB := HB.trans (hb4.mono HB.size); have R1b := R1.below hb4; have R1c := R1b.below (below_alloc w4 (.cells #[.string ⟨#[]⟩, .string ⟨#[]⟩, .string ⟨#[]⟩, .bool false] 28)); have R2a := rowIs_new w4 #[.string ⟨#[]⟩, .string ⟨#[]⟩, .string ⟨#[]⟩, .bool false] 28; have hne : w3.heap.size ≠ w4.heap.size := Nat.ne_of_lt R1b.lt)
          | (refine wpList_store_row rfl 28 _ _ rfl w4.heap.size _ rfl rfl 28 #[.string ⟨#[]⟩, .string ⟨#[]⟩, .string ⟨#[]⟩, .bool false] R2a infoPl8 rfl (onePl _ _ _ _) ?_; have R2 := R2a.setRow #[strV [], strV [], strV [], .bool false]; have R1 := R1c.setRow_other #[strV [], strV [], strV [], .bool false] hne; replace HB := below_setRow (HB.trans ((below_alloc w4 (.cells #[.string ⟨#[]⟩, .string ⟨#[]⟩, .string ⟨#[]⟩, .bool false] 28)).mono HB.size)) HB.size #[strV [], strV [], strV [], .bool false]; generalize (w4.alloc (.cells #[.string ⟨#[]⟩, .string ⟨#[]⟩, .string ⟨#[]⟩, .bool false] 28)).setRow w4.heap.size #[strV [], strV [], strV [], .bool false] = W5 at R1 R2 HB ⊢; generalize w3.heap.size = g1 at R1 ⊢; generalize w4.heap.size = g2 at R2 ⊢; clear R1a R1b R1c R2a hne hb3 hb4)
          | (go_at_call 7; with_reducible refine (C3.out _ (OK.out.below HB)).mono ?_; rintro e w5 ⟨rfl, hb5⟩; replace HB := HB.trans (hb5.mono HB.size); replace R1 := R1.below hb5; replace R2 := R2.below hb5)
          | (go_at_call 8; with_reducible refine (C4.out _).mono ?_; rintro e w6 ⟨rfl, hb6⟩; replace HB := HB.trans (hb6.mono HB.size); replace R1 := R1.below hb6; replace R2 := R2.below hb6)
          | (refine wpList_load_g 24 _ rfl g1 rfl 24 _ _ R1 Tryz.underlying24 rfl infoPlS rfl ?_)
          | (refine wpList_load_g 28 _ rfl g2 rfl 28 _ _ R2 Tryz.underlying28 rfl infoPl8 rfl ?_))
        go_ret
        exact ⟨rfl, HB⟩
    | some p =>
      rw [hO] at c1 c2
      obtain ⟨H, P, Q, hs⟩ := p
      have C1 : Hid (∀ W, PlaceOk W → Calls Tryz.prog 5 #[.string a, .string b] W fun e w' => e = .returned (.tuple #[.agg #[strV H, strV P, strV Q, .bool hs], .int .i64 0]) ∧ Below W.heap.size W w') := hid c1
      have C2 : Hid (∀ W, Calls Tryz.prog 6 #[.string a, .string b] W fun e w' => e = .returned (.tuple #[.agg #[strV H, strV P, strV Q, .bool hs], .bool true]) ∧ Below W.heap.size W w') := hid c2
      have EQ := fun W => eqlPl8 H P Q hs W
      clear c1 c2 hO
      cases hH : hostL B with
      | none =>
        rw [hH] at c3 c4
        have C3 : Hid (∀ W, PlaceOk W → Calls Tryz.prog 7 #[.string b] W fun e w' => e = .returned (.tuple #[strV [], .int .i64 25]) ∧ Below W.heap.size W w') := hid c3
        have C4 : Hid (∀ W, Calls Tryz.prog 8 #[.string b] W fun e w' => e = .returned (.tuple #[strV [], .bool false]) ∧ Below W.heap.size W w') := hid c4
        clear c3 c4 hH hB vb z1 z2 l1 l2
        go_enter Tryz.func3, Tryz.ntmps3
        go_wp2_with (first
          | (go_at_call 4; refine CA.out.mono ?_; rintro e w1 ⟨rfl, HB⟩)
          | (go_at_call 5; with_reducible refine (C1.out _ (OK.out.below HB)).mono ?_; rintro e w3 ⟨rfl, hb3⟩; replace HB := HB.trans (hb3.mono HB.size); have R1a := rowIs_new w3 #[.string ⟨#[]⟩, .string ⟨#[]⟩, .string ⟨#[]⟩, .bool false] 24)
          | (refine wpList_store_row rfl 24 _ _ rfl w3.heap.size _ rfl rfl 24 #[.string ⟨#[]⟩, .string ⟨#[]⟩, .string ⟨#[]⟩, .bool false] R1a infoPlS rfl (onePl _ _ _ _) ?_; have R1 := R1a.setRow #[strV H, strV P, strV Q, .bool hs]; replace HB := below_setRow (HB.trans ((below_alloc w3 (.cells #[.string ⟨#[]⟩, .string ⟨#[]⟩, .string ⟨#[]⟩, .bool false] 24)).mono HB.size)) HB.size #[strV H, strV P, strV Q, .bool hs])
          | (go_at_call 6; with_reducible refine (C2.out _).mono ?_; rintro e w4 ⟨rfl, hb4⟩; replace HB := HB.trans (hb4.mono HB.size); have R1b := R1.below hb4; have R1c := R1b.below (below_alloc w4 (.cells #[.string ⟨#[]⟩, .string ⟨#[]⟩, .string ⟨#[]⟩, .bool false] 28)); have R2a := rowIs_new w4 #[.string ⟨#[]⟩, .string ⟨#[]⟩, .string ⟨#[]⟩, .bool false] 28; have hne : w3.heap.size ≠ w4.heap.size := Nat.ne_of_lt R1b.lt)
          | (refine wpList_store_row rfl 28 _ _ rfl w4.heap.size _ rfl rfl 28 #[.string ⟨#[]⟩, .string ⟨#[]⟩, .string ⟨#[]⟩, .bool false] R2a infoPl8 rfl (onePl _ _ _ _) ?_; have R2 := R2a.setRow #[strV H, strV P, strV Q, .bool hs]; have R1 := R1c.setRow_other #[strV H, strV P, strV Q, .bool hs] hne; replace HB := below_setRow (HB.trans ((below_alloc w4 (.cells #[.string ⟨#[]⟩, .string ⟨#[]⟩, .string ⟨#[]⟩, .bool false] 28)).mono HB.size)) HB.size #[strV H, strV P, strV Q, .bool hs]; generalize (w4.alloc (.cells #[.string ⟨#[]⟩, .string ⟨#[]⟩, .string ⟨#[]⟩, .bool false] 28)).setRow w4.heap.size #[strV H, strV P, strV Q, .bool hs] = W5 at R1 R2 HB ⊢; generalize w3.heap.size = g1 at R1 ⊢; generalize w4.heap.size = g2 at R2 ⊢; clear R1a R1b R1c R2a hne hb3 hb4)
          | (go_at_call 7; with_reducible refine (C3.out _ (OK.out.below HB)).mono ?_; rintro e w5 ⟨rfl, hb5⟩; replace HB := HB.trans (hb5.mono HB.size); replace R1 := R1.below hb5; replace R2 := R2.below hb5)
          | (go_at_call 8; with_reducible refine (C4.out _).mono ?_; rintro e w6 ⟨rfl, hb6⟩; replace HB := HB.trans (hb6.mono HB.size); replace R1 := R1.below hb6; replace R2 := R2.below hb6)
          | (refine wpList_load_g 24 _ rfl g1 rfl 24 _ _ R1 Tryz.underlying24 rfl infoPlS rfl ?_)
          | (refine wpList_load_g 28 _ rfl g2 rfl 28 _ _ R2 Tryz.underlying28 rfl infoPl8 rfl ?_))
        go_ret
        exact ⟨rfl, HB⟩
      | some X =>
        rw [hH] at c3 c4
        have C3 : Hid (∀ W, PlaceOk W → Calls Tryz.prog 7 #[.string b] W fun e w' => e = .returned (.tuple #[strV X, .int .i64 0]) ∧ Below W.heap.size W w') := hid c3
        have C4 : Hid (∀ W, Calls Tryz.prog 8 #[.string b] W fun e w' => e = .returned (.tuple #[strV X, .bool true]) ∧ Below W.heap.size W w') := hid c4
        clear c3 c4 hH hB vb z1 z2 l1 l2
        go_enter Tryz.func3, Tryz.ntmps3
        go_wp2_with (first
          | (go_at_call 4; refine CA.out.mono ?_; rintro e w1 ⟨rfl, HB⟩)
          | (go_at_call 5; with_reducible refine (C1.out _ (OK.out.below HB)).mono ?_; rintro e w3 ⟨rfl, hb3⟩; replace HB := HB.trans (hb3.mono HB.size); have R1a := rowIs_new w3 #[.string ⟨#[]⟩, .string ⟨#[]⟩, .string ⟨#[]⟩, .bool false] 24)
          | (refine wpList_store_row rfl 24 _ _ rfl w3.heap.size _ rfl rfl 24 #[.string ⟨#[]⟩, .string ⟨#[]⟩, .string ⟨#[]⟩, .bool false] R1a infoPlS rfl (onePl _ _ _ _) ?_; have R1 := R1a.setRow #[strV H, strV P, strV Q, .bool hs]; replace HB := below_setRow (HB.trans ((below_alloc w3 (.cells #[.string ⟨#[]⟩, .string ⟨#[]⟩, .string ⟨#[]⟩, .bool false] 24)).mono HB.size)) HB.size #[strV H, strV P, strV Q, .bool hs])
          | (go_at_call 6; with_reducible refine (C2.out _).mono ?_; rintro e w4 ⟨rfl, hb4⟩; replace HB := HB.trans (hb4.mono HB.size); have R1b := R1.below hb4; have R1c := R1b.below (below_alloc w4 (.cells #[.string ⟨#[]⟩, .string ⟨#[]⟩, .string ⟨#[]⟩, .bool false] 28)); have R2a := rowIs_new w4 #[.string ⟨#[]⟩, .string ⟨#[]⟩, .string ⟨#[]⟩, .bool false] 28; have hne : w3.heap.size ≠ w4.heap.size := Nat.ne_of_lt R1b.lt)
          | (refine wpList_store_row rfl 28 _ _ rfl w4.heap.size _ rfl rfl 28 #[.string ⟨#[]⟩, .string ⟨#[]⟩, .string ⟨#[]⟩, .bool false] R2a infoPl8 rfl (onePl _ _ _ _) ?_; have R2 := R2a.setRow #[strV H, strV P, strV Q, .bool hs]; have R1 := R1c.setRow_other #[strV H, strV P, strV Q, .bool hs] hne; replace HB := below_setRow (HB.trans ((below_alloc w4 (.cells #[.string ⟨#[]⟩, .string ⟨#[]⟩, .string ⟨#[]⟩, .bool false] 28)).mono HB.size)) HB.size #[strV H, strV P, strV Q, .bool hs]; generalize (w4.alloc (.cells #[.string ⟨#[]⟩, .string ⟨#[]⟩, .string ⟨#[]⟩, .bool false] 28)).setRow w4.heap.size #[strV H, strV P, strV Q, .bool hs] = W5 at R1 R2 HB ⊢; generalize w3.heap.size = g1 at R1 ⊢; generalize w4.heap.size = g2 at R2 ⊢; clear R1a R1b R1c R2a hne hb3 hb4)
          | (go_at_call 7; with_reducible refine (C3.out _ (OK.out.below HB)).mono ?_; rintro e w5 ⟨rfl, hb5⟩; replace HB := HB.trans (hb5.mono HB.size); replace R1 := R1.below hb5; replace R2 := R2.below hb5)
          | (go_at_call 8; with_reducible refine (C4.out _).mono ?_; rintro e w6 ⟨rfl, hb6⟩; replace HB := HB.trans (hb6.mono HB.size); replace R1 := R1.below hb6; replace R2 := R2.below hb6)
          | (refine wpList_load_g 24 _ rfl g1 rfl 24 _ _ R1 Tryz.underlying24 rfl infoPlS rfl ?_)
          | (refine wpList_load_g 28 _ rfl g2 rfl 28 _ _ R2 Tryz.underlying28 rfl infoPl8 rfl ?_))
        go_ret
        exact ⟨rfl, HB⟩
end Go.Proofs.YthokpbpnecdgpaaGreatDoor
