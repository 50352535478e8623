/-
  The walk of the statement PlaceDots.
-/
import Derived.Test.YthokpbpnecdgpaaDoorLaw08L
import Derived.Test.YthokpbpnecdgpaaDoorPurePlace3
namespace Go.Pantry
open Go.RowKit
theorem plain_snoc (P : List (Nat × UInt8)) (g : Nat) (c : UInt8) : slashL (plainSeg (P ++ [(g, c)])) = slashL (plainSeg P) ++ [47, c] := by simp [plainSeg, slashL]
theorem dots_snoc0 (P : List (Nat × UInt8)) (c : UInt8) : slashL (dotSeg (P ++ [(0, c)])) = slashL (dotSeg P) ++ [47, c] := by simp [dotSeg, dotG, slashL]
theorem dots_snoc1 (P : List (Nat × UInt8)) (c : UInt8) : slashL (dotSeg (P ++ [(1, c)])) = slashL (dotSeg P) ++ [47, 46] ++ [47, c] := by simp [dotSeg, dotG, slashL]
theorem dots_snoc2 (P : List (Nat × UInt8)) (c : UInt8) : slashL (dotSeg (P ++ [(2, c)])) = slashL (dotSeg P) ++ [47, 120, 47, 46, 46] ++ [47, c] := by simp [dotSeg, dotG, slashL]
theorem plain_size (P : List (Nat × UInt8)) : (slashL (plainSeg P)).length ≤ 2 * P.length := by
  induction P with
  | nil => simp [plainSeg, slashL]
  | cons p P ih =>
    have h : slashL (plainSeg (p :: P)) = [47, p.2] ++ slashL (plainSeg P) := by simp [plainSeg, slashL]
    rw [h]; simp; omega
theorem dots_size (P : List (Nat × UInt8)) : (slashL (dotSeg P)).length ≤ 7 * P.length := by
  induction P with
  | nil => simp [dotSeg, slashL]
  | cons p P ih =>
    have h : slashL (dotSeg (p :: P)) = slashL (dotG p) ++ slashL (dotSeg P) := by simp [dotSeg, slashL]
    have h2 : (slashL (dotG p)).length ≤ 7 := by
      unfold dotG; split
      · simp [slashL]
      · split
        · simp [slashL]
        · simp [slashL]
    rw [h]; simp; omega
theorem low_of {m : Int} {c : UInt8} (h : UInt8.ofNat (97 + m % 26).toNat = c) : isLow c = true := by
  subst h
  have h1 := Int.emod_nonneg m (show (26 : Int) ≠ 0 by decide)
  have h2 := Int.emod_lt_of_pos m (show (0 : Int) < 26 by decide)
  obtain ⟨j, hj⟩ : ∃ j : Nat, m % 26 = (j : Int) := ⟨(m % 26).toNat, by omega⟩
  rw [hj, show ((97 : Int) + (j : Int)).toNat = 97 + j by omega]
  have h3 : ∀ j : Nat, j < 26 → isLow (UInt8.ofNat (97 + j)) = true := by decide
  exact h3 j (by omega)
end Go.Pantry
namespace Go.Proofs.YthokpbpnecdgpaaDoor
open Go.RowKit Go.Pantry

theorem oneD (a : ByteArray) : (#[strV [104], .string a, .string ⟨#[]⟩, .bool false] : Array Value).all (·.oneCell') = true := by simp [Value.oneCell']

set_option maxRecDepth 100000 in
set_option maxHeartbeats 8000000 in
theorem placeDots_walk (v1 : Value) (zs : List Int) (v2 : Value) (us : List Int) (w : World) (hm : MaxOk w) (hl : LaidP w) (h1 : Reads w v1 (zs.map (Value.int .i64)) ∧ (∀ x ∈ zs, (Lit.int .i64 x).wf = true) ∧ zs.length ≤ maxLen)
    (h2 : Reads w v2 (us.map (Value.int .i64)) ∧ (∀ x ∈ us, (Lit.int .i64 x).wf = true) ∧ us.length ≤ maxLen) :
    Calls Tryd.prog 4 #[v1, v2] w fun e w' => e = .returned (.bool true) ∧ Below w.heap.size w w' := by
  have ok : PlaceOk w := ⟨hm, hl.1, hl.2⟩
  have ca := anchor_any w ok
  have CA := hid ca
  have OK := hid ok
  clear ca ok hm hl
  obtain ⟨hrz, -, hlz⟩ := h1
  obtain ⟨hru, -, hlu⟩ := h2
  obtain ⟨aoz, capz, rfl⟩ := hrz.form
  obtain ⟨aou, capu, rfl⟩ := hru.form
  simp only [List.length_map] at *
  have HRZ := hid hrz
  have HRU := hid hru
  unfold maxLen at hlz hlu
  clear hrz hru
  by_cases hout : 20 < zs.length ∨ 20 < us.length
  · have e : (decide ((20 : Int) < (zs.length : Int)) = true) ∨ (decide ((20 : Int) < (zs.length : Int)) = false ∧ decide ((20 : Int) < (us.length : Int)) = true) := by
      simp only [decide_eq_true_eq, decide_eq_false_iff_not]
      omega
    clear hout
    rcases e with e1 | ⟨e1, e2⟩
    all_goals
      go_enter Tryd.func4, Tryd.ntmps4
      go_wp2_with (go_at_call 9; refine CA.out.mono ?_; rintro e w1 ⟨rfl, HB⟩)
      go_ret
      exact ⟨rfl, HB⟩
  · have e1 : decide ((20 : Int) < (zs.length : Int)) = false := by rw [decide_eq_false_iff_not]; omega
    have e2 : decide ((20 : Int) < (us.length : Int)) = false := by rw [decide_eq_false_iff_not]; omega
    have lz : zs.length ≤ 20 := by omega
    clear hout hlz hlu
    go_enter Tryd.func4, Tryd.ntmps4
    go_wp2_with (go_at_call 9; refine CA.out.mono ?_; rintro e w1 ⟨rfl, HB⟩)
    clear CA
    go_loopw [5, 6, 26] (fun p d i wr => ∃ (k : Nat) (P : List (Nat × UInt8)), k ≤ zs.length ∧ i = .int .i64 (k : Int) ∧ P.length = k ∧ (∀ q ∈ P, isLow q.2 = true) ∧ p = strV (slashL (plainSeg P)) ∧ d = strV (slashL (dotSeg P)) ∧ Below w.heap.size w wr) (fun _ _ i _ => zs.length - (intOf i).toNat)
    case atStart => exact ⟨0, [], Nat.zero_le _, rfl, rfl, by simp, rfl, rfl, HB⟩
    case round =>
      obtain ⟨k, P, hk, rfl, hPk, hlow, rfl, rfl, hb⟩ := hrel
      have hpl : (slashL (plainSeg P)).length ≤ 200 := by have := plain_size P; omega
      have hdl : (slashL (dotSeg P)).length ≤ 200 := by have := dots_size P; omega
      obtain ⟨pl, hpp⟩ : ∃ l, slashL (plainSeg P) = l := ⟨_, rfl⟩
      obtain ⟨dl, hdd⟩ : ∃ l, slashL (dotSeg P) = l := ⟨_, rfl⟩
      rw [hpp] at hpl
      rw [hdd] at hdl
      rw [hpp, hdd]
      by_cases hlt : k < zs.length
      · have f1 : decide ((k : Int) < (zs.length : Int)) = true := by simp; omega
        obtain ⟨bz, oz, cz, hvz, hcz⟩ := (HRZ.out.below hb).at_some (by rw [List.length_map]; omega)
        simp only [List.length_map, Value.slice.injEq] at hvz
        obtain ⟨rfl, -, rfl⟩ := hvz
        obtain ⟨x, hx⟩ : ∃ x, zs[k]? = some x := ⟨_, List.getElem?_eq_getElem hlt⟩
        have kz := hcz k (.int .i64 x) (by rw [List.getElem?_map, hx]; rfl)
        clear hcz
        obtain ⟨m, hm⟩ : ∃ m, x.tmod 26 = m := ⟨_, rfl⟩
        have hm1 : -25 ≤ m ∧ m ≤ 25 := by
          rw [← hm, Int.tmod_eq_emod]
          split
          · omega
          · rename_i h
            have h1 : ((Int.natAbs 26 : Nat) : Int) = 26 := rfl
            have h2 : ¬ (26 : Int) ∣ x := fun hd => h (.inr hd)
            omega
        obtain ⟨c, hc⟩ : ∃ c, UInt8.ofNat (97 + m % 26).toNat = c := ⟨_, rfl⟩
        have hlc := low_of hc
        have hcv := run_one_byte (P := Tryd.prog) 31 9 5 Tryd.underlying31 Tryd.underlying5 Tryd.underlying9 (wr.alloc (.cells #[.int .u8 (97 + m % 26)] 5)) wr.heap.size (97 + m % 26) (World.cell?_alloc_at _ _ _ _ rfl)
        rw [hc] at hcv
        have s1 := fun W => run_string_add_lists (P := Tryd.prog) W [47] [c] (by simp) (by simp)
        have s2 := fun W => run_string_add_lists (P := Tryd.prog) W pl [47, c] (by omega) (by simp)
        have s3 := fun W => run_string_add_lists (P := Tryd.prog) W dl [47, c] (by omega) (by simp)
        have s4 := fun W => run_string_add_lists (P := Tryd.prog) W dl [47, 46] (by omega) (by simp)
        have s5 := fun W => run_string_add_lists (P := Tryd.prog) W (dl ++ [47, 46]) [47, c] (by simp; omega) (by simp)
        have s6 := fun W => run_string_add_lists (P := Tryd.prog) W dl [47, 120, 47, 46, 46] (by omega) (by simp)
        have s7 := fun W => run_string_add_lists (P := Tryd.prog) W (dl ++ [47, 120, 47, 46, 46]) [47, c] (by simp; omega) (by simp)
        obtain ⟨X, hX⟩ : ∃ X, [c] = X := ⟨_, rfl⟩
        obtain ⟨Y, hY⟩ : ∃ Y, [47, c] = Y := ⟨_, rfl⟩
        have hcv' : (convert 31 9 (.slice (some ⟨wr.heap.size, 0, none⟩) 1 1)).run Tryd.prog (wr.alloc (.cells #[.int .u8 (97 + m % 26)] 5)) = .ok (.string ⟨X.toArray⟩) (wr.alloc (.cells #[.int .u8 (97 + m % 26)] 5)) := by rw [← hX]; exact hcv
        have s1' : ∀ W, (Op.stringOp BinOp.add ⟨#[47]⟩ ⟨X.toArray⟩).run Tryd.prog W = .ok (.string ⟨Y.toArray⟩) W := by rw [← hX, ← hY]; exact s1
        rw [hY] at s2 s3 s5 s7
        have r1 := plain_snoc P 0 c
        have r2 := plain_snoc P 1 c
        have r3 := plain_snoc P 2 c
        have r4 := dots_snoc0 P c
        have r5 := dots_snoc1 P c
        have r6 := dots_snoc2 P c
        rw [hpp, hY] at r1 r2 r3
        rw [hdd, hY] at r4 r5 r6
        obtain ⟨D1, hD1⟩ : ∃ D, dl ++ [47, 46] = D := ⟨_, rfl⟩
        obtain ⟨D2, hD2⟩ : ∃ D, dl ++ [47, 120, 47, 46, 46] = D := ⟨_, rfl⟩
        rw [hD1] at s4 s5 r5
        rw [hD2] at s6 s7 r6
        have s4' : ∀ W, (Op.stringOp BinOp.add ⟨dl.toArray⟩ ⟨#[47, 46]⟩).run Tryd.prog W = .ok (.string ⟨D1.toArray⟩) W := s4
        have s6' : ∀ W, (Op.stringOp BinOp.add ⟨dl.toArray⟩ ⟨#[47, 120, 47, 46, 46]⟩).run Tryd.prog W = .ok (.string ⟨D2.toArray⟩) W := s6
        have hba := below_alloc wr (.cells #[.int .u8 (97 + m % 26)] 5)
        have hb2 : Below w.heap.size w (wr.alloc (.cells #[.int .u8 (97 + m % 26)] 5)) := hb.trans (hba.mono hb.size)
        have hlow' : ∀ g, ∀ q ∈ P ++ [(g, c)], isLow q.2 = true := fun g q hq => by
          rcases List.mem_append.1 hq with h | h
          · exact hlow q h
          · simp at h; subst h; exact hlc
        have R1 := hid r1
        have R2 := hid r2
        have R3 := hid r3
        have R4 := hid r4
        have R5 := hid r5
        have R6 := hid r6
        have HL := hid hlow'
        clear r1 r2 r3 r4 r5 r6 hlow' hlow hlc s1 s4 s6 hcv hX hY hD1 hD2 hpp hdd hx hc hpl hdl
        by_cases hlu : k < us.length
        · have f2 : decide ((k : Int) < (us.length : Int)) = true := by simp; omega
          obtain ⟨bu, ou, cu, hvu, hcu⟩ := (HRU.out.below hb2).at_some (by rw [List.length_map]; omega)
          simp only [List.length_map, Value.slice.injEq] at hvu
          obtain ⟨rfl, -, rfl⟩ := hvu
          obtain ⟨y, hy⟩ : ∃ y, us[k]? = some y := ⟨_, List.getElem?_eq_getElem hlu⟩
          have ku := hcu k (.int .i64 y) (by rw [List.getElem?_map, hy]; rfl)
          clear hcu hy
          obtain ⟨q, hq⟩ : ∃ q, y.tmod 3 = q := ⟨_, rfl⟩
          by_cases hq1 : q = 1
          · have g1 : (q == 1) = true := by simpa using hq1
            have hq' : y.tmod 3 = 1 := by rw [hq, hq1]
            clear hq hq1 g1
            go_wp2_with fail
            go_roundw
            case rel => exact ⟨k + 1, P ++ [(1, c)], by omega, by go_num, by simp [hPk], HL.out 1, by rw [R2.out], by rw [R5.out], hb2⟩
            case measure => simp [intOf]; omega
          · by_cases hq2 : q = 2
            · have hq' : y.tmod 3 = 2 := by rw [hq, hq2]
              clear hq hq1 hq2
              go_wp2_with fail
              go_roundw
              case rel => exact ⟨k + 1, P ++ [(2, c)], by omega, by go_num, by simp [hPk], HL.out 2, by rw [R3.out], by rw [R6.out], hb2⟩
              case measure => simp [intOf]; omega
            · have g1 : (q == 1) = false := by rw [beq_eq_false_iff_ne]; exact hq1
              have g2 : (q == 2) = false := by rw [beq_eq_false_iff_ne]; exact hq2
              clear hq1 hq2
              go_wp2_with fail
              go_roundw
              case rel => exact ⟨k + 1, P ++ [(0, c)], by omega, by go_num, by simp [hPk], HL.out 0, by rw [R1.out], by rw [R4.out], hb2⟩
              case measure => simp [intOf]; omega
        · have f2 : decide ((k : Int) < (us.length : Int)) = false := by rw [decide_eq_false_iff_not]; omega
          go_wp2_with fail
          go_roundw
          case rel => exact ⟨k + 1, P ++ [(0, c)], by omega, by go_num, by simp [hPk], HL.out 0, by rw [R1.out], by rw [R4.out], hb2⟩
          case measure => simp [intOf]; omega
      · have f1 : decide ((k : Int) < (zs.length : Int)) = false := by rw [decide_eq_false_iff_not]; omega
        cases hP0 : P with
        | nil =>
          subst hP0
          obtain rfl : pl = [] := by rw [← hpp]; rfl
          have c1 : ∀ W, PlaceOk W → Calls Tryd.prog 10 #[.string ⟨#[47]⟩, strV [104]] W fun e w' => e = .returned (.tuple #[.agg #[strV [104], .string ⟨#[47]⟩, .string ⟨#[]⟩, .bool false], .int .i64 0]) ∧ Below W.heap.size W w' := fun W hW => Read_some dots_none.1 W hW (by simp) (by simp)
          have c2 : ∀ W, PlaceOk W → Calls Tryd.prog 10 #[.string ⟨#[47, 46]⟩, strV [104]] W fun e w' => e = .returned (.tuple #[.agg #[strV [104], .string ⟨#[47]⟩, .string ⟨#[]⟩, .bool false], .int .i64 0]) ∧ Below W.heap.size W w' := fun W hW => Read_some dots_none.2 W hW (by simp) (by simp)
          have EQ : ∀ W, (binOp .eql 24 (.agg #[strV [104], .string ⟨#[47]⟩, .string ⟨#[]⟩, .bool false]) (.agg #[strV [104], .string ⟨#[47]⟩, .string ⟨#[]⟩, .bool false])).run Tryd.prog W = .ok (.bool true) W := fun W => eqlPl [104] [47] [] false W
          have C1 := hid c1
          have C2 := hid c2
          clear c1 c2 hPk hlow hdd hpl hpp
          go_wp2_with (first
            | (go_at_call 10; with_reducible refine (C1.out _ (OK.out.below hb)).mono ?_; rintro e w3 ⟨rfl, hb3⟩; replace hb := hb.trans (hb3.mono hb.size); have R1a := rowIs_new w3 #[.string ⟨#[]⟩, .string ⟨#[]⟩, .string ⟨#[]⟩, .bool false] 24; clear C1)
            | (refine wpList_store_row rfl 24 _ _ rfl w3.heap.size _ rfl rfl 24 #[.string ⟨#[]⟩, .string ⟨#[]⟩, .string ⟨#[]⟩, .bool false] R1a infoPlS rfl (oneD _) ?_; have R1 := R1a.setRow #[strV [104], .string ⟨#[47]⟩, .string ⟨#[]⟩, .bool false]; replace hb := below_setRow (hb.trans ((below_alloc w3 (.cells #[.string ⟨#[]⟩, .string ⟨#[]⟩, .string ⟨#[]⟩, .bool false] 24)).mono hb.size)) hb.size #[strV [104], .string ⟨#[47]⟩, .string ⟨#[]⟩, .bool false])
            | (go_at_call 10; with_reducible refine (C2.out _ (OK.out.below hb)).mono ?_; rintro e w4 ⟨rfl, hb4⟩; replace hb := hb.trans (hb4.mono hb.size); have R1b := R1.below hb4; have R1c := R1b.below (below_alloc w4 (.cells #[.string ⟨#[]⟩, .string ⟨#[]⟩, .string ⟨#[]⟩, .bool false] 24)); have R2a := rowIs_new w4 #[.string ⟨#[]⟩, .string ⟨#[]⟩, .string ⟨#[]⟩, .bool false] 24; have hne : w3.heap.size ≠ w4.heap.size := Nat.ne_of_lt R1b.lt)
            | (refine wpList_store_row rfl 24 _ _ rfl w4.heap.size _ rfl rfl 24 #[.string ⟨#[]⟩, .string ⟨#[]⟩, .string ⟨#[]⟩, .bool false] R2a infoPlS rfl (oneD _) ?_; have R2 := R2a.setRow #[strV [104], .string ⟨#[47]⟩, .string ⟨#[]⟩, .bool false]; have R1 := R1c.setRow_other #[strV [104], .string ⟨#[47]⟩, .string ⟨#[]⟩, .bool false] hne; replace hb := below_setRow (hb.trans ((below_alloc w4 (.cells #[.string ⟨#[]⟩, .string ⟨#[]⟩, .string ⟨#[]⟩, .bool false] 24)).mono hb.size)) hb.size #[strV [104], .string ⟨#[47]⟩, .string ⟨#[]⟩, .bool false]; generalize (w4.alloc (.cells #[.string ⟨#[]⟩, .string ⟨#[]⟩, .string ⟨#[]⟩, .bool false] 24)).setRow w4.heap.size #[strV [104], .string ⟨#[47]⟩, .string ⟨#[]⟩, .bool false] = W5 at R1 R2 hb ⊢; generalize w3.heap.size = g1 at R1 ⊢; generalize w4.heap.size = g2 at R2 ⊢; have L1 := R1.cell 1; clear R1a R1b R1c R2a hne hb3 hb4)
            | (refine wpList_load_g 24 _ rfl g1 rfl 24 _ _ R1 Tryd.underlying24 rfl infoPlS rfl ?_)
            | (refine wpList_load_g 24 _ rfl g2 rfl 24 _ _ R2 Tryd.underlying24 rfl infoPlS rfl ?_))
          go_ret
          exact ⟨rfl, hb⟩
        | cons p0 P0 =>
          have hne0 : P ≠ [] := by rw [hP0]; simp
          obtain ⟨d1, d2⟩ := dots_read hne0 (by omega) hlow
          rw [hpp] at d1 d2
          rw [hdd] at d2
          have hpn : ¬ pl = [] := by
            intro h
            rw [h, hP0] at hpp
            simp [plainSeg, slashL] at hpp
          clear hP0 hpp hdd hlow hPk
          have c1 := fun W hW => Read_some d1 W hW (by omega) (by simp)
          have c2 := fun W hW => Read_some d2 W hW (by omega) (by simp)
          have c1' : ∀ W, PlaceOk W → Calls Tryd.prog 10 #[strV pl, strV [104]] W fun e w' => e = .returned (.tuple #[.agg #[strV [104], strV pl, .string ⟨#[]⟩, .bool false], .int .i64 0]) ∧ Below W.heap.size W w' := c1
          have c2' : ∀ W, PlaceOk W → Calls Tryd.prog 10 #[strV dl, strV [104]] W fun e w' => e = .returned (.tuple #[.agg #[strV [104], strV pl, .string ⟨#[]⟩, .bool false], .int .i64 0]) ∧ Below W.heap.size W w' := c2
          have EQ : ∀ W, (binOp .eql 24 (.agg #[strV [104], strV pl, .string ⟨#[]⟩, .bool false]) (.agg #[strV [104], strV pl, .string ⟨#[]⟩, .bool false])).run Tryd.prog W = .ok (.bool true) W := fun W => eqlPl [104] pl [] false W
          have hpe : pl.isEmpty = false := by rw [List.isEmpty_eq_false_iff]; exact hpn
          have C1 := hid c1'
          have C2 := hid c2'
          clear c1 c2 c1' c2' d1 d2 hne0 hpl hdl
          go_wp2_with (first
            | (go_at_call 10; with_reducible refine (C1.out _ (OK.out.below hb)).mono ?_; rintro e w3 ⟨rfl, hb3⟩; replace hb := hb.trans (hb3.mono hb.size); have R1a := rowIs_new w3 #[.string ⟨#[]⟩, .string ⟨#[]⟩, .string ⟨#[]⟩, .bool false] 24; clear C1)
            | (refine wpList_store_row rfl 24 _ _ rfl w3.heap.size _ rfl rfl 24 #[.string ⟨#[]⟩, .string ⟨#[]⟩, .string ⟨#[]⟩, .bool false] R1a infoPlS rfl (oneD _) ?_; have R1 := R1a.setRow #[strV [104], strV pl, .string ⟨#[]⟩, .bool false]; replace hb := below_setRow (hb.trans ((below_alloc w3 (.cells #[.string ⟨#[]⟩, .string ⟨#[]⟩, .string ⟨#[]⟩, .bool false] 24)).mono hb.size)) hb.size #[strV [104], strV pl, .string ⟨#[]⟩, .bool false])
            | (go_at_call 10; with_reducible refine (C2.out _ (OK.out.below hb)).mono ?_; rintro e w4 ⟨rfl, hb4⟩; replace hb := hb.trans (hb4.mono hb.size); have R1b := R1.below hb4; have R1c := R1b.below (below_alloc w4 (.cells #[.string ⟨#[]⟩, .string ⟨#[]⟩, .string ⟨#[]⟩, .bool false] 24)); have R2a := rowIs_new w4 #[.string ⟨#[]⟩, .string ⟨#[]⟩, .string ⟨#[]⟩, .bool false] 24; have hne : w3.heap.size ≠ w4.heap.size := Nat.ne_of_lt R1b.lt)
            | (refine wpList_store_row rfl 24 _ _ rfl w4.heap.size _ rfl rfl 24 #[.string ⟨#[]⟩, .string ⟨#[]⟩, .string ⟨#[]⟩, .bool false] R2a infoPlS rfl (oneD _) ?_; have R2 := R2a.setRow #[strV [104], strV pl, .string ⟨#[]⟩, .bool false]; have R1 := R1c.setRow_other #[strV [104], strV pl, .string ⟨#[]⟩, .bool false] hne; replace hb := below_setRow (hb.trans ((below_alloc w4 (.cells #[.string ⟨#[]⟩, .string ⟨#[]⟩, .string ⟨#[]⟩, .bool false] 24)).mono hb.size)) hb.size #[strV [104], strV pl, .string ⟨#[]⟩, .bool false]; generalize (w4.alloc (.cells #[.string ⟨#[]⟩, .string ⟨#[]⟩, .string ⟨#[]⟩, .bool false] 24)).setRow w4.heap.size #[strV [104], strV pl, .string ⟨#[]⟩, .bool false] = W5 at R1 R2 hb ⊢; generalize w3.heap.size = g1 at R1 ⊢; generalize w4.heap.size = g2 at R2 ⊢; have L1 := R1.cell 1; clear R1a R1b R1c R2a hne hb3 hb4)
            | (refine wpList_load_g 24 _ rfl g1 rfl 24 _ _ R1 Tryd.underlying24 rfl infoPlS rfl ?_)
            | (refine wpList_load_g 24 _ rfl g2 rfl 24 _ _ R2 Tryd.underlying24 rfl infoPlS rfl ?_))
          go_ret
          exact ⟨rfl, hb⟩
end Go.Proofs.YthokpbpnecdgpaaDoor
