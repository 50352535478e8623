/-
  The walk of the statement ControlSeconds.
-/
import Derived.Test.YtofkiihajhkmdaaDoorLaw04A
import Derived.Test.YtofkiihajhkmdaaDoorLaw04D
import Derived.IntWalk
namespace Go.Proofs.YtofkiihajhkmdaaDoor
open Go.RowKit Go.Pantry

def nameW : Nat → List UInt8
  | 0 => [109, 97, 120, 45, 97, 103, 101]
  | 1 => [83, 45, 77, 97, 120, 65, 103, 101]
  | 2 => [109, 105, 110, 45, 102, 114, 101, 115, 104]
  | _ => [109, 97, 120, 45, 115, 116, 97, 108, 101]
theorem says_at (k a b : Nat) (hk : k ≤ 3) (ha : a ≤ farN) (hb : b ≤ farN) : ctlE (listL (secText (nameW k) a b)) false = { noStore := false, noCache := false, priv := false, pub := false, must := false, only := false, maxAge := (if k = 0 then some (min a b) else none), shared := (if k = 1 then some (min a b) else none), minFresh := (if k = 2 then some (max a b) else none), maxStale := (if k = 3 then some (min a b) else none) } := by
  have hc : k = 0 ∨ k = 1 ∨ k = 2 ∨ k = 3 := by omega
  rcases hc with rfl | rfl | rfl | rfl
  · rw [secText_ctl (nameW 0) nMaxAge a b 109 rfl (by decide) (by decide) (by decide) (by decide) (by decide) ha hb (by decide)]; rfl
  · rw [secText_ctl (nameW 1) nShared a b 83 rfl (by decide) (by decide) (by decide) (by decide) (by decide) ha hb (by decide)]; rfl
  · rw [secText_ctl (nameW 2) nMinFresh a b 109 rfl (by decide) (by decide) (by decide) (by decide) (by decide) ha hb (by decide)]; rfl
  · rw [secText_ctl (nameW 3) nMaxStale a b 109 rfl (by decide) (by decide) (by decide) (by decide) (by decide) ha hb (by decide)]; rfl

set_option maxRecDepth 8000 in
set_option maxHeartbeats 8000000 in
theorem controlSeconds_0 (a b : Nat) (w : World) (ha : a ≤ farN) (hb : b ≤ farN) :
    Calls Tryd.prog 5 #[.int .i64 (a : Int), .int .i64 (b : Int), .int .i64 0] w fun e w' => e = .returned (.bool true) ∧ Below w.heap.size w w' := by
  have hsay := says_at 0 a b (by decide) ha hb
  unfold farN at ha hb
  have ca := fun W => digits_any 12 a (a : Int) W rfl (by omega) (by decide)
  have cb := fun W => digits_any 12 b (b : Int) W rfl (by omega) (by decide)
  have la := digF_len 13 a
  have lb := digF_len 13 b
  have ht : secText (nameW 0) a b = [109, 97, 120, 45, 97, 103, 101, 61, 48, 48] ++ digF 13 a ++ [44, 32, 120, 61, 49, 44, 32] ++ [109, 97, 120, 45, 97, 103, 101] ++ [61, 34] ++ digF 13 b ++ [34] := rfl
  have co : ∀ W, (secText (nameW 0) a b).length ≤ 100000 → Calls Tryd.prog 15 #[strV (secText (nameW 0) a b)] W fun e w' => e = .returned (.agg #[.bool false, .bool false, .bool false, .bool false, .bool false, .bool false, .int .i64 ((min a b : Nat) : Int), .int .i64 (-1), .int .i64 (-1), .int .i64 (-1)]) ∧ Below W.heap.size W w' := fun W h => by
    have h1 := of_any (secText (nameW 0) a b) W h
    rw [hsay] at h1
    exact h1
  generalize secText (nameW 0) a b = T at ht co
  generalize digF (12 + 1) a = da at ca la ht
  generalize digF (12 + 1) b = db at cb lb ht
  obtain ⟨S2, hS2, l2, s2'⟩ := sum_lists (P := Tryd.prog) [109, 97, 120, 45, 97, 103, 101, 61, 48, 48] da (by decide) (by omega)
  have s2 : ∀ W : World, (Op.stringOp .add ((⟨#[109, 97, 120, 45, 97, 103, 101]⟩ : ByteArray) ++ ⟨#[61, 48, 48]⟩) ⟨da.toArray⟩).run Tryd.prog W = .ok (strV S2) W := fun W => by
    have e : (⟨#[109, 97, 120, 45, 97, 103, 101]⟩ : ByteArray) ++ ⟨#[61, 48, 48]⟩ = ⟨([109, 97, 120, 45, 97, 103, 101, 61, 48, 48] : List UInt8).toArray⟩ := ByteArray.mk_append_mk ..
    rw [e]; exact s2' W
  clear s2'
  obtain ⟨S3, hS3, l3, s3⟩ := sum_lists (P := Tryd.prog) S2 [44, 32, 120, 61, 49, 44, 32] (by rw [l2]; simp; omega) (by decide)
  obtain ⟨S4, hS4, l4, s4⟩ := sum_lists (P := Tryd.prog) S3 [109, 97, 120, 45, 97, 103, 101] (by rw [l3, l2]; simp; omega) (by decide)
  obtain ⟨S5, hS5, l5, s5⟩ := sum_lists (P := Tryd.prog) S4 [61, 34] (by rw [l4, l3, l2]; simp; omega) (by decide)
  obtain ⟨S6, hS6, l6, s6⟩ := sum_lists (P := Tryd.prog) S5 db (by rw [l5, l4, l3, l2]; simp; omega) (by omega)
  obtain ⟨S7, hS7, l7, s7⟩ := sum_lists (P := Tryd.prog) S6 [34] (by rw [l6, l5, l4, l3, l2]; simp; omega) (by decide)
  have hT : S7 = T := by rw [hS7, hS6, hS5, hS4, hS3, hS2, ht]
  have co2 := fun W => co W (by rw [← hT, l7, l6, l5, l4, l3, l2]; simp; omega)
  rw [← hT] at co2
  have CA := hid ca
  have CB := hid cb
  have CO := hid co2
  clear ca cb hsay co co2 hT ht hS2 hS3 hS4 hS5 hS6 hS7 l2 l3 l4 l5 l6 l7 la lb
  have d1 : decide ((a : Int) < 0) = false := decide_eq_false (by omega)
  have d2 : decide ((2147483648 : Int) < (a : Int)) = false := decide_eq_false (by omega)
  have d3 : decide ((b : Int) < 0) = false := decide_eq_false (by omega)
  have d4 : decide ((2147483648 : Int) < (b : Int)) = false := decide_eq_false (by omega)
  go_enter Tryd.func5, Tryd.ntmps5
  go_wp2_with fail
  refine (anchor_any _).mono ?_
  rintro e w1 ⟨rfl, hb1⟩
  go_wp2_with fail
  refine (CA.out _).mono ?_
  rintro e w2 ⟨rfl, hb2⟩
  replace hb1 := chain2 (hb1.trans ((below_alloc w1 _).mono hb1.size)) (Nat.le_trans hb1.size (by simp)) hb2
  clear hb2
  go_wp2_with fail
  refine (CB.out _).mono ?_
  rintro e w3 ⟨rfl, hb2⟩
  replace hb1 := chain2 hb1 hb1.size hb2
  clear hb2
  go_wp2_with fail
  refine (CO.out _).mono ?_
  rintro e w4 ⟨rfl, hb2⟩
  replace hb1 := chain2 hb1 hb1.size hb2
  clear hb2 s2 s3 s4 s5 s6 s7 CA CB CO d1 d2 d3 d4
  obtain ⟨x, hx⟩ : ∃ x : Nat, min a b = x := ⟨_, rfl⟩
  rw [hx]
  have hcase : ((a : Int) ≤ (b : Int) ∧ x = a) ∨ ((b : Int) < (a : Int) ∧ x = b) := by omega
  clear hx
  obtain ⟨V, hV⟩ : ∃ V, V = (w4.alloc (.cells #[.bool false, .bool false, .bool false, .bool false, .bool false, .bool false, .int .i64 0, .int .i64 0, .int .i64 0, .int .i64 0] 29)).setRow w4.heap.size #[.bool false, .bool false, .bool false, .bool false, .bool false, .bool false, .int .i64 (x : Int), .int .i64 (-1), .int .i64 (-1), .int .i64 (-1)] := ⟨_, rfl⟩
  have hbV : Below w4.heap.size w4 V := by rw [hV]; exact below_setRow (below_alloc _ _) (Nat.le_refl _) _
  have hsV : w4.heap.size + 1 = V.heap.size := by rw [hV]; simp
  have hri := rowIs_new_at V #[.int .i64 (x : Int), .int .i64 (-1), .int .i64 (-1), .int .i64 (-1)] 3 (w4.heap.size + 1) hsV
  have e0 : (V.alloc (.cells #[.int .i64 (x : Int), .int .i64 (-1), .int .i64 (-1), .int .i64 (-1)] 3)).cell? ⟨w4.heap.size + 1, 0, none⟩ = some (.int .i64 (x : Int)) := hri.cell 0
  have e1 : (V.alloc (.cells #[.int .i64 (x : Int), .int .i64 (-1), .int .i64 (-1), .int .i64 (-1)] 3)).cell? ⟨w4.heap.size + 1, 1, none⟩ = some (.int .i64 (-1)) := hri.cell 1
  have e2 : (V.alloc (.cells #[.int .i64 (x : Int), .int .i64 (-1), .int .i64 (-1), .int .i64 (-1)] 3)).cell? ⟨w4.heap.size + 1, 2, none⟩ = some (.int .i64 (-1)) := hri.cell 2
  have e3 : (V.alloc (.cells #[.int .i64 (x : Int), .int .i64 (-1), .int .i64 (-1), .int .i64 (-1)] 3)).cell? ⟨w4.heap.size + 1, 3, none⟩ = some (.int .i64 (-1)) := hri.cell 3
  have hrc : rowIs V w4.heap.size #[.bool false, .bool false, .bool false, .bool false, .bool false, .bool false, .int .i64 (x : Int), .int .i64 (-1), .int .i64 (-1), .int .i64 (-1)] 29 := by rw [hV]; exact (rowIs_new _ _ _).setRow _
  have h1 := ctl_one false false false false false false (x : Int) (-1) (-1) (-1)
  have c0 : V.cell? ⟨w4.heap.size, 0, none⟩ = some (.bool false) := hrc.cell 0
  have c4 : V.cell? ⟨w4.heap.size, 4, none⟩ = some (.bool false) := hrc.cell 4
  have c6 : V.cell? ⟨w4.heap.size, 6, none⟩ = some (.int .i64 (x : Int)) := hrc.cell 6
  have c7 : V.cell? ⟨w4.heap.size, 7, none⟩ = some (.int .i64 (-1)) := hrc.cell 7
  have c8 : V.cell? ⟨w4.heap.size, 8, none⟩ = some (.int .i64 (-1)) := hrc.cell 8
  have c9 : V.cell? ⟨w4.heap.size, 9, none⟩ = some (.int .i64 (-1)) := hrc.cell 9
  have c0' := kept c0 (below_alloc V (.cells #[.int .i64 (x : Int), .int .i64 (-1), .int .i64 (-1), .int .i64 (-1)] 3))
  have c4' := kept c4 (below_alloc V (.cells #[.int .i64 (x : Int), .int .i64 (-1), .int .i64 (-1), .int .i64 (-1)] 3))
  clear hrc c0 c4 hri hsV
  rw [hV] at c6 c7 c8 c9
  replace hb1 := chain2 hb1 hb1.size (hbV.trans ((below_alloc V (.cells #[.int .i64 (x : Int), .int .i64 (-1), .int .i64 (-1), .int .i64 (-1)] 3)).mono hbV.size))
  clear hbV
  go_wp2_with (refine wpList_store_row rfl 29 _ _ rfl w4.heap.size _ rfl rfl 29 zeroC (rowIs_new _ _ _) infoCtl rfl h1 ?_)
  rw [← hV]
  clear hV h1 c6 c7 c8 c9
  generalize V.alloc (.cells #[.int .i64 (x : Int), .int .i64 (-1), .int .i64 (-1), .int .i64 (-1)] 3) = Z at c0' c4' e0 e1 e2 e3 hb1 ⊢
  go_loop [66] (fun i => ∃ k : Nat, k ≤ 4 ∧ i = .int .i64 k) (fun i => 4 - (intOf i).toNat)
  case atStart => exact ⟨0, by decide, rfl⟩
  case round =>
    obtain ⟨k, hk, rfl⟩ := hrel
    have hc : k = 0 ∨ k = 1 ∨ k = 2 ∨ k = 3 ∨ k = 4 := by omega
    rcases hcase with ⟨hab, rfl⟩ | ⟨hab, rfl⟩
    all_goals
      rcases hc with rfl | rfl | rfl | rfl | rfl
      · go_wp2_with fail
        go_round
        case rel => exact ⟨1, by decide, by go_num⟩
        case measure => simp [intOf]
      · go_wp2_with fail
        go_round
        case rel => exact ⟨2, by decide, by go_num⟩
        case measure => simp [intOf]
      · go_wp2_with fail
        go_round
        case rel => exact ⟨3, by decide, by go_num⟩
        case measure => simp [intOf]
      · go_wp2_with fail
        go_round
        case rel => exact ⟨4, by decide, by go_num⟩
        case measure => simp [intOf]
      · go_wp2_with fail
        go_ret
        exact ⟨rfl, hb1⟩
set_option maxRecDepth 8000 in
set_option maxHeartbeats 8000000 in
theorem controlSeconds_1 (a b : Nat) (w : World) (ha : a ≤ farN) (hb : b ≤ farN) :
    Calls Tryd.prog 5 #[.int .i64 (a : Int), .int .i64 (b : Int), .int .i64 1] w fun e w' => e = .returned (.bool true) ∧ Below w.heap.size w w' := by
  have hsay := says_at 1 a b (by decide) ha hb
  unfold farN at ha hb
  have ca := fun W => digits_any 12 a (a : Int) W rfl (by omega) (by decide)
  have cb := fun W => digits_any 12 b (b : Int) W rfl (by omega) (by decide)
  have la := digF_len 13 a
  have lb := digF_len 13 b
  have ht : secText (nameW 1) a b = [83, 45, 77, 97, 120, 65, 103, 101, 61, 48, 48] ++ digF 13 a ++ [44, 32, 120, 61, 49, 44, 32] ++ [83, 45, 77, 97, 120, 65, 103, 101] ++ [61, 34] ++ digF 13 b ++ [34] := rfl
  have co : ∀ W, (secText (nameW 1) a b).length ≤ 100000 → Calls Tryd.prog 15 #[strV (secText (nameW 1) a b)] W fun e w' => e = .returned (.agg #[.bool false, .bool false, .bool false, .bool false, .bool false, .bool false, .int .i64 (-1), .int .i64 ((min a b : Nat) : Int), .int .i64 (-1), .int .i64 (-1)]) ∧ Below W.heap.size W w' := fun W h => by
    have h1 := of_any (secText (nameW 1) a b) W h
    rw [hsay] at h1
    exact h1
  generalize secText (nameW 1) a b = T at ht co
  generalize digF (12 + 1) a = da at ca la ht
  generalize digF (12 + 1) b = db at cb lb ht
  obtain ⟨S2, hS2, l2, s2'⟩ := sum_lists (P := Tryd.prog) [83, 45, 77, 97, 120, 65, 103, 101, 61, 48, 48] da (by decide) (by omega)
  have s2 : ∀ W : World, (Op.stringOp .add ((⟨#[83, 45, 77, 97, 120, 65, 103, 101]⟩ : ByteArray) ++ ⟨#[61, 48, 48]⟩) ⟨da.toArray⟩).run Tryd.prog W = .ok (strV S2) W := fun W => by
    have e : (⟨#[83, 45, 77, 97, 120, 65, 103, 101]⟩ : ByteArray) ++ ⟨#[61, 48, 48]⟩ = ⟨([83, 45, 77, 97, 120, 65, 103, 101, 61, 48, 48] : List UInt8).toArray⟩ := ByteArray.mk_append_mk ..
    rw [e]; exact s2' W
  clear s2'
  obtain ⟨S3, hS3, l3, s3⟩ := sum_lists (P := Tryd.prog) S2 [44, 32, 120, 61, 49, 44, 32] (by rw [l2]; simp; omega) (by decide)
  obtain ⟨S4, hS4, l4, s4⟩ := sum_lists (P := Tryd.prog) S3 [83, 45, 77, 97, 120, 65, 103, 101] (by rw [l3, l2]; simp; omega) (by decide)
  obtain ⟨S5, hS5, l5, s5⟩ := sum_lists (P := Tryd.prog) S4 [61, 34] (by rw [l4, l3, l2]; simp; omega) (by decide)
  obtain ⟨S6, hS6, l6, s6⟩ := sum_lists (P := Tryd.prog) S5 db (by rw [l5, l4, l3, l2]; simp; omega) (by omega)
  obtain ⟨S7, hS7, l7, s7⟩ := sum_lists (P := Tryd.prog) S6 [34] (by rw [l6, l5, l4, l3, l2]; simp; omega) (by decide)
  have hT : S7 = T := by rw [hS7, hS6, hS5, hS4, hS3, hS2, ht]
  have co2 := fun W => co W (by rw [← hT, l7, l6, l5, l4, l3, l2]; simp; omega)
  rw [← hT] at co2
  have CA := hid ca
  have CB := hid cb
  have CO := hid co2
  clear ca cb hsay co co2 hT ht hS2 hS3 hS4 hS5 hS6 hS7 l2 l3 l4 l5 l6 l7 la lb
  have d1 : decide ((a : Int) < 0) = false := decide_eq_false (by omega)
  have d2 : decide ((2147483648 : Int) < (a : Int)) = false := decide_eq_false (by omega)
  have d3 : decide ((b : Int) < 0) = false := decide_eq_false (by omega)
  have d4 : decide ((2147483648 : Int) < (b : Int)) = false := decide_eq_false (by omega)
  go_enter Tryd.func5, Tryd.ntmps5
  go_wp2_with fail
  refine (anchor_any _).mono ?_
  rintro e w1 ⟨rfl, hb1⟩
  go_wp2_with fail
  refine (CA.out _).mono ?_
  rintro e w2 ⟨rfl, hb2⟩
  replace hb1 := chain2 (hb1.trans ((below_alloc w1 _).mono hb1.size)) (Nat.le_trans hb1.size (by simp)) hb2
  clear hb2
  go_wp2_with fail
  refine (CB.out _).mono ?_
  rintro e w3 ⟨rfl, hb2⟩
  replace hb1 := chain2 hb1 hb1.size hb2
  clear hb2
  go_wp2_with fail
  refine (CO.out _).mono ?_
  rintro e w4 ⟨rfl, hb2⟩
  replace hb1 := chain2 hb1 hb1.size hb2
  clear hb2 s2 s3 s4 s5 s6 s7 CA CB CO d1 d2 d3 d4
  obtain ⟨x, hx⟩ : ∃ x : Nat, min a b = x := ⟨_, rfl⟩
  rw [hx]
  have hcase : ((a : Int) ≤ (b : Int) ∧ x = a) ∨ ((b : Int) < (a : Int) ∧ x = b) := by omega
  clear hx
  obtain ⟨V, hV⟩ : ∃ V, V = (w4.alloc (.cells #[.bool false, .bool false, .bool false, .bool false, .bool false, .bool false, .int .i64 0, .int .i64 0, .int .i64 0, .int .i64 0] 29)).setRow w4.heap.size #[.bool false, .bool false, .bool false, .bool false, .bool false, .bool false, .int .i64 (-1), .int .i64 (x : Int), .int .i64 (-1), .int .i64 (-1)] := ⟨_, rfl⟩
  have hbV : Below w4.heap.size w4 V := by rw [hV]; exact below_setRow (below_alloc _ _) (Nat.le_refl _) _
  have hsV : w4.heap.size + 1 = V.heap.size := by rw [hV]; simp
  have hri := rowIs_new_at V #[.int .i64 (-1), .int .i64 (x : Int), .int .i64 (-1), .int .i64 (-1)] 3 (w4.heap.size + 1) hsV
  have e0 : (V.alloc (.cells #[.int .i64 (-1), .int .i64 (x : Int), .int .i64 (-1), .int .i64 (-1)] 3)).cell? ⟨w4.heap.size + 1, 0, none⟩ = some (.int .i64 (-1)) := hri.cell 0
  have e1 : (V.alloc (.cells #[.int .i64 (-1), .int .i64 (x : Int), .int .i64 (-1), .int .i64 (-1)] 3)).cell? ⟨w4.heap.size + 1, 1, none⟩ = some (.int .i64 (x : Int)) := hri.cell 1
  have e2 : (V.alloc (.cells #[.int .i64 (-1), .int .i64 (x : Int), .int .i64 (-1), .int .i64 (-1)] 3)).cell? ⟨w4.heap.size + 1, 2, none⟩ = some (.int .i64 (-1)) := hri.cell 2
  have e3 : (V.alloc (.cells #[.int .i64 (-1), .int .i64 (x : Int), .int .i64 (-1), .int .i64 (-1)] 3)).cell? ⟨w4.heap.size + 1, 3, none⟩ = some (.int .i64 (-1)) := hri.cell 3
  have hrc : rowIs V w4.heap.size #[.bool false, .bool false, .bool false, .bool false, .bool false, .bool false, .int .i64 (-1), .int .i64 (x : Int), .int .i64 (-1), .int .i64 (-1)] 29 := by rw [hV]; exact (rowIs_new _ _ _).setRow _
  have h1 := ctl_one false false false false false false (-1) (x : Int) (-1) (-1)
  have c0 : V.cell? ⟨w4.heap.size, 0, none⟩ = some (.bool false) := hrc.cell 0
  have c4 : V.cell? ⟨w4.heap.size, 4, none⟩ = some (.bool false) := hrc.cell 4
  have c6 : V.cell? ⟨w4.heap.size, 6, none⟩ = some (.int .i64 (-1)) := hrc.cell 6
  have c7 : V.cell? ⟨w4.heap.size, 7, none⟩ = some (.int .i64 (x : Int)) := hrc.cell 7
  have c8 : V.cell? ⟨w4.heap.size, 8, none⟩ = some (.int .i64 (-1)) := hrc.cell 8
  have c9 : V.cell? ⟨w4.heap.size, 9, none⟩ = some (.int .i64 (-1)) := hrc.cell 9
  have c0' := kept c0 (below_alloc V (.cells #[.int .i64 (-1), .int .i64 (x : Int), .int .i64 (-1), .int .i64 (-1)] 3))
  have c4' := kept c4 (below_alloc V (.cells #[.int .i64 (-1), .int .i64 (x : Int), .int .i64 (-1), .int .i64 (-1)] 3))
  clear hrc c0 c4 hri hsV
  rw [hV] at c6 c7 c8 c9
  replace hb1 := chain2 hb1 hb1.size (hbV.trans ((below_alloc V (.cells #[.int .i64 (-1), .int .i64 (x : Int), .int .i64 (-1), .int .i64 (-1)] 3)).mono hbV.size))
  clear hbV
  go_wp2_with (refine wpList_store_row rfl 29 _ _ rfl w4.heap.size _ rfl rfl 29 zeroC (rowIs_new _ _ _) infoCtl rfl h1 ?_)
  rw [← hV]
  clear hV h1 c6 c7 c8 c9
  generalize V.alloc (.cells #[.int .i64 (-1), .int .i64 (x : Int), .int .i64 (-1), .int .i64 (-1)] 3) = Z at c0' c4' e0 e1 e2 e3 hb1 ⊢
  go_loop [66] (fun i => ∃ k : Nat, k ≤ 4 ∧ i = .int .i64 k) (fun i => 4 - (intOf i).toNat)
  case atStart => exact ⟨0, by decide, rfl⟩
  case round =>
    obtain ⟨k, hk, rfl⟩ := hrel
    have hc : k = 0 ∨ k = 1 ∨ k = 2 ∨ k = 3 ∨ k = 4 := by omega
    rcases hcase with ⟨hab, rfl⟩ | ⟨hab, rfl⟩
    all_goals
      rcases hc with rfl | rfl | rfl | rfl | rfl
      · go_wp2_with fail
        go_round
        case rel => exact ⟨1, by decide, by go_num⟩
        case measure => simp [intOf]
      · go_wp2_with fail
        go_round
        case rel => exact ⟨2, by decide, by go_num⟩
        case measure => simp [intOf]
      · go_wp2_with fail
        go_round
        case rel => exact ⟨3, by decide, by go_num⟩
        case measure => simp [intOf]
      · go_wp2_with fail
        go_round
        case rel => exact ⟨4, by decide, by go_num⟩
        case measure => simp [intOf]
      · go_wp2_with fail
        go_ret
        exact ⟨rfl, hb1⟩
set_option maxRecDepth 8000 in
set_option maxHeartbeats 8000000 in
theorem controlSeconds_2 (a b : Nat) (w : World) (ha : a ≤ farN) (hb : b ≤ farN) :
    Calls Tryd.prog 5 #[.int .i64 (a : Int), .int .i64 (b : Int), .int .i64 2] w fun e w' => e = .returned (.bool true) ∧ Below w.heap.size w w' := by
  have hsay := says_at 2 a b (by decide) ha hb
  unfold farN at ha hb
  have ca := fun W => digits_any 12 a (a : Int) W rfl (by omega) (by decide)
  have cb := fun W => digits_any 12 b (b : Int) W rfl (by omega) (by decide)
  have la := digF_len 13 a
  have lb := digF_len 13 b
  have ht : secText (nameW 2) a b = [109, 105, 110, 45, 102, 114, 101, 115, 104, 61, 48, 48] ++ digF 13 a ++ [44, 32, 120, 61, 49, 44, 32] ++ [109, 105, 110, 45, 102, 114, 101, 115, 104] ++ [61, 34] ++ digF 13 b ++ [34] := rfl
  have co : ∀ W, (secText (nameW 2) a b).length ≤ 100000 → Calls Tryd.prog 15 #[strV (secText (nameW 2) a b)] W fun e w' => e = .returned (.agg #[.bool false, .bool false, .bool false, .bool false, .bool false, .bool false, .int .i64 (-1), .int .i64 (-1), .int .i64 ((max a b : Nat) : Int), .int .i64 (-1)]) ∧ Below W.heap.size W w' := fun W h => by
    have h1 := of_any (secText (nameW 2) a b) W h
    rw [hsay] at h1
    exact h1
  generalize secText (nameW 2) a b = T at ht co
  generalize digF (12 + 1) a = da at ca la ht
  generalize digF (12 + 1) b = db at cb lb ht
  obtain ⟨S2, hS2, l2, s2'⟩ := sum_lists (P := Tryd.prog) [109, 105, 110, 45, 102, 114, 101, 115, 104, 61, 48, 48] da (by decide) (by omega)
  have s2 : ∀ W : World, (Op.stringOp .add ((⟨#[109, 105, 110, 45, 102, 114, 101, 115, 104]⟩ : ByteArray) ++ ⟨#[61, 48, 48]⟩) ⟨da.toArray⟩).run Tryd.prog W = .ok (strV S2) W := fun W => by
    have e : (⟨#[109, 105, 110, 45, 102, 114, 101, 115, 104]⟩ : ByteArray) ++ ⟨#[61, 48, 48]⟩ = ⟨([109, 105, 110, 45, 102, 114, 101, 115, 104, 61, 48, 48] : List UInt8).toArray⟩ := ByteArray.mk_append_mk ..
    rw [e]; exact s2' W
  clear s2'
  obtain ⟨S3, hS3, l3, s3⟩ := sum_lists (P := Tryd.prog) S2 [44, 32, 120, 61, 49, 44, 32] (by rw [l2]; simp; omega) (by decide)
  obtain ⟨S4, hS4, l4, s4⟩ := sum_lists (P := Tryd.prog) S3 [109, 105, 110, 45, 102, 114, 101, 115, 104] (by rw [l3, l2]; simp; omega) (by decide)
  obtain ⟨S5, hS5, l5, s5⟩ := sum_lists (P := Tryd.prog) S4 [61, 34] (by rw [l4, l3, l2]; simp; omega) (by decide)
  obtain ⟨S6, hS6, l6, s6⟩ := sum_lists (P := Tryd.prog) S5 db (by rw [l5, l4, l3, l2]; simp; omega) (by omega)
  obtain ⟨S7, hS7, l7, s7⟩ := sum_lists (P := Tryd.prog) S6 [34] (by rw [l6, l5, l4, l3, l2]; simp; omega) (by decide)
  have hT : S7 = T := by rw [hS7, hS6, hS5, hS4, hS3, hS2, ht]
  have co2 := fun W => co W (by rw [← hT, l7, l6, l5, l4, l3, l2]; simp; omega)
  rw [← hT] at co2
  have CA := hid ca
  have CB := hid cb
  have CO := hid co2
  clear ca cb hsay co co2 hT ht hS2 hS3 hS4 hS5 hS6 hS7 l2 l3 l4 l5 l6 l7 la lb
  have d1 : decide ((a : Int) < 0) = false := decide_eq_false (by omega)
  have d2 : decide ((2147483648 : Int) < (a : Int)) = false := decide_eq_false (by omega)
  have d3 : decide ((b : Int) < 0) = false := decide_eq_false (by omega)
  have d4 : decide ((2147483648 : Int) < (b : Int)) = false := decide_eq_false (by omega)
  go_enter Tryd.func5, Tryd.ntmps5
  go_wp2_with fail
  refine (anchor_any _).mono ?_
  rintro e w1 ⟨rfl, hb1⟩
  go_wp2_with fail
  refine (CA.out _).mono ?_
  rintro e w2 ⟨rfl, hb2⟩
  replace hb1 := chain2 (hb1.trans ((below_alloc w1 _).mono hb1.size)) (Nat.le_trans hb1.size (by simp)) hb2
  clear hb2
  go_wp2_with fail
  refine (CB.out _).mono ?_
  rintro e w3 ⟨rfl, hb2⟩
  replace hb1 := chain2 hb1 hb1.size hb2
  clear hb2
  go_wp2_with fail
  refine (CO.out _).mono ?_
  rintro e w4 ⟨rfl, hb2⟩
  replace hb1 := chain2 hb1 hb1.size hb2
  clear hb2 s2 s3 s4 s5 s6 s7 CA CB CO d1 d2 d3 d4
  obtain ⟨x, hx⟩ : ∃ x : Nat, max a b = x := ⟨_, rfl⟩
  rw [hx]
  have hcase : ((a : Int) ≤ (b : Int) ∧ x = b) ∨ ((b : Int) < (a : Int) ∧ x = a) := by omega
  clear hx
  obtain ⟨V, hV⟩ : ∃ V, V = (w4.alloc (.cells #[.bool false, .bool false, .bool false, .bool false, .bool false, .bool false, .int .i64 0, .int .i64 0, .int .i64 0, .int .i64 0] 29)).setRow w4.heap.size #[.bool false, .bool false, .bool false, .bool false, .bool false, .bool false, .int .i64 (-1), .int .i64 (-1), .int .i64 (x : Int), .int .i64 (-1)] := ⟨_, rfl⟩
  have hbV : Below w4.heap.size w4 V := by rw [hV]; exact below_setRow (below_alloc _ _) (Nat.le_refl _) _
  have hsV : w4.heap.size + 1 = V.heap.size := by rw [hV]; simp
  have hri := rowIs_new_at V #[.int .i64 (-1), .int .i64 (-1), .int .i64 (x : Int), .int .i64 (-1)] 3 (w4.heap.size + 1) hsV
  have e0 : (V.alloc (.cells #[.int .i64 (-1), .int .i64 (-1), .int .i64 (x : Int), .int .i64 (-1)] 3)).cell? ⟨w4.heap.size + 1, 0, none⟩ = some (.int .i64 (-1)) := hri.cell 0
  have e1 : (V.alloc (.cells #[.int .i64 (-1), .int .i64 (-1), .int .i64 (x : Int), .int .i64 (-1)] 3)).cell? ⟨w4.heap.size + 1, 1, none⟩ = some (.int .i64 (-1)) := hri.cell 1
  have e2 : (V.alloc (.cells #[.int .i64 (-1), .int .i64 (-1), .int .i64 (x : Int), .int .i64 (-1)] 3)).cell? ⟨w4.heap.size + 1, 2, none⟩ = some (.int .i64 (x : Int)) := hri.cell 2
  have e3 : (V.alloc (.cells #[.int .i64 (-1), .int .i64 (-1), .int .i64 (x : Int), .int .i64 (-1)] 3)).cell? ⟨w4.heap.size + 1, 3, none⟩ = some (.int .i64 (-1)) := hri.cell 3
  have hrc : rowIs V w4.heap.size #[.bool false, .bool false, .bool false, .bool false, .bool false, .bool false, .int .i64 (-1), .int .i64 (-1), .int .i64 (x : Int), .int .i64 (-1)] 29 := by rw [hV]; exact (rowIs_new _ _ _).setRow _
  have h1 := ctl_one false false false false false false (-1) (-1) (x : Int) (-1)
  have c0 : V.cell? ⟨w4.heap.size, 0, none⟩ = some (.bool false) := hrc.cell 0
  have c4 : V.cell? ⟨w4.heap.size, 4, none⟩ = some (.bool false) := hrc.cell 4
  have c6 : V.cell? ⟨w4.heap.size, 6, none⟩ = some (.int .i64 (-1)) := hrc.cell 6
  have c7 : V.cell? ⟨w4.heap.size, 7, none⟩ = some (.int .i64 (-1)) := hrc.cell 7
  have c8 : V.cell? ⟨w4.heap.size, 8, none⟩ = some (.int .i64 (x : Int)) := hrc.cell 8
  have c9 : V.cell? ⟨w4.heap.size, 9, none⟩ = some (.int .i64 (-1)) := hrc.cell 9
  have c0' := kept c0 (below_alloc V (.cells #[.int .i64 (-1), .int .i64 (-1), .int .i64 (x : Int), .int .i64 (-1)] 3))
  have c4' := kept c4 (below_alloc V (.cells #[.int .i64 (-1), .int .i64 (-1), .int .i64 (x : Int), .int .i64 (-1)] 3))
  clear hrc c0 c4 hri hsV
  rw [hV] at c6 c7 c8 c9
  replace hb1 := chain2 hb1 hb1.size (hbV.trans ((below_alloc V (.cells #[.int .i64 (-1), .int .i64 (-1), .int .i64 (x : Int), .int .i64 (-1)] 3)).mono hbV.size))
  clear hbV
  go_wp2_with (refine wpList_store_row rfl 29 _ _ rfl w4.heap.size _ rfl rfl 29 zeroC (rowIs_new _ _ _) infoCtl rfl h1 ?_)
  rw [← hV]
  clear hV h1 c6 c7 c8 c9
  generalize V.alloc (.cells #[.int .i64 (-1), .int .i64 (-1), .int .i64 (x : Int), .int .i64 (-1)] 3) = Z at c0' c4' e0 e1 e2 e3 hb1 ⊢
  go_loop [66] (fun i => ∃ k : Nat, k ≤ 4 ∧ i = .int .i64 k) (fun i => 4 - (intOf i).toNat)
  case atStart => exact ⟨0, by decide, rfl⟩
  case round =>
    obtain ⟨k, hk, rfl⟩ := hrel
    have hc : k = 0 ∨ k = 1 ∨ k = 2 ∨ k = 3 ∨ k = 4 := by omega
    rcases hcase with ⟨hab, rfl⟩ | ⟨hab, rfl⟩
    all_goals
      rcases hc with rfl | rfl | rfl | rfl | rfl
      · go_wp2_with fail
        go_round
        case rel => exact ⟨1, by decide, by go_num⟩
        case measure => simp [intOf]
      · go_wp2_with fail
        go_round
        case rel => exact ⟨2, by decide, by go_num⟩
        case measure => simp [intOf]
      · go_wp2_with fail
        go_round
        case rel => exact ⟨3, by decide, by go_num⟩
        case measure => simp [intOf]
      · go_wp2_with fail
        go_round
        case rel => exact ⟨4, by decide, by go_num⟩
        case measure => simp [intOf]
      · go_wp2_with fail
        go_ret
        exact ⟨rfl, hb1⟩
set_option maxRecDepth 8000 in
set_option maxHeartbeats 8000000 in
theorem controlSeconds_3 (a b : Nat) (w : World) (ha : a ≤ farN) (hb : b ≤ farN) :
    Calls Tryd.prog 5 #[.int .i64 (a : Int), .int .i64 (b : Int), .int .i64 3] w fun e w' => e = .returned (.bool true) ∧ Below w.heap.size w w' := by
  have hsay := says_at 3 a b (by decide) ha hb
  unfold farN at ha hb
  have ca := fun W => digits_any 12 a (a : Int) W rfl (by omega) (by decide)
  have cb := fun W => digits_any 12 b (b : Int) W rfl (by omega) (by decide)
  have la := digF_len 13 a
  have lb := digF_len 13 b
  have ht : secText (nameW 3) a b = [109, 97, 120, 45, 115, 116, 97, 108, 101, 61, 48, 48] ++ digF 13 a ++ [44, 32, 120, 61, 49, 44, 32] ++ [109, 97, 120, 45, 115, 116, 97, 108, 101] ++ [61, 34] ++ digF 13 b ++ [34] := rfl
  have co : ∀ W, (secText (nameW 3) a b).length ≤ 100000 → Calls Tryd.prog 15 #[strV (secText (nameW 3) a b)] W fun e w' => e = .returned (.agg #[.bool false, .bool false, .bool false, .bool false, .bool false, .bool false, .int .i64 (-1), .int .i64 (-1), .int .i64 (-1), .int .i64 ((min a b : Nat) : Int)]) ∧ Below W.heap.size W w' := fun W h => by
    have h1 := of_any (secText (nameW 3) a b) W h
    rw [hsay] at h1
    exact h1
  generalize secText (nameW 3) a b = T at ht co
  generalize digF (12 + 1) a = da at ca la ht
  generalize digF (12 + 1) b = db at cb lb ht
  obtain ⟨S2, hS2, l2, s2'⟩ := sum_lists (P := Tryd.prog) [109, 97, 120, 45, 115, 116, 97, 108, 101, 61, 48, 48] da (by decide) (by omega)
  have s2 : ∀ W : World, (Op.stringOp .add ((⟨#[109, 97, 120, 45, 115, 116, 97, 108, 101]⟩ : ByteArray) ++ ⟨#[61, 48, 48]⟩) ⟨da.toArray⟩).run Tryd.prog W = .ok (strV S2) W := fun W => by
    have e : (⟨#[109, 97, 120, 45, 115, 116, 97, 108, 101]⟩ : ByteArray) ++ ⟨#[61, 48, 48]⟩ = ⟨([109, 97, 120, 45, 115, 116, 97, 108, 101, 61, 48, 48] : List UInt8).toArray⟩ := ByteArray.mk_append_mk ..
    rw [e]; exact s2' W
  clear s2'
  obtain ⟨S3, hS3, l3, s3⟩ := sum_lists (P := Tryd.prog) S2 [44, 32, 120, 61, 49, 44, 32] (by rw [l2]; simp; omega) (by decide)
  obtain ⟨S4, hS4, l4, s4⟩ := sum_lists (P := Tryd.prog) S3 [109, 97, 120, 45, 115, 116, 97, 108, 101] (by rw [l3, l2]; simp; omega) (by decide)
  obtain ⟨S5, hS5, l5, s5⟩ := sum_lists (P := Tryd.prog) S4 [61, 34] (by rw [l4, l3, l2]; simp; omega) (by decide)
  obtain ⟨S6, hS6, l6, s6⟩ := sum_lists (P := Tryd.prog) S5 db (by rw [l5, l4, l3, l2]; simp; omega) (by omega)
  obtain ⟨S7, hS7, l7, s7⟩ := sum_lists (P := Tryd.prog) S6 [34] (by rw [l6, l5, l4, l3, l2]; simp; omega) (by decide)
  have hT : S7 = T := by rw [hS7, hS6, hS5, hS4, hS3, hS2, ht]
  have co2 := fun W => co W (by rw [← hT, l7, l6, l5, l4, l3, l2]; simp; omega)
  rw [← hT] at co2
  have CA := hid ca
  have CB := hid cb
  have CO := hid co2
  clear ca cb hsay co co2 hT ht hS2 hS3 hS4 hS5 hS6 hS7 l2 l3 l4 l5 l6 l7 la lb
  have d1 : decide ((a : Int) < 0) = false := decide_eq_false (by omega)
  have d2 : decide ((2147483648 : Int) < (a : Int)) = false := decide_eq_false (by omega)
  have d3 : decide ((b : Int) < 0) = false := decide_eq_false (by omega)
  have d4 : decide ((2147483648 : Int) < (b : Int)) = false := decide_eq_false (by omega)
  go_enter Tryd.func5, Tryd.ntmps5
  go_wp2_with fail
  refine (anchor_any _).mono ?_
  rintro e w1 ⟨rfl, hb1⟩
  go_wp2_with fail
  refine (CA.out _).mono ?_
  rintro e w2 ⟨rfl, hb2⟩
  replace hb1 := chain2 (hb1.trans ((below_alloc w1 _).mono hb1.size)) (Nat.le_trans hb1.size (by simp)) hb2
  clear hb2
  go_wp2_with fail
  refine (CB.out _).mono ?_
  rintro e w3 ⟨rfl, hb2⟩
  replace hb1 := chain2 hb1 hb1.size hb2
  clear hb2
  go_wp2_with fail
  refine (CO.out _).mono ?_
  rintro e w4 ⟨rfl, hb2⟩
  replace hb1 := chain2 hb1 hb1.size hb2
  clear hb2 s2 s3 s4 s5 s6 s7 CA CB CO d1 d2 d3 d4
  obtain ⟨x, hx⟩ : ∃ x : Nat, min a b = x := ⟨_, rfl⟩
  rw [hx]
  have hcase : ((a : Int) ≤ (b : Int) ∧ x = a) ∨ ((b : Int) < (a : Int) ∧ x = b) := by omega
  clear hx
  obtain ⟨V, hV⟩ : ∃ V, V = (w4.alloc (.cells #[.bool false, .bool false, .bool false, .bool false, .bool false, .bool false, .int .i64 0, .int .i64 0, .int .i64 0, .int .i64 0] 29)).setRow w4.heap.size #[.bool false, .bool false, .bool false, .bool false, .bool false, .bool false, .int .i64 (-1), .int .i64 (-1), .int .i64 (-1), .int .i64 (x : Int)] := ⟨_, rfl⟩
  have hbV : Below w4.heap.size w4 V := by rw [hV]; exact below_setRow (below_alloc _ _) (Nat.le_refl _) _
  have hsV : w4.heap.size + 1 = V.heap.size := by rw [hV]; simp
  have hri := rowIs_new_at V #[.int .i64 (-1), .int .i64 (-1), .int .i64 (-1), .int .i64 (x : Int)] 3 (w4.heap.size + 1) hsV
  have e0 : (V.alloc (.cells #[.int .i64 (-1), .int .i64 (-1), .int .i64 (-1), .int .i64 (x : Int)] 3)).cell? ⟨w4.heap.size + 1, 0, none⟩ = some (.int .i64 (-1)) := hri.cell 0
  have e1 : (V.alloc (.cells #[.int .i64 (-1), .int .i64 (-1), .int .i64 (-1), .int .i64 (x : Int)] 3)).cell? ⟨w4.heap.size + 1, 1, none⟩ = some (.int .i64 (-1)) := hri.cell 1
  have e2 : (V.alloc (.cells #[.int .i64 (-1), .int .i64 (-1), .int .i64 (-1), .int .i64 (x : Int)] 3)).cell? ⟨w4.heap.size + 1, 2, none⟩ = some (.int .i64 (-1)) := hri.cell 2
  have e3 : (V.alloc (.cells #[.int .i64 (-1), .int .i64 (-1), .int .i64 (-1), .int .i64 (x : Int)] 3)).cell? ⟨w4.heap.size + 1, 3, none⟩ = some (.int .i64 (x : Int)) := hri.cell 3
  have hrc : rowIs V w4.heap.size #[.bool false, .bool false, .bool false, .bool false, .bool false, .bool false, .int .i64 (-1), .int .i64 (-1), .int .i64 (-1), .int .i64 (x : Int)] 29 := by rw [hV]; exact (rowIs_new _ _ _).setRow _
  have h1 := ctl_one false false false false false false (-1) (-1) (-1) (x : Int)
  have c0 : V.cell? ⟨w4.heap.size, 0, none⟩ = some (.bool false) := hrc.cell 0
  have c4 : V.cell? ⟨w4.heap.size, 4, none⟩ = some (.bool false) := hrc.cell 4
  have c6 : V.cell? ⟨w4.heap.size, 6, none⟩ = some (.int .i64 (-1)) := hrc.cell 6
  have c7 : V.cell? ⟨w4.heap.size, 7, none⟩ = some (.int .i64 (-1)) := hrc.cell 7
  have c8 : V.cell? ⟨w4.heap.size, 8, none⟩ = some (.int .i64 (-1)) := hrc.cell 8
  have c9 : V.cell? ⟨w4.heap.size, 9, none⟩ = some (.int .i64 (x : Int)) := hrc.cell 9
  have c0' := kept c0 (below_alloc V (.cells #[.int .i64 (-1), .int .i64 (-1), .int .i64 (-1), .int .i64 (x : Int)] 3))
  have c4' := kept c4 (below_alloc V (.cells #[.int .i64 (-1), .int .i64 (-1), .int .i64 (-1), .int .i64 (x : Int)] 3))
  clear hrc c0 c4 hri hsV
  rw [hV] at c6 c7 c8 c9
  replace hb1 := chain2 hb1 hb1.size (hbV.trans ((below_alloc V (.cells #[.int .i64 (-1), .int .i64 (-1), .int .i64 (-1), .int .i64 (x : Int)] 3)).mono hbV.size))
  clear hbV
  go_wp2_with (refine wpList_store_row rfl 29 _ _ rfl w4.heap.size _ rfl rfl 29 zeroC (rowIs_new _ _ _) infoCtl rfl h1 ?_)
  rw [← hV]
  clear hV h1 c6 c7 c8 c9
  generalize V.alloc (.cells #[.int .i64 (-1), .int .i64 (-1), .int .i64 (-1), .int .i64 (x : Int)] 3) = Z at c0' c4' e0 e1 e2 e3 hb1 ⊢
  go_loop [66] (fun i => ∃ k : Nat, k ≤ 4 ∧ i = .int .i64 k) (fun i => 4 - (intOf i).toNat)
  case atStart => exact ⟨0, by decide, rfl⟩
  case round =>
    obtain ⟨k, hk, rfl⟩ := hrel
    have hc : k = 0 ∨ k = 1 ∨ k = 2 ∨ k = 3 ∨ k = 4 := by omega
    rcases hcase with ⟨hab, rfl⟩ | ⟨hab, rfl⟩
    all_goals
      rcases hc with rfl | rfl | rfl | rfl | rfl
      · go_wp2_with fail
        go_round
        case rel => exact ⟨1, by decide, by go_num⟩
        case measure => simp [intOf]
      · go_wp2_with fail
        go_round
        case rel => exact ⟨2, by decide, by go_num⟩
        case measure => simp [intOf]
      · go_wp2_with fail
        go_round
        case rel => exact ⟨3, by decide, by go_num⟩
        case measure => simp [intOf]
      · go_wp2_with fail
        go_round
        case rel => exact ⟨4, by decide, by go_num⟩
        case measure => simp [intOf]
      · go_wp2_with fail
        go_ret
        exact ⟨rfl, hb1⟩
end Go.Proofs.YtofkiihajhkmdaaDoor
