/-
  The document's answers of layer 8: Clean.
-/
import Derived.Test.YthokpbpnecdgpaaGreatDoorRef8A
import Derived.Deep.QuietTactic
import Derived.BigQuiet
namespace Go.Pantry
open Go.RowKit
theorem bad_ways (c : UInt8) : (badC c = true ∧ (decide ((c.toNat : Int) < 33) = true ∨ (decide ((c.toNat : Int) < 33) = false ∧ decide ((126 : Int) < (c.toNat : Int)) = true) ∨ (decide ((c.toNat : Int) < 33) = false ∧ decide ((126 : Int) < (c.toNat : Int)) = false ∧ ((c.toNat : Int) == 35) = true))) ∨ (badC c = false ∧ decide ((c.toNat : Int) < 33) = false ∧ decide ((126 : Int) < (c.toNat : Int)) = false ∧ ((c.toNat : Int) == 35) = false) := by
  have h1 : decide ((c.toNat : Int) < 33) = decide (c.toNat < 33) := decide_eq_decide.2 (by omega)
  have h2 : decide ((126 : Int) < (c.toNat : Int)) = decide (126 < c.toNat) := decide_eq_decide.2 (by omega)
  have h3 : ((c.toNat : Int) == 35) = (c == 35) := (byte_beq c 35 (z := 35) rfl).symm
  rw [h1, h2, h3]
  unfold badC
  cases decide (c.toNat < 33) <;> cases decide (126 < c.toNat) <;> cases (c == 35) <;> simp
theorem un_byte (c : UInt8) : (isUn c = true ∧ ((isLow c || isUp c || isDig c) = true ∨ ((isLow c || isUp c || isDig c) = false ∧ ((c.toNat : Int) == 45) = true) ∨ ((isLow c || isUp c || isDig c) = false ∧ ((c.toNat : Int) == 45) = false ∧ ((c.toNat : Int) == 46) = true) ∨ ((isLow c || isUp c || isDig c) = false ∧ ((c.toNat : Int) == 45) = false ∧ ((c.toNat : Int) == 46) = false ∧ ((c.toNat : Int) == 95) = true) ∨ ((isLow c || isUp c || isDig c) = false ∧ ((c.toNat : Int) == 45) = false ∧ ((c.toNat : Int) == 46) = false ∧ ((c.toNat : Int) == 95) = false ∧ ((c.toNat : Int) == 126) = true))) ∨ (isUn c = false ∧ (isLow c || isUp c || isDig c) = false ∧ ((c.toNat : Int) == 45) = false ∧ ((c.toNat : Int) == 46) = false ∧ ((c.toNat : Int) == 95) = false ∧ ((c.toNat : Int) == 126) = false) := by
  rw [← byte_beq c 45 (z := 45) rfl, ← byte_beq c 46 (z := 46) rfl, ← byte_beq c 95 (z := 95) rfl, ← byte_beq c 126 (z := 126) rfl]
  unfold isUn isAl
  cases (isLow c || isUp c || isDig c) <;> cases (c == 45) <;> cases (c == 46) <;> cases (c == 95) <;> cases (c == 126) <;> simp
theorem one_int8 (n : Nat) : (⟨#[UInt8.ofNat ((n : Int)).toNat]⟩ : ByteArray) = ⟨[n.toUInt8].toArray⟩ := by simp
theorem three_bytes {P : Program} (w : World) (src dst e : TypeId) (a b c : UInt8) (hs : P.underlying src = some (.slice e)) (he : P.underlying e = some (.int .u8)) (hd : P.underlying dst = some .string) :
    (convert src dst (.slice (some ⟨w.heap.size, 0, none⟩) 3 3)).run P ((w.alloc (.cells #[.int .u8 (a.toNat : Int), .int .u8 (b.toNat : Int), .int .u8 (c.toNat : Int)] e)).drew) = .ok (.string ⟨[a, b, c].toArray⟩) ((w.alloc (.cells #[.int .u8 (a.toNat : Int), .int .u8 (b.toNat : Int), .int .u8 (c.toNat : Int)] e)).drew) := by
  refine run_convert_bytes_back (P := P) _ src dst e ⟨w.heap.size, 0, none⟩ 3 [a, b, c] hs he hd (fun j hj => ?_)
  have h : ∀ k : Nat, ((w.alloc (.cells #[.int .u8 (a.toNat : Int), .int .u8 (b.toNat : Int), .int .u8 (c.toNat : Int)] e)).drew).cell? ⟨w.heap.size, k, none⟩ = (#[.int .u8 (a.toNat : Int), .int .u8 (b.toNat : Int), .int .u8 (c.toNat : Int)] : Array Value)[k]? := fun k => World.cell?_alloc_at _ _ _ _ rfl
  match j, hj with
  | 0, _ => exact h 0
  | 1, _ => exact h 1
  | 2, _ => exact h 2
theorem valZ_none {c : UInt8} (h : hexV c = none) : valZ c = -1 := by unfold valZ; rw [h]
theorem valZ_some {c : UInt8} {v : Nat} (h : hexV c = some v) : valZ c = (v : Int) := by unfold valZ; rw [h]
theorem big_at : ∀ n : Nat, n < 16 → (⟨#[48, 49, 50, 51, 52, 53, 54, 55, 56, 57, 65, 66, 67, 68, 69, 70]⟩ : ByteArray).data.toList[n]? = some (hexG n) := by decide
theorem big_at' (n : Nat) (h : n < 16) (h' : n < (⟨#[48, 49, 50, 51, 52, 53, 54, 55, 56, 57, 65, 66, 67, 68, 69, 70]⟩ : ByteArray).size) : (⟨#[48, 49, 50, 51, 52, 53, 54, 55, 56, 57, 65, 66, 67, 68, 69, 70]⟩ : ByteArray)[n]'h' = hexG n := by
  have e := big_at n h
  obtain ⟨_, e2⟩ := List.getElem?_eq_some_iff.1 e
  exact e2
end Go.Pantry
namespace Go.Proofs.YthokpbpnecdgpaaGreatDoor
open Go.RowKit Go.Pantry

set_option maxRecDepth 100000 in
set_option maxHeartbeats 16000000 in
theorem refClean_any (s : ByteArray) (w : World) (hs : s.size ≤ 100000) :
    Calls Tryz.prog 17 #[.string s] w fun e w' => e = .returned (.tuple #[strV ((cleanL s.data.toList).getD []), .bool (cleanL s.data.toList).isSome]) ∧ Below w.heap.size w w' := by
  go_enter Tryz.func17, Tryz.ntmps17
  go_wp2_with fail
  go_loopw [4, 5] (fun ov i wr => ∃ (k : Nat) (O : List UInt8), k ≤ s.size ∧ i = .int .i64 k ∧ ov = strV O ∧ O.length ≤ k ∧ cleanL s.data.toList = (cleanL (s.data.toList.drop k)).map (O ++ ·) ∧ Below w.heap.size w wr) (fun _ i _ => s.size - (intOf i).toNat)
  case atStart => exact ⟨0, [], Nat.zero_le _, rfl, rfl, Nat.le_refl _, by rw [List.drop_zero]; cases cleanL s.data.toList <;> rfl, Below.refl _ _⟩
  case round =>
    obtain ⟨k, O, hk, rfl, rfl, hO, hC, hb⟩ := hrel
    by_cases hlt : k < s.size
    · have f1 : decide ((k : Int) < (s.size : Int)) = true := by simp; omega
      have hdr : s.data.toList.drop k = s[k] :: s.data.toList.drop (k + 1) := by
        rw [List.drop_eq_getElem_cons (by rw [size_list]; exact hlt), getElem_list s k hlt]
      obtain ⟨c, hc⟩ : ∃ c, s[k] = c := ⟨_, rfl⟩
      rw [hdr, hc] at hC
      have hbw := bad_ways c
      rw [← hc] at hbw
      rcases hbw with ⟨hbad, hw⟩ | ⟨hgood, g1, g2, g3⟩
      · rw [hc] at hbad
        rw [cleanL_bad _ hbad] at hC
        have HC := hid hC
        clear hC hdr hbad
        rcases hw with g1 | ⟨g1, g2⟩ | ⟨g1, g2, g3⟩
        all_goals
          clear hc
          go_wp2_with fail
          go_ret2
          exact ⟨by rw [HC.out]; rfl, hb⟩
      · rw [hc] at hgood
        by_cases h37 : c = 37
        · have f37 : ((s[k].toNat : Int) != 37) = false := by rw [hc, h37]; rfl
          by_cases h2 : s.size ≤ k + 2
          · have f2 : decide ((s.size : Int) ≤ (k : Int) + 2) = true := by simp; omega
            have hnone : cleanL (37 :: s.data.toList.drop (k + 1)) = none := by
              have hl : (s.data.toList.drop (k + 1)).length ≤ 1 := by rw [List.length_drop, size_list]; omega
              match h : s.data.toList.drop (k + 1), hl with
              | [], _ => exact cleanL_short0
              | [a], _ => rw [cleanL]; simp
            rw [h37, hnone] at hC
            have HC := hid hC
            clear hC hdr hc hgood hnone h37
            go_wp2_with fail
            go_ret2
            exact ⟨by rw [HC.out]; rfl, hb⟩
          · have f2 : decide ((s.size : Int) ≤ (k : Int) + 2) = false := by rw [decide_eq_false_iff_not]; omega
            have hk1 : k + 1 < s.size := by omega
            have hk2 : k + 2 < s.size := by omega
            have hd1 : s.data.toList.drop (k + 1) = s[k + 1] :: s[k + 2] :: s.data.toList.drop (k + 3) := by
              rw [List.drop_eq_getElem_cons (by rw [size_list]; exact hk1), List.drop_eq_getElem_cons (by rw [size_list]; exact hk2), getElem_list s (k + 1) hk1, getElem_list s (k + 2) hk2]
            obtain ⟨x1, hx1⟩ : ∃ x, s[k + 1] = x := ⟨_, rfl⟩
            obtain ⟨x2, hx2⟩ : ∃ x, s[k + 2] = x := ⟨_, rfl⟩
            rw [h37, hd1, hx1, hx2] at hC
            have c1 := fun W => refVal_any x1 W
            have c2 := fun W => refVal_any x2 W
            cases hv1 : hexV x1 with
            | none =>
              rw [cleanL_esc1 _ hv1] at hC
              rw [valZ_none hv1] at c1
              have HC := hid hC
              have C1 := hid c1
              clear hC hdr hc hgood h37 hd1 c1 c2 hv1
              go_wp2_with (go_at_call 33; with_reducible refine (C1.out _).mono ?_; rintro e w' ⟨rfl, rfl⟩)
              go_ret2
              exact ⟨by rw [HC.out]; rfl, hb⟩
            | some v1 =>
              rw [valZ_some hv1] at c1
              cases hv2 : hexV x2 with
              | none =>
                rw [cleanL_esc2 _ hv2] at hC
                rw [valZ_none hv2] at c2
                have HC := hid hC
                have C1 := hid c1
                have C2 := hid c2
                clear hC hdr hc hgood h37 hd1 c1 c2 hv1 hv2
                go_wp2_with (first
                  | (go_at_call 33; with_reducible refine (C1.out _).mono ?_; rintro e w' ⟨rfl, rfl⟩)
                  | (go_at_call 33; with_reducible refine (C2.out _).mono ?_; rintro e w' ⟨rfl, rfl⟩))
                go_ret2
                exact ⟨by rw [HC.out]; rfl, hb⟩
              | some v2 =>
                rw [valZ_some hv2] at c2
                rw [cleanL_esc _ hv1 hv2] at hC
                have hsum := hex_sum hv1 hv2
                have hv16 := hexV_le hv1
                have hv26 := hexV_le hv2
                have C1 := hid c1
                have C2 := hid c2
                have c1q : ∀ W, Calls Tryz.prog 33 #[.int .u8 (s[k + 1].toNat : Int)] W fun e w' => e = .returned (.int .i64 (v1 : Int)) ∧ W = w' := by rw [hx1]; exact c1
                have c2q : ∀ W, Calls Tryz.prog 33 #[.int .u8 (s[k + 2].toNat : Int)] W fun e w' => e = .returned (.int .i64 (v2 : Int)) ∧ W = w' := by rw [hx2]; exact c2
                have w1 : IntKind.i64.wrap ((k : Int) + 1) = (k : Int) + 1 := IntWalk.i64_in _ (by omega)
                have w2 : IntKind.i64.wrap ((k : Int) + 2) = (k : Int) + 2 := IntWalk.i64_in _ (by omega)
                have w3 : IntKind.i64.wrap ((16 : Int) * (v1 : Int)) = (16 : Int) * (v1 : Int) := IntWalk.i64_in _ (by omega)
                have w4 : IntKind.i64.wrap ((16 : Int) * (v1 : Int) + (v2 : Int)) = (16 : Int) * (v1 : Int) + (v2 : Int) := IntWalk.i64_in _ (by omega)
                have t1 : ((k : Int) + 1).toNat = k + 1 := by omega
                have t2 : ((k : Int) + 2).toNat = k + 2 := by omega
                have j1 : (0 : Int) ≤ (k : Int) + 1 := by omega
                have j2 : (k : Int) + 1 < (s.size : Int) := by omega
                have j3 : (0 : Int) ≤ (k : Int) + 2 := by omega
                have j4 : (k : Int) + 2 < (s.size : Int) := by omega
                have C1Q := hid c1q
                have C2Q := hid c2q
                obtain ⟨m, hmm⟩ : ∃ m, 16 * v1 + v2 = m := ⟨_, rfl⟩
                have hz : (16 : Int) * (v1 : Int) + (v2 : Int) = (m : Int) := by omega
                rw [hmm] at hC hsum
                rw [hz] at w4
                have w5 : IntKind.u8.wrap (m : Int) = (m : Int) := IntWalk.u8_in _ (by omega)
                have w6 : IntKind.i64.wrap (m : Int) = (m : Int) := IntWalk.i64_in _ (by omega)
                have ct := fun W => refLetter_any m.toUInt8 W
                have hub := un_byte m.toUInt8
                have htn : m.toUInt8.toNat = m := by
                  show m % 256 = m
                  omega
                rw [htn] at ct hub
                generalize (isLow m.toUInt8 || isUp m.toUInt8 || isDig m.toUInt8) = q at ct hub
                have HC := hid hC
                have CT := hid ct
                have HUB := hid hub
                clear hC hdr hc hgood h37 hd1 c1 c2 hv1 hv2 hmm ct htn c1q c2q hub
                go_wp2_with (first
                  | (go_at_call 33; with_reducible refine (C1.out _).mono ?_; rintro e w' ⟨rfl, rfl⟩)
                  | (go_at_call 33; with_reducible refine (C2.out _).mono ?_; rintro e w' ⟨rfl, rfl⟩))
                go_region_with (first
                  | (go_at_call 33; with_reducible refine (C1.out _).mono ?_; rintro e w' ⟨rfl, rfl⟩)
                  | (go_at_call 33; with_reducible refine (C2.out _).mono ?_; rintro e w' ⟨rfl, rfl⟩)
                  | (go_at_call 33; with_reducible refine (C1Q.out _).mono ?_; rintro e w' ⟨rfl, rfl⟩)
                  | (go_at_call 33; with_reducible refine (C2Q.out _).mono ?_; rintro e w' ⟨rfl, rfl⟩))
                all_goals
                  have hbq : Below w.heap.size w wr.drew := hb.drew
                  generalize wr.drew = wq at hbq ⊢
                  rcases HUB.out with ⟨hun, rfl | ⟨rfl, q1⟩ | ⟨rfl, q1, q2⟩ | ⟨rfl, q1, q2, q3⟩ | ⟨rfl, q1, q2, q3, q4⟩⟩ | ⟨hun, rfl, q1, q2, q3, q4⟩
                  iterate 5
                    · have hE := esc_un hun
                      have s1 := fun W => run_string_add_lists (P := Tryz.prog) W O [m.toUInt8] (by omega) (by simp)
                      have hcv := run_one_byte (P := Tryz.prog) 48 9 5 Tryz.underlying48 Tryz.underlying5 Tryz.underlying9 (wq.alloc (.cells #[.int .u8 (m : Int)] 5)) wq.heap.size (m : Int) (World.cell?_alloc_at _ _ _ _ rfl)
                      rw [one_int8] at hcv
                      obtain ⟨U, hU⟩ : ∃ U, [m.toUInt8] = U := ⟨_, rfl⟩
                      rw [hU] at s1 hcv hE
                      have hC2 : cleanL s.data.toList = (cleanL (s.data.toList.drop (k + 3))).map ((O ++ U) ++ ·) := by
                        rw [HC.out, hE]; cases cleanL (s.data.toList.drop (k + 3)) <;> simp
                      have HC2 := hid hC2
                      have hUl : U.length = 1 := by rw [← hU]; rfl
                      have hb2 : Below w.heap.size w (wq.alloc (.cells #[.int .u8 (m : Int)] 5)) := hbq.trans ((below_alloc _ _).mono hbq.size)
                      clear hun hE hC2 HC hU
                      go_wp2_with (go_at_call 23; with_reducible refine (CT.out _).mono ?_; rintro e w' ⟨rfl, rfl⟩)
                      go_roundw
                      case rel => exact ⟨k + 3, O ++ U, by omega, by go_num, rfl, by simp [hUl]; omega, HC2.out, hb2⟩
                      case measure => simp [intOf]; omega
                  · have hE := esc_not hun
                    have w7 : IntKind.u8.wrap ((m : Int) / 16) = (m : Int) / 16 := IntWalk.u8_in _ (by omega)
                    have w8 : IntKind.u8.wrap ((m : Int) % 16) = (m : Int) % 16 := IntWalk.u8_in _ (by omega)
                    have w9 : IntKind.u8.wrap ((m : Int).tdiv 16) = (m : Int) / 16 := IntWalk.u8_quo _ _ (by omega)
                    have r1 : (0 : Int) ≤ (m : Int) / 16 := by omega
                    have r2 : (m : Int) / 16 < 16 := by omega
                    have r3 : (0 : Int) ≤ (m : Int) % 16 := by omega
                    have r4 : (m : Int) % 16 < 16 := by omega
                    have t3 : ((m : Int) / 16).toNat = m / 16 := by omega
                    have t4 : ((m : Int) % 16).toNat = m % 16 := by omega
                    have t5 : (m : Int).tmod 16 = (m : Int) % 16 := Int.tmod_eq_emod_of_nonneg (by omega)
                    have b1 := fun h' => big_at' (m / 16) (by omega) h'
                    have b2 := fun h' => big_at' (m % 16) (by omega) h'
                    go_wp2_with (go_at_call 23; with_reducible refine (CT.out _).mono ?_; rintro e w' ⟨rfl, rfl⟩)
                    have h3 := three_bytes (P := Tryz.prog) wq 48 9 5 37 (hexG (m / 16)) (hexG (m % 16)) Tryz.underlying48 Tryz.underlying5 Tryz.underlying9
                    rw [← hE] at h3
                    have hEl : (escB m).length = 3 := by rw [hE]; rfl
                    obtain ⟨U, hU⟩ : ∃ U, escB m = U := ⟨_, rfl⟩
                    rw [hU] at h3 hEl
                    have h3' : (convert 48 9 (.slice (some ⟨wq.heap.size, 0, none⟩) 3 3)).run Tryz.prog ((wq.alloc (.cells #[.int .u8 37, .int .u8 ((hexG (m / 16)).toNat : Int), .int .u8 ((hexG (m % 16)).toNat : Int)] 5)).drew) = .ok (.string ⟨U.toArray⟩) ((wq.alloc (.cells #[.int .u8 37, .int .u8 ((hexG (m / 16)).toNat : Int), .int .u8 ((hexG (m % 16)).toNat : Int)] 5)).drew) := h3
                    have s1 := fun W => run_string_add_lists (P := Tryz.prog) W O U (by omega) (by omega)
                    have hC2 : cleanL s.data.toList = (cleanL (s.data.toList.drop (k + 3))).map ((O ++ U) ++ ·) := by
                      rw [HC.out, hU]; cases cleanL (s.data.toList.drop (k + 3)) <;> simp
                    have HC2 := hid hC2
                    have hb2 : Below w.heap.size w ((wq.alloc (.cells #[.int .u8 37, .int .u8 ((hexG (m / 16)).toNat : Int), .int .u8 ((hexG (m % 16)).toNat : Int)] 5)).drew) := (hbq.trans ((below_alloc _ _).mono hbq.size)).drew
                    clear hun hE hC2 HC hU h3
                    go_region_with (fail)
                    all_goals
                      go_wp2_with fail
                      go_roundw
                      case rel => exact ⟨k + 3, O ++ U, by omega, by go_num, rfl, by simp; omega, HC2.out, hb2⟩
                      case measure => simp [intOf]; omega
        · have f37 : ((s[k].toNat : Int) != 37) = true := by
            rw [hc, bne_iff_ne]; intro h; apply h37; rw [← UInt8.toNat_inj]; show c.toNat = 37; omega
          rw [cleanL_plain _ hgood h37] at hC
          have xe : s.extract k (k + 1) = ⟨[c].toArray⟩ := by
            rw [Lib.extract_eq, hdr, hc, show k + 1 - k = 1 from by omega]; rfl
          have s1 := fun W => run_string_add_lists (P := Tryz.prog) W O [c] (by omega) (by simp)
          rw [← xe] at s1
          have hC2 : cleanL s.data.toList = (cleanL (s.data.toList.drop (k + 1))).map ((O ++ [c]) ++ ·) := by
            rw [hC]; cases cleanL (s.data.toList.drop (k + 1)) <;> simp
          have HC := hid hC2
          clear hC hC2 hdr hc hgood h37 xe
          go_wp2_with fail
          go_roundw
          case rel => exact ⟨k + 1, O ++ [c], by omega, by go_num, rfl, by simp; omega, HC.out, hb⟩
          case measure => simp [intOf]; omega
    · have f1 : decide ((k : Int) < (s.size : Int)) = false := by rw [decide_eq_false_iff_not]; omega
      rw [List.drop_eq_nil_of_le (by rw [size_list]; omega), cleanL_nil] at hC
      have HC := hid hC
      clear hC
      go_wp2_with fail
      go_ret2
      exact ⟨by rw [HC.out]; simp, hb⟩
end Go.Proofs.YthokpbpnecdgpaaGreatDoor
