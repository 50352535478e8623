/-
  Contracts: strconv.ParseUint of two digits at base 16 and 8 bits; package place's ofDigits.
-/
import Derived.Test.YthokpbpnecdgpaaGreatDoorPlaceA
import Derived.Test.YthokpbpnecdgpaaGreatDoorShelf
import Derived.IntWalk
import Derived.WalkMore
namespace Go.Pantry
open Go.RowKit
/-- the number that so many digits come to, behind n -/
def hexP : Nat → List UInt8 → Option Nat
  | n, [] => some n
  | n, c :: r => match hexV c with | some v => hexP (16 * n + v) r | none => none
theorem hexP_snoc (c : UInt8) : ∀ (l : List UInt8) (n : Nat), hexP n (l ++ [c]) = match hexP n l, hexV c with | some m, some v => some (16 * m + v) | _, _ => none
  | [], n => by
    rw [List.nil_append, hexP, hexP]
    cases hexV c <;> rfl
  | d :: l, n => by
    rw [List.cons_append, hexP, hexP]
    cases hexV d with
    | none => rfl
    | some v => exact hexP_snoc c l _
theorem hexP_none (r : List UInt8) : ∀ (l : List UInt8) (n : Nat), hexP n l = none → hexP n (l ++ r) = none
  | [], n, h => by cases h
  | d :: l, n, h => by
    rw [List.cons_append, hexP]
    rw [hexP] at h
    cases hd : hexV d with
    | none => rfl
    | some v => rw [hd] at h; exact hexP_none r l _ h
theorem hexP_bound : ∀ (l : List UInt8) (n m : Nat), hexP n l = some m → m + 1 ≤ (n + 1) * 16 ^ l.length
  | [], n, m, h => by cases h; simp
  | d :: l, n, m, h => by
    rw [hexP] at h
    cases hd : hexV d with
    | none => rw [hd] at h; cases h
    | some v =>
      rw [hd] at h
      have h1 := hexP_bound l _ _ h
      have h2 := hexV_le hd
      rw [List.length_cons, Nat.pow_succ]
      have h3 : (16 * n + v + 1) * 16 ^ l.length ≤ ((n + 1) * 16) * 16 ^ l.length := Nat.mul_le_mul_right _ (by omega)
      have h4 : (n + 1) * (16 ^ l.length * 16) = ((n + 1) * 16) * 16 ^ l.length := by
        rw [Nat.mul_comm (16 ^ l.length) 16, ← Nat.mul_assoc]
      omega
/-- a byte with its bit 5 set -/
def low5 (c : UInt8) : Nat := (c ||| 32).toNat
theorem low5_bits (c : UInt8) : bits .or .u8 (c.toNat : Int) 32 = (low5 c : Int) := by
  have h := byte_all (p := fun c => bits .or .u8 (c.toNat : Int) 32 == ((c ||| 32).toNat : Int)) (by decide +kernel) c
  exact beq_iff_eq.1 h
theorem hexV_low (c : UInt8) : hexV c = if 48 ≤ c.toNat ∧ c.toNat ≤ 57 then some (c.toNat - 48) else if 97 ≤ low5 c ∧ low5 c ≤ 122 then (if 16 ≤ low5 c - 87 then none else some (low5 c - 87)) else none := by
  have h := byte_all (p := fun c => hexV c == if 48 ≤ c.toNat ∧ c.toNat ≤ 57 then some (c.toNat - 48) else if 97 ≤ (c ||| 32).toNat ∧ (c ||| 32).toNat ≤ 122 then (if 16 ≤ (c ||| 32).toNat - 87 then none else some ((c ||| 32).toNat - 87)) else none) (by decide +kernel) c
  exact beq_iff_eq.1 h
theorem low5_lt (c : UInt8) : low5 c < 256 := (c ||| 32).toNat_lt
end Go.Pantry
namespace Go.Proofs.YthokpbpnecdgpaaGreatDoor
open Go.RowKit Go.Pantry

/-- what the library's own ParseUint tells -/
def uintT (o : Option Nat) : Value := match o with | some n => .tuple #[.int .u64 (n : Int), .nilIface] | none => .tuple #[.int .u64 0, .iface 96 (.int .i64 2)]
set_option maxRecDepth 100000 in
theorem iParse_any (s : ByteArray) (w : World) (hs : s.size = 2) :
    Calls Tryz.prog 58 #[.string s, .int .i64 16, .int .i64 8] w fun e w' => e = .returned (uintT (hexP 0 s.data.toList)) ∧ Below w.heap.size w w' := by
  obtain ⟨R, hR⟩ : ∃ R, hexP 0 s.data.toList = R := ⟨_, rfl⟩
  rw [hR]
  have HR := hid hR
  clear hR
  have hcv := fun w' => run_bytes_of_string (P := Tryz.prog) w' 9 48 5 s Tryz.underlying9 Tryz.underlying48 Tryz.underlying5
  have cl := fun (c : UInt8) W => Tryz.internal_strconv_lower (c.toNat : Int) W
  have cl' : ∀ (c : UInt8) W, Calls Tryz.prog 75 #[.int .u8 (c.toNat : Int)] W fun e w' => e = .returned (.int .u8 (low5 c : Int)) ∧ w' = W := fun c W => by
    have := cl c W
    rwa [low5_bits] at this
  have CL := hid cl'
  clear cl cl'
  have hne : s.toList.isEmpty = false := by
    rw [Lib.toList_data]
    cases h : s.data.toList with
    | nil => have := size_list s; rw [h, hs] at this; cases this
    | cons _ _ => rfl
  have hs1 : s.size ≤ 2 := by omega
  have HS := hid hs
  clear hs
  go_enter Tryz.func58, Tryz.ntmps58
  go_wp2_with fail
  have hby : bytesAt ((w.alloc (.cells (bytesRow s (grownCap w s.size 0 5)) 5 ((bytesRow s (grownCap w s.size 0 5)).size, (bytesRow s (grownCap w s.size 0 5)).size + 1))).drew) w.heap.size s.data.toList := bytesAt_row w s _ _
  have hbe : Below w.heap.size w ((w.alloc (.cells (bytesRow s (grownCap w s.size 0 5)) 5 ((bytesRow s (grownCap w s.size 0 5)).size, (bytesRow s (grownCap w s.size 0 5)).size + 1))).drew) := ((Below.refl _ _).alloc (Nat.le_refl _) _).drew
  generalize ((w.alloc (.cells (bytesRow s (grownCap w s.size 0 5)) 5 ((bytesRow s (grownCap w s.size 0 5)).size, (bytesRow s (grownCap w s.size 0 5)).size + 1))).drew) = W at hby hbe ⊢
  clear hcv hne
  have HBY := hid hby
  clear hby
  go_loop [12, 13, 101] (fun u n i => ∃ k m : Nat, k ≤ s.size ∧ i = .int .i64 k ∧ n = .int .u64 m ∧ u = .bool false ∧ hexP 0 (s.data.toList.take k) = some m) (fun _ _ i => s.size - (intOf i).toNat)
  case atStart => exact ⟨0, 0, Nat.zero_le _, rfl, rfl, rfl, rfl⟩
  case round =>
    obtain ⟨k, m, hk, rfl, rfl, rfl, hp⟩ := hrel
    have HP := hid hp
    by_cases hlt : k < s.size
    · have hcell : W.cell? ⟨w.heap.size, k, none⟩ = some (.int .u8 (s[k].toNat : Int)) := HBY.out.cell k _ (Lib.data_getElem? s k hlt)
      have htk := take_succ_list s k hlt
      have hall : s.data.toList = s.data.toList.take k ++ s[k] :: s.data.toList.drop (k + 1) := by
        rw [← drop_cons s k hlt, List.take_append_drop]
      have hm := hexP_bound _ _ _ hp
      rw [List.length_take, size_list] at hm
      have hm2 : m ≤ 15 := by
        have h1 : min k s.size ≤ 1 := by omega
        have h2 : 16 ^ (min k s.size) ≤ 16 ^ 1 := Nat.pow_le_pow_right (by decide) h1
        simp at hm h2; omega
      have hv := hexV_low s[k]
      have hl5 := low5_lt s[k]
      have hcb := wbounds s[k]
      obtain ⟨c, hc⟩ : ∃ c, s[k] = c := ⟨_, rfl⟩
      rw [hc] at hcell htk hall hv hl5 hcb
      obtain ⟨x, hx⟩ : ∃ x, low5 c = x := ⟨_, rfl⟩
      have cl := fun W => CL.out c W
      rw [hx] at hv hl5 cl
      obtain ⟨y, hy⟩ : ∃ y, c.toNat = y := ⟨_, rfl⟩
      rw [hy] at hcell hv hcb cl
      have CL2 := hid cl
      have HTK := hid htk
      have HALL := hid hall
      clear hp hm htk hall hc cl
      have w3 : decide (1152921504606846976 ≤ (m : Int)) = false := by rw [decide_eq_false_iff_not]; omega
      have w4 : IntKind.u64.wrap ((m : Int) * 16) = (m : Int) * 16 := by
        simp [IntKind.wrap, IntKind.bits, IntKind.signed]; omega
      by_cases hA : 48 ≤ y ∧ y ≤ 57
      · rw [if_pos hA] at hv
        have hr : R = hexP 0 s.data.toList := HR.out.symm
        have hnext : hexP 0 (s.data.toList.take (k + 1)) = some (16 * m + (y - 48)) := by rw [HTK.out, hexP_snoc, HP.out, hv]
        have HN := hid hnext
        obtain ⟨v, hvv⟩ : ∃ v, y - 48 = v := ⟨_, rfl⟩
        rw [hvv] at HN
        have w1 : IntKind.u8.wrap ((y : Int) - 48) = (v : Int) := by
          simp [IntKind.wrap, IntKind.bits, IntKind.signed]; omega
        have w5 : IntKind.u64.wrap (v : Int) = (v : Int) := by
          simp [IntKind.wrap, IntKind.bits, IntKind.signed]; omega
        have w6 : IntKind.u64.wrap ((m : Int) * 16 + (v : Int)) = (m : Int) * 16 + (v : Int) := by
          simp [IntKind.wrap, IntKind.bits, IntKind.signed]; omega
        have t95 : ((y : Int) == 95) = false := by rw [beq_eq_false_iff_ne]; omega
        have t1 : decide (48 ≤ (y : Int)) = true := by rw [decide_eq_true_eq]; omega
        have t2 : decide ((y : Int) ≤ 57) = true := by rw [decide_eq_true_eq]; omega
        have t3 : decide (16 ≤ (v : Int)) = false := by rw [decide_eq_false_iff_not]; omega
        have t4 : decide ((m : Int) * 16 + (v : Int) < (m : Int) * 16) = false := by rw [decide_eq_false_iff_not]; omega
        have t5 : decide (255 < (m : Int) * 16 + (v : Int)) = false := by rw [decide_eq_false_iff_not]; omega
        clear hv hr hnext hvv hA hl5 hcb hx hy
        go_wp2_with fail
        go_round
        case rel => exact ⟨k + 1, 16 * m + v, by omega, by go_num, by rw [show ((16 * m + v : Nat) : Int) = (m : Int) * 16 + (v : Int) by omega], rfl, HN.out⟩
        case measure => simp [intOf]; omega
      · rw [if_neg hA] at hv
        have hnone : hexV c = none → R = none := fun h => by
          rw [← HR.out, HALL.out]
          have h1 : hexP 0 (s.data.toList.take k ++ [c]) = none := by rw [hexP_snoc, HP.out, h]
          have h2 := hexP_none (s.data.toList.drop (k + 1)) _ _ h1
          rwa [List.append_assoc, List.singleton_append] at h2
        have hlet : 97 ≤ x ∧ x ≤ 122 → 65 ≤ y ∧ ¬ y = 95 := by
          have h := byte_all (p := fun c => !(decide (97 ≤ (c ||| 32).toNat) && decide ((c ||| 32).toNat ≤ 122)) || (decide (65 ≤ c.toNat) && !decide (c.toNat = 95))) (by decide +kernel) c
          rw [show (c ||| 32).toNat = x from hx, hy] at h
          intro ⟨h1, h2⟩
          simpa [h1, h2] using h
        by_cases hB : 97 ≤ x ∧ x ≤ 122
        · rw [if_pos hB] at hv
          obtain ⟨h65, h95⟩ := hlet hB
          have t95 : ((y : Int) == 95) = false := by rw [beq_eq_false_iff_ne]; omega
          have t1 : decide (48 ≤ (y : Int)) = true := by rw [decide_eq_true_eq]; omega
          have t2 : decide ((y : Int) ≤ 57) = false := by rw [decide_eq_false_iff_not]; omega
          have t6 : decide (97 ≤ (x : Int)) = true := by rw [decide_eq_true_eq]; omega
          have t7 : decide ((x : Int) ≤ 122) = true := by rw [decide_eq_true_eq]; omega
          obtain ⟨v, hvv⟩ : ∃ v, x - 87 = v := ⟨_, rfl⟩
          have w1 : IntKind.u8.wrap ((x : Int) - 97) = (x : Int) - 97 := by
            simp [IntKind.wrap, IntKind.bits, IntKind.signed]; omega
          have w2 : IntKind.u8.wrap ((x : Int) - 97 + 10) = (v : Int) := by
            simp [IntKind.wrap, IntKind.bits, IntKind.signed]; omega
          have w5 : IntKind.u64.wrap (v : Int) = (v : Int) := by
            simp [IntKind.wrap, IntKind.bits, IntKind.signed]; omega
          have w6 : IntKind.u64.wrap ((m : Int) * 16 + (v : Int)) = (m : Int) * 16 + (v : Int) := by
            simp [IntKind.wrap, IntKind.bits, IntKind.signed]; omega
          have t4 : decide ((m : Int) * 16 + (v : Int) < (m : Int) * 16) = false := by rw [decide_eq_false_iff_not]; omega
          rw [hvv] at hv
          by_cases hC : 16 ≤ v
          · rw [if_pos hC] at hv
            have t3 : decide (16 ≤ (v : Int)) = true := by rw [decide_eq_true_eq]; omega
            have hr := hid (hnone hv)
            clear hv hvv hB hA hl5 hcb h65 h95 hlet hnone hC hx hy
            go_wp2_with (go_at_call 75; refine (CL2.out _).mono ?_; rintro e w' ⟨rfl, rfl⟩)
            go_ret2
            exact ⟨by rw [hr.out]; rfl, hbe⟩
          · rw [if_neg hC] at hv
            have t3 : decide (16 ≤ (v : Int)) = false := by rw [decide_eq_false_iff_not]; omega
            have t5 : decide (255 < (m : Int) * 16 + (v : Int)) = false := by rw [decide_eq_false_iff_not]; omega
            have hnext : hexP 0 (s.data.toList.take (k + 1)) = some (16 * m + v) := by rw [HTK.out, hexP_snoc, HP.out, hv]
            have HN := hid hnext
            clear hv hvv hB hA hl5 hcb hlet hnone hC hx hy hnext
            clear h65 h95
            go_wp2_with (go_at_call 75; refine (CL2.out _).mono ?_; rintro e w' ⟨rfl, rfl⟩)
            go_round
            case rel => exact ⟨k + 1, 16 * m + v, by omega, by go_num, by rw [show ((16 * m + v : Nat) : Int) = (m : Int) * 16 + (v : Int) by omega], rfl, HN.out⟩
            case measure => simp [intOf]; omega
        · rw [if_neg hB] at hv
          have hr := hid (hnone hv)
          clear hv hl5 hcb hlet hnone hx hy
          have e1 : (decide (48 ≤ (y : Int)) = false) ∨ (decide (48 ≤ (y : Int)) = true ∧ decide ((y : Int) ≤ 57) = false) := by
            rw [decide_eq_false_iff_not, decide_eq_false_iff_not, decide_eq_true_eq]; omega
          have e2 : (decide (97 ≤ (x : Int)) = false) ∨ (decide (97 ≤ (x : Int)) = true ∧ decide ((x : Int) ≤ 122) = false) := by
            rw [decide_eq_false_iff_not, decide_eq_false_iff_not, decide_eq_true_eq]; omega
          have e3 : ((y : Int) == 95) = false ∨ ((y : Int) == 95) = true := by cases ((y : Int) == 95) <;> simp
          clear hA hB
          rcases e1 with e1 | ⟨e1, e1'⟩ <;> rcases e2 with e2 | ⟨e2, e2'⟩ <;> rcases e3 with e3 | e3
          all_goals
            go_wp2_with (go_at_call 75; refine (CL2.out _).mono ?_; rintro e w' ⟨rfl, rfl⟩)
            go_ret2
            exact ⟨by rw [hr.out]; rfl, hbe⟩
    · have hr : R = some m := by rw [← HR.out, ← take_all s k hlt]; exact HP.out
      clear hp
      go_wp2_with fail
      go_ret2
      exact ⟨by first | rfl | (rw [hr]; rfl), hbe⟩
end Go.Proofs.YthokpbpnecdgpaaGreatDoor
