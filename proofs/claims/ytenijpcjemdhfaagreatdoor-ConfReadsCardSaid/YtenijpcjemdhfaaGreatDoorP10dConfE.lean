/-
  Contracts of package conf: ofDigits, number, ownHost, mayFollow.
-/
import Derived.Test.YtenijpcjemdhfaaGreatDoorP10d02
import Derived.Test.YtenijpcjemdhfaaGreatDoorP10d01
import Derived.Lib.AtoiErrMem

namespace Go.Pantry
open Go.RowKit
theorem decFrom_val : ∀ (l : List UInt8) (acc : Nat), l.all isDig = true → Lib.decFrom acc l = some (l.foldl (fun n c => 10 * n + (c.toNat - 48)) acc)
  | [], acc, _ => rfl
  | c :: r, acc, h => by
    rw [List.all_cons, Bool.and_eq_true] at h
    have hb := isDig_bounds h.1
    have hd : Lib.digitVal c = some (c.toNat - 48) := by unfold Lib.digitVal; rw [if_pos hb]
    rw [Lib.decFrom, hd]
    simp only
    rw [decFrom_val r _ h.2, List.foldl_cons, Nat.mul_comm]
theorem atoi_val {l : List UInt8} (h : l.all isDig = true) (h0 : l ≠ []) : Lib.atoi l = some (valL l : Int) := by
  obtain ⟨c, r, rfl⟩ := List.exists_cons_of_ne_nil h0
  have h1 := h
  rw [List.all_cons, Bool.and_eq_true] at h1
  have hb := isDig_bounds h1.1
  have n45 : (c == 45) = false := by
    rw [beq_eq_false_iff_ne]; rintro rfl; revert hb; decide
  have n43 : (c == 43) = false := by
    rw [beq_eq_false_iff_ne]; rintro rfl; revert hb; decide
  unfold Lib.atoi
  simp only [n45, n43]
  unfold Lib.decNat
  rw [if_neg (by decide), if_neg (by decide), if_neg (by simp), decFrom_val _ _ h]
  rfl
theorem valL_bound : ∀ (l : List UInt8) (acc : Nat), l.all isDig = true → l.foldl (fun n c => 10 * n + (c.toNat - 48)) acc + 1 ≤ (acc + 1) * 10 ^ l.length
  | [], acc, _ => by simp
  | c :: r, acc, h => by
    rw [List.all_cons, Bool.and_eq_true] at h
    have hb := isDig_bounds h.1
    rw [List.foldl_cons, List.length_cons]
    refine Nat.le_trans (valL_bound r _ h.2) ?_
    rw [Nat.pow_succ, Nat.mul_comm (10 ^ r.length) 10, ← Nat.mul_assoc]
    exact Nat.mul_le_mul_right _ (by omega)
theorem valD_bound (w : List UInt8) : valD w < 10000000000 := by
  unfold valD
  split
  · rename_i h
    unfold okD at h
    rw [Bool.and_eq_true, Bool.and_eq_true, decide_eq_true_eq] at h
    have h1 := valL_bound w 0 h.1.1
    have h2 : 10 ^ w.length ≤ 10 ^ 10 := Nat.pow_le_pow_right (by decide) h.2
    unfold valL
    have h3 : (10 : Nat) ^ 10 = 10000000000 := by decide
    omega
  · decide
end Go.Pantry
namespace Go.Proofs.YtenijpcjemdhfaaGreatDoor
open Go.RowKit Go.Pantry

theorem conf_ofDigits_any (l : List UInt8) (w : World) (hl : l.length ≤ 100000) :
    Calls Tryz.prog 145 #[strV l] w fun e w' => e = .returned (.tuple #[.int .i64 (valD l : Int), .bool (okD l)]) ∧ Below w.heap.size w w' := by
  have cn := Number_any ⟨l.toArray⟩ w (by rw [szL]; omega)
  rw [dtL] at cn
  by_cases h : l.all isDig = true ∧ l ≠ []
  · rw [number_yes h.2 h.1] at cn
    simp only [Option.isSome_some, Option.getD_some] at cn
    by_cases h10 : l.length ≤ 10
    · have hok : okD l = true := by
        unfold okD
        rw [h.1, decide_eq_true h10]
        cases l with
        | nil => exact absurd rfl h.2
        | cons c r => rfl
      have hv : valD l = valL l := by unfold valD; rw [if_pos hok]
      rw [hok, hv]
      have ca := fun W => Tryz.strconv_Atoi ⟨l.toArray⟩ (valL l : Int) (by rw [szL]; omega) (by rw [dtL]; exact atoi_val h.1 h.2) W
      have CN := hid cn
      have CA := hid ca
      obtain ⟨V, hV⟩ : ∃ V, valL l = V := ⟨_, rfl⟩
      rw [hV] at CA CN ⊢
      clear cn ca hok hv hV h
      go_enter Tryz.func145, Tryz.ntmps145
      go_wp2_with (first | (go_at_call 109; refine CN.out.mono ?_; rintro e w1 ⟨rfl, rfl⟩) | (go_at_call 156; refine (CA.out _).mono ?_; rintro e w2 ⟨rfl, t, rfl⟩))
      go_quiet (fail)
      go_wp2
      go_ret2
      exact ⟨rfl, below_drewN (Lib.bytesWorld_below _ _ _) _⟩
    · have hok : okD l = false := by
        unfold okD; rw [decide_eq_false h10, Bool.and_false]
      have hv : valD l = 0 := by unfold valD; rw [hok]; rfl
      rw [hok, hv]
      have CN := hid cn
      have h10' : 10 < l.length := by omega
      clear cn hok hv h h10
      go_enter Tryz.func145, Tryz.ntmps145
      go_wp2_with (first | (go_at_call 109; refine CN.out.mono ?_; rintro e w1 ⟨rfl, rfl⟩))
      go_ret2
      exact ⟨rfl, Below.refl _ _⟩
  · have hno : numberL l = none := by
      by_cases h1 : l.all isDig = true
      · have : l = [] := by
          by_cases e : l = []
          · exact e
          · exact absurd ⟨h1, e⟩ h
        subst this; rfl
      · exact number_no (Bool.eq_false_iff.2 h1)
    rw [hno] at cn
    simp only [Option.isSome_none, Option.getD_none] at cn
    have hok : okD l = false := by
      unfold okD
      by_cases h1 : l.all isDig = true
      · have : l = [] := by
          by_cases e : l = []
          · exact e
          · exact absurd ⟨h1, e⟩ h
        subst this; rfl
      · rw [Bool.eq_false_iff.2 h1]; rfl
    have hv : valD l = 0 := by unfold valD; rw [hok]; rfl
    rw [hok, hv]
    have CN := hid cn
    clear cn hok hv h hno
    go_enter Tryz.func145, Tryz.ntmps145
    go_wp2_with (first | (go_at_call 109; refine CN.out.mono ?_; rintro e w1 ⟨rfl, rfl⟩))
    go_ret2
    exact ⟨rfl, Below.refl _ _⟩
theorem ownHost_conf (l : List UInt8) (w : World) (hl : l.length ≤ 100000) (hm : MaxOk w) (ht : Tab10 w) :
    Calls Tryz.prog 62 #[strV l] w fun e w' => e = .returned (.bool (ownH l)) ∧ Below w.heap.size w w' := by
  have ch := Host_any l w hl hm ht
  unfold ownH
  cases h : hostL l with
  | none =>
    rw [h] at ch
    have CH := hid ch
    rw [show ((none : Option (List UInt8)) == some l) = false from rfl]
    clear ch h hm ht
    go_enter Tryz.func62, Tryz.ntmps62
    go_wp2_with (first | (go_at_call 85; refine CH.out.mono ?_; rintro e w1 ⟨rfl, hb1⟩; simp only [errZ, Option.isSome_none, Option.getD_none]))
    go_ret
    exact ⟨rfl, hb1⟩
  | some H =>
    rw [h] at ch
    have CH := hid ch
    have e : (some H == some l) = (H == l) := rfl
    rw [e]
    clear ch h hm ht e
    go_enter Tryz.func62, Tryz.ntmps62
    go_wp2_with (first | (go_at_call 85; refine CH.out.mono ?_; rintro e w1 ⟨rfl, hb1⟩; simp only [errZ, Option.isSome_some, Option.getD_some]))
    go_ret
    exact ⟨rfl, hb1⟩
theorem token_l (l : List UInt8) (w : World) (hl : l.length ≤ 100000) :
    Calls Tryz.prog 111 #[strV l] w fun e w' => e = .returned (.bool (tokenL l)) ∧ w = w' := by
  have c := Token_any ⟨l.toArray⟩ w (by rw [szL]; unfold maxLen; omega)
  rw [dtL] at c
  exact c
theorem lower_l (l : List UInt8) (w : World) (hl : l.length ≤ 100000) :
    Calls Tryz.prog 108 #[strV l] w fun e w' => e = .returned (strV (lowerL l)) ∧ Below w.heap.size w w' := by
  have c := Lower_any ⟨l.toArray⟩ w (by rw [szL]; unfold maxLen; omega)
  rw [dtL] at c
  exact c
set_option maxRecDepth 4000 in
theorem mayFollow_any (v : Value) (H : List (List UInt8)) (n : List UInt8) (w : World) (hr : Reads w v (H.map strV)) (hH : H.length ≤ 1000000) (hn : n.length ≤ 100000) :
    Calls Tryz.prog 86 #[v, strV n] w fun e w' => e = .returned (.bool (mayM H n)) ∧ Below w.heap.size w w' := by
  have ct := fun W => token_l n W hn
  have cl := fun W => lower_l n W hn
  unfold mayM nameOk
  obtain ⟨t, ht⟩ : ∃ t, tokenL n = t := ⟨_, rfl⟩
  obtain ⟨lw, hlw⟩ : ∃ lw, lowerL n = lw := ⟨_, rfl⟩
  rw [ht] at ct ⊢
  rw [hlw] at cl ⊢
  have CT := hid ct
  have CL := hid cl
  clear ct cl ht hlw
  obtain ⟨ao, cap, rfl⟩ := hr.form
  rw [List.length_map] at *
  cases t
  · clear CL hr
    simp only [Bool.false_and]
    go_enter Tryz.func86, Tryz.ntmps86
    go_wp2_with (first | (go_at_call 111; refine (CT.out _).mono ?_; rintro e w1 ⟨rfl, rfl⟩))
    go_ret
    exact ⟨rfl, Below.refl _ _⟩
  obtain ⟨q, hq⟩ : ∃ q, (lw == n) = q := ⟨_, rfl⟩
  rw [hq, Bool.true_and]
  cases q
  · clear hr
    simp only [Bool.false_and]
    go_enter Tryz.func86, Tryz.ntmps86
    go_wp2_with (first | (go_at_call 111; refine (CT.out _).mono ?_; rintro e w1 ⟨rfl, rfl⟩) | (go_at_call 108; refine (CL.out _).mono ?_; rintro e w1 ⟨rfl, hb1⟩))
    go_ret
    exact ⟨rfl, hb1⟩
  rw [Bool.true_and]
  by_cases h64 : n.length ≤ 64
  rotate_left
  · rw [decide_eq_false h64]
    have h64' : 64 < n.length := by omega
    clear hr h64
    simp only [Bool.false_and]
    go_enter Tryz.func86, Tryz.ntmps86
    go_wp2_with (first | (go_at_call 111; refine (CT.out _).mono ?_; rintro e w1 ⟨rfl, rfl⟩) | (go_at_call 108; refine (CL.out _).mono ?_; rintro e w1 ⟨rfl, hb1⟩))
    go_ret
    exact ⟨rfl, hb1⟩
  rw [decide_eq_true h64, Bool.true_and]
  by_cases h0 : H = []
  · subst h0
    clear hr
    simp only [List.getLast?_nil]
    go_enter Tryz.func86, Tryz.ntmps86
    go_wp2_with (first | (go_at_call 111; refine (CT.out _).mono ?_; rintro e w1 ⟨rfl, rfl⟩) | (go_at_call 108; refine (CL.out _).mono ?_; rintro e w1 ⟨rfl, hb1⟩))
    go_ret
    exact ⟨rfl, hb1⟩
  · obtain ⟨l, hl⟩ : ∃ l, H.getLast? = some l := by
      cases e : H.getLast? with
      | none => exact absurd (List.getLast?_eq_none_iff.1 e) h0
      | some l => exact ⟨l, rfl⟩
    rw [hl]
    have hpos : 0 < H.length := List.length_pos_iff.2 h0
    have hat : (H.map strV)[H.length - 1]? = some (strV l) := by
      rw [List.getElem?_map, ← List.getLast?_eq_getElem?, hl]; rfl
    obtain ⟨b, off, cap', hv, hcell⟩ := hr.at_some (by rw [List.length_map]; exact hpos)
    rw [List.length_map] at hv
    cases hv
    have hcc := fun w1 (hb1 : Below w.heap.size w w1) => kept (hcell _ _ hat) hb1
    have HC := hid hcc
    have e1 : ((H.length : Int) == 0) = false := by simp; omega
    have e2 : IntKind.i64.wrap ((H.length : Int) - 1) = ((H.length - 1 : Nat) : Int) := by rw [IntWalk.i64_in _ (by omega)]; omega
    have e3 : (0 : Int) ≤ ((H.length - 1 : Nat) : Int) := by omega
    have e4 : ((H.length - 1 : Nat) : Int) < (H.length : Int) := by omega
    have e5 : (((H.length - 1 : Nat) : Int)).toNat = H.length - 1 := by omega
    clear hcc hcell hat hl hr h0
    obtain ⟨m, hm⟩ : ∃ m, H.length - 1 = m := ⟨_, rfl⟩
    rw [hm] at e2 e3 e4 e5 HC
    obtain ⟨N, hN⟩ : ∃ N, H.length = N := ⟨_, rfl⟩
    rw [hN]
    rw [hN] at e1 e2 e4 hpos
    clear hm hN hH
    go_enter Tryz.func86, Tryz.ntmps86
    go_wp2_with (first | (go_at_call 111; refine (CT.out _).mono ?_; rintro e w1 ⟨rfl, rfl⟩) | (go_at_call 108; refine (CL.out _).mono ?_; rintro e w1 ⟨rfl, hb1⟩; have hc1 := HC.out _ hb1))
    go_ret
    exact ⟨rfl, hb1⟩
end Go.Proofs.YtenijpcjemdhfaaGreatDoor
