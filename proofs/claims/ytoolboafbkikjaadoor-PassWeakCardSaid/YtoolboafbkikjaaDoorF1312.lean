/-
  Several texts in one: DateRead, DateRead2.
-/
import Derived.Test.YtoolboafbkikjaaDoorF13DateShow
import Derived.Deep.QuietTactic
import Derived.BigQuiet
set_option linter.unusedVariables false
set_option linter.unusedSimpArgs false
/-
  Contracts of package date: digits, monthNumber, suppose, Read.
-/
namespace Go.Proofs.YtoolboafbkikjaaDoor
open Go.RowKit Go.Pantry

theorem top_le (k n : Nat) (h : k ≤ n) : top k ≤ top n := by
  induction n with
  | zero => have : k = 0 := by omega
            subst this; exact Int.le_refl _
  | succ n ih =>
    by_cases e : k = n + 1
    · subst e; exact Int.le_refl _
    · have := ih (by omega)
      have h0 : 0 ≤ top n := by
        clear ih this h e
        induction n with
        | zero => simp [top]
        | succ n ih => simp only [top]; omega
      simp only [top]; omega
theorem numL_take (s : ByteArray) (k : Nat) (h : s.size ≤ 4) : 0 ≤ numL (s.data.toList.take k) ∧ numL (s.data.toList.take k) ≤ 283305 := by
  have h1 := numL_bd (s.data.toList.take k)
  have h2 := top_le (s.data.toList.take k).length 4 (by rw [List.length_take, size_list]; omega)
  have h3 : top 4 = 283305 := by decide
  omega
theorem dv_wrap (c : UInt8) : IntKind.u8.wrap ((c.toNat : Int) - 48) = dv c := by
  simp [IntKind.wrap, dv, IntKind.signed, IntKind.bits]

theorem digits_any (s : ByteArray) (w : World) (hs : s.size ≤ 4) :
    Calls Tryd.prog 89 #[.string s] w fun e w' => e = .returned (.int .i64 (numL s.data.toList)) ∧ w = w' := by
  go_enter Tryd.func89, Tryd.ntmps89
  go_wp2
  go_loop [3, 4] (fun n i => ∃ k : Nat, k ≤ s.size ∧ i = .int .i64 k ∧ n = .int .i64 (numL (s.data.toList.take k))) (fun _ i => s.size - (intOf i).toNat)
  case atStart => exact ⟨0, Nat.zero_le _, rfl, rfl⟩
  case round =>
    obtain ⟨k, hk, rfl, rfl⟩ := hrel
    have hb := numL_take s k hs
    by_cases hlt : k < s.size
    · have hst := numL_snoc (s.data.toList.take k) s[k]
      rw [← take_succ_list s k hlt] at hst
      have HS := hid hst
      clear hst
      have hd := dv_bd s[k]
      have hw := dv_wrap s[k]
      obtain ⟨n, hn⟩ : ∃ n, numL (s.data.toList.take k) = n := ⟨_, rfl⟩
      rw [hn] at hb HS ⊢
      clear hn
      go_wp2_with fail
      go_round
      case rel => exact ⟨k + 1, hlt, by go_num, by rw [HS.out]⟩
      case measure => simp [intOf]; omega
    · have hf := take_all s k hlt
      rw [hf]
      clear hf
      go_wp2
      go_ret
      exact ⟨rfl, rfl⟩

theorem mon0 (v0 v1 v2 v3 v4 v5 v6 v7 v8 v9 v10 v11 : Value) (w : World) : (Instr.index 114 (.agg #[v0, v1, v2, v3, v4, v5, v6, v7, v8, v9, v10, v11]) (.int .i64 0)).run Tryd.prog w = .ok v0 w := by kernel_rfl
theorem mon1 (v0 v1 v2 v3 v4 v5 v6 v7 v8 v9 v10 v11 : Value) (w : World) : (Instr.index 114 (.agg #[v0, v1, v2, v3, v4, v5, v6, v7, v8, v9, v10, v11]) (.int .i64 1)).run Tryd.prog w = .ok v1 w := by kernel_rfl
theorem mon2 (v0 v1 v2 v3 v4 v5 v6 v7 v8 v9 v10 v11 : Value) (w : World) : (Instr.index 114 (.agg #[v0, v1, v2, v3, v4, v5, v6, v7, v8, v9, v10, v11]) (.int .i64 2)).run Tryd.prog w = .ok v2 w := by kernel_rfl
theorem mon3 (v0 v1 v2 v3 v4 v5 v6 v7 v8 v9 v10 v11 : Value) (w : World) : (Instr.index 114 (.agg #[v0, v1, v2, v3, v4, v5, v6, v7, v8, v9, v10, v11]) (.int .i64 3)).run Tryd.prog w = .ok v3 w := by kernel_rfl
theorem mon4 (v0 v1 v2 v3 v4 v5 v6 v7 v8 v9 v10 v11 : Value) (w : World) : (Instr.index 114 (.agg #[v0, v1, v2, v3, v4, v5, v6, v7, v8, v9, v10, v11]) (.int .i64 4)).run Tryd.prog w = .ok v4 w := by kernel_rfl
theorem mon5 (v0 v1 v2 v3 v4 v5 v6 v7 v8 v9 v10 v11 : Value) (w : World) : (Instr.index 114 (.agg #[v0, v1, v2, v3, v4, v5, v6, v7, v8, v9, v10, v11]) (.int .i64 5)).run Tryd.prog w = .ok v5 w := by kernel_rfl
theorem mon6 (v0 v1 v2 v3 v4 v5 v6 v7 v8 v9 v10 v11 : Value) (w : World) : (Instr.index 114 (.agg #[v0, v1, v2, v3, v4, v5, v6, v7, v8, v9, v10, v11]) (.int .i64 6)).run Tryd.prog w = .ok v6 w := by kernel_rfl
theorem mon7 (v0 v1 v2 v3 v4 v5 v6 v7 v8 v9 v10 v11 : Value) (w : World) : (Instr.index 114 (.agg #[v0, v1, v2, v3, v4, v5, v6, v7, v8, v9, v10, v11]) (.int .i64 7)).run Tryd.prog w = .ok v7 w := by kernel_rfl
theorem mon8 (v0 v1 v2 v3 v4 v5 v6 v7 v8 v9 v10 v11 : Value) (w : World) : (Instr.index 114 (.agg #[v0, v1, v2, v3, v4, v5, v6, v7, v8, v9, v10, v11]) (.int .i64 8)).run Tryd.prog w = .ok v8 w := by kernel_rfl
theorem mon9 (v0 v1 v2 v3 v4 v5 v6 v7 v8 v9 v10 v11 : Value) (w : World) : (Instr.index 114 (.agg #[v0, v1, v2, v3, v4, v5, v6, v7, v8, v9, v10, v11]) (.int .i64 9)).run Tryd.prog w = .ok v9 w := by kernel_rfl
theorem mon10 (v0 v1 v2 v3 v4 v5 v6 v7 v8 v9 v10 v11 : Value) (w : World) : (Instr.index 114 (.agg #[v0, v1, v2, v3, v4, v5, v6, v7, v8, v9, v10, v11]) (.int .i64 10)).run Tryd.prog w = .ok v10 w := by kernel_rfl
theorem mon11 (v0 v1 v2 v3 v4 v5 v6 v7 v8 v9 v10 v11 : Value) (w : World) : (Instr.index 114 (.agg #[v0, v1, v2, v3, v4, v5, v6, v7, v8, v9, v10, v11]) (.int .i64 11)).run Tryd.prog w = .ok v11 w := by kernel_rfl
theorem someMonth_hit (s : ByteArray) (n : Int) (h1 : 1 ≤ n) (h2 : n ≤ 12) (h : (moL n == s.toList) = true) : Ending.returned (.int .i64 n) = .returned (.int .i64 (moNum s.data.toList)) := by
  rw [Lib.toList_data] at h
  have e := beq_iff_eq.1 h
  rw [← e, moNum_of n h1 h2]
theorem someMonth_none (l : List UInt8) (h : ∀ m : Int, 1 ≤ m → m ≤ 12 → l ≠ moL m) : Ending.returned (.int .i64 0) = .returned (.int .i64 (moNum l)) := by rw [moNum_none l h]
theorem someMonth_step (s : ByteArray) (k n : Int) (hn : n = k + 1) (h : (moL n == s.toList) = false) (ha : ∀ m : Int, 1 ≤ m → m ≤ k → s.data.toList ≠ moL m) : ∀ m : Int, 1 ≤ m → m ≤ n → s.data.toList ≠ moL m := by
  intro m h1 h2 e
  by_cases hm : m ≤ k
  · exact ha m h1 hm e
  · have : m = n := by omega
    subst this
    rw [Lib.toList_data, e] at h
    simp at h
set_option maxHeartbeats 4000000 in
theorem monthNumber_any (s : ByteArray) (w : World) (hT : Tables w) :
    Calls Tryd.prog 90 #[.string s] w fun e w' => e = .returned (.int .i64 (moNum s.data.toList)) ∧ w' = w := by
  have c0 : w.cell? ⟨1, 0, none⟩ = some (strV (moL 1)) := hT.mo 0 (by omega)
  have c1 : w.cell? ⟨1, 1, none⟩ = some (strV (moL 2)) := hT.mo 1 (by omega)
  have c2 : w.cell? ⟨1, 2, none⟩ = some (strV (moL 3)) := hT.mo 2 (by omega)
  have c3 : w.cell? ⟨1, 3, none⟩ = some (strV (moL 4)) := hT.mo 3 (by omega)
  have c4 : w.cell? ⟨1, 4, none⟩ = some (strV (moL 5)) := hT.mo 4 (by omega)
  have c5 : w.cell? ⟨1, 5, none⟩ = some (strV (moL 6)) := hT.mo 5 (by omega)
  have c6 : w.cell? ⟨1, 6, none⟩ = some (strV (moL 7)) := hT.mo 6 (by omega)
  have c7 : w.cell? ⟨1, 7, none⟩ = some (strV (moL 8)) := hT.mo 7 (by omega)
  have c8 : w.cell? ⟨1, 8, none⟩ = some (strV (moL 9)) := hT.mo 8 (by omega)
  have c9 : w.cell? ⟨1, 9, none⟩ = some (strV (moL 10)) := hT.mo 9 (by omega)
  have c10 : w.cell? ⟨1, 10, none⟩ = some (strV (moL 11)) := hT.mo 10 (by omega)
  have c11 : w.cell? ⟨1, 11, none⟩ = some (strV (moL 12)) := hT.mo 11 (by omega)
  clear hT
  go_enter Tryd.func90, Tryd.ntmps90
  go_wp2_with fail
  clear c0 c1 c2 c3 c4 c5 c6 c7 c8 c9 c10 c11
  go_loop [6] (fun i => ∃ k : Nat, k ≤ 12 ∧ i = .int .i64 k ∧ ∀ m : Int, 1 ≤ m → m ≤ k → s.data.toList ≠ moL m) (fun i => 12 - (intOf i).toNat)
  case atStart => exact ⟨0, by omega, rfl, fun m h1 h2 => by omega⟩
  case round =>
    obtain ⟨k, hk, rfl, hall⟩ := hrel
    have HA := hid hall
    clear hall
    by_cases hlt : k < 12
    · have hkk : k = 0 ∨ k = 1 ∨ k = 2 ∨ k = 3 ∨ k = 4 ∨ k = 5 ∨ k = 6 ∨ k = 7 ∨ k = 8 ∨ k = 9 ∨ k = 10 ∨ k = 11 := by omega
      rcases hkk with rfl | rfl | rfl | rfl | rfl | rfl | rfl | rfl | rfl | rfl | rfl | rfl
      · have hi := mon0 (strV (moL 1)) (strV (moL 2)) (strV (moL 3)) (strV (moL 4)) (strV (moL 5)) (strV (moL 6)) (strV (moL 7)) (strV (moL 8)) (strV (moL 9)) (strV (moL 10)) (strV (moL 11)) (strV (moL 12))
        go_wp2_with fail
        · have h : (moL 1 == s.toList) = true := by assumption
          go_ret
          exact ⟨someMonth_hit s 1 (by omega) (by omega) h, rfl⟩
        · have h : (moL 1 == s.toList) = false := by assumption
          go_round
          case rel => exact ⟨1, by omega, rfl, someMonth_step s 0 1 rfl h HA.out⟩
          case measure => simp [intOf]
      · have hi := mon1 (strV (moL 1)) (strV (moL 2)) (strV (moL 3)) (strV (moL 4)) (strV (moL 5)) (strV (moL 6)) (strV (moL 7)) (strV (moL 8)) (strV (moL 9)) (strV (moL 10)) (strV (moL 11)) (strV (moL 12))
        go_wp2_with fail
        · have h : (moL 2 == s.toList) = true := by assumption
          go_ret
          exact ⟨someMonth_hit s 2 (by omega) (by omega) h, rfl⟩
        · have h : (moL 2 == s.toList) = false := by assumption
          go_round
          case rel => exact ⟨2, by omega, rfl, someMonth_step s 1 2 rfl h HA.out⟩
          case measure => simp [intOf]
      · have hi := mon2 (strV (moL 1)) (strV (moL 2)) (strV (moL 3)) (strV (moL 4)) (strV (moL 5)) (strV (moL 6)) (strV (moL 7)) (strV (moL 8)) (strV (moL 9)) (strV (moL 10)) (strV (moL 11)) (strV (moL 12))
        go_wp2_with fail
        · have h : (moL 3 == s.toList) = true := by assumption
          go_ret
          exact ⟨someMonth_hit s 3 (by omega) (by omega) h, rfl⟩
        · have h : (moL 3 == s.toList) = false := by assumption
          go_round
          case rel => exact ⟨3, by omega, rfl, someMonth_step s 2 3 rfl h HA.out⟩
          case measure => simp [intOf]
      · have hi := mon3 (strV (moL 1)) (strV (moL 2)) (strV (moL 3)) (strV (moL 4)) (strV (moL 5)) (strV (moL 6)) (strV (moL 7)) (strV (moL 8)) (strV (moL 9)) (strV (moL 10)) (strV (moL 11)) (strV (moL 12))
        go_wp2_with fail
        · have h : (moL 4 == s.toList) = true := by assumption
          go_ret
          exact ⟨someMonth_hit s 4 (by omega) (by omega) h, rfl⟩
        · have h : (moL 4 == s.toList) = false := by assumption
          go_round
          case rel => exact ⟨4, by omega, rfl, someMonth_step s 3 4 rfl h HA.out⟩
          case measure => simp [intOf]
      · have hi := mon4 (strV (moL 1)) (strV (moL 2)) (strV (moL 3)) (strV (moL 4)) (strV (moL 5)) (strV (moL 6)) (strV (moL 7)) (strV (moL 8)) (strV (moL 9)) (strV (moL 10)) (strV (moL 11)) (strV (moL 12))
        go_wp2_with fail
        · have h : (moL 5 == s.toList) = true := by assumption
          go_ret
          exact ⟨someMonth_hit s 5 (by omega) (by omega) h, rfl⟩
        · have h : (moL 5 == s.toList) = false := by assumption
          go_round
          case rel => exact ⟨5, by omega, rfl, someMonth_step s 4 5 rfl h HA.out⟩
          case measure => simp [intOf]
      · have hi := mon5 (strV (moL 1)) (strV (moL 2)) (strV (moL 3)) (strV (moL 4)) (strV (moL 5)) (strV (moL 6)) (strV (moL 7)) (strV (moL 8)) (strV (moL 9)) (strV (moL 10)) (strV (moL 11)) (strV (moL 12))
        go_wp2_with fail
        · have h : (moL 6 == s.toList) = true := by assumption
          go_ret
          exact ⟨someMonth_hit s 6 (by omega) (by omega) h, rfl⟩
        · have h : (moL 6 == s.toList) = false := by assumption
          go_round
          case rel => exact ⟨6, by omega, rfl, someMonth_step s 5 6 rfl h HA.out⟩
          case measure => simp [intOf]
      · have hi := mon6 (strV (moL 1)) (strV (moL 2)) (strV (moL 3)) (strV (moL 4)) (strV (moL 5)) (strV (moL 6)) (strV (moL 7)) (strV (moL 8)) (strV (moL 9)) (strV (moL 10)) (strV (moL 11)) (strV (moL 12))
        go_wp2_with fail
        · have h : (moL 7 == s.toList) = true := by assumption
          go_ret
          exact ⟨someMonth_hit s 7 (by omega) (by omega) h, rfl⟩
        · have h : (moL 7 == s.toList) = false := by assumption
          go_round
          case rel => exact ⟨7, by omega, rfl, someMonth_step s 6 7 rfl h HA.out⟩
          case measure => simp [intOf]
      · have hi := mon7 (strV (moL 1)) (strV (moL 2)) (strV (moL 3)) (strV (moL 4)) (strV (moL 5)) (strV (moL 6)) (strV (moL 7)) (strV (moL 8)) (strV (moL 9)) (strV (moL 10)) (strV (moL 11)) (strV (moL 12))
        go_wp2_with fail
        · have h : (moL 8 == s.toList) = true := by assumption
          go_ret
          exact ⟨someMonth_hit s 8 (by omega) (by omega) h, rfl⟩
        · have h : (moL 8 == s.toList) = false := by assumption
          go_round
          case rel => exact ⟨8, by omega, rfl, someMonth_step s 7 8 rfl h HA.out⟩
          case measure => simp [intOf]
      · have hi := mon8 (strV (moL 1)) (strV (moL 2)) (strV (moL 3)) (strV (moL 4)) (strV (moL 5)) (strV (moL 6)) (strV (moL 7)) (strV (moL 8)) (strV (moL 9)) (strV (moL 10)) (strV (moL 11)) (strV (moL 12))
        go_wp2_with fail
        · have h : (moL 9 == s.toList) = true := by assumption
          go_ret
          exact ⟨someMonth_hit s 9 (by omega) (by omega) h, rfl⟩
        · have h : (moL 9 == s.toList) = false := by assumption
          go_round
          case rel => exact ⟨9, by omega, rfl, someMonth_step s 8 9 rfl h HA.out⟩
          case measure => simp [intOf]
      · have hi := mon9 (strV (moL 1)) (strV (moL 2)) (strV (moL 3)) (strV (moL 4)) (strV (moL 5)) (strV (moL 6)) (strV (moL 7)) (strV (moL 8)) (strV (moL 9)) (strV (moL 10)) (strV (moL 11)) (strV (moL 12))
        go_wp2_with fail
        · have h : (moL 10 == s.toList) = true := by assumption
          go_ret
          exact ⟨someMonth_hit s 10 (by omega) (by omega) h, rfl⟩
        · have h : (moL 10 == s.toList) = false := by assumption
          go_round
          case rel => exact ⟨10, by omega, rfl, someMonth_step s 9 10 rfl h HA.out⟩
          case measure => simp [intOf]
      · have hi := mon10 (strV (moL 1)) (strV (moL 2)) (strV (moL 3)) (strV (moL 4)) (strV (moL 5)) (strV (moL 6)) (strV (moL 7)) (strV (moL 8)) (strV (moL 9)) (strV (moL 10)) (strV (moL 11)) (strV (moL 12))
        go_wp2_with fail
        · have h : (moL 11 == s.toList) = true := by assumption
          go_ret
          exact ⟨someMonth_hit s 11 (by omega) (by omega) h, rfl⟩
        · have h : (moL 11 == s.toList) = false := by assumption
          go_round
          case rel => exact ⟨11, by omega, rfl, someMonth_step s 10 11 rfl h HA.out⟩
          case measure => simp [intOf]
      · have hi := mon11 (strV (moL 1)) (strV (moL 2)) (strV (moL 3)) (strV (moL 4)) (strV (moL 5)) (strV (moL 6)) (strV (moL 7)) (strV (moL 8)) (strV (moL 9)) (strV (moL 10)) (strV (moL 11)) (strV (moL 12))
        go_wp2_with fail
        · have h : (moL 12 == s.toList) = true := by assumption
          go_ret
          exact ⟨someMonth_hit s 12 (by omega) (by omega) h, rfl⟩
        · have h : (moL 12 == s.toList) = false := by assumption
          go_round
          case rel => exact ⟨12, by omega, rfl, someMonth_step s 11 12 rfl h HA.out⟩
          case measure => simp [intOf]
    · have hk2 : k = 12 := by omega
      subst hk2
      go_wp2
      go_ret
      exact ⟨someMonth_none _ HA.out, rfl⟩

theorem extract_sub (s : ByteArray) (i j : Nat) : (s.extract i j).data.toList = sub s.data.toList i j := by
  rw [Lib.extract_eq]
  simp only [sub]
  rw [List.drop_take]
theorem digits_sub (s : ByteArray) (i j : Nat) (w : World) (h : j ≤ i + 4) :
    Calls Tryd.prog 89 #[.string (s.extract i j)] w fun e w' => e = .returned (.int .i64 (numL (sub s.data.toList i j))) ∧ w' = w := by
  rw [← extract_sub]
  refine (digits_any _ w ?_).mono fun _ _ ⟨he, hw⟩ => ⟨he, hw.symm⟩
  rw [← size_list, extract_sub]
  simp only [sub, List.length_drop, List.length_take]
  omega
theorem monthNumber_sub (s : ByteArray) (i j : Nat) (w : World) (hT : Tables w) :
    Calls Tryd.prog 90 #[.string (s.extract i j)] w fun e w' => e = .returned (.int .i64 (moNum (sub s.data.toList i j))) ∧ w' = w := by
  rw [← extract_sub]
  exact monthNumber_any _ w hT
theorem drewN_below (w : World) (n : Nat) : Below w.heap.size w (w.drewN n) := ⟨rfl, rfl, rfl, Nat.le_refl _, fun _ _ => rfl⟩
theorem Tables.drewN {w : World} (h : Tables w) (n : Nat) : Tables (w.drewN n) := ⟨h.wd, h.mo⟩
theorem sub_bd (l : List UInt8) (i j : Nat) (h : j ≤ i + 4) : 0 ≤ numL (sub l i j) ∧ numL (sub l i j) ≤ 283305 := by
  have h1 := numL_bd (sub l i j)
  have h2 := top_le (sub l i j).length 4 (by simp only [sub, List.length_drop, List.length_take]; omega)
  have h3 : top 4 = 283305 := by decide
  omega

set_option maxHeartbeats 4000000 in
set_option maxRecDepth 8000 in
theorem suppose_any (s : ByteArray) (w : World) (hs : s.size = 29) (hT : Tables w) :
    Calls Tryd.prog 71 #[.string s] w fun e w' => e = .returned (.int .i64 (supI s.data.toList (moNum (sub s.data.toList 8 11)))) ∧ Below w.heap.size w w' := by
  have z1 : (16 : Int) ≤ (s.size : Int) := by omega
  have z2 : (29 : Int) ≤ (s.size : Int) := by omega
  have hx : supI s.data.toList (moNum (sub s.data.toList 8 11)) = (ysI (numL (sub s.data.toList 12 16)) + numL (sub s.data.toList 5 7) - 1 + cumR (numL (sub s.data.toList 12 16)) (moNum (sub s.data.toList 8 11) - 1).toNat) * 86400 + (numL (sub s.data.toList 17 19) * 3600 + numL (sub s.data.toList 20 22) * 60 + numL (sub s.data.toList 23 25)) := rfl
  have cY := fun W => digits_sub s 12 16 W (by omega)
  have cD := fun W => digits_sub s 5 7 W (by omega)
  have cH := fun W => digits_sub s 17 19 W (by omega)
  have cI := fun W => digits_sub s 20 22 W (by omega)
  have cS := fun W => digits_sub s 23 25 W (by omega)
  have cM := fun W (h : Tables W) => monthNumber_sub s 8 11 W h
  have bY := sub_bd s.data.toList 12 16 (by omega)
  have bD := sub_bd s.data.toList 5 7 (by omega)
  have bH := sub_bd s.data.toList 17 19 (by omega)
  have bI := sub_bd s.data.toList 20 22 (by omega)
  have bS := sub_bd s.data.toList 23 25 (by omega)
  have bM := moNum_bd (sub s.data.toList 8 11)
  generalize numL (sub s.data.toList 12 16) = Y at hx cY bY
  generalize numL (sub s.data.toList 5 7) = D at hx cD bD
  generalize numL (sub s.data.toList 17 19) = H at hx cH bH
  generalize numL (sub s.data.toList 20 22) = I at hx cI bI
  generalize numL (sub s.data.toList 23 25) = S at hx cS bS
  generalize moNum (sub s.data.toList 8 11) = M at hx cM bM ⊢
  have hy := ysI_bd Y bY.1 (by omega)
  have cB := fun W => (yearStart_any Y W bY.1 (by omega)).mono (fun _ _ h => (⟨h.1, h.2.symm⟩ : _ ∧ _))
  have HX := hid hx
  have CY := hid cY
  have CD := hid cD
  have CH := hid cH
  have CI := hid cI
  have CS := hid cS
  have CM := hid cM
  have CB := hid cB
  have k1 : IntKind.i64.wrap (ysI Y + D) = ysI Y + D := IntWalk.i64_in _ (by omega)
  have k2 : IntKind.i64.wrap (ysI Y + D - 1) = ysI Y + D - 1 := IntWalk.i64_in _ (by omega)
  have k3 : IntKind.i64.wrap (H * 3600) = H * 3600 := IntWalk.i64_in _ (by omega)
  have k4 : IntKind.i64.wrap (I * 60) = I * 60 := IntWalk.i64_in _ (by omega)
  have k5 : IntKind.i64.wrap (H * 3600 + I * 60) = H * 3600 + I * 60 := IntWalk.i64_in _ (by omega)
  have k6 : IntKind.i64.wrap (H * 3600 + I * 60 + S) = H * 3600 + I * 60 + S := IntWalk.i64_in _ (by omega)
  clear hs hx cY cD cH cI cS cM cB
  go_enter Tryd.func71, Tryd.ntmps71
  go_wp2_with fail
  go_quiet ((first | (go_at_call 89; with_reducible exact Calls.quiet_of_same (CY.out _)) | (go_at_call 90; with_reducible exact Calls.quiet_of_same (CM.out _ (hT.drewN _)))))
  have hb2 := drewN_below w nq
  generalize w.drewN nq = w2 at hb2 ⊢
  go_wp2_with fail
  go_quiet ((first | (go_at_call 89; with_reducible exact Calls.quiet_of_same (CD.out _)) | (go_at_call 91; with_reducible exact Calls.quiet_of_same (CB.out _))))
  have hb3 := chainB hb2 hb2.size (drewN_below w2 nq)
  generalize w2.drewN nq = w3 at hb3 ⊢
  go_wp2_with fail
  clear k1 k2
  have K3 := hid k3
  have K4 := hid k4
  have K5 := hid k5
  have K6 := hid k6
  clear k3 k4 k5 k6 hT
  go_loop [5, 6] (fun d' b' => ∃ k : Nat, (k : Int) ≤ 12 ∧ k ≤ (M - 1).toNat ∧ b' = .int .i64 ((k : Int) + 1) ∧ d' = .int .i64 (ysI Y + D - 1 + cumR Y k)) (fun _ b' => 13 - (intOf b').toNat)
  case atStart => exact ⟨0, by omega, by omega, rfl, by simp [cumR]⟩
  case round =>
    obtain ⟨k, hk, hk2, rfl, rfl⟩ := hrel
    have cb := cumR_bd Y k
    have db := daysI_bd Y ((k : Int) + 1)
    have HC : Hid (cumR Y (k + 1) = cumR Y k + daysI Y ((k : Int) + 1)) := rfl
    by_cases hlt : (k : Int) + 1 < M
    · go_wp2_with (go_at_call 92; refine (Days_any _ _ _).mono ?_; rintro e w' ⟨rfl, rfl⟩)
      go_round
      case rel => exact ⟨k + 1, by omega, by omega, by go_num, by rw [HC.out]; go_num⟩
      case measure => simp [intOf]; omega
    · have hke : (M - 1).toNat = k := by omega
      have HK := hid hke
      clear hke
      have k3 := K3.out
      have k4 := K4.out
      have k5 := K5.out
      have k6 := K6.out
      go_wp2_with fail
      go_quiet ((first | (go_at_call 89; with_reducible exact Calls.quiet_of_same (CH.out _)) | (go_at_call 89; with_reducible exact Calls.quiet_of_same (CI.out _)) | (go_at_call 89; with_reducible exact Calls.quiet_of_same (CS.out _))))
      have hb4 := chainB hb3 hb3.size (drewN_below w3 nq)
      generalize w3.drewN nq = w4 at hb4 ⊢
      clear k3 k4 k5 k6
      go_wp2
      go_ret
      exact ⟨ret_int (by rw [HX.out, HK.out]), hb4⟩
end Go.Proofs.YtoolboafbkikjaaDoor
/-
  Contract of package date: Read.
-/
namespace Go.Proofs.YtoolboafbkikjaaDoor
open Go.RowKit Go.Pantry

theorem sup_of {l : List UInt8} {u : Int} (h0 : 0 ≤ u) (h1 : u ≤ 253402300799) (h : showL u = l) : supI l (moNum (sub l 8 11)) = u := by
  subst h
  obtain ⟨a, b⟩ := supI_show u h0 h1
  have hd := dateI_is (u / 86400) (by omega) (by omega)
  rw [b, moNum_of _ hd.m1 hd.m2, a]

set_option maxRecDepth 8000 in
theorem Read_some (s : ByteArray) (t : Int) (w : World) (hT : Tables w) (h : readDL s.data.toList = some t) :
    Calls Tryd.prog 60 #[.string s] w fun e w' => e = .returned (.tuple #[.int .i64 t, .int .i64 0]) ∧ Below w.heap.size w w' := by
  obtain ⟨h0, h1, hsh⟩ := readDL_some h
  have hs : s.size = 29 := by rw [← size_list, ← hsh, showL_len t h0 h1]
  have hsup := sup_of h0 h1 hsh
  have cS := fun W (hW : Tables W) => suppose_any s W hs hW
  rw [hsup] at cS
  have hz : decide ((s.size : Int) = 29) = true := decide_eq_true (by omega)
  have hz2 : ((s.size : Int) != 29) = false := by simp [hs]
  have heq : (showL t == s.toList) = true := by rw [Lib.toList_data, hsh]; simp
  have CS := hid cS
  have HS := hid hs
  clear cS hsup hsh hs h
  go_enter Tryd.func60, Tryd.ntmps60
  go_wp2_with fail
  refine (CS.out _ hT).mono ?_
  rintro e w1 ⟨rfl, hb1⟩
  have hT1 := hT.below hb1 hT.lt
  go_wp2_with fail
  refine (Show_yes t _ h0 h1 hT1).mono ?_
  rintro e w2 ⟨rfl, hb2⟩
  have hb := chainB hb1 hb1.size hb2
  clear hb1 hb2 hT1
  go_wp2_with fail
  go_ret2
  exact ⟨rfl, hb⟩

theorem Read_short (s : ByteArray) (w : World) (hs : (s.size : Int) ≠ 29) :
    Calls Tryd.prog 60 #[.string s] w fun e w' => e = .returned (.tuple #[.int .i64 0, .int .i64 14]) ∧ w = w' := by
  have hz2 : ((s.size : Int) == 29) = false := by simpa using hs
  go_enter Tryd.func60, Tryd.ntmps60
  go_wp2_with fail
  go_ret2
  exact ⟨rfl, rfl⟩
set_option maxRecDepth 8000 in
theorem Read_none (s : ByteArray) (w : World) (hT : Tables w) (h : readDL s.data.toList = none) :
    Calls Tryd.prog 60 #[.string s] w fun e w' => e = .returned (.tuple #[.int .i64 0, .int .i64 14]) ∧ Below w.heap.size w w' := by
  by_cases hs : s.size = 29
  · have cS := fun W (hW : Tables W) => suppose_any s W hs hW
    generalize hsup : supI s.data.toList (moNum (sub s.data.toList 8 11)) = t at cS
    have hz2 : ((s.size : Int) == 29) = true := by simp [hs]
    have HH := hid h
    have CS := hid cS
    clear cS hsup hs h
    by_cases hv : 0 ≤ t ∧ t ≤ 253402300799
    · obtain ⟨h0, h1⟩ := hv
      have heq : (showL t == s.toList) = false := by
        rw [Lib.toList_data]
        by_cases e : showL t = s.data.toList
        · exfalso
          have := readDL_show t h0 h1
          rw [e, HH.out] at this
          cases this
        · simpa using e
      go_enter Tryd.func60, Tryd.ntmps60
      go_wp2_with fail
      refine (CS.out _ hT).mono ?_
      rintro e w1 ⟨rfl, hb1⟩
      have hT1 := hT.below hb1 hT.lt
      go_wp2_with fail
      refine (Show_yes t _ h0 h1 hT1).mono ?_
      rintro e w2 ⟨rfl, hb2⟩
      have hb := chainB hb1 hb1.size hb2
      clear hb1 hb2 hT1
      go_wp2_with fail
      go_ret2
      exact ⟨rfl, hb⟩
    · have hv' : t < 0 ∨ 253402300799 < t := by omega
      have HV := hid hv'
      clear hv hv'
      go_enter Tryd.func60, Tryd.ntmps60
      go_wp2_with fail
      refine (CS.out _ hT).mono ?_
      rintro e w1 ⟨rfl, hb1⟩
      go_wp2_with fail
      refine (Show_no t _ HV.out).mono ?_
      rintro e w2 ⟨rfl, rfl⟩
      go_wp2_with fail
      go_ret2
      exact ⟨rfl, hb1⟩
  · exact (Read_short s w (by omega)).mono fun e w' ⟨he, hw⟩ => ⟨he, by subst hw; exact Below.refl _ _⟩
end Go.Proofs.YtoolboafbkikjaaDoor
