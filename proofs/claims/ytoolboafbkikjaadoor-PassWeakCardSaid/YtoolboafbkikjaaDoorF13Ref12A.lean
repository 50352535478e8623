/-
  The document's answers of layer 12: number.
-/
import Derived.Test.YtoolboafbkikjaaDoorF13DateRefShow
import Derived.Test.YtoolboafbkikjaaDoorF1308
import Derived.Test.YtoolboafbkikjaaDoorF1302
import Derived.Deep.QuietTactic
import Derived.BigQuiet
set_option linter.unusedVariables false
set_option linter.unusedSimpArgs false

namespace Go.Proofs.YtoolboafbkikjaaDoor
open Go.RowKit Go.Pantry

theorem sub_succ (s : ByteArray) (i k : Nat) (h : i + k < s.size) : sub s.data.toList i (i + (k + 1)) = sub s.data.toList i (i + k) ++ [s[i + k]] := by
  have hl : i + k < s.data.toList.length := by rw [size_list]; exact h
  unfold sub
  rw [← Nat.add_assoc, List.take_succ_eq_append_getElem hl, List.drop_append_of_le_length (by rw [List.length_take]; omega)]
  rfl
theorem sub_zero (l : List UInt8) (i : Nat) : sub l i (i + 0) = [] := by
  unfold sub
  rw [Nat.add_zero]
  exact List.drop_eq_nil_of_le (by rw [List.length_take]; omega)
theorem nD_no (s : ByteArray) (i n k : Nat) (hk : k < n) (h : i + n ≤ s.size) (hd : isDig (s[i + k]'(by omega)) = false) : nD (sub s.data.toList i (i + n)) = -1 := by
  unfold nD
  rw [if_neg]
  intro ha
  rw [List.all_eq_true] at ha
  have := ha (s[i + k]'(by omega)) (by
    unfold sub
    rw [List.mem_drop_iff_getElem]
    refine ⟨k, by rw [List.length_take, size_list]; omega, ?_⟩
    rw [List.getElem_take]
    exact getElem_list s (i + k) (by omega))
  rw [hd] at this; cases this
set_option maxRecDepth 8000 in
theorem number_any (s : ByteArray) (i n : Nat) (w : World) (h : i + n ≤ s.size) (hn : n ≤ 4) (hi : i ≤ 25) (hs : s.size = 29) :
    Calls Tryd.prog 73 #[.string s, .int .i64 (i : Int), .int .i64 (n : Int)] w fun e w' => e = .returned (.int .i64 (nD (sub s.data.toList i (i + n)))) ∧ w = w' := by
  obtain ⟨E, hE⟩ : ∃ E, i + n = E := ⟨_, rfl⟩
  have hin : IntKind.i64.wrap ((i : Int) + (n : Int)) = (E : Int) := by rw [IntWalk.i64_in _ (by omega)]; omega
  have HE := hid hE
  go_enter Tryd.func73, Tryd.ntmps73
  go_wp2_with fail
  go_loop [7, 8] (fun v z => ∃ k p V : Nat, k ≤ n ∧ p = i + k ∧ z = .int .i64 (p : Int) ∧ (sub s.data.toList i (i + k)).all isDig = true ∧ V = valL (sub s.data.toList i (i + k)) ∧ v = .int .i64 (V : Int)) (fun _ z => E - (intOf z).toNat)
  case atStart => exact ⟨0, i, 0, Nat.zero_le _, rfl, rfl, by rw [sub_zero]; rfl, by rw [sub_zero]; rfl, rfl⟩
  case round =>
    obtain ⟨k, p, V, hk, hp, rfl, ha, hV, rfl⟩ := hrel
    have HA := hid ha
    have hvb := valL_lt _ ha
    have hsl : (sub s.data.toList i (i + k)).length ≤ 4 := by unfold sub; rw [List.length_drop, List.length_take, size_list]; omega
    have hv4 : V < 10000 := by rw [hV]; exact Nat.lt_of_lt_of_le hvb (Nat.pow_le_pow_right (n := 10) (by decide) hsl)
    have HV := hid (And.intro hV hp)
    clear ha hvb hsl hV
    by_cases hlt : k < n
    · have hps : p < s.size := by omega
      have hp0 : (0 : Int) ≤ (p : Int) := by omega
      have hpI : (p : Int) < (s.size : Int) := by omega
      have hpE : (p : Int) < (E : Int) := by have := HE.out; omega
      have hpw : IntKind.i64.wrap ((p : Int) + 1) = (p : Int) + 1 := IntWalk.i64_in _ (by omega)
      have hnos : isDig s[p] = false → nD (sub s.data.toList i E) = -1 := fun hd => by
        have hh := HE.out
        subst hh
        refine nD_no s i n k hlt h ?_
        have e := HV.out.2
        subst e
        exact hd
      have hsub : sub s.data.toList i (i + (k + 1)) = sub s.data.toList i (i + k) ++ [s[p]] := by
        have e := HV.out.2
        subst e
        exact sub_succ s i k hps
      have hc8 := wbounds s[p]
      have HS := hid hsub
      clear hsub hE hp
      by_cases c1 : (s[p].toNat : Int) < 48
      · have d1 : decide ((s[p].toNat : Int) < 48) = true := decide_eq_true c1
        have HR := hid (hnos (by unfold isDig; simp; omega))
        clear hnos
        go_wp2_with fail
        go_ret
        exact ⟨ret_int (by rw [HE.out]; exact HR.out.symm), rfl⟩
      · have d1 : decide ((s[p].toNat : Int) < 48) = false := decide_eq_false c1
        by_cases c2 : 57 < (s[p].toNat : Int)
        · have d2 : decide (57 < (s[p].toNat : Int)) = true := decide_eq_true c2
          have HR := hid (hnos (by unfold isDig; simp; omega))
          clear hnos
          go_wp2_with fail
          go_ret
          exact ⟨ret_int (by rw [HE.out]; exact HR.out.symm), rfl⟩
        · have d2 : decide (57 < (s[p].toNat : Int)) = false := decide_eq_false c2
          have hdg : isDig s[p] = true := by unfold isDig; simp; omega
          have HD := hid hdg
          have k1 : IntKind.i64.wrap (10 * (V : Int)) = 10 * (V : Int) := IntWalk.i64_in _ (by omega)
          have k2 : IntKind.i64.wrap (10 * (V : Int) + ((s[p].toNat : Int) - 48)) = 10 * (V : Int) + ((s[p].toNat : Int) - 48) := IntWalk.i64_in _ (by omega)
          clear hnos hdg
          go_wp2_with fail
          go_round
          case rel =>
            refine ⟨k + 1, p + 1, 10 * V + (s[p].toNat - 48), hlt, by have := HV.out.2; omega, by go_num, ?_, ?_, ?_⟩
            · rw [HS.out, List.all_append, HA.out]; simp [HD.out]
            · rw [HS.out, valL_snoc, ← HV.out.1]
            · have : ((10 * V + (s[p].toNat - 48) : Nat) : Int) = 10 * (V : Int) + ((s[p].toNat : Int) - 48) := by omega
              rw [this]
          case measure => simp [intOf]; omega
    · have hkn : k = n := by omega
      have hpE : ¬ (p : Int) < (E : Int) := by have := HE.out; omega
      have hr : nD (sub s.data.toList i E) = (V : Int) := by
        have h1 := HE.out
        subst h1
        subst hkn
        unfold nD
        rw [if_pos HA.out, HV.out.1]
      have HR := hid hr
      clear hr hE
      go_wp2_with fail
      go_ret
      exact ⟨ret_int (by rw [HE.out]; exact HR.out.symm), rfl⟩
end Go.Proofs.YtoolboafbkikjaaDoor
