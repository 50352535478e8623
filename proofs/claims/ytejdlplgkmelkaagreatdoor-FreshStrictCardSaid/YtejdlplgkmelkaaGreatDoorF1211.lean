/-
  Several texts in one: RefSignN, RefSignD.
-/
import Derived.Test.YtejdlplgkmelkaaGreatDoorF1207
import Derived.Test.YtejdlplgkmelkaaGreatDoorPureAll1
import Derived.Deep.Cut
import Derived.Test.YtejdlplgkmelkaaGreatDoorF1202
set_option linter.unusedVariables false
set_option linter.unusedSimpArgs false
/-
  Contract of the document's answers of layer 1: Number.
-/
namespace Go.Proofs.YtejdlplgkmelkaaGreatDoor
open Go.RowKit Go.Pantry

set_option maxRecDepth 100000 in
theorem refNumber_any (s : ByteArray) (w : World) (hs : s.size ≤ 140737488351232) :
    Calls Tryz.prog 44 #[.string s] w fun e w' => e = .returned (.tuple #[.int .i64 (((numberL s.data.toList).getD 0 : Nat) : Int), .bool (numberL s.data.toList).isSome]) ∧ w = w' := by
  go_enter Tryz.func44, Tryz.ntmps44
  go_wp2
  go_loop [4, 5] (fun n i => ∃ k m : Nat, k ≤ s.size ∧ i = .int .i64 k ∧ n = .int .i64 m ∧ m ≤ 21474836489 ∧ min m 2147483648 = min (valL (s.data.toList.take k)) 2147483648 ∧ (s.data.toList.take k).all isDig = true) (fun _ i => s.size - (intOf i).toNat)
  case atStart => exact ⟨0, 0, Nat.zero_le _, rfl, rfl, by omega, rfl, rfl⟩
  case round =>
    obtain ⟨k, m, hk, rfl, rfl, hm, hv, hall⟩ := hrel
    have HV := hid hv
    have HA := hid hall
    clear hv hall
    by_cases hlt : k < s.size
    · go_upto_if 21 with fail
      · rename (48 : Int) ≤ (s[k].toNat : Int) => g
        have G := hid g
        clear g
        go_upto_if 23 with fail
        · have hbad : isDig s[k] = false := by
            have h : (s[k].toNat : Int) < 48 ∨ 57 < (s[k].toNat : Int) := by assumption
            rw [Bool.eq_false_iff]; intro e; have := isDig_bounds e; omega
          go_ret2
          exact ⟨by rw [numberL_no s k hlt hbad]; rfl, rfl⟩
        · have hgood : isDig s[k] = true := by
            have h : 48 ≤ (s[k].toNat : Int) ∧ (s[k].toNat : Int) ≤ 57 := by assumption
            simp [isDig]; omega
          rename 48 ≤ (s[k].toNat : Int) ∧ (s[k].toNat : Int) ≤ 57 => g2
          clear g2
          have HF := hid hgood
          clear hgood G
          generalize hc : s[k].toNat = c
          clear hc
          by_cases hsm : m < 2147483648
          · have hd1 : decide ((m : Int) < 2147483648) = true := by simp; omega
            refine wp_cond_true (congrArg Value.bool hd1) ?_
            clear hd1
            go_wp2
            go_round
            case rel =>
              refine ⟨k + 1, 10 * m + (s[k].toNat - 48), by omega, by go_num, ?_, ?_, ?_, by rw [take_succ_list s k hlt, List.all_append, HA.out]; simp [HF.out]⟩
              · have := isDig_bounds HF.out
                exact congrArg (Value.int .i64) (by omega)
              · have := isDig_bounds HF.out
                omega
              · rw [take_succ_list s k hlt]; exact number2_step _ _ m HF.out HV.out hsm
            case measure => simp [intOf]; omega
          · have hd1 : decide ((m : Int) < 2147483648) = false := by simp; omega
            refine wp_cond_false (congrArg Value.bool hd1) ?_
            clear hd1
            go_wp2
            go_round
            case rel =>
              refine ⟨k + 1, m, by omega, by go_num, rfl, by omega, ?_, by rw [take_succ_list s k hlt, List.all_append, HA.out]; simp [HF.out]⟩
              rw [take_succ_list s k hlt]; exact number2_stay _ _ m HV.out (by omega)
            case measure => simp [intOf]; omega
      · have hbad : isDig s[k] = false := by
          have h : ¬ 48 ≤ (s[k].toNat : Int) := by assumption
          rw [Bool.eq_false_iff]; intro e; have := isDig_bounds e; omega
        go_wp2
        go_ret2
        exact ⟨by rw [numberL_no s k hlt hbad]; rfl, rfl⟩
    · have HY := hid (numberL_yes s.data.toList (min m 2147483648) (by rw [← take_all s k hlt]; exact HA.out) (by rw [HV.out, take_all s k hlt]))
      have HE := hid (not_isEmpty_int s)
      by_cases hgt : 2147483648 < m
      · go_wp2
        go_ret2
        refine ⟨?_, rfl⟩
        rw [HY.out.1, HY.out.2, HE.out, Nat.min_eq_right (by omega)]; simp
      · go_wp2
        go_ret2
        refine ⟨?_, rfl⟩
        rw [HY.out.1, HY.out.2, HE.out, Nat.min_eq_left (by omega)]; simp
end Go.Proofs.YtejdlplgkmelkaaGreatDoor
/-
  Contracts of the document's answers of layer 1: Unquote.
-/
namespace Go.Proofs.YtejdlplgkmelkaaGreatDoor
open Go.RowKit Go.Pantry

set_option maxRecDepth 4000 in
theorem refUnquote_any (s : ByteArray) (w : World) (hs : s.size < 4294967296) :
    Calls Tryz.prog 106 #[.string s] w fun e w' => e = .returned (.tuple #[strV ((unquoteL s.data.toList).getD []), .bool (unquoteL s.data.toList).isSome]) ∧ Below w.heap.size w w' := by
  by_cases htok : tokenL s.data.toList = true
  · go_enter Tryz.func106, Tryz.ntmps106
    go_wp2_with (go_at_call 122; refine (refToken_any _ _ (by unfold maxLen; omega)).mono ?_; rintro e w' ⟨rfl, rfl⟩)
    go_ret2
    exact ⟨by simp [unquoteL, htok, strV], Below.refl _ _⟩
  · have htok' : tokenL s.data.toList = false := by simpa using htok
    clear htok
    by_cases h2 : 2 ≤ s.size
    · go_enter Tryz.func106, Tryz.ntmps106
      go_wp2_with (go_at_call 122; refine (refToken_any _ _ (by unfold maxLen; omega)).mono ?_; rintro e w' ⟨rfl, rfl⟩)
      · have h1 : s[s.size - 1] ≠ 34 := by
          have h : (s.size : Int) < 2 ∨ ((s[s.size - 1].toNat : Int) != 34) = true := by assumption
          rcases h with h | h
          · omega
          · exact byte_ne_yes 34 (z := 34) h rfl
        go_ret2
        refine ⟨?_, Below.refl _ _⟩
        rw [unquote_open s htok' h2 h1]; rfl
      · have h1 : s[s.size - 1] = 34 := by
          have h : 2 ≤ (s.size : Int) ∧ ((s[s.size - 1].toNat : Int) != 34) = false := by assumption
          exact byte_ne_no 34 (z := 34) h.2 rfl
        have h0 : s[0] = 34 := by
          have h : (s[0].toNat : Int) = 34 := by assumption
          exact UInt8.toNat_inj.1 (by simp; omega)
        have HU := hid (unquote_quoted s htok' h2 h0 h1)
        have hus : (s.extract 1 (s.size - 1)).size = s.size - 2 := by rw [ByteArray.size_extract]; omega
        have hud := Lib.extract_data s 1 (s.size - 1)
        rw [← hud] at HU
        generalize s.extract 1 (s.size - 1) = u at *
        clear hud h0 h1
        have hu32 : u.size < 4294967296 := by omega
        clear hus
        rename 2 ≤ (s.size : Int) ∧ ((s[s.size - 1].toNat : Int) != 34) = false => g1
        rename (s[0].toNat : Int) = 34 => g2
        have G1 := hid g1
        have G2 := hid g2
        clear g1 g2
        go_loopw [4, 6] (fun v i wr => ∃ (k : Nat) (E : List UInt8), k ≤ u.size ∧ i = .int .i64 k ∧ E.length ≤ k ∧ unquoteL s.data.toList = (unqIn (u.data.toList.drop k)).map (E ++ ·) ∧ wr.ownsRow w.heap.size 5 1 v E.length (E.map byteV) ∧ Below w.heap.size w wr) (fun _ i _ => u.size - (intOf i).toNat)
        case atStart => exact ⟨0, [], by omega, rfl, by simp, by rw [HU.out]; simp, World.ownsRow_nil _ _ _ _, Below.refl _ _⟩
        case round =>
          obtain ⟨k, E, hk, rfl, hEk, hE, hown, hb⟩ := hrel
          have HE := hid hE
          clear hE
          have hB := hb.size
          have hcv := ownsRow_string hown 83 9 Tryz.underlying83 Tryz.underlying5 Tryz.underlying9
          by_cases hlt : k < u.size
          · have hd := hid (drop_cons u k hlt)
            go_wp2_with ((at_builtin; go_must (refine wpList_append_one _ rfl _ _ 83 rfl w.heap.size 5 Tryz.underlying83 infoU8 rfl (by decide) rfl hown rfl rfl (by omega) hB ?_); intro v' w1 hown1 hg1 hb1))
            · have e : u[k] = 34 := byte_yes 34 (z := 34) (by assumption) rfl
              go_ret2
              refine ⟨?_, hb⟩
              have hn : unquoteL s.data.toList = none := by
                rw [HE.out, hd.out, e, unqIn_quote]; rfl
              rw [hn]; rfl
            · have e : u[k] = 92 := byte_yes 92 (z := 92) (by assumption) rfl
              have hq : ((k : Int) + 1 == (u.size : Int)) = true := by assumption
              have hq' := beq_iff_eq.1 hq
              go_ret2
              refine ⟨?_, hb⟩
              have hn : unquoteL s.data.toList = none := by
                rw [HE.out, hd.out, e, drop_nil u (k + 1) (by omega), unqIn_back_end]; rfl
              rw [hn]; rfl
            · have e : u[k] = 92 := byte_yes 92 (z := 92) (by assumption) rfl
              have hq : 0 ≤ (k : Int) + 1 ∧ (k : Int) + 1 < (u.size : Int) := by assumption
              have hlt' : k + 1 < u.size := by omega
              go_roundw
              case rel =>
                refine ⟨k + 2, E ++ [u[k + 1]], by omega, by go_num, by simp; omega, ?_, by simpa using hown1, hb.trans hb1⟩
                rw [HE.out, hd.out, e, drop_cons u (k + 1) hlt', unqIn_back]; simp [Option.map_map, Function.comp_def]
              case measure => simp [intOf]; omega
            · exfalso
              have hq : ((k : Int) + 1 == (u.size : Int)) = false := by assumption
              simp at hq
              omega
            · have e1 : u[k] ≠ 34 := byte_no 34 (z := 34) (by assumption) rfl
              have e2 : u[k] ≠ 92 := byte_no 92 (z := 92) (by assumption) rfl
              go_roundw
              case rel =>
                refine ⟨k + 1, E ++ [u[k]], by omega, by go_num, by simp; omega, ?_, by simpa using hown1, hb.trans hb1⟩
                rw [HE.out, hd.out, unqIn_other _ _ e1 e2]; simp [Option.map_map, Function.comp_def]
              case measure => simp [intOf]; omega
          · go_wp2
            go_ret2
            refine ⟨?_, hb⟩
            have hn : unquoteL s.data.toList = some E := by
              rw [HE.out, drop_nil u k hlt]; simp [unqIn]
            rw [hn]; rfl
      · have h0 : s[0] ≠ 34 := by
          have h : ¬ (s[0].toNat : Int) = 34 := by assumption
          intro e; rw [e] at h; exact h rfl
        go_ret2
        refine ⟨?_, Below.refl _ _⟩
        rw [unquote_else s htok' (by omega) h0]; rfl
    · go_enter Tryz.func106, Tryz.ntmps106
      go_wp2_with (go_at_call 122; refine (refToken_any _ _ (by unfold maxLen; omega)).mono ?_; rintro e w' ⟨rfl, rfl⟩)
      go_ret2
      refine ⟨?_, Below.refl _ _⟩
      rw [unquote_short s htok' (by omega)]; rfl
end Go.Proofs.YtejdlplgkmelkaaGreatDoor
