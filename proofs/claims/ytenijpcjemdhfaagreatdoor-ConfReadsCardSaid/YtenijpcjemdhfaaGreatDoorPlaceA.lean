/-
  Contracts of package place: oneSign, onlySigns; and of slices.Contains at bytes.
-/
import Derived.Test.YtenijpcjemdhfaaGreatDoorPureAll3
import Derived.Test.YtenijpcjemdhfaaGreatDoorInfo
import Derived.Test.YtenijpcjemdhfaaGreatDoorProg
namespace Go.Proofs.YtenijpcjemdhfaaGreatDoor
open Go.RowKit Go.Pantry

theorem slIndex_any (v : Value) (l : List UInt8) (c : UInt8) (w : World) (h : Reads w v (l.map byteV)) (hl : l.length < 4294967296) :
    Calls Tryz.prog 157 #[v, .int .u8 (c.toNat : Int)] w fun e w' => (∃ z : Int, e = .returned (.int .i64 z) ∧ decide (0 ≤ z) = l.contains c) ∧ w = w' := by
  obtain ⟨bb, hbb⟩ : ∃ bb, l.contains c = bb := ⟨_, rfl⟩
  rw [hbb]
  have HBB := hid hbb
  clear hbb
  by_cases h0 : l.length = 0
  · obtain ⟨ao, cap, rfl, ha, -⟩ := h
    have e1 : l = [] := List.eq_nil_of_length_eq_zero h0
    subst e1
    clear ha
    go_enter Tryz.func157, Tryz.ntmps157
    go_wp2
    refine wp_loop_rounds 1 ?_
    rw [rounds_succ]
    go_wp2
    go_ret
    exact ⟨⟨-1, rfl, HBB.out⟩, rfl⟩
  · obtain ⟨b, o, cap, rfl, ha⟩ := h.at_some (by simp; omega)
    clear h
    have ha' : ∀ (j : Nat) x, l[j]? = some x → w.cell? ⟨b, o + j, none⟩ = some (byteV x) := fun j x hx => ha j _ (by simp [hx])
    clear ha
    simp only [List.length_map]
    have HA := hid ha'
    clear ha'
    go_enter Tryz.func157, Tryz.ntmps157
    go_wp2
    go_loop [8] (fun i => ∃ k : Nat, k ≤ l.length ∧ i = .int .i64 k ∧ (l.take k).contains c = false) (fun i => l.length - (intOf i).toNat)
    case atStart => exact ⟨0, Nat.zero_le _, rfl, rfl⟩
    case round =>
      obtain ⟨k, hk, rfl, hp⟩ := hrel
      have HP := hid hp
      clear hp
      by_cases hlt : k < l.length
      · obtain ⟨x, hx⟩ : ∃ x, l[k]? = some x := ⟨_, List.getElem?_eq_getElem hlt⟩
        have c1 := HA.out k x hx
        have HX := hid hx
        clear hx
        go_wp2
        · have he : c = x := by
            have h : ((c.toNat : Int) == (x.toNat : Int)) = true := by assumption
            have h2 : (c.toNat : Int) = (x.toNat : Int) := by simpa using h
            exact UInt8.toNat_inj.1 (by omega)
          go_ret
          refine ⟨⟨k, rfl, ?_⟩, rfl⟩
          have : l.contains c = true := by
            rw [he]
            exact List.contains_iff_mem.2 (List.mem_of_getElem? HX.out)
          rw [← HBB.out, this, decide_eq_true_eq]; omega
        · have he : c ≠ x := by
            have h : ((c.toNat : Int) == (x.toNat : Int)) = false := by assumption
            intro e; rw [e] at h; simp at h
          go_round
          case rel =>
            refine ⟨k + 1, by omega, by go_num, ?_⟩
            rw [List.take_add_one, HX.out]
            have hp := HP.out
            rw [Bool.eq_false_iff, ne_eq, List.contains_iff_mem] at hp ⊢
            simp only [Option.toList, List.mem_append, List.mem_singleton, not_or]
            exact ⟨hp, he⟩
          case measure => simp [intOf]; omega
      · go_wp2
        go_ret
        refine ⟨⟨-1, rfl, ?_⟩, rfl⟩
        have h := HP.out
        rw [List.take_of_length_le (by omega)] at h
        rw [← HBB.out, h]; rfl

theorem slContains_any (v : Value) (l : List UInt8) (c : UInt8) (w : World) (h : Reads w v (l.map byteV)) (hl : l.length < 4294967296) :
    Calls Tryz.prog 146 #[v, .int .u8 (c.toNat : Int)] w fun e w' => e = .returned (.bool (l.contains c)) ∧ w = w' := by
  have hc := slIndex_any v l c w h hl
  clear h
  obtain ⟨bb, hbb⟩ : ∃ bb, l.contains c = bb := ⟨_, rfl⟩
  rw [hbb] at hc ⊢
  clear hbb
  go_enter Tryz.func146, Tryz.ntmps146
  go_wp2_with (go_at_call 157; refine hc.mono ?_; rintro e w' ⟨⟨z, rfl, hz⟩, rfl⟩)
  go_ret
  exact ⟨by first | rfl | exact ret_bool hz, rfl⟩

theorem oneSign_any (c : UInt8) (v : Value) (l : List UInt8) (w : World) (h : Reads w v (l.map byteV)) (hl : l.length < 4294967296) :
    Calls Tryz.prog 124 #[.int .u8 (c.toNat : Int), v] w fun e w' => e = .returned (.bool (isAl c || l.contains c)) ∧ w = w' := by
  have hc := slContains_any v l c w h hl
  clear h
  go_enter Tryz.func124, Tryz.ntmps124
  go_wp2_with (go_at_call 146; refine hc.mono ?_; rintro e w' ⟨rfl, rfl⟩)
  all_goals go_ret
  all_goals refine ⟨ret_bool ?_, rfl⟩
  all_goals
    unfold isAl
    rw [← isUp_int, ← isDig_int, ← isLow_int]
    simp
    try omega

theorem onlySigns_any (s : ByteArray) (v : Value) (l : List UInt8) (w : World) (h : Reads w v (l.map byteV)) (hl : l.length < 4294967296) (hs : s.size < 4294967296) :
    Calls Tryz.prog 107 #[.string s, v] w fun e w' => e = .returned (.bool (s.data.toList.all fun c => isAl c || l.contains c)) ∧ w = w' := by
  have hc := fun c => oneSign_any c v l w h hl
  have HC := hid hc
  clear h hc
  obtain ⟨bb, hbb⟩ : ∃ bb, (s.data.toList.all fun c => isAl c || l.contains c) = bb := ⟨_, rfl⟩
  rw [hbb]
  have HBB := hid hbb
  clear hbb
  go_enter Tryz.func107, Tryz.ntmps107
  go_wp2
  go_loop [5] (fun i => ∃ k : Nat, k ≤ s.size ∧ i = .int .i64 k ∧ ((s.data.toList.take k).all fun c => isAl c || l.contains c) = true) (fun i => s.size - (intOf i).toNat)
  case atStart => exact ⟨0, Nat.zero_le _, rfl, rfl⟩
  case round =>
    obtain ⟨k, hk, rfl, hp⟩ := hrel
    have HP := hid hp
    clear hp
    by_cases hlt : k < s.size
    · have hstep := all_take_succ s.data.toList (fun c => isAl c || l.contains c) k (by rw [size_list]; exact hlt)
      rw [getElem_list s k hlt] at hstep
      have HS := hid hstep
      clear hstep
      obtain ⟨b, hb⟩ : ∃ b, (isAl s[k] || l.contains s[k]) = b := ⟨_, rfl⟩
      have hcc := HC.out s[k]
      rw [hb] at hcc
      have HB := hid hb
      clear hb
      cases b with
      | true =>
        go_wp2_with (go_at_call 124; refine hcc.mono ?_; rintro e w' ⟨rfl, rfl⟩)
        go_round
        case rel => exact ⟨k + 1, by omega, by go_num, by rw [HS.out, HP.out, HB.out]; rfl⟩
        case measure => simp [intOf]; omega
      | false =>
        go_wp2_with (go_at_call 124; refine hcc.mono ?_; rintro e w' ⟨rfl, rfl⟩)
        go_ret
        refine ⟨ret_bool ?_, rfl⟩
        rw [← HBB.out]
        symm
        exact all_bad s (fun c => isAl c || l.contains c) k hlt HB.out
    · go_wp2
      go_ret
      refine ⟨ret_bool ?_, rfl⟩
      have h := HP.out
      rw [take_all s k hlt] at h
      rw [← HBB.out, h]
end Go.Proofs.YtenijpcjemdhfaaGreatDoor
