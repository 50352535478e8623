/-
  The walk of the statement DateReads.
-/
import Derived.Test.YtjggelnpfeeabaaDoorLaw02F
namespace Go.Proofs.YtjggelnpfeeabaaDoor
open Go.RowKit Go.Pantry

set_option maxHeartbeats 4000000 in
theorem dateReads_some (s : ByteArray) (t at' : Int) (c : UInt8) (w : World) (hT : Tables w) (hr : readL s.data.toList = some t) :
    Calls Tryd.prog 5 #[.string s, .int .i64 at', .int .u8 (c.toNat : Int)] w fun e w' => e = .returned (.bool true) ∧ Below w.heap.size w w' := by
  obtain ⟨h0, h1, hsh⟩ := readL_some hr
  have hz : s.size = 29 := by rw [← size_list, ← hsh, showL_len t h0 h1]
  have hz1 : ((s.size : Int) == 29) = true := by simp [hz]
  have hz2 : ((s.size : Int) != 29) = false := by simp [hz]
  have hz3 : (s.size : Int) ≤ 200 := by omega
  have e1 : (showL t == s.toList) = true := by rw [Lib.toList_data, hsh]; simp
  have e2 : (showL t != s.toList) = false := by rw [Lib.toList_data, hsh]; simp
  have HR := hid hr
  have HZ := hid hz
  have HS := hid hsh
  clear hr hz hsh
  by_cases ha : at' < 0 ∨ (s.size : Int) ≤ at'
  · have ha' : at' < 0 ∨ (0 ≤ at' ∧ (s.size : Int) ≤ at') := by omega
    clear ha
    rcases ha' with a | ⟨a, b⟩
    all_goals
      go_enter Tryd.func5, Tryd.ntmps5
      go_wp2_with fail
      refine (anchor_any _ hT).mono ?_
      rintro e w1 ⟨rfl, hb⟩
      have hT1 := hT.below hb hT.lt
      go_wp2_with fail
      refine (Read_some s t _ hT1 HR.out).mono ?_
      rintro e w2 ⟨rfl, hb2⟩
      replace hb := chainB hb hb.size hb2
      clear hb2
      go_wp2_with fail
      refine (refShow_any t _ h0 h1).mono ?_
      rintro e w3 ⟨rfl, hb3⟩
      replace hb := chainB hb hb.size hb3
      clear hb3
      go_wp2_with fail
      go_ret
      exact ⟨rfl, hb⟩
  · obtain ⟨k, rfl⟩ : ∃ k : Nat, at' = (k : Int) := ⟨at'.toNat, by omega⟩
    have hk : k < s.size := by omega
    clear ha
    by_cases hx : s[k] = c
    · have g1 : ((s[k].toNat : Int) == (c.toNat : Int)) = true := by rw [hx]; simp
      have HX := hid hx
      clear hx
      go_enter Tryd.func5, Tryd.ntmps5
      go_wp2_with fail
      refine (anchor_any _ hT).mono ?_
      rintro e w1 ⟨rfl, hb⟩
      have hT1 := hT.below hb hT.lt
      go_wp2_with fail
      refine (Read_some s t _ hT1 HR.out).mono ?_
      rintro e w2 ⟨rfl, hb2⟩
      replace hb := chainB hb hb.size hb2
      clear hb2
      go_wp2_with fail
      refine (refShow_any t _ h0 h1).mono ?_
      rintro e w3 ⟨rfl, hb3⟩
      replace hb := chainB hb hb.size hb3
      clear hb3
      go_wp2_with fail
      go_ret
      exact ⟨rfl, hb⟩
    · exact dateReads_turn s t k c w hT HR.out hk hx

set_option maxHeartbeats 4000000 in
theorem dateReads_walk (s : ByteArray) (at' x : Int) (w : World) (hT : Tables w) (hs : s.size ≤ maxLen) (hx : (Lit.int .u8 x).wf = true) :
    Calls Tryd.prog 5 #[.string s, .int .i64 at', .int .u8 x] w fun e w' => e = .returned (.bool true) ∧ Below w.heap.size w w' := by
  unfold maxLen at hs
  by_cases hl : 200 < (s.size : Int)
  · clear hx
    go_enter Tryd.func5, Tryd.ntmps5
    go_wp2_with fail
    refine (anchor_any _ hT).mono ?_
    rintro e w1 ⟨rfl, hb⟩
    go_wp2_with fail
    go_ret
    exact ⟨rfl, hb⟩
  · cases hr : readL s.data.toList with
    | none =>
      have HR := hid hr
      clear hr hx
      have hl' : (s.size : Int) ≤ 200 := by omega
      clear hl
      go_enter Tryd.func5, Tryd.ntmps5
      go_wp2_with fail
      refine (anchor_any _ hT).mono ?_
      rintro e w1 ⟨rfl, hb⟩
      have hT1 := hT.below hb hT.lt
      go_wp2_with fail
      refine (Read_none s _ hT1 HR.out).mono ?_
      rintro e w2 ⟨rfl, hb2⟩
      replace hb := chainB hb hb.size hb2
      clear hb2
      go_wp2_with fail
      go_ret
      exact ⟨rfl, hb⟩
    | some t =>
      obtain ⟨c, hc⟩ : ∃ c : UInt8, x = (c.toNat : Int) := by
        have h2 : 0 ≤ x ∧ x < 256 := by
          simp [Lit.wf, IntKind.min, IntKind.max, IntKind.signed, IntKind.bits] at hx
          omega
        exact ⟨UInt8.ofNat x.toNat, by rw [UInt8.toNat_ofNat']; omega⟩
      subst hc
      exact dateReads_some s t at' c w hT hr
end Go.Proofs.YtjggelnpfeeabaaDoor
