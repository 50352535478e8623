/-
  The document's answers of layer 5: find, minor.
-/
import Derived.Test.YtfoghjhdjmapnaaGreatDoorHeadB
import Derived.Test.YtfoghjhdjmapnaaGreatDoorDrawn
namespace Go.Proofs.YtfoghjhdjmapnaaGreatDoor
open Go.RowKit Go.Pantry

/-- the place of w in s, from a place on -/
def findI (w s : List UInt8) (k : Nat) : Int := match findL w (s.drop k) with | none => -1 | some i => ((k + i : Nat) : Int)
theorem findI_hit {w s : List UInt8} {k j : Nat} (hw : w ≠ []) (hk : k ≤ j) (h : w.isPrefixOf (s.drop j) = true) (hf : ∀ i, k ≤ i → i < j → w.isPrefixOf (s.drop i) = false) : findI w s k = (j : Int) := by
  unfold findI
  rw [findL_first (i := j - k) hw (by rw [List.drop_drop, show k + (j - k) = j by omega]; exact h) (fun i hi => by rw [List.drop_drop]; exact hf (k + i) (by omega) (by omega))]
  show ((k + (j - k) : Nat) : Int) = _
  omega
theorem findI_miss {w s : List UInt8} {k j : Nat} (hw : w ≠ []) (hk : s.length < j + w.length) (hf : ∀ i, k ≤ i → i < j → w.isPrefixOf (s.drop i) = false) : findI w s k = -1 := by
  unfold findI
  cases h : findL w (s.drop k) with
  | none => rfl
  | some i =>
    obtain ⟨h1, h2, _⟩ := findL_some h
    have h3 := findL_lt hw h
    rw [List.length_drop] at h3
    rw [List.drop_drop] at h2
    have h0 : 0 < w.length := List.length_pos_iff.2 hw
    rw [hf (k + i) (by omega) (by omega)] at h2
    cases h2
theorem pre_take (w l : List UInt8) : (l.take w.length == w) = w.isPrefixOf l := by
  rw [Bool.eq_iff_iff, beq_iff_eq, List.isPrefixOf_iff_prefix, List.prefix_iff_eq_take]
  exact eq_comm
theorem extract_mid (s : List UInt8) (k n : Nat) : (⟨s.toArray⟩ : ByteArray).extract k (k + n) = ⟨((s.drop k).take n).toArray⟩ := by
  rw [Lib.extract_eq, show k + n - k = n by omega]
set_option maxHeartbeats 1000000 in
theorem refFind_any (s wd : List UInt8) (k0 : Nat) (w : World) (hw : wd ≠ []) (hs : s.length ≤ 1000000) (hwl : wd.length ≤ 100) (hk0 : k0 ≤ s.length) :
    Calls Tryz.prog 17 #[strV s, strV wd, .int .i64 (k0 : Int)] w fun e w' => e = .returned (.int .i64 (findI wd s k0)) ∧ w = w' := by
  have hmiss := fun j h hf => findI_miss (w := wd) (s := s) (k := k0) (j := j) hw h hf
  have hhit := fun j h hp hf => findI_hit (w := wd) (s := s) (k := k0) (j := j) hw h hp hf
  generalize findI wd s k0 = R at hmiss hhit ⊢
  have HM := hid hmiss
  have HH := hid hhit
  have HW : Hid (0 < wd.length) := hid (List.length_pos_iff.2 hw)
  clear hmiss hhit hw
  go_enter Tryz.func17, Tryz.ntmps17
  go_wp2
  go_loop [7] (fun i => ∃ k : Nat, k0 ≤ k ∧ k ≤ s.length ∧ i = .int .i64 k ∧ ∀ i, k0 ≤ i → i < k → wd.isPrefixOf (s.drop i) = false) (fun i => s.length - (intOf i).toNat)
  case atStart => exact ⟨k0, Nat.le_refl _, hk0, rfl, fun i h1 h2 => by omega⟩
  case round =>
    obtain ⟨k, hk, hks, rfl, hall⟩ := hrel
    have HA := hid hall
    clear hall
    by_cases hlt : (k : Int) + (wd.length : Int) ≤ (s.length : Int)
    · have hp := pre_take wd (s.drop k)
      have hex := extract_mid s k wd.length
      generalize (s.drop k).take wd.length = X at hp hex
      cases hq : wd.isPrefixOf (s.drop k) with
      | true =>
        rw [hq] at hp
        have HR := hid (HH.out k hk hq HA.out)
        clear hq
        go_wp2
        go_ret
        exact ⟨by rw [HR.out]; rfl, rfl⟩
      | false =>
        rw [hq] at hp
        have HQ := hid hq
        clear hq
        go_wp2
        go_round
        case rel => exact ⟨k + 1, by omega, by have := HW.out; omega, by go_num, fun i h1 h2 => by
          rcases Nat.lt_or_ge i k with h | h
          · exact HA.out i h1 h
          · obtain rfl : i = k := by omega
            exact HQ.out⟩
        case measure => have := HW.out; simp [intOf]; omega
    · have HR := hid (HM.out k (by omega) HA.out)
      go_wp2
      go_ret
      exact ⟨by rw [HR.out]; rfl, rfl⟩
/-- a version's number, or -1 -/
def minorI (s : List UInt8) : Int := match minorL s with | none => -1 | some n => (n : Int)
set_option maxHeartbeats 1000000 in
theorem refMinor_any (s : List UInt8) (w : World) :
    Calls Tryz.prog 37 #[strV s] w fun e w' => e = .returned (.int .i64 (minorI s)) ∧ w = w' := by
  have hm : minorI s = if s == v10 then 0 else if s == v11 then 1 else -1 := by
    unfold minorI minorL
    cases (s == v10) <;> cases (s == v11) <;> rfl
  rw [hm]
  clear hm
  obtain ⟨q0, h0⟩ : ∃ q, (s == v10) = q := ⟨_, rfl⟩
  obtain ⟨q1, h1⟩ : ∃ q, (s == v11) = q := ⟨_, rfl⟩
  rw [h0, h1]
  unfold v10 at h0
  unfold v11 at h1
  cases q0
  · cases q1
    · go_enter Tryz.func37, Tryz.ntmps37
      go_wp2
      go_ret
      exact ⟨rfl, rfl⟩
    · go_enter Tryz.func37, Tryz.ntmps37
      go_wp2
      go_ret
      exact ⟨rfl, rfl⟩
  · go_enter Tryz.func37, Tryz.ntmps37
    go_wp2
    go_ret
    exact ⟨rfl, rfl⟩
end Go.Proofs.YtfoghjhdjmapnaaGreatDoor
