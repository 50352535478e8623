/-
  The document's answers of layer 5: seen, version, Right of a request.
-/
import Derived.Test.YtjfkehdlamnigaaGreatDoorHeadB
import Derived.Test.YtjfkehdlamnigaaGreatDoorRefFieldG
import Derived.Test.YtjfkehdlamnigaaGreatDoorMade5
import Derived.Test.YtjfkehdlamnigaaGreatDoorDrawn
namespace Go.Proofs.YtjfkehdlamnigaaGreatDoor
open Go.RowKit Go.Pantry

theorem refVersion_any (z : Int) (w : World) (hz : 0 ≤ z) :
    Calls Tryz.prog 31 #[.int .i64 z] w fun e w' => e = .returned (strV (verL z.toNat)) ∧ w = w' := by
  by_cases h0 : z = 0
  · subst h0
    go_enter Tryz.func31, Tryz.ntmps31
    go_wp2
    go_ret
    exact ⟨rfl, rfl⟩
  · have e0 : (z == 0) = false := by simpa using h0
    have hv : verL z.toNat = v11 := by unfold verL; rw [if_neg (by omega)]
    rw [hv]
    clear h0 hv hz
    go_enter Tryz.func31, Tryz.ntmps31
    go_wp2
    go_ret
    exact ⟨rfl, rfl⟩
theorem seenC_int (c : UInt8) : seenC c = (decide (33 ≤ (c.toNat : Int)) && decide ((c.toNat : Int) ≤ 126)) := by
  unfold seenC; rw [Bool.eq_iff_iff]; simp; omega
theorem refSeen_any (s : ByteArray) (w : World) (hs : s.size ≤ maxLen) :
    Calls Tryz.prog 28 #[.string s] w fun e w' => e = .returned (.bool (seenL s.data.toList)) ∧ w = w' := by
  unfold maxLen at hs
  have hsl : seenL s.data.toList = (decide (0 < (s.size : Int)) && s.data.toList.all seenC) := by
    rw [← not_isEmpty_int]
    rfl
  obtain ⟨R, hR⟩ : ∃ R, seenL s.data.toList = R := ⟨_, rfl⟩
  rw [hR] at hsl ⊢
  have HR := hid hsl
  clear hR hsl
  go_enter Tryz.func28, Tryz.ntmps28
  go_wp2
  go_loop [3] (fun i => ∃ k : Nat, k ≤ s.size ∧ i = .int .i64 k ∧ (s.data.toList.take k).all seenC = true) (fun i => s.size - (intOf i).toNat)
  case atStart => exact ⟨0, Nat.zero_le _, rfl, rfl⟩
  case round =>
    obtain ⟨k, hk, rfl, hall⟩ := hrel
    have HA := hid hall
    clear hall
    by_cases hlt : k < s.size
    · by_cases h1 : (s[k].toNat : Int) < 33
      · have hno : R = false := by
          rw [HR.out, all_bad s seenC k hlt (by rw [seenC_int]; simp; omega)]
          simp
        subst hno
        go_wp2
        go_ret
        exact ⟨rfl, rfl⟩
      · by_cases h2 : (126 : Int) < (s[k].toNat : Int)
        · have hno : R = false := by
            rw [HR.out, all_bad s seenC k hlt (by rw [seenC_int]; simp; omega)]
            simp
          subst hno
          go_wp2
          go_ret
          exact ⟨rfl, rfl⟩
        · have hok := hid (show seenC s[k] = true by rw [seenC_int]; simp; omega)
          go_wp2
          go_round
          case rel => exact ⟨k + 1, hlt, by go_num, by rw [take_succ_list s k hlt, List.all_append, HA.out]; simp [hok.out]⟩
          case measure => simp [intOf]; omega
    · have hke := take_all s k hlt
      have hyes : R = decide (0 < (s.size : Int)) := by rw [HR.out, ← hke, HA.out]; simp
      have HY := hid hyes
      clear hke hyes
      go_wp2
      go_ret
      exact ⟨ret_bool (by rw [HY.out]; simp), rfl⟩
abbrev hdV (m t : List UInt8) (st z : Int) (v : Value) : Value := .agg #[strV m, strV t, .int .i64 st, .int .i64 z, v]
/-- is a request right, as the document has it? -/
theorem rightQ_eq (m t : List UInt8) (z : Int) (L : List Fld) : rightQ m t z L = (!decide (z < 0) && !decide (1 < z) && rightFs L && tokenL m && decide (m.length ≤ 16) && seenL t && decide (t.length ≤ 1024)) := by
  unfold rightQ formedR longR
  have hz : (z == 0 || z == 1) = (!decide (z < 0) && !decide (1 < z)) := by rw [Bool.eq_iff_iff]; simp; omega
  rw [hz]
  have h1 : (!(decide (16 < m.length) || decide (1024 < t.length))) = (decide (m.length ≤ 16) && decide (t.length ≤ 1024)) := by rw [Bool.eq_iff_iff]; simp
  rw [h1]
  cases tokenL m <;> cases seenL t <;> cases rightFs L <;> simp
  all_goals
    rw [Bool.eq_iff_iff]
    simp
    try omega
set_option maxHeartbeats 4000000 in
theorem refRightReq_any (m t : List UInt8) (st z : Int) (v : Value) (L : List Fld) (w : World) (hm : m.length ≤ 100000) (ht : t.length ≤ 100000) (hr : Reads2 w v L) (hk : okFs L) :
    Calls Tryz.prog 10 #[hdV m t st z v, .bool true] w fun e w' => e = .returned (.bool (rightQ m t z L)) ∧ Below w.heap.size w w' := by
  obtain ⟨ao, cap, rfl⟩ := hr.form
  have hq := rightQ_eq m t z L
  generalize rightQ m t z L = R at hq ⊢
  have cf := fun W h => refRights_any (.slice ao L.length cap) L W h (fun f hf => by have := (hk.2 f hf).1; omega) (fun f hf => by have := (hk.2 f hf).2; omega) (by have := hk.1; omega)
  have ct := fun W => refToken_any ⟨m.toArray⟩ W (by rw [szL]; unfold maxLen; omega)
  have cs := fun W => refSeen_any ⟨t.toArray⟩ W (by rw [szL]; unfold maxLen; omega)
  rw [dtL] at ct cs
  generalize rightFs L = q1 at cf hq
  generalize tokenL m = q2 at ct hq
  generalize seenL t = q3 at cs hq
  have CF := hid cf
  have CT := hid ct
  have CS := hid cs
  have HQ := hid hq
  have HR := hid hr
  clear cf ct cs hq hr hk
  obtain ⟨W, hW⟩ : ∃ W, W = w.alloc (.cells #[strV m, strV t, .int .i64 st, .int .i64 z, .slice ao L.length cap] 33) := ⟨_, rfl⟩
  have hbW : Below w.heap.size w W := by rw [hW]; exact below_alloc _ _
  have hg : rowIs W w.heap.size #[strV m, strV t, .int .i64 st, .int .i64 z, .slice ao L.length cap] 33 := by rw [hW]; exact rowIs_new _ _ _
  by_cases z0 : z < 0
  · obtain rfl : R = false := by rw [HQ.out, decide_eq_true z0]; simp
    go_enter Tryz.func10, Tryz.ntmps10
    go_wp2_with fail
    go_ret
    exact ⟨rfl, below_alloc _ _⟩
  have d0 : decide (z < 0) = false := decide_eq_false z0
  by_cases z1 : 1 < z
  · obtain rfl : R = false := by rw [HQ.out, decide_eq_true z1]; simp
    go_enter Tryz.func10, Tryz.ntmps10
    go_wp2_with fail
    go_ret
    exact ⟨rfl, below_alloc _ _⟩
  have d1 : decide (1 < z) = false := decide_eq_false z1
  have HQ2 : Hid (R = (q1 && q2 && decide (m.length ≤ 16) && q3 && decide (t.length ≤ 1024))) := by
    have h := HQ.out
    rw [d0, d1] at h
    exact hid (by simpa using h)
  clear HQ z0 z1
  cases q1
  · obtain rfl : R = false := by rw [HQ2.out]; rfl
    go_enter Tryz.func10, Tryz.ntmps10
    go_wp2_with fail
    rw [← hW]
    clear hW
    refine (CF.out _ (HR.out.below hbW)).mono ?_
    rintro e w1 ⟨rfl, hb1⟩
    go_wp2_with fail
    go_ret
    exact ⟨rfl, chain2 hbW hbW.size hb1⟩
  have HQ3 : Hid (R = (q2 && decide (m.length ≤ 16) && q3 && decide (t.length ≤ 1024))) := by
    have h := HQ2.out
    exact hid (by simpa using h)
  clear HQ2
  cases q2
  · obtain rfl : R = false := by rw [HQ3.out]; rfl
    go_enter Tryz.func10, Tryz.ntmps10
    go_wp2_with fail
    rw [← hW]
    clear hW
    refine (CF.out _ (HR.out.below hbW)).mono ?_
    rintro e w1 ⟨rfl, hb1⟩
    have g0 := (hg.below hb1).cell 0
    go_wp2_with fail
    refine (CT.out _).mono ?_
    rintro e w2 ⟨rfl, rfl⟩
    go_wp2_with fail
    go_ret
    exact ⟨rfl, chain2 hbW hbW.size hb1⟩
  by_cases m16 : (16 : Int) < (m.length : Int)
  · obtain rfl : R = false := by rw [HQ3.out, decide_eq_false (by omega)]; rfl
    have e16 : decide ((m.length : Int) ≤ 16) = false := decide_eq_false (by omega)
    go_enter Tryz.func10, Tryz.ntmps10
    go_wp2_with fail
    rw [← hW]
    clear hW
    refine (CF.out _ (HR.out.below hbW)).mono ?_
    rintro e w1 ⟨rfl, hb1⟩
    have g0 := (hg.below hb1).cell 0
    go_wp2_with fail
    refine (CT.out _).mono ?_
    rintro e w2 ⟨rfl, rfl⟩
    go_wp2_with fail
    go_ret
    exact ⟨rfl, chain2 hbW hbW.size hb1⟩
  have e16 : decide ((m.length : Int) ≤ 16) = true := decide_eq_true (by omega)
  have HQ4 : Hid (R = (q3 && decide (t.length ≤ 1024))) := by
    have h := HQ3.out
    rw [decide_eq_true (show m.length ≤ 16 by omega)] at h
    exact hid (by simpa using h)
  clear HQ3 m16
  cases q3
  · obtain rfl : R = false := by rw [HQ4.out]; rfl
    go_enter Tryz.func10, Tryz.ntmps10
    go_wp2_with fail
    rw [← hW]
    clear hW
    refine (CF.out _ (HR.out.below hbW)).mono ?_
    rintro e w1 ⟨rfl, hb1⟩
    have g0 := (hg.below hb1).cell 0
    have g1 := (hg.below hb1).cell 1
    go_wp2_with fail
    refine (CT.out _).mono ?_
    rintro e w2 ⟨rfl, rfl⟩
    go_wp2_with fail
    refine (CS.out _).mono ?_
    rintro e w2 ⟨rfl, rfl⟩
    go_wp2_with fail
    go_ret
    exact ⟨rfl, chain2 hbW hbW.size hb1⟩
  · have HQ5 : Hid (R = decide ((t.length : Int) ≤ 1024)) := by
      have h := HQ4.out
      refine hid ?_
      rw [h, Bool.eq_iff_iff]
      simp
      omega
    obtain ⟨q, hq⟩ : ∃ q, decide ((t.length : Int) ≤ 1024) = q := ⟨_, rfl⟩
    obtain rfl : R = q := by rw [HQ5.out, hq]
    clear HQ4 HQ5
    go_enter Tryz.func10, Tryz.ntmps10
    go_wp2_with fail
    rw [← hW]
    clear hW
    refine (CF.out _ (HR.out.below hbW)).mono ?_
    rintro e w1 ⟨rfl, hb1⟩
    have g0 := (hg.below hb1).cell 0
    have g1 := (hg.below hb1).cell 1
    go_wp2_with fail
    refine (CT.out _).mono ?_
    rintro e w2 ⟨rfl, rfl⟩
    go_wp2_with fail
    refine (CS.out _).mono ?_
    rintro e w2 ⟨rfl, rfl⟩
    go_wp2_with fail
    go_ret
    exact ⟨rfl, chain2 hbW hbW.size hb1⟩
end Go.Proofs.YtjfkehdlamnigaaGreatDoor
