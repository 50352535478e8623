/-
  Layer 15: DiskArms.
-/
import Derived.Test.YtgdeiokaicjkdaaLaw15A
set_option linter.unusedVariables false
set_option linter.unusedSimpArgs false
namespace Go.Pantry
open Go.RowKit
/-- behind k calls of a disk that was armed with n -/
structure ArmsAt (n k : Nat) (m : DiskM) : Prop where
  ok : DiskOk 8 m
  yet : k ≤ n → m.down = false ∧ m.arm = some (n - k)
  gone : n < k → m.down = true
theorem arms_start {n : Int} (hn : 0 ≤ n) : ArmsAt n.toNat 0 (armDk (newDk 8) n) := by
  refine ⟨(ok_new 8).armed n, fun _ => ⟨rfl, ?_⟩, fun h => by omega⟩
  unfold armDk
  simp only
  rw [if_neg (by omega), Nat.sub_zero]
theorem arms_write {n k : Nat} {m : DiskM} (h : ArmsAt n k m) {i : Int} (h0 : 0 ≤ i) (h8 : i < 8) {b : List UInt8} (hb : b.length ≤ 64) : (writeDk m i b).1 = (if k < n then 0 else 40) ∧ ArmsAt n (k + 1) (writeDk m i b).2 ∧ (writeDk m i b).2.down = decide (n ≤ k) := by
  have hok := h.ok.write i b
  have ht : ThereDk m i := ⟨h0, by rw [h.ok.len]; exact h8⟩
  by_cases hk : k ≤ n
  · obtain ⟨hd, ha⟩ := h.yet hk
    have e0 : writeDk m i b = if m.arm = some 0 then (40, fellDk m) else (0, { lessDk m with pend := m.pend.set i.toNat (padS b) }) := by
      unfold writeDk
      rw [hd, if_neg (by simp), if_neg (by intro h; rcases h with h | h; exact h ht; omega)]
    by_cases he : k = n
    · have ha0 : m.arm = some 0 := by rw [ha, he, Nat.sub_self]
      rw [e0, if_pos ha0] at hok ⊢
      exact ⟨by rw [if_neg (by omega)], ⟨hok, fun h => by omega, fun _ => rfl⟩, by rw [decide_eq_true (by omega : n ≤ k)]; rfl⟩
    · have ha0 : m.arm ≠ some 0 := by rw [ha]; simp; omega
      rw [e0, if_neg ha0] at hok ⊢
      refine ⟨by rw [if_pos (by omega)], ⟨hok, fun _ => ⟨hd, ?_⟩, fun h => by omega⟩, by rw [decide_eq_false (by omega : ¬ n ≤ k)]; exact hd⟩
      show m.arm.map (· - 1) = _
      rw [ha, Option.map_some, Nat.sub_sub]
  · have hd := h.gone (by omega)
    have e0 : writeDk m i b = (40, m) := by unfold writeDk; rw [hd]; rfl
    rw [e0]
    exact ⟨by rw [if_neg (by omega)], ⟨h.ok, fun h => by omega, fun _ => hd⟩, by rw [decide_eq_true (by omega : n ≤ k)]; exact hd⟩
theorem arms_flush {n k : Nat} {m : DiskM} (h : ArmsAt n k m) : (flushDk m).1 = (if k < n then 0 else 40) ∧ ArmsAt n (k + 1) (flushDk m).2 ∧ (flushDk m).2.down = decide (n ≤ k) := by
  have hok := h.ok.flush
  by_cases hk : k ≤ n
  · obtain ⟨hd, ha⟩ := h.yet hk
    have e0 : flushDk m = if m.arm = some 0 then (40, fellDk m) else (0, { lessDk m with stands := standDkL m.stands m.pend, pend := List.replicate m.pend.length [] }) := by
      unfold flushDk
      rw [hd, if_neg (by simp)]
    by_cases he : k = n
    · have ha0 : m.arm = some 0 := by rw [ha, he, Nat.sub_self]
      rw [e0, if_pos ha0] at hok ⊢
      exact ⟨by rw [if_neg (by omega)], ⟨hok, fun h => by omega, fun _ => rfl⟩, by rw [decide_eq_true (by omega : n ≤ k)]; rfl⟩
    · have ha0 : m.arm ≠ some 0 := by rw [ha]; simp; omega
      rw [e0, if_neg ha0] at hok ⊢
      refine ⟨by rw [if_pos (by omega)], ⟨hok, fun _ => ⟨hd, ?_⟩, fun h => by omega⟩, by rw [decide_eq_false (by omega : ¬ n ≤ k)]; exact hd⟩
      show m.arm.map (· - 1) = _
      rw [ha, Option.map_some, Nat.sub_sub]
  · have hd := h.gone (by omega)
    have e0 : flushDk m = (40, m) := by unfold flushDk; rw [hd]; rfl
    rw [e0]
    exact ⟨by rw [if_neg (by omega)], ⟨h.ok, fun h => by omega, fun _ => hd⟩, by rw [decide_eq_true (by omega : n ≤ k)]; exact hd⟩
theorem crash_flush (m : DiskM) (k : List Bool) : (crashDk m k).down = false ∧ (flushDk (crashDk m k)).1 = 0 := ⟨rfl, by unfold flushDk; rw [if_neg (by simp [crashDk]), if_neg (by simp [crashDk])]⟩
theorem down_read {m : DiskM} (h : m.down = true) (i : Int) : readDk m i = (40, []) := by unfold readDk; rw [h]; rfl
end Go.Pantry
namespace Go.Proofs.Ytgdeiokaicjkdaa
open Go.RowKit Go.Pantry
set_option maxRecDepth 8000 in
set_option maxHeartbeats 8000000 in
theorem diskArms_over {Ok : World → Prop} {R : Rp} (D : Disks Ok R) (n mo : Int) (w : World) (ho : Ok w) (hin : In15 n) (him : In15 mo) :
    Calls Try.prog 6 #[.int .i64 n, .int .i64 mo] w fun e w' => e = .returned (.bool true) ∧ Below w.heap.size w w' := by
  have C0 := hid (anchor15_any D w ho)
  by_cases hr : (0 ≤ n ∧ n ≤ 50) ∧ (1 ≤ mo ∧ mo ≤ 50)
  case neg =>
    have hout : (decide (n < 0) || decide (50 < n) || decide (mo < 1) || decide (50 < mo)) = true := by
      simp only [Bool.or_eq_true, decide_eq_true_eq]
      omega
    clear hr
    go_enter Try.func6, Try.ntmps6
    go_wp2_with fail
    refine C0.out.mono ?_
    rintro e w0 ⟨rfl, hb0⟩
    have HB := hid hb0
    clear C0 hb0
    go_wp2_with fail
    all_goals go_ret
    all_goals exact ⟨rfl, HB.out⟩
  obtain ⟨⟨h0, h50⟩, h1, h51⟩ := hr
  obtain ⟨N, rfl⟩ : ∃ N : Nat, n = (N : Int) := ⟨n.toNat, by omega⟩
  obtain ⟨M, rfl⟩ : ∃ M : Nat, mo = (M : Int) := ⟨mo.toNat, by omega⟩
  have q1 : decide ((N : Int) < 0) = false := decide_eq_false (by omega)
  have q2 : decide ((50 : Int) < (N : Int)) = false := decide_eq_false (by omega)
  have q3 : decide ((M : Int) < 1) = false := decide_eq_false (by omega)
  have q4 : decide ((50 : Int) < (M : Int)) = false := decide_eq_false (by omega)
  have hsum : IntKind.i64.wrap ((N : Int) + (M : Int)) = ((N + M : Nat) : Int) := by rw [IntWalk.i64_in _ (by omega)]; simp
  go_enter Try.func6, Try.ntmps6
  go_wp2_with fail
  refine C0.out.mono ?_
  rintro e w0 ⟨rfl, hb0⟩
  have C1 := hid (D.newK 8 hb0 ho (by decide) (by decide))
  clear C0 hb0
  go_wp2_with fail
  refine C1.out.mono ?_
  rintro e w1 ⟨hb1, g, F1, rfl, k1, hF1⟩
  have C2 := hid (D.armK k1 ho (N : Int) hin)
  clear k1 hb1 hF1 C1
  go_wp2_with fail
  refine C2.out.mono ?_
  rintro e w2 ⟨⟨u, rfl⟩, F2, k2, -, -⟩
  have HI : Hid (∃ (k : Nat) (F : Nat → Prop) (m : DiskM), k ≤ N + M ∧ Value.int .i64 0 = .int .i64 (k : Int) ∧ Dk R w w2 g F m ∧ ArmsAt N k m) := ⟨0, _, _, Nat.zero_le _, rfl, k2, arms_start (n := (N : Int)) (by omega)⟩
  clear k2 C2
  go_wp2_with fail
  go_loopw [35] (fun i wr => ∃ (k : Nat) (F : Nat → Prop) (m : DiskM), k ≤ N + M ∧ i = .int .i64 (k : Int) ∧ Dk R w wr g F m ∧ ArmsAt N k m) (fun i _ => N + M - (intOf i).toNat)
  case atStart => exact HI.out
  case round =>
    clear HI
    obtain ⟨k, F, m, hk, rfl, hD, hA⟩ := hrel
    have HH := hid (And.intro hD hA)
    clear hD hA
    by_cases hkl : k < N + M
    · have hkz : (k : Int) < ((N + M : Nat) : Int) := by omega
      have hwk : IntKind.i64.wrap ((k : Int) + 1) = ((k + 1 : Nat) : Int) := by rw [IntWalk.i64_in _ (by omega)]; simp
      have ht2 : (k : Int).tmod 2 = ((k % 2 : Nat) : Int) := by rw [Int.tmod_eq_emod_of_nonneg (by omega)]; omega
      have ht8 : (k : Int).tmod 8 = ((k % 8 : Nat) : Int) := by rw [Int.tmod_eq_emod_of_nonneg (by omega)]; omega
      by_cases hev : k % 2 = 0
      · rw [hev] at ht2
        obtain ⟨c, hc⟩ : ∃ c : UInt8, (c.toNat : Int) = (k : Int) + 1 := ⟨UInt8.ofNat (k + 1), by rw [UInt8.toNat_ofNat']; omega⟩
        obtain ⟨W3, hW3⟩ : ∃ W, wr.alloc (.cells #[.int .u8 ((k : Int) + 1)] 5) = W := ⟨_, rfl⟩
        obtain ⟨hD, hA⟩ := HH.out
        have hl3 := D.lt hD.rep
        have a3 : Dk R w W3 g F m := hD.then D (by rw [← hW3]; exact below_alloc _ _)
        have b3 : Bytes W3 (.slice (some ⟨wr.heap.size, 0, none⟩) 1 1) [c] := by rw [← hW3, ← hc]; exact bytes_out wr [c] _ rfl _ _ rfl
        have C3 := hid (D.writeK a3 ho ((k : Int) % 8) _ [c] ⟨by omega, by omega⟩ b3 (fun _ x hx hf => by cases hx; exact Nat.lt_irrefl _ (hl3 _ hf)))
        obtain ⟨e1, e2, e3⟩ := arms_write hA (i := (k : Int) % 8) (by omega) (by omega) (b := [c]) (by simp)
        by_cases hkN : k < N
        · have hz1 : (k : Int) < (N : Int) := by omega
          have hz2 : ¬ (N : Int) ≤ (k : Int) := by omega
          rw [e1, if_pos hkN] at C3
          rw [decide_eq_false (by omega : ¬ N ≤ k)] at e3
          have HE2 := hid (And.intro e2 e3)
          clear e1 e2 e3 hD hA hl3 a3 b3
          go_wp2_with fail
          try rw [hW3]
          clear hW3
          refine C3.out.mono ?_
          rintro e w3 ⟨rfl, F3, hD, -, -⟩
          obtain ⟨hA, hdn⟩ := HE2.out
          clear C3
          have C4 := hid (D.downK hD)
          rw [hdn] at C4
          have HZ := hid hA
          clear hD hA hdn
          go_wp2_with fail
          refine C4.out.mono ?_
          rintro e w4 ⟨rfl, hD, hb4⟩
          have HY := hid hD
          clear hD hb4 C4
          go_wp2_with fail
          go_roundw
          case rel => exact ⟨k + 1, _, _, hkl, by simp, HY.out, HZ.out⟩
          case measure => simp only [intOf]; omega
        · have hz1 : ¬ (k : Int) < (N : Int) := by omega
          have hz2 : (N : Int) ≤ (k : Int) := by omega
          rw [e1, if_neg hkN] at C3
          rw [decide_eq_true (by omega : N ≤ k)] at e3
          have HE2 := hid (And.intro e2 e3)
          clear e1 e2 e3 hD hA hl3 a3 b3
          go_wp2_with fail
          try rw [hW3]
          clear hW3
          refine C3.out.mono ?_
          rintro e w3 ⟨rfl, F3, hD, -, -⟩
          obtain ⟨hA, hdn⟩ := HE2.out
          clear C3
          have C4 := hid (D.downK hD)
          rw [hdn] at C4
          have HZ := hid hA
          clear hD hA hdn
          go_wp2_with fail
          refine C4.out.mono ?_
          rintro e w4 ⟨rfl, hD, hb4⟩
          have HY := hid hD
          clear hD hb4 C4
          go_wp2_with fail
          go_roundw
          case rel => exact ⟨k + 1, _, _, hkl, by simp, HY.out, HZ.out⟩
          case measure => simp only [intOf]; omega
      · have hev1 : k % 2 = 1 := by omega
        rw [hev1] at ht2
        obtain ⟨hD, hA⟩ := HH.out
        have C3 := hid (D.flushK hD ho)
        obtain ⟨e1, e2, e3⟩ := arms_flush hA
        by_cases hkN : k < N
        · have hz1 : (k : Int) < (N : Int) := by omega
          have hz2 : ¬ (N : Int) ≤ (k : Int) := by omega
          rw [e1, if_pos hkN] at C3
          rw [decide_eq_false (by omega : ¬ N ≤ k)] at e3
          have HE2 := hid (And.intro e2 e3)
          clear e1 e2 e3 hD hA
          go_wp2_with fail
          refine C3.out.mono ?_
          rintro e w3 ⟨rfl, F3, hD, -, -⟩
          obtain ⟨hA, hdn⟩ := HE2.out
          clear C3
          have C4 := hid (D.downK hD)
          rw [hdn] at C4
          have HZ := hid hA
          clear hD hA hdn
          go_wp2_with fail
          refine C4.out.mono ?_
          rintro e w4 ⟨rfl, hD, hb4⟩
          have HY := hid hD
          clear hD hb4 C4
          go_wp2_with fail
          go_roundw
          case rel => exact ⟨k + 1, _, _, hkl, by simp, HY.out, HZ.out⟩
          case measure => simp only [intOf]; omega
        · have hz1 : ¬ (k : Int) < (N : Int) := by omega
          have hz2 : (N : Int) ≤ (k : Int) := by omega
          rw [e1, if_neg hkN] at C3
          rw [decide_eq_true (by omega : N ≤ k)] at e3
          have HE2 := hid (And.intro e2 e3)
          clear e1 e2 e3 hD hA
          go_wp2_with fail
          refine C3.out.mono ?_
          rintro e w3 ⟨rfl, F3, hD, -, -⟩
          obtain ⟨hA, hdn⟩ := HE2.out
          clear C3
          have C4 := hid (D.downK hD)
          rw [hdn] at C4
          have HZ := hid hA
          clear hD hA hdn
          go_wp2_with fail
          refine C4.out.mono ?_
          rintro e w4 ⟨rfl, hD, hb4⟩
          have HY := hid hD
          clear hD hb4 C4
          go_wp2_with fail
          go_roundw
          case rel => exact ⟨k + 1, _, _, hkl, by simp, HY.out, HZ.out⟩
          case measure => simp only [intOf]; omega
    · have hke : k = N + M := by omega
      have hkz : ¬ (k : Int) < ((N + M : Nat) : Int) := by omega
      obtain ⟨hD, hA⟩ := HH.out
      have hdn := hA.gone (by omega)
      have C3 := hid (D.readK hD ho 0 (by decide))
      rw [down_read hdn 0] at C3
      clear hD hA hdn hke
      go_wp2_with fail
      refine C3.out.mono ?_
      rintro e w3 ⟨hD, hb3, v3, rfl, ho3⟩
      have hre : Reads w3 (.slice none 0 0) (([] : List Bool).map Value.bool) := ⟨none, 0, rfl, (fun j u hj => by cases hj), fun _ => rfl⟩
      have C4 := hid (D.crashK hD ho (.slice none 0 0) [] hre (fun _ => In.nil _ _))
      clear hD hb3 ho3 C3 hre
      go_wp2_with fail
      refine C4.out.mono ?_
      rintro e w4 ⟨⟨u, rfl⟩, F4, hD, -, -⟩
      have C5 := hid (D.downK hD)
      rw [(crash_flush m []).1] at C5
      clear hD C4
      go_wp2_with fail
      refine C5.out.mono ?_
      rintro e w5 ⟨rfl, hD, hb5⟩
      have C6 := hid (D.flushK hD ho)
      rw [(crash_flush m []).2] at C6
      clear hD hb5 C5
      go_wp2_with fail
      refine C6.out.mono ?_
      rintro e w6 ⟨rfl, F6, hD, -, -⟩
      have HB := hid hD.bl
      clear hD C6
      go_wp2_with fail
      go_ret
      exact ⟨rfl, HB.out⟩
end Go.Proofs.Ytgdeiokaicjkdaa
