/-
  Contracts of package head: of a response: Right; the document's clean and Right of a response.
-/
import Derived.Test.YtjfkehdlamnigaaGreatDoorHeadH
import Derived.Test.YtjfkehdlamnigaaGreatDoorRef5A
namespace Go.Proofs.YtjfkehdlamnigaaGreatDoor
open Go.RowKit Go.Pantry

/-- is a response right? (its Minor as it is) -/
def rightS (st : Int) (r : List UInt8) (z : Int) (L : List Fld) : Bool := formedS st r z && !decide (64 < r.length) && rightFs L
set_option maxHeartbeats 1000000 in
theorem sRight_any (st : Int) (r : List UInt8) (z : Int) (v : Value) (L : List Fld) (w : World) (hs : r.length ≤ 100000) (hr : Reads2 w v L) (hk : okFs L) :
    Calls Tryz.prog 9 #[.agg #[.int .i64 st, strV r, .int .i64 z, v]] w fun e w' => e = .returned (.bool (rightS st r z L)) ∧ Below w.heap.size w w' := by
  obtain ⟨ao, cap, rfl⟩ := hr.form
  have c1 := fun W => sformed_any st r z ao L.length cap W hs
  have c2 := fun W => slong_any st r z ao L.length cap W
  have c3 := fun W h => lRight_any (.slice ao L.length cap) L W h hk
  have hf : rightS st r z L = (formedS st r z && !decide (64 < r.length) && rightFs L) := rfl
  generalize rightS st r z L = R at hf ⊢
  generalize formedS st r z = q1 at c1 hf
  generalize decide (64 < r.length) = q2 at c2 hf
  generalize rightFs L = q3 at c3 hf
  have C1 := hid c1
  have C2 := hid c2
  have C3 := hid c3
  have HR := hid hr
  clear c1 c2 c3 hr hk
  obtain ⟨W, hW⟩ : ∃ W, W = w.alloc (.cells #[.int .i64 st, strV r, .int .i64 z, .slice ao L.length cap] 30) := ⟨_, rfl⟩
  have hbW : Below w.heap.size w W := by rw [hW]; exact below_alloc _ _
  have hroW : rowIs W w.heap.size #[.int .i64 st, strV r, .int .i64 z, .slice ao L.length cap] 30 := by rw [hW]; exact rowIs_new _ _ _
  cases q1
  · obtain rfl : R = false := hf
    go_enter Tryz.func9, Tryz.ntmps9
    go_wp2_with fail
    rw [← hW]
    clear hW
    refine (C1.out _).mono ?_
    rintro e w1 ⟨rfl, hb1⟩
    go_wp2_with fail
    go_ret
    exact ⟨rfl, chain2 hbW hbW.size hb1⟩
  · cases q2
    · obtain rfl : R = q3 := by rw [hf]; simp
      clear hf
      go_enter Tryz.func9, Tryz.ntmps9
      go_wp2_with fail
      rw [← hW]
      clear hW
      refine (C1.out _).mono ?_
      rintro e w1 ⟨rfl, hb1⟩
      have hro1 := hroW.below hb1
      have g0 := hro1.cell 0
      have g1 := hro1.cell 1
      have g2 := hro1.cell 2
      have g3 := hro1.cell 3
      go_wp2_with fail
      refine (C2.out _).mono ?_
      rintro e w2 ⟨rfl, hb2⟩
      have hro2 := hro1.below hb2
      clear g0 g1 g2 g3
      have g3 := hro2.cell 3
      have hbb := chain2 (chain2 hbW hbW.size hb1) (chain2 hbW hbW.size hb1).size hb2
      clear hro1 hro2 hroW hb1 hb2 hbW
      go_wp2_with fail
      refine (C3.out _ (HR.out.below hbb)).mono ?_
      rintro e w3 ⟨rfl, hb3⟩
      go_wp2_with fail
      go_ret
      exact ⟨rfl, chain2 hbb hbb.size hb3⟩
    · obtain rfl : R = false := by rw [hf]; simp
      clear hf
      go_enter Tryz.func9, Tryz.ntmps9
      go_wp2_with fail
      rw [← hW]
      clear hW
      refine (C1.out _).mono ?_
      rintro e w1 ⟨rfl, hb1⟩
      have hro1 := hroW.below hb1
      have g0 := hro1.cell 0
      have g1 := hro1.cell 1
      have g2 := hro1.cell 2
      have g3 := hro1.cell 3
      go_wp2_with fail
      refine (C2.out _).mono ?_
      rintro e w2 ⟨rfl, hb2⟩
      clear g0 g1 g2 g3
      go_wp2_with fail
      go_ret
      exact ⟨rfl, chain2 (chain2 hbW hbW.size hb1) (chain2 hbW hbW.size hb1).size hb2⟩
end Go.Proofs.YtjfkehdlamnigaaGreatDoor
namespace Go.Proofs.YtjfkehdlamnigaaGreatDoor
open Go.RowKit Go.Pantry

theorem okV_int (c : UInt8) : okV c = ((decide (32 ≤ (c.toNat : Int)) || decide ((c.toNat : Int) = 9)) && decide ((c.toNat : Int) ≠ 127)) := by
  unfold okV; rw [Bool.eq_iff_iff]; simp; omega
set_option maxHeartbeats 1000000 in
theorem refClean_any (s : ByteArray) (w : World) (hs : s.size ≤ maxLen) :
    Calls Tryz.prog 29 #[.string s] w fun e w' => e = .returned (.bool (s.data.toList.all okV)) ∧ w = w' := by
  unfold maxLen at hs
  obtain ⟨R, hR⟩ : ∃ R, s.data.toList.all okV = R := ⟨_, rfl⟩
  rw [hR]
  have HR := hid hR.symm
  clear hR
  go_enter Tryz.func29, Tryz.ntmps29
  go_wp2
  go_loop [3] (fun i => ∃ k : Nat, k ≤ s.size ∧ i = .int .i64 k ∧ (s.data.toList.take k).all okV = true) (fun i => s.size - (intOf i).toNat)
  case atStart => exact ⟨0, Nat.zero_le _, rfl, rfl⟩
  case round =>
    obtain ⟨k, hk, rfl, hall⟩ := hrel
    have HA := hid hall
    clear hall
    by_cases hlt : k < s.size
    · by_cases h1 : (s[k].toNat : Int) < 32
      · by_cases h2 : (s[k].toNat : Int) = 9
        · have hok := hid (show okV s[k] = true by rw [okV_int]; simp; omega)
          have b1 : ((s[k].toNat : Int) == 9) = true := by simp [h2]
          have b2 : ((s[k].toNat : Int) == 127) = false := by simp [h2]
          go_wp2
          go_round
          case rel => exact ⟨k + 1, hlt, by go_num, by rw [take_succ_list s k hlt, List.all_append, HA.out]; simp [hok.out]⟩
          case measure => simp [intOf]; omega
        · have b1 : ((s[k].toNat : Int) == 9) = false := by simpa using h2
          have hno : R = false := by
            rw [HR.out, all_bad s okV k hlt (by rw [okV_int]; simp; omega)]
          subst hno
          go_wp2
          go_ret
          exact ⟨rfl, rfl⟩
      · by_cases h3 : (s[k].toNat : Int) = 127
        · have b3 : ((s[k].toNat : Int) == 127) = true := by simp [h3]
          have hno : R = false := by
            rw [HR.out, all_bad s okV k hlt (by rw [okV_int]; simp; omega)]
          subst hno
          go_wp2
          go_ret
          exact ⟨rfl, rfl⟩
        · have hok := hid (show okV s[k] = true by rw [okV_int]; simp; omega)
          have b3 : ((s[k].toNat : Int) == 127) = false := by simpa using h3
          go_wp2
          go_round
          case rel => exact ⟨k + 1, hlt, by go_num, by rw [take_succ_list s k hlt, List.all_append, HA.out]; simp [hok.out]⟩
          case measure => simp [intOf]; omega
    · have hke := take_all s k hlt
      have hyes : R = true := by rw [HR.out, ← hke, HA.out]
      subst hyes
      go_wp2
      go_ret
      exact ⟨rfl, rfl⟩
/-- is a response right, as the document has it? -/
theorem rightS_eq (st : Int) (r : List UInt8) (z : Int) (L : List Fld) : rightS st r z L = (!decide (z < 0) && !decide (1 < z) && rightFs L && decide (100 ≤ st) && decide (st ≤ 599) && decide (r.length ≤ 64) && r.all okV && trimL r == r) := by
  unfold rightS formedS
  have hz : (z == 0 || z == 1) = (!decide (z < 0) && !decide (1 < z)) := by rw [Bool.eq_iff_iff]; simp; omega
  rw [hz]
  have h1 : (!decide (64 < r.length)) = decide (r.length ≤ 64) := by rw [Bool.eq_iff_iff]; simp
  rw [h1]
  generalize decide (r.length ≤ 64) = a
  generalize decide (100 ≤ st) = b
  generalize decide (st ≤ 599) = c
  generalize r.all okV = d
  generalize (trimL r == r) = e
  generalize rightFs L = f
  cases a <;> cases b <;> cases c <;> cases d <;> cases e <;> cases f <;> simp
set_option maxRecDepth 100000 in
set_option maxHeartbeats 4000000 in
theorem refRightRes_any (m t : List UInt8) (st z : Int) (v : Value) (L : List Fld) (w : World) (hm : m.length ≤ 100000) (hr : Reads2 w v L) (hk : okFs L) :
    Calls Tryz.prog 10 #[hdV m t st z v, .bool false] w fun e w' => e = .returned (.bool (rightS st m z L)) ∧ Below w.heap.size w w' := by
  obtain ⟨ao, cap, rfl⟩ := hr.form
  have hq := rightS_eq st m z L
  generalize rightS st m z L = R at hq ⊢
  have cf := fun W h => refRights_any (.slice ao L.length cap) L W h (fun f hf => by have := (hk.2 f hf).1; omega) (fun f hf => by have := (hk.2 f hf).2; omega) (by have := hk.1; omega)
  have ct := fun W => refTrim_any ⟨m.toArray⟩ W (by rw [szL]; unfold maxLen; omega)
  have cc := fun W => refClean_any ⟨m.toArray⟩ W (by rw [szL]; unfold maxLen; omega)
  rw [dtL] at ct cc
  generalize rightFs L = q1 at cf hq
  generalize m.all okV = q2 at cc hq
  generalize trimL m = T at ct hq
  have CF := hid cf
  have CT := hid ct
  have CC := hid cc
  have HQ := hid hq
  have HR := hid hr
  clear cf ct cc hq hr hk
  obtain ⟨W, hW⟩ : ∃ W, W = w.alloc (.cells #[strV m, strV t, .int .i64 st, .int .i64 z, .slice ao L.length cap] 33) := ⟨_, rfl⟩
  have hbW : Below w.heap.size w W := by rw [hW]; exact below_alloc _ _
  have hg : rowIs W w.heap.size #[strV m, strV t, .int .i64 st, .int .i64 z, .slice ao L.length cap] 33 := by rw [hW]; exact rowIs_new _ _ _
  by_cases z0 : z < 0
  · obtain rfl : R = false := by rw [HQ.out, decide_eq_true z0]; simp
    go_enter Tryz.func10, Tryz.ntmps10
    go_wp2_with fail
    go_ret
    exact ⟨rfl, below_alloc _ _⟩
  have d0 : decide (z < 0) = false := decide_eq_false z0
  by_cases z1 : 1 < z
  · obtain rfl : R = false := by rw [HQ.out, decide_eq_true z1]; simp
    go_enter Tryz.func10, Tryz.ntmps10
    go_wp2_with fail
    go_ret
    exact ⟨rfl, below_alloc _ _⟩
  have d1 : decide (1 < z) = false := decide_eq_false z1
  have HQ2 : Hid (R = (q1 && decide (100 ≤ st) && decide (st ≤ 599) && decide (m.length ≤ 64) && q2 && T == m)) := by
    have h := HQ.out
    rw [d0, d1] at h
    exact hid (by simpa using h)
  clear HQ z0 z1
  cases q1
  · obtain rfl : R = false := by rw [HQ2.out]; rfl
    go_enter Tryz.func10, Tryz.ntmps10
    go_wp2_with fail
    rw [← hW]
    clear hW
    refine (CF.out _ (HR.out.below hbW)).mono ?_
    rintro e w1 ⟨rfl, hb1⟩
    go_wp2_with fail
    go_ret
    exact ⟨rfl, chain2 hbW hbW.size hb1⟩
  by_cases s1 : 100 ≤ st
  · have d2 : decide (100 ≤ st) = true := decide_eq_true s1
    by_cases s2 : st ≤ 599
    · have d3 : decide (st ≤ 599) = true := decide_eq_true s2
      by_cases s3 : (m.length : Int) ≤ 64
      · have d4 : decide ((m.length : Int) ≤ 64) = true := decide_eq_true s3
        have d5 : decide (m.length ≤ 64) = true := decide_eq_true (by omega)
        cases q2
        · obtain rfl : R = false := by rw [HQ2.out]; simp
          clear HQ2 s1 s2 s3 d5
          go_enter Tryz.func10, Tryz.ntmps10
          go_wp2_with fail
          rw [← hW]
          clear hW
          refine (CF.out _ (HR.out.below hbW)).mono ?_
          rintro e w1 ⟨rfl, hb1⟩
          have hg1 := hg.below hb1
          have hbb := chain2 hbW hbW.size hb1
          clear hg hbW hb1
          go_wp2_with fail
          refine wp_region_U [] (by kernel_rfl) (BoxS w w.heap.size w.heap.size #[strV m, strV t, .int .i64 st, .int .i64 z, .slice ao L.length cap] 33) (b := []) (by kernel_rfl) (BoxS.drew (W := w1) ⟨hbb, hbb.size, hg1⟩) ?_
          refine wpAnyU_take (i := 0) (v := ?_) (by decide) rfl (by kernel_rfl) (by kernel_rfl) (by kernel_rfl) (fun _ _ _ h => h) (Steady.plain (by kernel_rfl) ?_) ?_
          rotate_left
          · intro b W hS
            have h0 := hS.2.2.cell 0
            have h1 := hS.2.2.cell 1
            have h2 := hS.2.2.cell 2
            have h3 := hS.2.2.cell 3
            have h4 := hS.2.2.cell 4
            go_simp
            first | done | with_reducible rfl
          simp only [Act.put, List.getElem_toArray, List.getElem_cons_zero, List.setIfInBounds_toArray, List.set_cons_zero, List.set_cons_succ]
          refine wpAnyU_take (i := 1) (v := ?_) (by decide) rfl (by kernel_rfl) (by kernel_rfl) (by kernel_rfl) (fun _ _ _ h => h) (Steady.plain (by kernel_rfl) ?_) ?_
          rotate_left
          · intro b W hS
            have h0 := hS.2.2.cell 0
            have h1 := hS.2.2.cell 1
            have h2 := hS.2.2.cell 2
            have h3 := hS.2.2.cell 3
            have h4 := hS.2.2.cell 4
            go_simp
            first | done | with_reducible rfl
          simp only [Act.put, List.getElem_toArray, List.getElem_cons_succ, List.getElem_cons_zero, List.setIfInBounds_toArray, List.set_cons_zero, List.set_cons_succ]
          refine wpAnyU_take (i := 2) (v := ?_) (by decide) rfl (by kernel_rfl) (by kernel_rfl) (by kernel_rfl) (fun _ _ _ h => h) (Steady.plain (by kernel_rfl) ?_) ?_
          rotate_left
          · intro b W hS
            have h0 := hS.2.2.cell 0
            have h1 := hS.2.2.cell 1
            have h2 := hS.2.2.cell 2
            have h3 := hS.2.2.cell 3
            have h4 := hS.2.2.cell 4
            go_simp
            first | done | with_reducible rfl
          simp only [Act.put, List.getElem_toArray, List.getElem_cons_succ, List.getElem_cons_zero, List.setIfInBounds_toArray, List.set_cons_zero, List.set_cons_succ]
          refine wpAnyU_take (i := 3) (v := ?_) (by decide) rfl (by kernel_rfl) (by kernel_rfl) (by kernel_rfl) (fun _ _ _ h => h) (Steady.plain (by kernel_rfl) ?_) ?_
          rotate_left
          · intro b W hS
            have h0 := hS.2.2.cell 0
            have h1 := hS.2.2.cell 1
            have h2 := hS.2.2.cell 2
            have h3 := hS.2.2.cell 3
            have h4 := hS.2.2.cell 4
            go_simp
            first | done | with_reducible rfl
          simp only [Act.put, List.getElem_toArray, List.getElem_cons_succ, List.getElem_cons_zero, List.setIfInBounds_toArray, List.set_cons_zero, List.set_cons_succ]
          refine wpAnyU_take (i := 4) (v := ?_) (by decide) rfl (by kernel_rfl) (by kernel_rfl) (by kernel_rfl) (fun _ _ _ h => h) (Steady.plain (by kernel_rfl) ?_) ?_
          rotate_left
          · intro b W hS
            have h0 := hS.2.2.cell 0
            have h1 := hS.2.2.cell 1
            have h2 := hS.2.2.cell 2
            have h3 := hS.2.2.cell 3
            have h4 := hS.2.2.cell 4
            go_simp
            first | done | with_reducible rfl
          simp only [Act.put, List.getElem_toArray, List.getElem_cons_succ, List.getElem_cons_zero, List.setIfInBounds_toArray, List.set_cons_zero, List.set_cons_succ]
          refine wpAnyU_take (i := 5) (v := ?_) (by decide) rfl (by kernel_rfl) (by kernel_rfl) (by kernel_rfl) (fun _ _ _ h => h) (Steady.plain (by kernel_rfl) ?_) ?_
          rotate_left
          · intro b W hS
            have h0 := hS.2.2.cell 0
            have h1 := hS.2.2.cell 1
            have h2 := hS.2.2.cell 2
            have h3 := hS.2.2.cell 3
            have h4 := hS.2.2.cell 4
            go_simp
            first | done | with_reducible rfl
          simp only [Act.put, List.getElem_toArray, List.getElem_cons_succ, List.getElem_cons_zero, List.setIfInBounds_toArray, List.set_cons_zero, List.set_cons_succ]
          refine wpAnyU_take (i := 6) (v := ?_) (by decide) rfl (by kernel_rfl) (by kernel_rfl) (by kernel_rfl) (fun _ _ _ h => h) (Steady.plain (by kernel_rfl) ?_) ?_
          rotate_left
          · intro b W hS
            have h0 := hS.2.2.cell 0
            have h1 := hS.2.2.cell 1
            have h2 := hS.2.2.cell 2
            have h3 := hS.2.2.cell 3
            have h4 := hS.2.2.cell 4
            go_simp
            first | done | with_reducible rfl
          simp only [Act.put, List.getElem_toArray, List.getElem_cons_succ, List.getElem_cons_zero, List.setIfInBounds_toArray, List.set_cons_zero, List.set_cons_succ]
          refine wpAnyU_take (i := 7) (v := ?_) (by decide) rfl (by kernel_rfl) (by kernel_rfl) (by kernel_rfl) (fun _ _ _ h => h) (Steady.plain (by kernel_rfl) ?_) ?_
          rotate_left
          · intro b W hS
            have h0 := hS.2.2.cell 0
            have h1 := hS.2.2.cell 1
            have h2 := hS.2.2.cell 2
            have h3 := hS.2.2.cell 3
            have h4 := hS.2.2.cell 4
            go_simp
            first | done | with_reducible rfl
          simp only [Act.put, List.getElem_toArray, List.getElem_cons_succ, List.getElem_cons_zero, List.setIfInBounds_toArray, List.set_cons_zero, List.set_cons_succ]
          refine wpAnyU_take (i := 8) (v := ?_) (by decide) rfl (by kernel_rfl) (by kernel_rfl) (by kernel_rfl) (fun _ _ _ h => h) (Steady.plain (by kernel_rfl) ?_) ?_
          rotate_left
          · intro b W hS
            have h0 := hS.2.2.cell 0
            have h1 := hS.2.2.cell 1
            have h2 := hS.2.2.cell 2
            have h3 := hS.2.2.cell 3
            have h4 := hS.2.2.cell 4
            go_simp
            first | done | with_reducible rfl
          simp only [Act.put, List.getElem_toArray, List.getElem_cons_succ, List.getElem_cons_zero, List.setIfInBounds_toArray, List.set_cons_zero, List.set_cons_succ]
          refine wpAnyU_take (i := 9) (v := ?_) (by decide) rfl (by kernel_rfl) (by kernel_rfl) (by kernel_rfl) (fun _ _ _ h => h) (Steady.plain (by kernel_rfl) ?_) ?_
          rotate_left
          · intro b W hS
            have h0 := hS.2.2.cell 0
            have h1 := hS.2.2.cell 1
            have h2 := hS.2.2.cell 2
            have h3 := hS.2.2.cell 3
            have h4 := hS.2.2.cell 4
            go_simp
            first | done | with_reducible rfl
          simp only [Act.put, List.getElem_toArray, List.getElem_cons_succ, List.getElem_cons_zero, List.setIfInBounds_toArray, List.set_cons_zero, List.set_cons_succ]
          refine wpAnyU_take (i := 10) (v := ?_) (by decide) rfl (by kernel_rfl) (by kernel_rfl) (by kernel_rfl) (fun _ _ _ h => h) (Steady.plain (by kernel_rfl) ?_) ?_
          rotate_left
          · intro b W hS
            have h0 := hS.2.2.cell 0
            have h1 := hS.2.2.cell 1
            have h2 := hS.2.2.cell 2
            have h3 := hS.2.2.cell 3
            have h4 := hS.2.2.cell 4
            go_simp
            first | done | with_reducible rfl
          simp only [Act.put, List.getElem_toArray, List.getElem_cons_succ, List.getElem_cons_zero, List.setIfInBounds_toArray, List.set_cons_zero, List.set_cons_succ]
          refine wpAnyU_take (i := 11) (v := ?_) (by decide) rfl (by kernel_rfl) (by kernel_rfl) (by kernel_rfl) (fun _ _ _ h => h) (Steady.plain (by kernel_rfl) ?_) ?_
          rotate_left
          · intro b W hS
            have h0 := hS.2.2.cell 0
            have h1 := hS.2.2.cell 1
            have h2 := hS.2.2.cell 2
            have h3 := hS.2.2.cell 3
            have h4 := hS.2.2.cell 4
            go_simp
            first | done | with_reducible rfl
          simp only [Act.put, List.getElem_toArray, List.getElem_cons_succ, List.getElem_cons_zero, List.setIfInBounds_toArray, List.set_cons_zero, List.set_cons_succ]
          refine wpAnyU_take (i := 12) (v := ?_) (by decide) rfl (by kernel_rfl) (by kernel_rfl) (by kernel_rfl) (fun _ _ _ h => h) (Steady.plain (by kernel_rfl) ?_) ?_
          rotate_left
          · intro b W hS
            have h0 := hS.2.2.cell 0
            have h1 := hS.2.2.cell 1
            have h2 := hS.2.2.cell 2
            have h3 := hS.2.2.cell 3
            have h4 := hS.2.2.cell 4
            go_simp
            first | done | with_reducible rfl
          simp only [Act.put, List.getElem_toArray, List.getElem_cons_succ, List.getElem_cons_zero, List.setIfInBounds_toArray, List.set_cons_zero, List.set_cons_succ]
          refine wpAnyU_take (i := 13) (v := ?_) (by decide) rfl (by kernel_rfl) (by kernel_rfl) (by kernel_rfl) (fun _ _ _ h => h) (Steady.plain (by kernel_rfl) ?_) ?_
          rotate_left
          · intro b W hS
            have h0 := hS.2.2.cell 0
            have h1 := hS.2.2.cell 1
            have h2 := hS.2.2.cell 2
            have h3 := hS.2.2.cell 3
            have h4 := hS.2.2.cell 4
            go_simp
            first | done | with_reducible rfl
          simp only [Act.put, List.getElem_toArray, List.getElem_cons_succ, List.getElem_cons_zero, List.setIfInBounds_toArray, List.set_cons_zero, List.set_cons_succ]
          refine wpAnyU_take (i := 14) (v := ?_) (by decide) rfl (by kernel_rfl) (by kernel_rfl) (by kernel_rfl) (fun _ _ _ h => h) (Steady.plain (by kernel_rfl) ?_) ?_
          rotate_left
          · intro b W hS
            have h0 := hS.2.2.cell 0
            have h1 := hS.2.2.cell 1
            have h2 := hS.2.2.cell 2
            have h3 := hS.2.2.cell 3
            have h4 := hS.2.2.cell 4
            go_simp
            first | done | with_reducible rfl
          simp only [Act.put, List.getElem_toArray, List.getElem_cons_succ, List.getElem_cons_zero, List.setIfInBounds_toArray, List.set_cons_zero, List.set_cons_succ]
          refine wpAnyU_take (i := 15) (v := ?_) (by decide) rfl (by kernel_rfl) (by kernel_rfl) (by kernel_rfl) (fun _ _ _ h => h) (Steady.plain (by kernel_rfl) ?_) ?_
          rotate_left
          · intro b W hS
            have h0 := hS.2.2.cell 0
            have h1 := hS.2.2.cell 1
            have h2 := hS.2.2.cell 2
            have h3 := hS.2.2.cell 3
            have h4 := hS.2.2.cell 4
            go_simp
            first | done | with_reducible rfl
          simp only [Act.put, List.getElem_toArray, List.getElem_cons_succ, List.getElem_cons_zero, List.setIfInBounds_toArray, List.set_cons_zero, List.set_cons_succ]
          refine wpAnyU_take (i := 16) (v := ?_) (by decide) rfl (by kernel_rfl) (by kernel_rfl) (by kernel_rfl) (fun _ _ _ h => h) (Steady.plain (by kernel_rfl) ?_) ?_
          rotate_left
          · intro b W hS
            have h0 := hS.2.2.cell 0
            have h1 := hS.2.2.cell 1
            have h2 := hS.2.2.cell 2
            have h3 := hS.2.2.cell 3
            have h4 := hS.2.2.cell 4
            go_simp
            first | done | with_reducible rfl
          simp only [Act.put, List.getElem_toArray, List.getElem_cons_succ, List.getElem_cons_zero, List.setIfInBounds_toArray, List.set_cons_zero, List.set_cons_succ]
          refine wpAnyU_take (i := 17) (v := .bool false) (by decide) rfl (by kernel_rfl) (by kernel_rfl) (by kernel_rfl) (fun _ _ _ h => h) (Steady.call (f := 29) (args := #[strV m]) (by kernel_rfl) (fun _ => by kernel_rfl) ?_) ?_
          · intro b W hS
            refine (CC.out W).mono ?_
            rintro e w' ⟨he, rfl⟩
            exact ⟨he, hS⟩
          simp only [Act.put, List.getElem_toArray, List.getElem_cons_succ, List.getElem_cons_zero, List.setIfInBounds_toArray, List.set_cons_zero, List.set_cons_succ]
          refine wpAnyU_take (i := 18) (v := ?_) (by decide) rfl (by kernel_rfl) (by kernel_rfl) (by kernel_rfl) (fun _ _ _ h => h) (Steady.plain (by kernel_rfl) ?_) ?_
          rotate_left
          · intro b W hS
            have h0 := hS.2.2.cell 0
            have h1 := hS.2.2.cell 1
            have h2 := hS.2.2.cell 2
            have h3 := hS.2.2.cell 3
            have h4 := hS.2.2.cell 4
            go_simp
            first | done | with_reducible rfl
          simp only [Act.put, List.getElem_toArray, List.getElem_cons_succ, List.getElem_cons_zero, List.setIfInBounds_toArray, List.set_cons_zero, List.set_cons_succ]
          refine wpAnyU_take (i := 19) (v := ?_) (by decide) rfl (by kernel_rfl) (by kernel_rfl) (by kernel_rfl) (fun _ _ _ h => h) (Steady.plain (by kernel_rfl) ?_) ?_
          rotate_left
          · intro b W hS
            have h0 := hS.2.2.cell 0
            have h1 := hS.2.2.cell 1
            have h2 := hS.2.2.cell 2
            have h3 := hS.2.2.cell 3
            have h4 := hS.2.2.cell 4
            go_simp
            first | done | with_reducible rfl
          simp only [Act.put, List.getElem_toArray, List.getElem_cons_succ, List.getElem_cons_zero, List.setIfInBounds_toArray, List.set_cons_zero, List.set_cons_succ]
          refine wpAnyU_take (i := 20) (by decide) rfl (by kernel_rfl) (by kernel_rfl) (by kernel_rfl) (fun _ _ _ h => h) (Steady.off (by kernel_rfl)) ?_
          simp only [Act.put, List.getElem_toArray, List.getElem_cons_succ, List.getElem_cons_zero, List.setIfInBounds_toArray, List.set_cons_zero, List.set_cons_succ]
          refine wpAnyU_take (i := 21) (by decide) rfl (by kernel_rfl) (by kernel_rfl) (by kernel_rfl) (fun _ _ _ h => h) (Steady.off (by kernel_rfl)) ?_
          simp only [Act.put, List.getElem_toArray, List.getElem_cons_succ, List.getElem_cons_zero, List.setIfInBounds_toArray, List.set_cons_zero, List.set_cons_succ]
          refine wpAnyU_take (i := 22) (by decide) rfl (by kernel_rfl) (by kernel_rfl) (by kernel_rfl) (fun _ _ _ h => h) (Steady.off (by kernel_rfl)) ?_
          simp only [Act.put, List.getElem_toArray, List.getElem_cons_succ, List.getElem_cons_zero, List.setIfInBounds_toArray, List.set_cons_zero, List.set_cons_succ]
          refine wpAnyU_take (i := 23) (by decide) rfl (by kernel_rfl) (by kernel_rfl) (by kernel_rfl) (fun _ _ _ h => h) (Steady.off (by kernel_rfl)) ?_
          simp only [Act.put, List.getElem_toArray, List.getElem_cons_succ, List.getElem_cons_zero, List.setIfInBounds_toArray, List.set_cons_zero, List.set_cons_succ]
          refine wpAnyU_take (i := 24) (by decide) rfl (by kernel_rfl) (by kernel_rfl) (by kernel_rfl) (fun _ _ _ h => h) (Steady.off (by kernel_rfl)) ?_
          simp only [Act.put, List.getElem_toArray, List.getElem_cons_succ, List.getElem_cons_zero, List.setIfInBounds_toArray, List.set_cons_zero, List.set_cons_succ]
          refine wpAnyU_take (i := 25) (by decide) rfl (by kernel_rfl) (by kernel_rfl) (by kernel_rfl) (fun _ _ _ h => h) (Steady.off (by kernel_rfl)) ?_
          simp only [Act.put, List.getElem_toArray, List.getElem_cons_succ, List.getElem_cons_zero, List.setIfInBounds_toArray, List.set_cons_zero, List.set_cons_succ]
          refine wpAnyU_take (i := 26) (v := ?_) (by decide) rfl (by kernel_rfl) (by kernel_rfl) (by kernel_rfl) (fun _ _ _ h => h) (Steady.plain (by kernel_rfl) ?_) ?_
          rotate_left
          · intro b W hS
            have h0 := hS.2.2.cell 0
            have h1 := hS.2.2.cell 1
            have h2 := hS.2.2.cell 2
            have h3 := hS.2.2.cell 3
            have h4 := hS.2.2.cell 4
            go_simp
            first | done | with_reducible rfl
          simp only [Act.put, List.getElem_toArray, List.getElem_cons_succ, List.getElem_cons_zero, List.setIfInBounds_toArray, List.set_cons_zero, List.set_cons_succ]
          refine wpAnyU_take (i := 27) (v := ?_) (by decide) rfl (by kernel_rfl) (by kernel_rfl) (by kernel_rfl) (fun _ _ _ h => h) (Steady.plain (by kernel_rfl) ?_) ?_
          rotate_left
          · intro b W hS
            have h0 := hS.2.2.cell 0
            have h1 := hS.2.2.cell 1
            have h2 := hS.2.2.cell 2
            have h3 := hS.2.2.cell 3
            have h4 := hS.2.2.cell 4
            go_simp
            first | done | with_reducible rfl
          simp only [Act.put, List.getElem_toArray, List.getElem_cons_succ, List.getElem_cons_zero, List.setIfInBounds_toArray, List.set_cons_zero, List.set_cons_succ]
          refine wpAnyU_done (b := []) (by kernel_rfl) (by kernel_rfl) ?_ _
          intro w2 hS
          go_wp2_with fail
          go_ret
          exact ⟨rfl, hS.1⟩
        · obtain ⟨q, hq⟩ : ∃ q, (T == m) = q := ⟨_, rfl⟩
          obtain rfl : R = q := by rw [HQ2.out, d2, d3, d5, hq]; rfl
          clear HQ2 s1 s2 s3 d5
          go_enter Tryz.func10, Tryz.ntmps10
          go_wp2_with fail
          rw [← hW]
          clear hW
          refine (CF.out _ (HR.out.below hbW)).mono ?_
          rintro e w1 ⟨rfl, hb1⟩
          have hg1 := hg.below hb1
          have hbb := chain2 hbW hbW.size hb1
          clear hg hbW hb1
          go_wp2_with fail
          refine wp_region_U [] (by kernel_rfl) (BoxS w w.heap.size w.heap.size #[strV m, strV t, .int .i64 st, .int .i64 z, .slice ao L.length cap] 33) (b := []) (by kernel_rfl) (BoxS.drew (W := w1) ⟨hbb, hbb.size, hg1⟩) ?_
          refine wpAnyU_take (i := 0) (v := ?_) (by decide) rfl (by kernel_rfl) (by kernel_rfl) (by kernel_rfl) (fun _ _ _ h => h) (Steady.plain (by kernel_rfl) ?_) ?_
          rotate_left
          · intro b W hS
            have h0 := hS.2.2.cell 0
            have h1 := hS.2.2.cell 1
            have h2 := hS.2.2.cell 2
            have h3 := hS.2.2.cell 3
            have h4 := hS.2.2.cell 4
            go_simp
            first | done | with_reducible rfl
          simp only [Act.put, List.getElem_toArray, List.getElem_cons_zero, List.setIfInBounds_toArray, List.set_cons_zero, List.set_cons_succ]
          refine wpAnyU_take (i := 1) (v := ?_) (by decide) rfl (by kernel_rfl) (by kernel_rfl) (by kernel_rfl) (fun _ _ _ h => h) (Steady.plain (by kernel_rfl) ?_) ?_
          rotate_left
          · intro b W hS
            have h0 := hS.2.2.cell 0
            have h1 := hS.2.2.cell 1
            have h2 := hS.2.2.cell 2
            have h3 := hS.2.2.cell 3
            have h4 := hS.2.2.cell 4
            go_simp
            first | done | with_reducible rfl
          simp only [Act.put, List.getElem_toArray, List.getElem_cons_succ, List.getElem_cons_zero, List.setIfInBounds_toArray, List.set_cons_zero, List.set_cons_succ]
          refine wpAnyU_take (i := 2) (v := ?_) (by decide) rfl (by kernel_rfl) (by kernel_rfl) (by kernel_rfl) (fun _ _ _ h => h) (Steady.plain (by kernel_rfl) ?_) ?_
          rotate_left
          · intro b W hS
            have h0 := hS.2.2.cell 0
            have h1 := hS.2.2.cell 1
            have h2 := hS.2.2.cell 2
            have h3 := hS.2.2.cell 3
            have h4 := hS.2.2.cell 4
            go_simp
            first | done | with_reducible rfl
          simp only [Act.put, List.getElem_toArray, List.getElem_cons_succ, List.getElem_cons_zero, List.setIfInBounds_toArray, List.set_cons_zero, List.set_cons_succ]
          refine wpAnyU_take (i := 3) (v := ?_) (by decide) rfl (by kernel_rfl) (by kernel_rfl) (by kernel_rfl) (fun _ _ _ h => h) (Steady.plain (by kernel_rfl) ?_) ?_
          rotate_left
          · intro b W hS
            have h0 := hS.2.2.cell 0
            have h1 := hS.2.2.cell 1
            have h2 := hS.2.2.cell 2
            have h3 := hS.2.2.cell 3
            have h4 := hS.2.2.cell 4
            go_simp
            first | done | with_reducible rfl
          simp only [Act.put, List.getElem_toArray, List.getElem_cons_succ, List.getElem_cons_zero, List.setIfInBounds_toArray, List.set_cons_zero, List.set_cons_succ]
          refine wpAnyU_take (i := 4) (v := ?_) (by decide) rfl (by kernel_rfl) (by kernel_rfl) (by kernel_rfl) (fun _ _ _ h => h) (Steady.plain (by kernel_rfl) ?_) ?_
          rotate_left
          · intro b W hS
            have h0 := hS.2.2.cell 0
            have h1 := hS.2.2.cell 1
            have h2 := hS.2.2.cell 2
            have h3 := hS.2.2.cell 3
            have h4 := hS.2.2.cell 4
            go_simp
            first | done | with_reducible rfl
          simp only [Act.put, List.getElem_toArray, List.getElem_cons_succ, List.getElem_cons_zero, List.setIfInBounds_toArray, List.set_cons_zero, List.set_cons_succ]
          refine wpAnyU_take (i := 5) (v := ?_) (by decide) rfl (by kernel_rfl) (by kernel_rfl) (by kernel_rfl) (fun _ _ _ h => h) (Steady.plain (by kernel_rfl) ?_) ?_
          rotate_left
          · intro b W hS
            have h0 := hS.2.2.cell 0
            have h1 := hS.2.2.cell 1
            have h2 := hS.2.2.cell 2
            have h3 := hS.2.2.cell 3
            have h4 := hS.2.2.cell 4
            go_simp
            first | done | with_reducible rfl
          simp only [Act.put, List.getElem_toArray, List.getElem_cons_succ, List.getElem_cons_zero, List.setIfInBounds_toArray, List.set_cons_zero, List.set_cons_succ]
          refine wpAnyU_take (i := 6) (v := ?_) (by decide) rfl (by kernel_rfl) (by kernel_rfl) (by kernel_rfl) (fun _ _ _ h => h) (Steady.plain (by kernel_rfl) ?_) ?_
          rotate_left
          · intro b W hS
            have h0 := hS.2.2.cell 0
            have h1 := hS.2.2.cell 1
            have h2 := hS.2.2.cell 2
            have h3 := hS.2.2.cell 3
            have h4 := hS.2.2.cell 4
            go_simp
            first | done | with_reducible rfl
          simp only [Act.put, List.getElem_toArray, List.getElem_cons_succ, List.getElem_cons_zero, List.setIfInBounds_toArray, List.set_cons_zero, List.set_cons_succ]
          refine wpAnyU_take (i := 7) (v := ?_) (by decide) rfl (by kernel_rfl) (by kernel_rfl) (by kernel_rfl) (fun _ _ _ h => h) (Steady.plain (by kernel_rfl) ?_) ?_
          rotate_left
          · intro b W hS
            have h0 := hS.2.2.cell 0
            have h1 := hS.2.2.cell 1
            have h2 := hS.2.2.cell 2
            have h3 := hS.2.2.cell 3
            have h4 := hS.2.2.cell 4
            go_simp
            first | done | with_reducible rfl
          simp only [Act.put, List.getElem_toArray, List.getElem_cons_succ, List.getElem_cons_zero, List.setIfInBounds_toArray, List.set_cons_zero, List.set_cons_succ]
          refine wpAnyU_take (i := 8) (v := ?_) (by decide) rfl (by kernel_rfl) (by kernel_rfl) (by kernel_rfl) (fun _ _ _ h => h) (Steady.plain (by kernel_rfl) ?_) ?_
          rotate_left
          · intro b W hS
            have h0 := hS.2.2.cell 0
            have h1 := hS.2.2.cell 1
            have h2 := hS.2.2.cell 2
            have h3 := hS.2.2.cell 3
            have h4 := hS.2.2.cell 4
            go_simp
            first | done | with_reducible rfl
          simp only [Act.put, List.getElem_toArray, List.getElem_cons_succ, List.getElem_cons_zero, List.setIfInBounds_toArray, List.set_cons_zero, List.set_cons_succ]
          refine wpAnyU_take (i := 9) (v := ?_) (by decide) rfl (by kernel_rfl) (by kernel_rfl) (by kernel_rfl) (fun _ _ _ h => h) (Steady.plain (by kernel_rfl) ?_) ?_
          rotate_left
          · intro b W hS
            have h0 := hS.2.2.cell 0
            have h1 := hS.2.2.cell 1
            have h2 := hS.2.2.cell 2
            have h3 := hS.2.2.cell 3
            have h4 := hS.2.2.cell 4
            go_simp
            first | done | with_reducible rfl
          simp only [Act.put, List.getElem_toArray, List.getElem_cons_succ, List.getElem_cons_zero, List.setIfInBounds_toArray, List.set_cons_zero, List.set_cons_succ]
          refine wpAnyU_take (i := 10) (v := ?_) (by decide) rfl (by kernel_rfl) (by kernel_rfl) (by kernel_rfl) (fun _ _ _ h => h) (Steady.plain (by kernel_rfl) ?_) ?_
          rotate_left
          · intro b W hS
            have h0 := hS.2.2.cell 0
            have h1 := hS.2.2.cell 1
            have h2 := hS.2.2.cell 2
            have h3 := hS.2.2.cell 3
            have h4 := hS.2.2.cell 4
            go_simp
            first | done | with_reducible rfl
          simp only [Act.put, List.getElem_toArray, List.getElem_cons_succ, List.getElem_cons_zero, List.setIfInBounds_toArray, List.set_cons_zero, List.set_cons_succ]
          refine wpAnyU_take (i := 11) (v := ?_) (by decide) rfl (by kernel_rfl) (by kernel_rfl) (by kernel_rfl) (fun _ _ _ h => h) (Steady.plain (by kernel_rfl) ?_) ?_
          rotate_left
          · intro b W hS
            have h0 := hS.2.2.cell 0
            have h1 := hS.2.2.cell 1
            have h2 := hS.2.2.cell 2
            have h3 := hS.2.2.cell 3
            have h4 := hS.2.2.cell 4
            go_simp
            first | done | with_reducible rfl
          simp only [Act.put, List.getElem_toArray, List.getElem_cons_succ, List.getElem_cons_zero, List.setIfInBounds_toArray, List.set_cons_zero, List.set_cons_succ]
          refine wpAnyU_take (i := 12) (v := ?_) (by decide) rfl (by kernel_rfl) (by kernel_rfl) (by kernel_rfl) (fun _ _ _ h => h) (Steady.plain (by kernel_rfl) ?_) ?_
          rotate_left
          · intro b W hS
            have h0 := hS.2.2.cell 0
            have h1 := hS.2.2.cell 1
            have h2 := hS.2.2.cell 2
            have h3 := hS.2.2.cell 3
            have h4 := hS.2.2.cell 4
            go_simp
            first | done | with_reducible rfl
          simp only [Act.put, List.getElem_toArray, List.getElem_cons_succ, List.getElem_cons_zero, List.setIfInBounds_toArray, List.set_cons_zero, List.set_cons_succ]
          refine wpAnyU_take (i := 13) (v := ?_) (by decide) rfl (by kernel_rfl) (by kernel_rfl) (by kernel_rfl) (fun _ _ _ h => h) (Steady.plain (by kernel_rfl) ?_) ?_
          rotate_left
          · intro b W hS
            have h0 := hS.2.2.cell 0
            have h1 := hS.2.2.cell 1
            have h2 := hS.2.2.cell 2
            have h3 := hS.2.2.cell 3
            have h4 := hS.2.2.cell 4
            go_simp
            first | done | with_reducible rfl
          simp only [Act.put, List.getElem_toArray, List.getElem_cons_succ, List.getElem_cons_zero, List.setIfInBounds_toArray, List.set_cons_zero, List.set_cons_succ]
          refine wpAnyU_take (i := 14) (v := ?_) (by decide) rfl (by kernel_rfl) (by kernel_rfl) (by kernel_rfl) (fun _ _ _ h => h) (Steady.plain (by kernel_rfl) ?_) ?_
          rotate_left
          · intro b W hS
            have h0 := hS.2.2.cell 0
            have h1 := hS.2.2.cell 1
            have h2 := hS.2.2.cell 2
            have h3 := hS.2.2.cell 3
            have h4 := hS.2.2.cell 4
            go_simp
            first | done | with_reducible rfl
          simp only [Act.put, List.getElem_toArray, List.getElem_cons_succ, List.getElem_cons_zero, List.setIfInBounds_toArray, List.set_cons_zero, List.set_cons_succ]
          refine wpAnyU_take (i := 15) (v := ?_) (by decide) rfl (by kernel_rfl) (by kernel_rfl) (by kernel_rfl) (fun _ _ _ h => h) (Steady.plain (by kernel_rfl) ?_) ?_
          rotate_left
          · intro b W hS
            have h0 := hS.2.2.cell 0
            have h1 := hS.2.2.cell 1
            have h2 := hS.2.2.cell 2
            have h3 := hS.2.2.cell 3
            have h4 := hS.2.2.cell 4
            go_simp
            first | done | with_reducible rfl
          simp only [Act.put, List.getElem_toArray, List.getElem_cons_succ, List.getElem_cons_zero, List.setIfInBounds_toArray, List.set_cons_zero, List.set_cons_succ]
          refine wpAnyU_take (i := 16) (v := ?_) (by decide) rfl (by kernel_rfl) (by kernel_rfl) (by kernel_rfl) (fun _ _ _ h => h) (Steady.plain (by kernel_rfl) ?_) ?_
          rotate_left
          · intro b W hS
            have h0 := hS.2.2.cell 0
            have h1 := hS.2.2.cell 1
            have h2 := hS.2.2.cell 2
            have h3 := hS.2.2.cell 3
            have h4 := hS.2.2.cell 4
            go_simp
            first | done | with_reducible rfl
          simp only [Act.put, List.getElem_toArray, List.getElem_cons_succ, List.getElem_cons_zero, List.setIfInBounds_toArray, List.set_cons_zero, List.set_cons_succ]
          refine wpAnyU_take (i := 17) (v := .bool true) (by decide) rfl (by kernel_rfl) (by kernel_rfl) (by kernel_rfl) (fun _ _ _ h => h) (Steady.call (f := 29) (args := #[strV m]) (by kernel_rfl) (fun _ => by kernel_rfl) ?_) ?_
          · intro b W hS
            refine (CC.out W).mono ?_
            rintro e w' ⟨he, rfl⟩
            exact ⟨he, hS⟩
          simp only [Act.put, List.getElem_toArray, List.getElem_cons_succ, List.getElem_cons_zero, List.setIfInBounds_toArray, List.set_cons_zero, List.set_cons_succ]
          refine wpAnyU_take (i := 18) (v := ?_) (by decide) rfl (by kernel_rfl) (by kernel_rfl) (by kernel_rfl) (fun _ _ _ h => h) (Steady.plain (by kernel_rfl) ?_) ?_
          rotate_left
          · intro b W hS
            have h0 := hS.2.2.cell 0
            have h1 := hS.2.2.cell 1
            have h2 := hS.2.2.cell 2
            have h3 := hS.2.2.cell 3
            have h4 := hS.2.2.cell 4
            go_simp
            first | done | with_reducible rfl
          simp only [Act.put, List.getElem_toArray, List.getElem_cons_succ, List.getElem_cons_zero, List.setIfInBounds_toArray, List.set_cons_zero, List.set_cons_succ]
          refine wpAnyU_take (i := 19) (v := ?_) (by decide) rfl (by kernel_rfl) (by kernel_rfl) (by kernel_rfl) (fun _ _ _ h => h) (Steady.plain (by kernel_rfl) ?_) ?_
          rotate_left
          · intro b W hS
            have h0 := hS.2.2.cell 0
            have h1 := hS.2.2.cell 1
            have h2 := hS.2.2.cell 2
            have h3 := hS.2.2.cell 3
            have h4 := hS.2.2.cell 4
            go_simp
            first | done | with_reducible rfl
          simp only [Act.put, List.getElem_toArray, List.getElem_cons_succ, List.getElem_cons_zero, List.setIfInBounds_toArray, List.set_cons_zero, List.set_cons_succ]
          refine wpAnyU_take (i := 20) (v := ?_) (by decide) rfl (by kernel_rfl) (by kernel_rfl) (by kernel_rfl) (fun _ _ _ h => h) (Steady.plain (by kernel_rfl) ?_) ?_
          rotate_left
          · intro b W hS
            have h0 := hS.2.2.cell 0
            have h1 := hS.2.2.cell 1
            have h2 := hS.2.2.cell 2
            have h3 := hS.2.2.cell 3
            have h4 := hS.2.2.cell 4
            go_simp
            first | done | with_reducible rfl
          simp only [Act.put, List.getElem_toArray, List.getElem_cons_succ, List.getElem_cons_zero, List.setIfInBounds_toArray, List.set_cons_zero, List.set_cons_succ]
          refine wpAnyU_take (i := 21) (v := ?_) (by decide) rfl (by kernel_rfl) (by kernel_rfl) (by kernel_rfl) (fun _ _ _ h => h) (Steady.plain (by kernel_rfl) ?_) ?_
          rotate_left
          · intro b W hS
            have h0 := hS.2.2.cell 0
            have h1 := hS.2.2.cell 1
            have h2 := hS.2.2.cell 2
            have h3 := hS.2.2.cell 3
            have h4 := hS.2.2.cell 4
            go_simp
            first | done | with_reducible rfl
          simp only [Act.put, List.getElem_toArray, List.getElem_cons_succ, List.getElem_cons_zero, List.setIfInBounds_toArray, List.set_cons_zero, List.set_cons_succ]
          refine wpAnyU_take (i := 22) (v := strV T) (by decide) rfl (by kernel_rfl) (by kernel_rfl) (by kernel_rfl) (fun _ _ _ h => h) (Steady.call (f := 30) (args := #[strV m]) (by kernel_rfl) (fun _ => by kernel_rfl) ?_) ?_
          · intro b W hS
            refine (CT.out W).mono ?_
            rintro e w' ⟨he, rfl⟩
            exact ⟨he, hS⟩
          simp only [Act.put, List.getElem_toArray, List.getElem_cons_succ, List.getElem_cons_zero, List.setIfInBounds_toArray, List.set_cons_zero, List.set_cons_succ]
          refine wpAnyU_take (i := 23) (v := ?_) (by decide) rfl (by kernel_rfl) (by kernel_rfl) (by kernel_rfl) (fun _ _ _ h => h) (Steady.plain (by kernel_rfl) ?_) ?_
          rotate_left
          · intro b W hS
            have h0 := hS.2.2.cell 0
            have h1 := hS.2.2.cell 1
            have h2 := hS.2.2.cell 2
            have h3 := hS.2.2.cell 3
            have h4 := hS.2.2.cell 4
            go_simp
            first | done | with_reducible rfl
          simp only [Act.put, List.getElem_toArray, List.getElem_cons_succ, List.getElem_cons_zero, List.setIfInBounds_toArray, List.set_cons_zero, List.set_cons_succ]
          refine wpAnyU_take (i := 24) (v := ?_) (by decide) rfl (by kernel_rfl) (by kernel_rfl) (by kernel_rfl) (fun _ _ _ h => h) (Steady.plain (by kernel_rfl) ?_) ?_
          rotate_left
          · intro b W hS
            have h0 := hS.2.2.cell 0
            have h1 := hS.2.2.cell 1
            have h2 := hS.2.2.cell 2
            have h3 := hS.2.2.cell 3
            have h4 := hS.2.2.cell 4
            go_simp
            first | done | with_reducible rfl
          simp only [Act.put, List.getElem_toArray, List.getElem_cons_succ, List.getElem_cons_zero, List.setIfInBounds_toArray, List.set_cons_zero, List.set_cons_succ]
          refine wpAnyU_take (i := 25) (v := ?_) (by decide) rfl (by kernel_rfl) (by kernel_rfl) (by kernel_rfl) (fun _ _ _ h => h) (Steady.plain (by kernel_rfl) ?_) ?_
          rotate_left
          · intro b W hS
            have h0 := hS.2.2.cell 0
            have h1 := hS.2.2.cell 1
            have h2 := hS.2.2.cell 2
            have h3 := hS.2.2.cell 3
            have h4 := hS.2.2.cell 4
            go_simp
            first | done | with_reducible rfl
          simp only [Act.put, List.getElem_toArray, List.getElem_cons_succ, List.getElem_cons_zero, List.setIfInBounds_toArray, List.set_cons_zero, List.set_cons_succ]
          refine wpAnyU_take (i := 26) (v := ?_) (by decide) rfl (by kernel_rfl) (by kernel_rfl) (by kernel_rfl) (fun _ _ _ h => h) (Steady.plain (by kernel_rfl) ?_) ?_
          rotate_left
          · intro b W hS
            have h0 := hS.2.2.cell 0
            have h1 := hS.2.2.cell 1
            have h2 := hS.2.2.cell 2
            have h3 := hS.2.2.cell 3
            have h4 := hS.2.2.cell 4
            go_simp
            first | done | with_reducible rfl
          simp only [Act.put, List.getElem_toArray, List.getElem_cons_succ, List.getElem_cons_zero, List.setIfInBounds_toArray, List.set_cons_zero, List.set_cons_succ]
          refine wpAnyU_take (i := 27) (v := ?_) (by decide) rfl (by kernel_rfl) (by kernel_rfl) (by kernel_rfl) (fun _ _ _ h => h) (Steady.plain (by kernel_rfl) ?_) ?_
          rotate_left
          · intro b W hS
            have h0 := hS.2.2.cell 0
            have h1 := hS.2.2.cell 1
            have h2 := hS.2.2.cell 2
            have h3 := hS.2.2.cell 3
            have h4 := hS.2.2.cell 4
            go_simp
            first | done | with_reducible rfl
          simp only [Act.put, List.getElem_toArray, List.getElem_cons_succ, List.getElem_cons_zero, List.setIfInBounds_toArray, List.set_cons_zero, List.set_cons_succ]
          refine wpAnyU_done (b := []) (by kernel_rfl) (by kernel_rfl) ?_ _
          intro w2 hS
          go_wp2_with fail
          go_ret
          exact ⟨rfl, hS.1⟩
      · obtain rfl : R = false := by rw [HQ2.out, decide_eq_false (show ¬ m.length ≤ 64 by omega)]; simp
        have d4 : decide ((m.length : Int) ≤ 64) = false := decide_eq_false s3
        clear HQ2 s1 s2 s3
        go_enter Tryz.func10, Tryz.ntmps10
        go_wp2_with fail
        rw [← hW]
        clear hW
        refine (CF.out _ (HR.out.below hbW)).mono ?_
        rintro e w1 ⟨rfl, hb1⟩
        have hg1 := hg.below hb1
        have hbb := chain2 hbW hbW.size hb1
        clear hg hbW hb1
        go_wp2_with fail
        refine wp_region_U [] (by kernel_rfl) (BoxS w w.heap.size w.heap.size #[strV m, strV t, .int .i64 st, .int .i64 z, .slice ao L.length cap] 33) (b := []) (by kernel_rfl) (BoxS.drew (W := w1) ⟨hbb, hbb.size, hg1⟩) ?_
        refine wpAnyU_take (i := 0) (v := ?_) (by decide) rfl (by kernel_rfl) (by kernel_rfl) (by kernel_rfl) (fun _ _ _ h => h) (Steady.plain (by kernel_rfl) ?_) ?_
        rotate_left
        · intro b W hS
          have h0 := hS.2.2.cell 0
          have h1 := hS.2.2.cell 1
          have h2 := hS.2.2.cell 2
          have h3 := hS.2.2.cell 3
          have h4 := hS.2.2.cell 4
          go_simp
          first | done | with_reducible rfl
        simp only [Act.put, List.getElem_toArray, List.getElem_cons_zero, List.setIfInBounds_toArray, List.set_cons_zero, List.set_cons_succ]
        refine wpAnyU_take (i := 1) (v := ?_) (by decide) rfl (by kernel_rfl) (by kernel_rfl) (by kernel_rfl) (fun _ _ _ h => h) (Steady.plain (by kernel_rfl) ?_) ?_
        rotate_left
        · intro b W hS
          have h0 := hS.2.2.cell 0
          have h1 := hS.2.2.cell 1
          have h2 := hS.2.2.cell 2
          have h3 := hS.2.2.cell 3
          have h4 := hS.2.2.cell 4
          go_simp
          first | done | with_reducible rfl
        simp only [Act.put, List.getElem_toArray, List.getElem_cons_succ, List.getElem_cons_zero, List.setIfInBounds_toArray, List.set_cons_zero, List.set_cons_succ]
        refine wpAnyU_take (i := 2) (v := ?_) (by decide) rfl (by kernel_rfl) (by kernel_rfl) (by kernel_rfl) (fun _ _ _ h => h) (Steady.plain (by kernel_rfl) ?_) ?_
        rotate_left
        · intro b W hS
          have h0 := hS.2.2.cell 0
          have h1 := hS.2.2.cell 1
          have h2 := hS.2.2.cell 2
          have h3 := hS.2.2.cell 3
          have h4 := hS.2.2.cell 4
          go_simp
          first | done | with_reducible rfl
        simp only [Act.put, List.getElem_toArray, List.getElem_cons_succ, List.getElem_cons_zero, List.setIfInBounds_toArray, List.set_cons_zero, List.set_cons_succ]
        refine wpAnyU_take (i := 3) (v := ?_) (by decide) rfl (by kernel_rfl) (by kernel_rfl) (by kernel_rfl) (fun _ _ _ h => h) (Steady.plain (by kernel_rfl) ?_) ?_
        rotate_left
        · intro b W hS
          have h0 := hS.2.2.cell 0
          have h1 := hS.2.2.cell 1
          have h2 := hS.2.2.cell 2
          have h3 := hS.2.2.cell 3
          have h4 := hS.2.2.cell 4
          go_simp
          first | done | with_reducible rfl
        simp only [Act.put, List.getElem_toArray, List.getElem_cons_succ, List.getElem_cons_zero, List.setIfInBounds_toArray, List.set_cons_zero, List.set_cons_succ]
        refine wpAnyU_take (i := 4) (v := ?_) (by decide) rfl (by kernel_rfl) (by kernel_rfl) (by kernel_rfl) (fun _ _ _ h => h) (Steady.plain (by kernel_rfl) ?_) ?_
        rotate_left
        · intro b W hS
          have h0 := hS.2.2.cell 0
          have h1 := hS.2.2.cell 1
          have h2 := hS.2.2.cell 2
          have h3 := hS.2.2.cell 3
          have h4 := hS.2.2.cell 4
          go_simp
          first | done | with_reducible rfl
        simp only [Act.put, List.getElem_toArray, List.getElem_cons_succ, List.getElem_cons_zero, List.setIfInBounds_toArray, List.set_cons_zero, List.set_cons_succ]
        refine wpAnyU_take (i := 5) (v := ?_) (by decide) rfl (by kernel_rfl) (by kernel_rfl) (by kernel_rfl) (fun _ _ _ h => h) (Steady.plain (by kernel_rfl) ?_) ?_
        rotate_left
        · intro b W hS
          have h0 := hS.2.2.cell 0
          have h1 := hS.2.2.cell 1
          have h2 := hS.2.2.cell 2
          have h3 := hS.2.2.cell 3
          have h4 := hS.2.2.cell 4
          go_simp
          first | done | with_reducible rfl
        simp only [Act.put, List.getElem_toArray, List.getElem_cons_succ, List.getElem_cons_zero, List.setIfInBounds_toArray, List.set_cons_zero, List.set_cons_succ]
        refine wpAnyU_take (i := 6) (v := ?_) (by decide) rfl (by kernel_rfl) (by kernel_rfl) (by kernel_rfl) (fun _ _ _ h => h) (Steady.plain (by kernel_rfl) ?_) ?_
        rotate_left
        · intro b W hS
          have h0 := hS.2.2.cell 0
          have h1 := hS.2.2.cell 1
          have h2 := hS.2.2.cell 2
          have h3 := hS.2.2.cell 3
          have h4 := hS.2.2.cell 4
          go_simp
          first | done | with_reducible rfl
        simp only [Act.put, List.getElem_toArray, List.getElem_cons_succ, List.getElem_cons_zero, List.setIfInBounds_toArray, List.set_cons_zero, List.set_cons_succ]
        refine wpAnyU_take (i := 7) (v := ?_) (by decide) rfl (by kernel_rfl) (by kernel_rfl) (by kernel_rfl) (fun _ _ _ h => h) (Steady.plain (by kernel_rfl) ?_) ?_
        rotate_left
        · intro b W hS
          have h0 := hS.2.2.cell 0
          have h1 := hS.2.2.cell 1
          have h2 := hS.2.2.cell 2
          have h3 := hS.2.2.cell 3
          have h4 := hS.2.2.cell 4
          go_simp
          first | done | with_reducible rfl
        simp only [Act.put, List.getElem_toArray, List.getElem_cons_succ, List.getElem_cons_zero, List.setIfInBounds_toArray, List.set_cons_zero, List.set_cons_succ]
        refine wpAnyU_take (i := 8) (v := ?_) (by decide) rfl (by kernel_rfl) (by kernel_rfl) (by kernel_rfl) (fun _ _ _ h => h) (Steady.plain (by kernel_rfl) ?_) ?_
        rotate_left
        · intro b W hS
          have h0 := hS.2.2.cell 0
          have h1 := hS.2.2.cell 1
          have h2 := hS.2.2.cell 2
          have h3 := hS.2.2.cell 3
          have h4 := hS.2.2.cell 4
          go_simp
          first | done | with_reducible rfl
        simp only [Act.put, List.getElem_toArray, List.getElem_cons_succ, List.getElem_cons_zero, List.setIfInBounds_toArray, List.set_cons_zero, List.set_cons_succ]
        refine wpAnyU_take (i := 9) (v := ?_) (by decide) rfl (by kernel_rfl) (by kernel_rfl) (by kernel_rfl) (fun _ _ _ h => h) (Steady.plain (by kernel_rfl) ?_) ?_
        rotate_left
        · intro b W hS
          have h0 := hS.2.2.cell 0
          have h1 := hS.2.2.cell 1
          have h2 := hS.2.2.cell 2
          have h3 := hS.2.2.cell 3
          have h4 := hS.2.2.cell 4
          go_simp
          first | done | with_reducible rfl
        simp only [Act.put, List.getElem_toArray, List.getElem_cons_succ, List.getElem_cons_zero, List.setIfInBounds_toArray, List.set_cons_zero, List.set_cons_succ]
        refine wpAnyU_take (i := 10) (v := ?_) (by decide) rfl (by kernel_rfl) (by kernel_rfl) (by kernel_rfl) (fun _ _ _ h => h) (Steady.plain (by kernel_rfl) ?_) ?_
        rotate_left
        · intro b W hS
          have h0 := hS.2.2.cell 0
          have h1 := hS.2.2.cell 1
          have h2 := hS.2.2.cell 2
          have h3 := hS.2.2.cell 3
          have h4 := hS.2.2.cell 4
          go_simp
          first | done | with_reducible rfl
        simp only [Act.put, List.getElem_toArray, List.getElem_cons_succ, List.getElem_cons_zero, List.setIfInBounds_toArray, List.set_cons_zero, List.set_cons_succ]
        refine wpAnyU_take (i := 11) (v := ?_) (by decide) rfl (by kernel_rfl) (by kernel_rfl) (by kernel_rfl) (fun _ _ _ h => h) (Steady.plain (by kernel_rfl) ?_) ?_
        rotate_left
        · intro b W hS
          have h0 := hS.2.2.cell 0
          have h1 := hS.2.2.cell 1
          have h2 := hS.2.2.cell 2
          have h3 := hS.2.2.cell 3
          have h4 := hS.2.2.cell 4
          go_simp
          first | done | with_reducible rfl
        simp only [Act.put, List.getElem_toArray, List.getElem_cons_succ, List.getElem_cons_zero, List.setIfInBounds_toArray, List.set_cons_zero, List.set_cons_succ]
        refine wpAnyU_take (i := 12) (v := ?_) (by decide) rfl (by kernel_rfl) (by kernel_rfl) (by kernel_rfl) (fun _ _ _ h => h) (Steady.plain (by kernel_rfl) ?_) ?_
        rotate_left
        · intro b W hS
          have h0 := hS.2.2.cell 0
          have h1 := hS.2.2.cell 1
          have h2 := hS.2.2.cell 2
          have h3 := hS.2.2.cell 3
          have h4 := hS.2.2.cell 4
          go_simp
          first | done | with_reducible rfl
        simp only [Act.put, List.getElem_toArray, List.getElem_cons_succ, List.getElem_cons_zero, List.setIfInBounds_toArray, List.set_cons_zero, List.set_cons_succ]
        refine wpAnyU_take (i := 13) (v := ?_) (by decide) rfl (by kernel_rfl) (by kernel_rfl) (by kernel_rfl) (fun _ _ _ h => h) (Steady.plain (by kernel_rfl) ?_) ?_
        rotate_left
        · intro b W hS
          have h0 := hS.2.2.cell 0
          have h1 := hS.2.2.cell 1
          have h2 := hS.2.2.cell 2
          have h3 := hS.2.2.cell 3
          have h4 := hS.2.2.cell 4
          go_simp
          first | done | with_reducible rfl
        simp only [Act.put, List.getElem_toArray, List.getElem_cons_succ, List.getElem_cons_zero, List.setIfInBounds_toArray, List.set_cons_zero, List.set_cons_succ]
        refine wpAnyU_take (i := 14) (v := ?_) (by decide) rfl (by kernel_rfl) (by kernel_rfl) (by kernel_rfl) (fun _ _ _ h => h) (Steady.plain (by kernel_rfl) ?_) ?_
        rotate_left
        · intro b W hS
          have h0 := hS.2.2.cell 0
          have h1 := hS.2.2.cell 1
          have h2 := hS.2.2.cell 2
          have h3 := hS.2.2.cell 3
          have h4 := hS.2.2.cell 4
          go_simp
          first | done | with_reducible rfl
        simp only [Act.put, List.getElem_toArray, List.getElem_cons_succ, List.getElem_cons_zero, List.setIfInBounds_toArray, List.set_cons_zero, List.set_cons_succ]
        refine wpAnyU_take (i := 15) (by decide) rfl (by kernel_rfl) (by kernel_rfl) (by kernel_rfl) (fun _ _ _ h => h) (Steady.off (by kernel_rfl)) ?_
        simp only [Act.put, List.getElem_toArray, List.getElem_cons_succ, List.getElem_cons_zero, List.setIfInBounds_toArray, List.set_cons_zero, List.set_cons_succ]
        refine wpAnyU_take (i := 16) (by decide) rfl (by kernel_rfl) (by kernel_rfl) (by kernel_rfl) (fun _ _ _ h => h) (Steady.off (by kernel_rfl)) ?_
        simp only [Act.put, List.getElem_toArray, List.getElem_cons_succ, List.getElem_cons_zero, List.setIfInBounds_toArray, List.set_cons_zero, List.set_cons_succ]
        refine wpAnyU_take (i := 17) (by decide) rfl (by kernel_rfl) (by kernel_rfl) (by kernel_rfl) (fun _ _ _ h => h) (Steady.off (by kernel_rfl)) ?_
        simp only [Act.put, List.getElem_toArray, List.getElem_cons_succ, List.getElem_cons_zero, List.setIfInBounds_toArray, List.set_cons_zero, List.set_cons_succ]
        refine wpAnyU_take (i := 18) (v := ?_) (by decide) rfl (by kernel_rfl) (by kernel_rfl) (by kernel_rfl) (fun _ _ _ h => h) (Steady.plain (by kernel_rfl) ?_) ?_
        rotate_left
        · intro b W hS
          have h0 := hS.2.2.cell 0
          have h1 := hS.2.2.cell 1
          have h2 := hS.2.2.cell 2
          have h3 := hS.2.2.cell 3
          have h4 := hS.2.2.cell 4
          go_simp
          first | done | with_reducible rfl
        simp only [Act.put, List.getElem_toArray, List.getElem_cons_succ, List.getElem_cons_zero, List.setIfInBounds_toArray, List.set_cons_zero, List.set_cons_succ]
        refine wpAnyU_take (i := 19) (v := ?_) (by decide) rfl (by kernel_rfl) (by kernel_rfl) (by kernel_rfl) (fun _ _ _ h => h) (Steady.plain (by kernel_rfl) ?_) ?_
        rotate_left
        · intro b W hS
          have h0 := hS.2.2.cell 0
          have h1 := hS.2.2.cell 1
          have h2 := hS.2.2.cell 2
          have h3 := hS.2.2.cell 3
          have h4 := hS.2.2.cell 4
          go_simp
          first | done | with_reducible rfl
        simp only [Act.put, List.getElem_toArray, List.getElem_cons_succ, List.getElem_cons_zero, List.setIfInBounds_toArray, List.set_cons_zero, List.set_cons_succ]
        refine wpAnyU_take (i := 20) (by decide) rfl (by kernel_rfl) (by kernel_rfl) (by kernel_rfl) (fun _ _ _ h => h) (Steady.off (by kernel_rfl)) ?_
        simp only [Act.put, List.getElem_toArray, List.getElem_cons_succ, List.getElem_cons_zero, List.setIfInBounds_toArray, List.set_cons_zero, List.set_cons_succ]
        refine wpAnyU_take (i := 21) (by decide) rfl (by kernel_rfl) (by kernel_rfl) (by kernel_rfl) (fun _ _ _ h => h) (Steady.off (by kernel_rfl)) ?_
        simp only [Act.put, List.getElem_toArray, List.getElem_cons_succ, List.getElem_cons_zero, List.setIfInBounds_toArray, List.set_cons_zero, List.set_cons_succ]
        refine wpAnyU_take (i := 22) (by decide) rfl (by kernel_rfl) (by kernel_rfl) (by kernel_rfl) (fun _ _ _ h => h) (Steady.off (by kernel_rfl)) ?_
        simp only [Act.put, List.getElem_toArray, List.getElem_cons_succ, List.getElem_cons_zero, List.setIfInBounds_toArray, List.set_cons_zero, List.set_cons_succ]
        refine wpAnyU_take (i := 23) (by decide) rfl (by kernel_rfl) (by kernel_rfl) (by kernel_rfl) (fun _ _ _ h => h) (Steady.off (by kernel_rfl)) ?_
        simp only [Act.put, List.getElem_toArray, List.getElem_cons_succ, List.getElem_cons_zero, List.setIfInBounds_toArray, List.set_cons_zero, List.set_cons_succ]
        refine wpAnyU_take (i := 24) (by decide) rfl (by kernel_rfl) (by kernel_rfl) (by kernel_rfl) (fun _ _ _ h => h) (Steady.off (by kernel_rfl)) ?_
        simp only [Act.put, List.getElem_toArray, List.getElem_cons_succ, List.getElem_cons_zero, List.setIfInBounds_toArray, List.set_cons_zero, List.set_cons_succ]
        refine wpAnyU_take (i := 25) (by decide) rfl (by kernel_rfl) (by kernel_rfl) (by kernel_rfl) (fun _ _ _ h => h) (Steady.off (by kernel_rfl)) ?_
        simp only [Act.put, List.getElem_toArray, List.getElem_cons_succ, List.getElem_cons_zero, List.setIfInBounds_toArray, List.set_cons_zero, List.set_cons_succ]
        refine wpAnyU_take (i := 26) (v := ?_) (by decide) rfl (by kernel_rfl) (by kernel_rfl) (by kernel_rfl) (fun _ _ _ h => h) (Steady.plain (by kernel_rfl) ?_) ?_
        rotate_left
        · intro b W hS
          have h0 := hS.2.2.cell 0
          have h1 := hS.2.2.cell 1
          have h2 := hS.2.2.cell 2
          have h3 := hS.2.2.cell 3
          have h4 := hS.2.2.cell 4
          go_simp
          first | done | with_reducible rfl
        simp only [Act.put, List.getElem_toArray, List.getElem_cons_succ, List.getElem_cons_zero, List.setIfInBounds_toArray, List.set_cons_zero, List.set_cons_succ]
        refine wpAnyU_take (i := 27) (v := ?_) (by decide) rfl (by kernel_rfl) (by kernel_rfl) (by kernel_rfl) (fun _ _ _ h => h) (Steady.plain (by kernel_rfl) ?_) ?_
        rotate_left
        · intro b W hS
          have h0 := hS.2.2.cell 0
          have h1 := hS.2.2.cell 1
          have h2 := hS.2.2.cell 2
          have h3 := hS.2.2.cell 3
          have h4 := hS.2.2.cell 4
          go_simp
          first | done | with_reducible rfl
        simp only [Act.put, List.getElem_toArray, List.getElem_cons_succ, List.getElem_cons_zero, List.setIfInBounds_toArray, List.set_cons_zero, List.set_cons_succ]
        refine wpAnyU_done (b := []) (by kernel_rfl) (by kernel_rfl) ?_ _
        intro w2 hS
        go_wp2_with fail
        go_ret
        exact ⟨rfl, hS.1⟩
    · obtain rfl : R = false := by rw [HQ2.out, decide_eq_false s2]; simp
      have d3 : decide (st ≤ 599) = false := decide_eq_false s2
      clear HQ2 s1 s2
      go_enter Tryz.func10, Tryz.ntmps10
      go_wp2_with fail
      rw [← hW]
      clear hW
      refine (CF.out _ (HR.out.below hbW)).mono ?_
      rintro e w1 ⟨rfl, hb1⟩
      have hg1 := hg.below hb1
      have hbb := chain2 hbW hbW.size hb1
      clear hg hbW hb1
      go_wp2_with fail
      refine wp_region_U [] (by kernel_rfl) (BoxS w w.heap.size w.heap.size #[strV m, strV t, .int .i64 st, .int .i64 z, .slice ao L.length cap] 33) (b := []) (by kernel_rfl) (BoxS.drew (W := w1) ⟨hbb, hbb.size, hg1⟩) ?_
      refine wpAnyU_take (i := 0) (v := ?_) (by decide) rfl (by kernel_rfl) (by kernel_rfl) (by kernel_rfl) (fun _ _ _ h => h) (Steady.plain (by kernel_rfl) ?_) ?_
      rotate_left
      · intro b W hS
        have h0 := hS.2.2.cell 0
        have h1 := hS.2.2.cell 1
        have h2 := hS.2.2.cell 2
        have h3 := hS.2.2.cell 3
        have h4 := hS.2.2.cell 4
        go_simp
        first | done | with_reducible rfl
      simp only [Act.put, List.getElem_toArray, List.getElem_cons_zero, List.setIfInBounds_toArray, List.set_cons_zero, List.set_cons_succ]
      refine wpAnyU_take (i := 1) (v := ?_) (by decide) rfl (by kernel_rfl) (by kernel_rfl) (by kernel_rfl) (fun _ _ _ h => h) (Steady.plain (by kernel_rfl) ?_) ?_
      rotate_left
      · intro b W hS
        have h0 := hS.2.2.cell 0
        have h1 := hS.2.2.cell 1
        have h2 := hS.2.2.cell 2
        have h3 := hS.2.2.cell 3
        have h4 := hS.2.2.cell 4
        go_simp
        first | done | with_reducible rfl
      simp only [Act.put, List.getElem_toArray, List.getElem_cons_succ, List.getElem_cons_zero, List.setIfInBounds_toArray, List.set_cons_zero, List.set_cons_succ]
      refine wpAnyU_take (i := 2) (v := ?_) (by decide) rfl (by kernel_rfl) (by kernel_rfl) (by kernel_rfl) (fun _ _ _ h => h) (Steady.plain (by kernel_rfl) ?_) ?_
      rotate_left
      · intro b W hS
        have h0 := hS.2.2.cell 0
        have h1 := hS.2.2.cell 1
        have h2 := hS.2.2.cell 2
        have h3 := hS.2.2.cell 3
        have h4 := hS.2.2.cell 4
        go_simp
        first | done | with_reducible rfl
      simp only [Act.put, List.getElem_toArray, List.getElem_cons_succ, List.getElem_cons_zero, List.setIfInBounds_toArray, List.set_cons_zero, List.set_cons_succ]
      refine wpAnyU_take (i := 3) (v := ?_) (by decide) rfl (by kernel_rfl) (by kernel_rfl) (by kernel_rfl) (fun _ _ _ h => h) (Steady.plain (by kernel_rfl) ?_) ?_
      rotate_left
      · intro b W hS
        have h0 := hS.2.2.cell 0
        have h1 := hS.2.2.cell 1
        have h2 := hS.2.2.cell 2
        have h3 := hS.2.2.cell 3
        have h4 := hS.2.2.cell 4
        go_simp
        first | done | with_reducible rfl
      simp only [Act.put, List.getElem_toArray, List.getElem_cons_succ, List.getElem_cons_zero, List.setIfInBounds_toArray, List.set_cons_zero, List.set_cons_succ]
      refine wpAnyU_take (i := 4) (v := ?_) (by decide) rfl (by kernel_rfl) (by kernel_rfl) (by kernel_rfl) (fun _ _ _ h => h) (Steady.plain (by kernel_rfl) ?_) ?_
      rotate_left
      · intro b W hS
        have h0 := hS.2.2.cell 0
        have h1 := hS.2.2.cell 1
        have h2 := hS.2.2.cell 2
        have h3 := hS.2.2.cell 3
        have h4 := hS.2.2.cell 4
        go_simp
        first | done | with_reducible rfl
      simp only [Act.put, List.getElem_toArray, List.getElem_cons_succ, List.getElem_cons_zero, List.setIfInBounds_toArray, List.set_cons_zero, List.set_cons_succ]
      refine wpAnyU_take (i := 5) (v := ?_) (by decide) rfl (by kernel_rfl) (by kernel_rfl) (by kernel_rfl) (fun _ _ _ h => h) (Steady.plain (by kernel_rfl) ?_) ?_
      rotate_left
      · intro b W hS
        have h0 := hS.2.2.cell 0
        have h1 := hS.2.2.cell 1
        have h2 := hS.2.2.cell 2
        have h3 := hS.2.2.cell 3
        have h4 := hS.2.2.cell 4
        go_simp
        first | done | with_reducible rfl
      simp only [Act.put, List.getElem_toArray, List.getElem_cons_succ, List.getElem_cons_zero, List.setIfInBounds_toArray, List.set_cons_zero, List.set_cons_succ]
      refine wpAnyU_take (i := 6) (v := ?_) (by decide) rfl (by kernel_rfl) (by kernel_rfl) (by kernel_rfl) (fun _ _ _ h => h) (Steady.plain (by kernel_rfl) ?_) ?_
      rotate_left
      · intro b W hS
        have h0 := hS.2.2.cell 0
        have h1 := hS.2.2.cell 1
        have h2 := hS.2.2.cell 2
        have h3 := hS.2.2.cell 3
        have h4 := hS.2.2.cell 4
        go_simp
        first | done | with_reducible rfl
      simp only [Act.put, List.getElem_toArray, List.getElem_cons_succ, List.getElem_cons_zero, List.setIfInBounds_toArray, List.set_cons_zero, List.set_cons_succ]
      refine wpAnyU_take (i := 7) (v := ?_) (by decide) rfl (by kernel_rfl) (by kernel_rfl) (by kernel_rfl) (fun _ _ _ h => h) (Steady.plain (by kernel_rfl) ?_) ?_
      rotate_left
      · intro b W hS
        have h0 := hS.2.2.cell 0
        have h1 := hS.2.2.cell 1
        have h2 := hS.2.2.cell 2
        have h3 := hS.2.2.cell 3
        have h4 := hS.2.2.cell 4
        go_simp
        first | done | with_reducible rfl
      simp only [Act.put, List.getElem_toArray, List.getElem_cons_succ, List.getElem_cons_zero, List.setIfInBounds_toArray, List.set_cons_zero, List.set_cons_succ]
      refine wpAnyU_take (i := 8) (v := ?_) (by decide) rfl (by kernel_rfl) (by kernel_rfl) (by kernel_rfl) (fun _ _ _ h => h) (Steady.plain (by kernel_rfl) ?_) ?_
      rotate_left
      · intro b W hS
        have h0 := hS.2.2.cell 0
        have h1 := hS.2.2.cell 1
        have h2 := hS.2.2.cell 2
        have h3 := hS.2.2.cell 3
        have h4 := hS.2.2.cell 4
        go_simp
        first | done | with_reducible rfl
      simp only [Act.put, List.getElem_toArray, List.getElem_cons_succ, List.getElem_cons_zero, List.setIfInBounds_toArray, List.set_cons_zero, List.set_cons_succ]
      refine wpAnyU_take (i := 9) (by decide) rfl (by kernel_rfl) (by kernel_rfl) (by kernel_rfl) (fun _ _ _ h => h) (Steady.off (by kernel_rfl)) ?_
      simp only [Act.put, List.getElem_toArray, List.getElem_cons_succ, List.getElem_cons_zero, List.setIfInBounds_toArray, List.set_cons_zero, List.set_cons_succ]
      refine wpAnyU_take (i := 10) (by decide) rfl (by kernel_rfl) (by kernel_rfl) (by kernel_rfl) (fun _ _ _ h => h) (Steady.off (by kernel_rfl)) ?_
      simp only [Act.put, List.getElem_toArray, List.getElem_cons_succ, List.getElem_cons_zero, List.setIfInBounds_toArray, List.set_cons_zero, List.set_cons_succ]
      refine wpAnyU_take (i := 11) (by decide) rfl (by kernel_rfl) (by kernel_rfl) (by kernel_rfl) (fun _ _ _ h => h) (Steady.off (by kernel_rfl)) ?_
      simp only [Act.put, List.getElem_toArray, List.getElem_cons_succ, List.getElem_cons_zero, List.setIfInBounds_toArray, List.set_cons_zero, List.set_cons_succ]
      refine wpAnyU_take (i := 12) (by decide) rfl (by kernel_rfl) (by kernel_rfl) (by kernel_rfl) (fun _ _ _ h => h) (Steady.off (by kernel_rfl)) ?_
      simp only [Act.put, List.getElem_toArray, List.getElem_cons_succ, List.getElem_cons_zero, List.setIfInBounds_toArray, List.set_cons_zero, List.set_cons_succ]
      refine wpAnyU_take (i := 13) (v := ?_) (by decide) rfl (by kernel_rfl) (by kernel_rfl) (by kernel_rfl) (fun _ _ _ h => h) (Steady.plain (by kernel_rfl) ?_) ?_
      rotate_left
      · intro b W hS
        have h0 := hS.2.2.cell 0
        have h1 := hS.2.2.cell 1
        have h2 := hS.2.2.cell 2
        have h3 := hS.2.2.cell 3
        have h4 := hS.2.2.cell 4
        go_simp
        first | done | with_reducible rfl
      simp only [Act.put, List.getElem_toArray, List.getElem_cons_succ, List.getElem_cons_zero, List.setIfInBounds_toArray, List.set_cons_zero, List.set_cons_succ]
      refine wpAnyU_take (i := 14) (v := ?_) (by decide) rfl (by kernel_rfl) (by kernel_rfl) (by kernel_rfl) (fun _ _ _ h => h) (Steady.plain (by kernel_rfl) ?_) ?_
      rotate_left
      · intro b W hS
        have h0 := hS.2.2.cell 0
        have h1 := hS.2.2.cell 1
        have h2 := hS.2.2.cell 2
        have h3 := hS.2.2.cell 3
        have h4 := hS.2.2.cell 4
        go_simp
        first | done | with_reducible rfl
      simp only [Act.put, List.getElem_toArray, List.getElem_cons_succ, List.getElem_cons_zero, List.setIfInBounds_toArray, List.set_cons_zero, List.set_cons_succ]
      refine wpAnyU_take (i := 15) (by decide) rfl (by kernel_rfl) (by kernel_rfl) (by kernel_rfl) (fun _ _ _ h => h) (Steady.off (by kernel_rfl)) ?_
      simp only [Act.put, List.getElem_toArray, List.getElem_cons_succ, List.getElem_cons_zero, List.setIfInBounds_toArray, List.set_cons_zero, List.set_cons_succ]
      refine wpAnyU_take (i := 16) (by decide) rfl (by kernel_rfl) (by kernel_rfl) (by kernel_rfl) (fun _ _ _ h => h) (Steady.off (by kernel_rfl)) ?_
      simp only [Act.put, List.getElem_toArray, List.getElem_cons_succ, List.getElem_cons_zero, List.setIfInBounds_toArray, List.set_cons_zero, List.set_cons_succ]
      refine wpAnyU_take (i := 17) (by decide) rfl (by kernel_rfl) (by kernel_rfl) (by kernel_rfl) (fun _ _ _ h => h) (Steady.off (by kernel_rfl)) ?_
      simp only [Act.put, List.getElem_toArray, List.getElem_cons_succ, List.getElem_cons_zero, List.setIfInBounds_toArray, List.set_cons_zero, List.set_cons_succ]
      refine wpAnyU_take (i := 18) (v := ?_) (by decide) rfl (by kernel_rfl) (by kernel_rfl) (by kernel_rfl) (fun _ _ _ h => h) (Steady.plain (by kernel_rfl) ?_) ?_
      rotate_left
      · intro b W hS
        have h0 := hS.2.2.cell 0
        have h1 := hS.2.2.cell 1
        have h2 := hS.2.2.cell 2
        have h3 := hS.2.2.cell 3
        have h4 := hS.2.2.cell 4
        go_simp
        first | done | with_reducible rfl
      simp only [Act.put, List.getElem_toArray, List.getElem_cons_succ, List.getElem_cons_zero, List.setIfInBounds_toArray, List.set_cons_zero, List.set_cons_succ]
      refine wpAnyU_take (i := 19) (v := ?_) (by decide) rfl (by kernel_rfl) (by kernel_rfl) (by kernel_rfl) (fun _ _ _ h => h) (Steady.plain (by kernel_rfl) ?_) ?_
      rotate_left
      · intro b W hS
        have h0 := hS.2.2.cell 0
        have h1 := hS.2.2.cell 1
        have h2 := hS.2.2.cell 2
        have h3 := hS.2.2.cell 3
        have h4 := hS.2.2.cell 4
        go_simp
        first | done | with_reducible rfl
      simp only [Act.put, List.getElem_toArray, List.getElem_cons_succ, List.getElem_cons_zero, List.setIfInBounds_toArray, List.set_cons_zero, List.set_cons_succ]
      refine wpAnyU_take (i := 20) (by decide) rfl (by kernel_rfl) (by kernel_rfl) (by kernel_rfl) (fun _ _ _ h => h) (Steady.off (by kernel_rfl)) ?_
      simp only [Act.put, List.getElem_toArray, List.getElem_cons_succ, List.getElem_cons_zero, List.setIfInBounds_toArray, List.set_cons_zero, List.set_cons_succ]
      refine wpAnyU_take (i := 21) (by decide) rfl (by kernel_rfl) (by kernel_rfl) (by kernel_rfl) (fun _ _ _ h => h) (Steady.off (by kernel_rfl)) ?_
      simp only [Act.put, List.getElem_toArray, List.getElem_cons_succ, List.getElem_cons_zero, List.setIfInBounds_toArray, List.set_cons_zero, List.set_cons_succ]
      refine wpAnyU_take (i := 22) (by decide) rfl (by kernel_rfl) (by kernel_rfl) (by kernel_rfl) (fun _ _ _ h => h) (Steady.off (by kernel_rfl)) ?_
      simp only [Act.put, List.getElem_toArray, List.getElem_cons_succ, List.getElem_cons_zero, List.setIfInBounds_toArray, List.set_cons_zero, List.set_cons_succ]
      refine wpAnyU_take (i := 23) (by decide) rfl (by kernel_rfl) (by kernel_rfl) (by kernel_rfl) (fun _ _ _ h => h) (Steady.off (by kernel_rfl)) ?_
      simp only [Act.put, List.getElem_toArray, List.getElem_cons_succ, List.getElem_cons_zero, List.setIfInBounds_toArray, List.set_cons_zero, List.set_cons_succ]
      refine wpAnyU_take (i := 24) (by decide) rfl (by kernel_rfl) (by kernel_rfl) (by kernel_rfl) (fun _ _ _ h => h) (Steady.off (by kernel_rfl)) ?_
      simp only [Act.put, List.getElem_toArray, List.getElem_cons_succ, List.getElem_cons_zero, List.setIfInBounds_toArray, List.set_cons_zero, List.set_cons_succ]
      refine wpAnyU_take (i := 25) (by decide) rfl (by kernel_rfl) (by kernel_rfl) (by kernel_rfl) (fun _ _ _ h => h) (Steady.off (by kernel_rfl)) ?_
      simp only [Act.put, List.getElem_toArray, List.getElem_cons_succ, List.getElem_cons_zero, List.setIfInBounds_toArray, List.set_cons_zero, List.set_cons_succ]
      refine wpAnyU_take (i := 26) (v := ?_) (by decide) rfl (by kernel_rfl) (by kernel_rfl) (by kernel_rfl) (fun _ _ _ h => h) (Steady.plain (by kernel_rfl) ?_) ?_
      rotate_left
      · intro b W hS
        have h0 := hS.2.2.cell 0
        have h1 := hS.2.2.cell 1
        have h2 := hS.2.2.cell 2
        have h3 := hS.2.2.cell 3
        have h4 := hS.2.2.cell 4
        go_simp
        first | done | with_reducible rfl
      simp only [Act.put, List.getElem_toArray, List.getElem_cons_succ, List.getElem_cons_zero, List.setIfInBounds_toArray, List.set_cons_zero, List.set_cons_succ]
      refine wpAnyU_take (i := 27) (v := ?_) (by decide) rfl (by kernel_rfl) (by kernel_rfl) (by kernel_rfl) (fun _ _ _ h => h) (Steady.plain (by kernel_rfl) ?_) ?_
      rotate_left
      · intro b W hS
        have h0 := hS.2.2.cell 0
        have h1 := hS.2.2.cell 1
        have h2 := hS.2.2.cell 2
        have h3 := hS.2.2.cell 3
        have h4 := hS.2.2.cell 4
        go_simp
        first | done | with_reducible rfl
      simp only [Act.put, List.getElem_toArray, List.getElem_cons_succ, List.getElem_cons_zero, List.setIfInBounds_toArray, List.set_cons_zero, List.set_cons_succ]
      refine wpAnyU_done (b := []) (by kernel_rfl) (by kernel_rfl) ?_ _
      intro w2 hS
      go_wp2_with fail
      go_ret
      exact ⟨rfl, hS.1⟩
  · obtain rfl : R = false := by rw [HQ2.out, decide_eq_false s1]; simp
    have d2 : decide (100 ≤ st) = false := decide_eq_false s1
    clear HQ2 s1
    go_enter Tryz.func10, Tryz.ntmps10
    go_wp2_with fail
    rw [← hW]
    clear hW
    refine (CF.out _ (HR.out.below hbW)).mono ?_
    rintro e w1 ⟨rfl, hb1⟩
    have hg1 := hg.below hb1
    have hbb := chain2 hbW hbW.size hb1
    clear hg hbW hb1
    go_wp2_with fail
    refine wp_region_U [] (by kernel_rfl) (BoxS w w.heap.size w.heap.size #[strV m, strV t, .int .i64 st, .int .i64 z, .slice ao L.length cap] 33) (b := []) (by kernel_rfl) (BoxS.drew (W := w1) ⟨hbb, hbb.size, hg1⟩) ?_
    refine wpAnyU_take (i := 0) (v := ?_) (by decide) rfl (by kernel_rfl) (by kernel_rfl) (by kernel_rfl) (fun _ _ _ h => h) (Steady.plain (by kernel_rfl) ?_) ?_
    rotate_left
    · intro b W hS
      have h0 := hS.2.2.cell 0
      have h1 := hS.2.2.cell 1
      have h2 := hS.2.2.cell 2
      have h3 := hS.2.2.cell 3
      have h4 := hS.2.2.cell 4
      go_simp
      first | done | with_reducible rfl
    simp only [Act.put, List.getElem_toArray, List.getElem_cons_zero, List.setIfInBounds_toArray, List.set_cons_zero, List.set_cons_succ]
    refine wpAnyU_take (i := 1) (v := ?_) (by decide) rfl (by kernel_rfl) (by kernel_rfl) (by kernel_rfl) (fun _ _ _ h => h) (Steady.plain (by kernel_rfl) ?_) ?_
    rotate_left
    · intro b W hS
      have h0 := hS.2.2.cell 0
      have h1 := hS.2.2.cell 1
      have h2 := hS.2.2.cell 2
      have h3 := hS.2.2.cell 3
      have h4 := hS.2.2.cell 4
      go_simp
      first | done | with_reducible rfl
    simp only [Act.put, List.getElem_toArray, List.getElem_cons_succ, List.getElem_cons_zero, List.setIfInBounds_toArray, List.set_cons_zero, List.set_cons_succ]
    refine wpAnyU_take (i := 2) (v := ?_) (by decide) rfl (by kernel_rfl) (by kernel_rfl) (by kernel_rfl) (fun _ _ _ h => h) (Steady.plain (by kernel_rfl) ?_) ?_
    rotate_left
    · intro b W hS
      have h0 := hS.2.2.cell 0
      have h1 := hS.2.2.cell 1
      have h2 := hS.2.2.cell 2
      have h3 := hS.2.2.cell 3
      have h4 := hS.2.2.cell 4
      go_simp
      first | done | with_reducible rfl
    simp only [Act.put, List.getElem_toArray, List.getElem_cons_succ, List.getElem_cons_zero, List.setIfInBounds_toArray, List.set_cons_zero, List.set_cons_succ]
    refine wpAnyU_take (i := 3) (v := ?_) (by decide) rfl (by kernel_rfl) (by kernel_rfl) (by kernel_rfl) (fun _ _ _ h => h) (Steady.plain (by kernel_rfl) ?_) ?_
    rotate_left
    · intro b W hS
      have h0 := hS.2.2.cell 0
      have h1 := hS.2.2.cell 1
      have h2 := hS.2.2.cell 2
      have h3 := hS.2.2.cell 3
      have h4 := hS.2.2.cell 4
      go_simp
      first | done | with_reducible rfl
    simp only [Act.put, List.getElem_toArray, List.getElem_cons_succ, List.getElem_cons_zero, List.setIfInBounds_toArray, List.set_cons_zero, List.set_cons_succ]
    refine wpAnyU_take (i := 4) (by decide) rfl (by kernel_rfl) (by kernel_rfl) (by kernel_rfl) (fun _ _ _ h => h) (Steady.off (by kernel_rfl)) ?_
    simp only [Act.put, List.getElem_toArray, List.getElem_cons_succ, List.getElem_cons_zero, List.setIfInBounds_toArray, List.set_cons_zero, List.set_cons_succ]
    refine wpAnyU_take (i := 5) (by decide) rfl (by kernel_rfl) (by kernel_rfl) (by kernel_rfl) (fun _ _ _ h => h) (Steady.off (by kernel_rfl)) ?_
    simp only [Act.put, List.getElem_toArray, List.getElem_cons_succ, List.getElem_cons_zero, List.setIfInBounds_toArray, List.set_cons_zero, List.set_cons_succ]
    refine wpAnyU_take (i := 6) (by decide) rfl (by kernel_rfl) (by kernel_rfl) (by kernel_rfl) (fun _ _ _ h => h) (Steady.off (by kernel_rfl)) ?_
    simp only [Act.put, List.getElem_toArray, List.getElem_cons_succ, List.getElem_cons_zero, List.setIfInBounds_toArray, List.set_cons_zero, List.set_cons_succ]
    refine wpAnyU_take (i := 7) (v := ?_) (by decide) rfl (by kernel_rfl) (by kernel_rfl) (by kernel_rfl) (fun _ _ _ h => h) (Steady.plain (by kernel_rfl) ?_) ?_
    rotate_left
    · intro b W hS
      have h0 := hS.2.2.cell 0
      have h1 := hS.2.2.cell 1
      have h2 := hS.2.2.cell 2
      have h3 := hS.2.2.cell 3
      have h4 := hS.2.2.cell 4
      go_simp
      first | done | with_reducible rfl
    simp only [Act.put, List.getElem_toArray, List.getElem_cons_succ, List.getElem_cons_zero, List.setIfInBounds_toArray, List.set_cons_zero, List.set_cons_succ]
    refine wpAnyU_take (i := 8) (v := ?_) (by decide) rfl (by kernel_rfl) (by kernel_rfl) (by kernel_rfl) (fun _ _ _ h => h) (Steady.plain (by kernel_rfl) ?_) ?_
    rotate_left
    · intro b W hS
      have h0 := hS.2.2.cell 0
      have h1 := hS.2.2.cell 1
      have h2 := hS.2.2.cell 2
      have h3 := hS.2.2.cell 3
      have h4 := hS.2.2.cell 4
      go_simp
      first | done | with_reducible rfl
    simp only [Act.put, List.getElem_toArray, List.getElem_cons_succ, List.getElem_cons_zero, List.setIfInBounds_toArray, List.set_cons_zero, List.set_cons_succ]
    refine wpAnyU_take (i := 9) (by decide) rfl (by kernel_rfl) (by kernel_rfl) (by kernel_rfl) (fun _ _ _ h => h) (Steady.off (by kernel_rfl)) ?_
    simp only [Act.put, List.getElem_toArray, List.getElem_cons_succ, List.getElem_cons_zero, List.setIfInBounds_toArray, List.set_cons_zero, List.set_cons_succ]
    refine wpAnyU_take (i := 10) (by decide) rfl (by kernel_rfl) (by kernel_rfl) (by kernel_rfl) (fun _ _ _ h => h) (Steady.off (by kernel_rfl)) ?_
    simp only [Act.put, List.getElem_toArray, List.getElem_cons_succ, List.getElem_cons_zero, List.setIfInBounds_toArray, List.set_cons_zero, List.set_cons_succ]
    refine wpAnyU_take (i := 11) (by decide) rfl (by kernel_rfl) (by kernel_rfl) (by kernel_rfl) (fun _ _ _ h => h) (Steady.off (by kernel_rfl)) ?_
    simp only [Act.put, List.getElem_toArray, List.getElem_cons_succ, List.getElem_cons_zero, List.setIfInBounds_toArray, List.set_cons_zero, List.set_cons_succ]
    refine wpAnyU_take (i := 12) (by decide) rfl (by kernel_rfl) (by kernel_rfl) (by kernel_rfl) (fun _ _ _ h => h) (Steady.off (by kernel_rfl)) ?_
    simp only [Act.put, List.getElem_toArray, List.getElem_cons_succ, List.getElem_cons_zero, List.setIfInBounds_toArray, List.set_cons_zero, List.set_cons_succ]
    refine wpAnyU_take (i := 13) (v := ?_) (by decide) rfl (by kernel_rfl) (by kernel_rfl) (by kernel_rfl) (fun _ _ _ h => h) (Steady.plain (by kernel_rfl) ?_) ?_
    rotate_left
    · intro b W hS
      have h0 := hS.2.2.cell 0
      have h1 := hS.2.2.cell 1
      have h2 := hS.2.2.cell 2
      have h3 := hS.2.2.cell 3
      have h4 := hS.2.2.cell 4
      go_simp
      first | done | with_reducible rfl
    simp only [Act.put, List.getElem_toArray, List.getElem_cons_succ, List.getElem_cons_zero, List.setIfInBounds_toArray, List.set_cons_zero, List.set_cons_succ]
    refine wpAnyU_take (i := 14) (v := ?_) (by decide) rfl (by kernel_rfl) (by kernel_rfl) (by kernel_rfl) (fun _ _ _ h => h) (Steady.plain (by kernel_rfl) ?_) ?_
    rotate_left
    · intro b W hS
      have h0 := hS.2.2.cell 0
      have h1 := hS.2.2.cell 1
      have h2 := hS.2.2.cell 2
      have h3 := hS.2.2.cell 3
      have h4 := hS.2.2.cell 4
      go_simp
      first | done | with_reducible rfl
    simp only [Act.put, List.getElem_toArray, List.getElem_cons_succ, List.getElem_cons_zero, List.setIfInBounds_toArray, List.set_cons_zero, List.set_cons_succ]
    refine wpAnyU_take (i := 15) (by decide) rfl (by kernel_rfl) (by kernel_rfl) (by kernel_rfl) (fun _ _ _ h => h) (Steady.off (by kernel_rfl)) ?_
    simp only [Act.put, List.getElem_toArray, List.getElem_cons_succ, List.getElem_cons_zero, List.setIfInBounds_toArray, List.set_cons_zero, List.set_cons_succ]
    refine wpAnyU_take (i := 16) (by decide) rfl (by kernel_rfl) (by kernel_rfl) (by kernel_rfl) (fun _ _ _ h => h) (Steady.off (by kernel_rfl)) ?_
    simp only [Act.put, List.getElem_toArray, List.getElem_cons_succ, List.getElem_cons_zero, List.setIfInBounds_toArray, List.set_cons_zero, List.set_cons_succ]
    refine wpAnyU_take (i := 17) (by decide) rfl (by kernel_rfl) (by kernel_rfl) (by kernel_rfl) (fun _ _ _ h => h) (Steady.off (by kernel_rfl)) ?_
    simp only [Act.put, List.getElem_toArray, List.getElem_cons_succ, List.getElem_cons_zero, List.setIfInBounds_toArray, List.set_cons_zero, List.set_cons_succ]
    refine wpAnyU_take (i := 18) (v := ?_) (by decide) rfl (by kernel_rfl) (by kernel_rfl) (by kernel_rfl) (fun _ _ _ h => h) (Steady.plain (by kernel_rfl) ?_) ?_
    rotate_left
    · intro b W hS
      have h0 := hS.2.2.cell 0
      have h1 := hS.2.2.cell 1
      have h2 := hS.2.2.cell 2
      have h3 := hS.2.2.cell 3
      have h4 := hS.2.2.cell 4
      go_simp
      first | done | with_reducible rfl
    simp only [Act.put, List.getElem_toArray, List.getElem_cons_succ, List.getElem_cons_zero, List.setIfInBounds_toArray, List.set_cons_zero, List.set_cons_succ]
    refine wpAnyU_take (i := 19) (v := ?_) (by decide) rfl (by kernel_rfl) (by kernel_rfl) (by kernel_rfl) (fun _ _ _ h => h) (Steady.plain (by kernel_rfl) ?_) ?_
    rotate_left
    · intro b W hS
      have h0 := hS.2.2.cell 0
      have h1 := hS.2.2.cell 1
      have h2 := hS.2.2.cell 2
      have h3 := hS.2.2.cell 3
      have h4 := hS.2.2.cell 4
      go_simp
      first | done | with_reducible rfl
    simp only [Act.put, List.getElem_toArray, List.getElem_cons_succ, List.getElem_cons_zero, List.setIfInBounds_toArray, List.set_cons_zero, List.set_cons_succ]
    refine wpAnyU_take (i := 20) (by decide) rfl (by kernel_rfl) (by kernel_rfl) (by kernel_rfl) (fun _ _ _ h => h) (Steady.off (by kernel_rfl)) ?_
    simp only [Act.put, List.getElem_toArray, List.getElem_cons_succ, List.getElem_cons_zero, List.setIfInBounds_toArray, List.set_cons_zero, List.set_cons_succ]
    refine wpAnyU_take (i := 21) (by decide) rfl (by kernel_rfl) (by kernel_rfl) (by kernel_rfl) (fun _ _ _ h => h) (Steady.off (by kernel_rfl)) ?_
    simp only [Act.put, List.getElem_toArray, List.getElem_cons_succ, List.getElem_cons_zero, List.setIfInBounds_toArray, List.set_cons_zero, List.set_cons_succ]
    refine wpAnyU_take (i := 22) (by decide) rfl (by kernel_rfl) (by kernel_rfl) (by kernel_rfl) (fun _ _ _ h => h) (Steady.off (by kernel_rfl)) ?_
    simp only [Act.put, List.getElem_toArray, List.getElem_cons_succ, List.getElem_cons_zero, List.setIfInBounds_toArray, List.set_cons_zero, List.set_cons_succ]
    refine wpAnyU_take (i := 23) (by decide) rfl (by kernel_rfl) (by kernel_rfl) (by kernel_rfl) (fun _ _ _ h => h) (Steady.off (by kernel_rfl)) ?_
    simp only [Act.put, List.getElem_toArray, List.getElem_cons_succ, List.getElem_cons_zero, List.setIfInBounds_toArray, List.set_cons_zero, List.set_cons_succ]
    refine wpAnyU_take (i := 24) (by decide) rfl (by kernel_rfl) (by kernel_rfl) (by kernel_rfl) (fun _ _ _ h => h) (Steady.off (by kernel_rfl)) ?_
    simp only [Act.put, List.getElem_toArray, List.getElem_cons_succ, List.getElem_cons_zero, List.setIfInBounds_toArray, List.set_cons_zero, List.set_cons_succ]
    refine wpAnyU_take (i := 25) (by decide) rfl (by kernel_rfl) (by kernel_rfl) (by kernel_rfl) (fun _ _ _ h => h) (Steady.off (by kernel_rfl)) ?_
    simp only [Act.put, List.getElem_toArray, List.getElem_cons_succ, List.getElem_cons_zero, List.setIfInBounds_toArray, List.set_cons_zero, List.set_cons_succ]
    refine wpAnyU_take (i := 26) (v := ?_) (by decide) rfl (by kernel_rfl) (by kernel_rfl) (by kernel_rfl) (fun _ _ _ h => h) (Steady.plain (by kernel_rfl) ?_) ?_
    rotate_left
    · intro b W hS
      have h0 := hS.2.2.cell 0
      have h1 := hS.2.2.cell 1
      have h2 := hS.2.2.cell 2
      have h3 := hS.2.2.cell 3
      have h4 := hS.2.2.cell 4
      go_simp
      first | done | with_reducible rfl
    simp only [Act.put, List.getElem_toArray, List.getElem_cons_succ, List.getElem_cons_zero, List.setIfInBounds_toArray, List.set_cons_zero, List.set_cons_succ]
    refine wpAnyU_take (i := 27) (v := ?_) (by decide) rfl (by kernel_rfl) (by kernel_rfl) (by kernel_rfl) (fun _ _ _ h => h) (Steady.plain (by kernel_rfl) ?_) ?_
    rotate_left
    · intro b W hS
      have h0 := hS.2.2.cell 0
      have h1 := hS.2.2.cell 1
      have h2 := hS.2.2.cell 2
      have h3 := hS.2.2.cell 3
      have h4 := hS.2.2.cell 4
      go_simp
      first | done | with_reducible rfl
    simp only [Act.put, List.getElem_toArray, List.getElem_cons_succ, List.getElem_cons_zero, List.setIfInBounds_toArray, List.set_cons_zero, List.set_cons_succ]
    refine wpAnyU_done (b := []) (by kernel_rfl) (by kernel_rfl) ?_ _
    intro w2 hS
    go_wp2_with fail
    go_ret
    exact ⟨rfl, hS.1⟩
end Go.Proofs.YtjfkehdlamnigaaGreatDoor
