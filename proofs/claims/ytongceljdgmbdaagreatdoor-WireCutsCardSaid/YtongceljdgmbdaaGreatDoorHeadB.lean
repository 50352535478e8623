/-
  Contracts of package head: versioned, version; of a request: long, formed, Right.
-/
import Derived.Test.YtongceljdgmbdaaGreatDoorSignTok
import Derived.Test.YtongceljdgmbdaaGreatDoorHeadA
import Derived.Test.YtongceljdgmbdaaGreatDoorFieldR
import Derived.Test.YtongceljdgmbdaaGreatDoorPureAll2
namespace Go.Proofs.YtongceljdgmbdaaGreatDoor
open Go.RowKit Go.Pantry

theorem versioned_any (z : Int) (ao : Option Addr) (n cap : Nat) (w : World) :
    Calls Tryz.prog 125 #[.agg #[.int .i64 z, .slice ao n cap]] w fun e w' => e = .returned (.bool (z == 0 || z == 1)) ∧ Below w.heap.size w w' := by
  by_cases h0 : z = 0
  · subst h0
    go_enter Tryz.func125, Tryz.ntmps125
    go_wp2
    go_ret
    exact ⟨rfl, below_alloc _ _⟩
  · have e0 : (z == 0) = false := by simpa using h0
    rw [e0]
    obtain ⟨q, hq⟩ : ∃ q, (z == 1) = q := ⟨_, rfl⟩
    rw [hq]
    clear h0
    go_enter Tryz.func125, Tryz.ntmps125
    go_wp2
    go_ret
    exact ⟨rfl, below_alloc _ _⟩
/-- a request, by value -/
abbrev reqV (m t : List UInt8) (z : Int) (ao : Option Addr) (n cap : Nat) : Value := .agg #[strV m, strV t, .int .i64 z, .slice ao n cap]
abbrev resV (st : Int) (r : List UInt8) (z : Int) (ao : Option Addr) (n cap : Nat) : Value := .agg #[.int .i64 st, strV r, .int .i64 z, .slice ao n cap]
def longR (m t : List UInt8) : Bool := decide (16 < m.length) || decide (1024 < t.length)
theorem qlong_any (m t : List UInt8) (z : Int) (ao : Option Addr) (n cap : Nat) (w : World) :
    Calls Tryz.prog 92 #[reqV m t z ao n cap] w fun e w' => e = .returned (.bool (longR m t)) ∧ Below w.heap.size w w' := by
  by_cases h1 : (16 : Int) < (m.length : Int)
  · have e : longR m t = true := by unfold longR; simp; omega
    rw [e]
    clear e
    go_enter Tryz.func92, Tryz.ntmps92
    go_wp2
    go_ret
    exact ⟨rfl, below_alloc _ _⟩
  · by_cases h2 : (1024 : Int) < (t.length : Int)
    · have e : longR m t = true := by unfold longR; simp; omega
      rw [e]
      have d1 : decide ((16 : Int) < (m.length : Int)) = false := decide_eq_false h1
      clear e h1
      go_enter Tryz.func92, Tryz.ntmps92
      go_wp2
      go_ret
      exact ⟨rfl, below_alloc _ _⟩
    · have e : longR m t = false := by unfold longR; simp; omega
      rw [e]
      have d1 : decide ((16 : Int) < (m.length : Int)) = false := decide_eq_false h1
      have d2 : decide ((1024 : Int) < (t.length : Int)) = false := decide_eq_false h2
      clear e h1 h2
      go_enter Tryz.func92, Tryz.ntmps92
      go_wp2
      go_ret
      exact ⟨rfl, below_alloc _ _⟩
def formedR (m t : List UInt8) (z : Int) : Bool := tokenL m && seenL t && (z == 0 || z == 1)
theorem seenL_of (t : List UInt8) (h : t ≠ []) : seenL t = t.all seenC := by
  unfold seenL
  cases t with
  | nil => exact absurd rfl h
  | cons c t => rfl
set_option maxHeartbeats 1000000 in
theorem qformed_any (m t : List UInt8) (z : Int) (ao : Option Addr) (n cap : Nat) (w : World) (hm : m.length ≤ 100000) (ht : t.length ≤ 100000) :
    Calls Tryz.prog 91 #[reqV m t z ao n cap] w fun e w' => e = .returned (.bool (formedR m t z)) ∧ Below w.heap.size w w' := by
  have c1 := fun W => Token_any ⟨m.toArray⟩ W (by rw [szL]; unfold maxLen; omega)
  have c2 := fun W => all_target ⟨t.toArray⟩ W (by rw [szL]; unfold maxLen; omega)
  rw [dtL] at c1 c2
  have c3 := fun W => versioned_any z ao n cap W
  have hf : formedR m t z = (tokenL m && seenL t && (z == 0 || z == 1)) := rfl
  generalize formedR m t z = R at hf ⊢
  generalize tokenL m = q1 at c1 hf
  have C1 := hid c1
  clear c1
  generalize (z == 0 || z == 1) = q3 at c3 hf
  have C3 := hid c3
  clear c3
  cases q1
  · obtain rfl : R = false := hf
    clear c2
    go_enter Tryz.func91, Tryz.ntmps91
    go_wp2_with (go_at_call 122; refine (C1.out _).mono ?_; rintro e w' ⟨rfl, rfl⟩)
    go_ret
    exact ⟨rfl, below_alloc _ _⟩
  · by_cases h0 : t = []
    · subst h0
      obtain rfl : R = false := hf
      clear c2 ht
      go_enter Tryz.func91, Tryz.ntmps91
      go_wp2_with (go_at_call 122; refine (C1.out _).mono ?_; rintro e w' ⟨rfl, rfl⟩)
      go_ret
      exact ⟨rfl, below_alloc _ _⟩
    · rw [seenL_of t h0] at hf
      have e1 : (t == []) = false := by cases t <;> simp at h0 ⊢
      have e2 : (t != []) = true := by rw [bne, e1]; rfl
      have e3 : t.isEmpty = false := by cases t <;> simp at h0 ⊢
      have e4 : (!t.isEmpty) = true := by rw [e3]; rfl
      generalize t.all seenC = q2 at c2 hf
      have C2 := hid c2
      clear c2 h0
      cases q2
      · obtain rfl : R = false := hf
        go_enter Tryz.func91, Tryz.ntmps91
        go_wp2_with (first | (go_at_call 122; refine (C1.out _).mono ?_; rintro e w' ⟨rfl, rfl⟩) | (go_at_call 123; refine (C2.out _).mono ?_; rintro e w' ⟨rfl, hb1⟩))
        go_ret
        exact ⟨rfl, (below_alloc _ _).trans (hb1.mono (by simp))⟩
      · obtain rfl : R = q3 := by rw [hf]; simp
        clear hf
        go_enter Tryz.func91, Tryz.ntmps91
        go_wp2_with fail
        refine (C1.out _).mono ?_
        rintro e w1 ⟨rfl, rfl⟩
        go_wp2_with fail
        refine (C2.out _).mono ?_
        rintro e w1 ⟨rfl, hb1⟩
        obtain ⟨W, hW⟩ : ∃ W, W = w.alloc (.cells #[strV m, strV t, .int .i64 z, .slice ao n cap] 40) := ⟨_, rfl⟩
        rw [← hW] at hb1
        have hro : rowIs w1 w.heap.size #[strV m, strV t, .int .i64 z, .slice ao n cap] 40 := (by rw [hW]; exact rowIs_new _ _ _ : rowIs W w.heap.size _ _).below hb1
        have g2 := hro.cell 2
        have g3 := hro.cell 3
        have hbW : Below w.heap.size w W := by rw [hW]; exact below_alloc _ _
        replace hb1 := chain2 hbW hbW.size hb1
        clear hro hW hbW
        go_wp2_with fail
        refine (C3.out _).mono ?_
        rintro e w2 ⟨rfl, hb2⟩
        go_wp2_with fail
        go_ret
        exact ⟨rfl, chain2 hb1 hb1.size hb2⟩
/-- is a request right? (its Minor as it is) -/
def rightQ (m t : List UInt8) (z : Int) (L : List Fld) : Bool := formedR m t z && !longR m t && rightFs L
set_option maxHeartbeats 1000000 in
theorem qRight_any (m t : List UInt8) (z : Int) (v : Value) (L : List Fld) (w : World) (hm : m.length ≤ 100000) (ht : t.length ≤ 100000) (hr : Reads2 w v L) (hk : okFs L) :
    Calls Tryz.prog 72 #[.agg #[strV m, strV t, .int .i64 z, v]] w fun e w' => e = .returned (.bool (rightQ m t z L)) ∧ Below w.heap.size w w' := by
  obtain ⟨ao, cap, rfl⟩ := hr.form
  have c1 := fun W => qformed_any m t z ao L.length cap W hm ht
  have c2 := fun W => qlong_any m t z ao L.length cap W
  have c3 := fun W h => lRight_any (.slice ao L.length cap) L W h hk
  have hf : rightQ m t z L = (formedR m t z && !longR m t && rightFs L) := rfl
  generalize rightQ m t z L = R at hf ⊢
  generalize formedR m t z = q1 at c1 hf
  generalize longR m t = q2 at c2 hf
  generalize rightFs L = q3 at c3 hf
  have C1 := hid c1
  have C2 := hid c2
  have C3 := hid c3
  have HR := hid hr
  clear c1 c2 c3 hr hk
  obtain ⟨W, hW⟩ : ∃ W, W = w.alloc (.cells #[strV m, strV t, .int .i64 z, .slice ao L.length cap] 40) := ⟨_, rfl⟩
  have hbW : Below w.heap.size w W := by rw [hW]; exact below_alloc _ _
  have hroW : rowIs W w.heap.size #[strV m, strV t, .int .i64 z, .slice ao L.length cap] 40 := by rw [hW]; exact rowIs_new _ _ _
  cases q1
  · obtain rfl : R = false := hf
    go_enter Tryz.func72, Tryz.ntmps72
    go_wp2_with fail
    rw [← hW]
    clear hW
    refine (C1.out _).mono ?_
    rintro e w1 ⟨rfl, hb1⟩
    go_wp2_with fail
    go_ret
    exact ⟨rfl, chain2 hbW hbW.size hb1⟩
  · cases q2
    · obtain rfl : R = q3 := by rw [hf]; simp
      clear hf
      go_enter Tryz.func72, Tryz.ntmps72
      go_wp2_with fail
      rw [← hW]
      clear hW
      refine (C1.out _).mono ?_
      rintro e w1 ⟨rfl, hb1⟩
      have hro1 := hroW.below hb1
      have g0 := hro1.cell 0
      have g1 := hro1.cell 1
      have g2 := hro1.cell 2
      have g3 := hro1.cell 3
      go_wp2_with fail
      refine (C2.out _).mono ?_
      rintro e w2 ⟨rfl, hb2⟩
      have hro2 := hro1.below hb2
      clear g0 g1 g2 g3
      have g3 := hro2.cell 3
      have hbb := chain2 (chain2 hbW hbW.size hb1) (chain2 hbW hbW.size hb1).size hb2
      clear hro1 hro2 hroW hb1 hb2 hbW
      go_wp2_with fail
      refine (C3.out _ (HR.out.below hbb)).mono ?_
      rintro e w3 ⟨rfl, hb3⟩
      go_wp2_with fail
      go_ret
      exact ⟨rfl, chain2 hbb hbb.size hb3⟩
    · obtain rfl : R = false := by rw [hf]; simp
      clear hf
      go_enter Tryz.func72, Tryz.ntmps72
      go_wp2_with fail
      rw [← hW]
      clear hW
      refine (C1.out _).mono ?_
      rintro e w1 ⟨rfl, hb1⟩
      have hro1 := hroW.below hb1
      have g0 := hro1.cell 0
      have g1 := hro1.cell 1
      have g2 := hro1.cell 2
      have g3 := hro1.cell 3
      go_wp2_with fail
      refine (C2.out _).mono ?_
      rintro e w2 ⟨rfl, hb2⟩
      clear g0 g1 g2 g3
      go_wp2_with fail
      go_ret
      exact ⟨rfl, chain2 (chain2 hbW hbW.size hb1) (chain2 hbW hbW.size hb1).size hb2⟩
end Go.Proofs.YtongceljdgmbdaaGreatDoor
