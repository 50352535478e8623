/-
  Several texts in one: HeadA, HeadBF, Ref5C, Ref5D, Ref5Seen.
-/
import Derived.Test.YtefplhkjcclppaaGreatDoorW8f04
import Derived.Test.YtefplhkjcclppaaGreatDoorPureAll2
import Derived.Test.YtefplhkjcclppaaGreatDoorW8f05
import Derived.Test.YtefplhkjcclppaaGreatDoorPureAll1
import Derived.Test.YtefplhkjcclppaaGreatDoorW8f02
/-
  Contracts of package head: minorOf, judge, targetSign, textSign, all (over each), statusOf.
-/
namespace Go.Proofs.YtefplhkjcclppaaGreatDoor
open Go.RowKit Go.Pantry

/-- a version's Minor, as a number: -1 where it is none -/
def minorZ (s : List UInt8) : Int := match minorL s with | some n => (n : Int) | none => -1
theorem minorOf_any (e : List UInt8) (w : World) :
    Calls Tryz.prog 53 #[strV e] w fun r w' => r = .returned (.int .i64 (minorZ e)) ∧ w = w' := by
  by_cases h0 : e = v10
  · subst h0
    go_enter Tryz.func53, Tryz.ntmps53
    go_wp2
    go_ret
    exact ⟨rfl, rfl⟩
  · have e0 : (e == v10) = false := by simpa using h0
    have e0' : (e == [72, 84, 84, 80, 47, 49, 46, 48]) = false := e0
    by_cases h1 : e = v11
    · subst h1
      go_enter Tryz.func53, Tryz.ntmps53
      go_wp2
      go_ret
      exact ⟨rfl, rfl⟩
    · have e1 : (e == v11) = false := by simpa using h1
      have e1' : (e == [72, 84, 84, 80, 47, 49, 46, 49]) = false := e1
      have hz : minorZ e = -1 := by unfold minorZ minorL; rw [if_neg (by rw [e0]; simp), if_neg (by rw [e1]; simp)]
      rw [hz]
      clear h0 h1 e0 e1 hz
      go_enter Tryz.func53, Tryz.ntmps53
      go_wp2
      go_ret
      exact ⟨rfl, rfl⟩

/-- a line's error -/
def judgeZ (formed long : Bool) : Int := if formed then (if long then 22 else 0) else 21
theorem judge_any (a b : Bool) (w : World) :
    Calls Tryz.prog 54 #[.bool a, .bool b] w fun r w' => r = .returned (.int .i64 (judgeZ a b)) ∧ w = w' := by
  cases a <;> cases b
  all_goals
    go_enter Tryz.func54, Tryz.ntmps54
    go_wp2
    go_ret
    exact ⟨rfl, rfl⟩

def seenC (c : UInt8) : Bool := decide (33 ≤ c.toNat) && decide (c.toNat ≤ 126)
theorem targetSign_any (r : Nat) (w : World) :
    Calls Tryz.prog 83 #[.int .i32 (r : Int)] w fun e w' => e = .returned (.bool (decide (33 ≤ r) && decide (r ≤ 126))) ∧ w = w' := by
  by_cases h1 : (33 : Int) ≤ (r : Int)
  · by_cases h2 : (r : Int) ≤ 126
    · have e : (decide (33 ≤ r) && decide (r ≤ 126)) = true := by simp; omega
      rw [e]
      clear e
      go_enter Tryz.func83, Tryz.ntmps83
      go_wp2
      go_ret
      exact ⟨rfl, rfl⟩
    · have e : (decide (33 ≤ r) && decide (r ≤ 126)) = false := by simp; omega
      rw [e]
      clear e
      go_enter Tryz.func83, Tryz.ntmps83
      go_wp2
      go_ret
      exact ⟨rfl, rfl⟩
  · have e : (decide (33 ≤ r) && decide (r ≤ 126)) = false := by simp; omega
    rw [e]
    clear e
    go_enter Tryz.func83, Tryz.ntmps83
    go_wp2
    go_ret
    exact ⟨rfl, rfl⟩
def textN (r : Nat) : Bool := (r == 9) || (decide (32 ≤ r) && r != 127)
theorem textSign_any (r : Nat) (w : World) :
    Calls Tryz.prog 86 #[.int .i32 (r : Int)] w fun e w' => e = .returned (.bool (textN r)) ∧ w = w' := by
  by_cases h9 : r = 9
  · subst h9
    go_enter Tryz.func86, Tryz.ntmps86
    go_wp2
    go_ret
    exact ⟨rfl, rfl⟩
  · have e9 : (((r : Nat) : Int) == 9) = false := by simp; omega
    by_cases h1 : (32 : Int) ≤ (r : Int)
    · by_cases h2 : r = 127
      · subst h2
        go_enter Tryz.func86, Tryz.ntmps86
        go_wp2
        go_ret
        exact ⟨rfl, rfl⟩
      · have e2 : (((r : Nat) : Int) == 127) = false := by simp; omega
        have e3 : (((r : Nat) : Int) != 127) = true := by simp; omega
        have e : textN r = true := by unfold textN; simp; omega
        rw [e]
        clear e h9 h2
        go_enter Tryz.func86, Tryz.ntmps86
        go_wp2
        go_ret
        exact ⟨rfl, rfl⟩
    · have e : textN r = false := by unfold textN; simp; omega
      rw [e]
      clear e h9
      go_enter Tryz.func86, Tryz.ntmps86
      go_wp2
      go_ret
      exact ⟨rfl, rfl⟩
theorem textN_byte (c : UInt8) : textN c.toNat = okV c := by
  unfold textN okV
  rw [Bool.eq_iff_iff]
  simp
  omega
set_option maxHeartbeats 1000000 in
theorem all_text (s : ByteArray) (w : World) (_hs : s.size ≤ maxLen) :
    Calls Tryz.prog 82 #[.string s, .func (.func 86) #[] #[]] w fun e w' => e = .returned (.bool (s.data.toList.all okV)) ∧ Below w.heap.size w w' := by
  obtain ⟨R, hR⟩ : ∃ R, s.data.toList.all okV = R := ⟨_, rfl⟩
  rw [hR]
  have HR := hid hR
  clear hR
  go_enter Tryz.func82, Tryz.ntmps82
  go_wp2
  go_loopw [] (fun wr => ∃ pos : Nat, pos ≤ s.size ∧ wr.heap[w.heap.size]? = some (.stringIter s pos) ∧ (s.data.toList.take pos).all okV = true ∧ Below w.heap.size w wr) (fun wr => s.size - wr.iterPos w.heap.size)
  case atStart =>
    refine ⟨0, Nat.zero_le _, ?_, rfl, below_alloc _ _⟩
    have := World.iter_heap w s 0
    simpa using this
  case round =>
    obtain ⟨pos, hpos, hit, hall, hb⟩ := hrel
    have HA := hid hall
    clear hall
    have hsz : w.heap.size < wr.heap.size := (Array.getElem?_eq_some_iff.1 hit).1
    by_cases hp : pos < s.size
    · by_cases ha : (s[pos]'hp).toNat < 128
      · have hnx : ∀ ty, (Instr.next (.pointer (some ⟨w.heap.size, 0, none⟩)) true ty).run Tryz.prog wr = _ := fun ty => Lib.run_next_ascii_at wr w.heap.size s pos ty hit hp ha
        have hit2 := Lib.iterAt_heap wr w.heap.size s pos (pos + 1) hit
        have hb2 := Lib.below_iterAt hb (k := w.heap.size) (Nat.le_refl _) s (pos + 1)
        have cs := fun W => textSign_any (s[pos]'hp).toNat W
        rw [textN_byte] at cs
        obtain ⟨q, hq⟩ : ∃ q, okV (s[pos]'hp) = q := ⟨_, rfl⟩
        rw [hq] at cs
        have CS := hid cs
        have HQ := hid hq
        clear cs hq
        cases q
        · have hno : R = false := by rw [← HR.out]; exact all_bad s okV pos hp HQ.out
          subst hno
          go_wp2_with (refine (CS.out _).mono ?_; rintro e w' ⟨rfl, rfl⟩)
          go_ret
          exact ⟨rfl, hb2⟩
        · go_wp2_with (refine (CS.out _).mono ?_; rintro e w' ⟨rfl, rfl⟩)
          go_roundw
          case rel => exact ⟨pos + 1, hp, hit2, all_rune s okV pos 1 hp HA.out (fun k hk h1 h2 => by
            have : k = pos := by omega
            subst this; exact HQ.out), hb2⟩
          case measure =>
            simp only [World.iterPos, hit2, hit]
            omega
      · have hnx : ∀ ty, (Instr.next (.pointer (some ⟨w.heap.size, 0, none⟩)) true ty).run Tryz.prog wr = _ := fun ty => Lib.run_next_any_at wr w.heap.size s pos ty hit hp
        obtain ⟨hd1, hd2⟩ := decode_high s pos hp (by omega)
        obtain ⟨hw1, hw2⟩ := decode_wide s pos hp (by omega)
        have cs := fun W => textSign_any (Utf8.decode s pos).1 W
        have hit2 := Lib.iterAt_heap wr w.heap.size s pos (pos + (Utf8.decode s pos).2) hit
        have hb2 := Lib.below_iterAt hb (k := w.heap.size) (Nat.le_refl _) s (pos + (Utf8.decode s pos).2)
        rw [show textN (Utf8.decode s pos).1 = true by unfold textN; simp; omega] at cs
        have CS := hid cs
        have hlow := hid (all_rune s okV pos _ hw1 HA.out (fun k hk h1 h2 => by
          have := hw2 k hk h1 h2
          rw [← textN_byte]
          unfold textN
          simp
          omega))
        clear cs hw2 hd1
        go_wp2_with (refine (CS.out _).mono ?_; rintro e w' ⟨rfl, rfl⟩)
        go_roundw
        case rel => exact ⟨pos + (Utf8.decode s pos).2, hw1, hit2, hlow.out, hb2⟩
        case measure =>
          simp only [World.iterPos, hit2, hit]
          omega
    · have hnx : ∀ ty, (Instr.next (.pointer (some ⟨w.heap.size, 0, none⟩)) true ty).run Tryz.prog wr = _ := fun ty => Lib.run_next_end_at wr w.heap.size s pos ty hit hp
      have hyes : R = true := by rw [← HR.out, ← take_all s pos hp]; exact HA.out
      subst hyes
      go_wp2_with fail
      go_ret
      exact ⟨rfl, hb⟩
set_option maxHeartbeats 1000000 in
theorem all_target (s : ByteArray) (w : World) (_hs : s.size ≤ maxLen) :
    Calls Tryz.prog 82 #[.string s, .func (.func 83) #[] #[]] w fun e w' => e = .returned (.bool (s.data.toList.all seenC)) ∧ Below w.heap.size w w' := by
  obtain ⟨R, hR⟩ : ∃ R, s.data.toList.all seenC = R := ⟨_, rfl⟩
  rw [hR]
  have HR := hid hR
  clear hR
  go_enter Tryz.func82, Tryz.ntmps82
  go_wp2
  go_loopw [] (fun wr => ∃ pos : Nat, pos ≤ s.size ∧ wr.heap[w.heap.size]? = some (.stringIter s pos) ∧ (s.data.toList.take pos).all seenC = true ∧ Below w.heap.size w wr) (fun wr => s.size - wr.iterPos w.heap.size)
  case atStart =>
    refine ⟨0, Nat.zero_le _, ?_, rfl, below_alloc _ _⟩
    have := World.iter_heap w s 0
    simpa using this
  case round =>
    obtain ⟨pos, hpos, hit, hall, hb⟩ := hrel
    have HA := hid hall
    clear hall
    have hsz : w.heap.size < wr.heap.size := (Array.getElem?_eq_some_iff.1 hit).1
    by_cases hp : pos < s.size
    · by_cases ha : (s[pos]'hp).toNat < 128
      · have hnx : ∀ ty, (Instr.next (.pointer (some ⟨w.heap.size, 0, none⟩)) true ty).run Tryz.prog wr = _ := fun ty => Lib.run_next_ascii_at wr w.heap.size s pos ty hit hp ha
        have hit2 := Lib.iterAt_heap wr w.heap.size s pos (pos + 1) hit
        have hb2 := Lib.below_iterAt hb (k := w.heap.size) (Nat.le_refl _) s (pos + 1)
        have cs := fun W => targetSign_any (s[pos]'hp).toNat W
        rw [show (decide (33 ≤ (s[pos]'hp).toNat) && decide ((s[pos]'hp).toNat ≤ 126)) = seenC (s[pos]'hp) from rfl] at cs
        obtain ⟨q, hq⟩ : ∃ q, seenC (s[pos]'hp) = q := ⟨_, rfl⟩
        rw [hq] at cs
        have CS := hid cs
        have HQ := hid hq
        clear cs hq
        cases q
        · have hno : R = false := by rw [← HR.out]; exact all_bad s seenC pos hp HQ.out
          subst hno
          go_wp2_with (refine (CS.out _).mono ?_; rintro e w' ⟨rfl, rfl⟩)
          go_ret
          exact ⟨rfl, hb2⟩
        · go_wp2_with (refine (CS.out _).mono ?_; rintro e w' ⟨rfl, rfl⟩)
          go_roundw
          case rel => exact ⟨pos + 1, hp, hit2, all_rune s seenC pos 1 hp HA.out (fun k hk h1 h2 => by
            have : k = pos := by omega
            subst this; exact HQ.out), hb2⟩
          case measure =>
            simp only [World.iterPos, hit2, hit]
            omega
      · have hnx : ∀ ty, (Instr.next (.pointer (some ⟨w.heap.size, 0, none⟩)) true ty).run Tryz.prog wr = _ := fun ty => Lib.run_next_any_at wr w.heap.size s pos ty hit hp
        obtain ⟨hd1, hd2⟩ := decode_high s pos hp (by omega)
        obtain ⟨hw1, hw2⟩ := decode_wide s pos hp (by omega)
        have cs := fun W => targetSign_any (Utf8.decode s pos).1 W
        have hit2 := Lib.iterAt_heap wr w.heap.size s pos (pos + (Utf8.decode s pos).2) hit
        have hb2 := Lib.below_iterAt hb (k := w.heap.size) (Nat.le_refl _) s (pos + (Utf8.decode s pos).2)
        rw [show (decide (33 ≤ (Utf8.decode s pos).1) && decide ((Utf8.decode s pos).1 ≤ 126)) = false by simp; omega] at cs
        have CS := hid cs
        have hno : R = false := by
          rw [← HR.out]
          refine all_bad s seenC pos hp ?_
          unfold seenC
          simp
          omega
        subst hno
        clear cs hw2 hd1
        go_wp2_with (refine (CS.out _).mono ?_; rintro e w' ⟨rfl, rfl⟩)
        go_ret
        exact ⟨rfl, hb2⟩
    · have hnx : ∀ ty, (Instr.next (.pointer (some ⟨w.heap.size, 0, none⟩)) true ty).run Tryz.prog wr = _ := fun ty => Lib.run_next_end_at wr w.heap.size s pos ty hit hp
      have hyes : R = true := by rw [← HR.out, ← take_all s pos hp]; exact HA.out
      subst hyes
      go_wp2_with fail
      go_ret
      exact ⟨rfl, hb⟩

theorem statusOf_any (e : List UInt8) (w : World) (hs : e.length ≤ 100000) :
    Calls Tryz.prog 73 #[strV e] w fun r w' => r = .returned (.int .i64 ((if e.length = 3 then (numberL e).getD 0 else 0 : Nat) : Int)) ∧ w = w' := by
  have c1 := fun W => Number_any ⟨e.toArray⟩ W (by rw [szL]; omega)
  rw [dtL] at c1
  have C1 := hid c1
  clear c1
  by_cases h : e.length = 3
  · have h' : (e.length : Int) = 3 := by omega
    rw [if_pos h]
    clear h
    go_enter Tryz.func73, Tryz.ntmps73
    go_wp2_with fail
    refine (C1.out _).mono ?_
    rintro r w1 ⟨rfl, rfl⟩
    go_wp2_with fail
    go_ret
    exact ⟨rfl, rfl⟩
  · have h' : ((e.length : Int) == 3) = false := by simp; omega
    have h2 : ((e.length : Int) != 3) = true := by simp; omega
    rw [if_neg h]
    clear h
    go_enter Tryz.func73, Tryz.ntmps73
    go_wp2_with fail
    go_ret
    exact ⟨rfl, rfl⟩
end Go.Proofs.YtefplhkjcclppaaGreatDoor
/-
  Contracts of package head: versioned, version; of a request: long, formed, Right.
-/
namespace Go.Proofs.YtefplhkjcclppaaGreatDoor
open Go.RowKit Go.Pantry

theorem versioned_any (z : Int) (ao : Option Addr) (n cap : Nat) (w : World) :
    Calls Tryz.prog 84 #[.agg #[.int .i64 z, .slice ao n cap]] w fun e w' => e = .returned (.bool (z == 0 || z == 1)) ∧ Below w.heap.size w w' := by
  by_cases h0 : z = 0
  · subst h0
    go_enter Tryz.func84, Tryz.ntmps84
    go_wp2
    go_ret
    exact ⟨rfl, below_alloc _ _⟩
  · have e0 : (z == 0) = false := by simpa using h0
    rw [e0]
    obtain ⟨q, hq⟩ : ∃ q, (z == 1) = q := ⟨_, rfl⟩
    rw [hq]
    clear h0
    go_enter Tryz.func84, Tryz.ntmps84
    go_wp2
    go_ret
    exact ⟨rfl, below_alloc _ _⟩
/-- a request, by value -/
abbrev reqV (m t : List UInt8) (z : Int) (ao : Option Addr) (n cap : Nat) : Value := .agg #[strV m, strV t, .int .i64 z, .slice ao n cap]
abbrev resV (st : Int) (r : List UInt8) (z : Int) (ao : Option Addr) (n cap : Nat) : Value := .agg #[.int .i64 st, strV r, .int .i64 z, .slice ao n cap]
def longR (m t : List UInt8) : Bool := decide (16 < m.length) || decide (1024 < t.length)
theorem qlong_any (m t : List UInt8) (z : Int) (ao : Option Addr) (n cap : Nat) (w : World) :
    Calls Tryz.prog 56 #[reqV m t z ao n cap] w fun e w' => e = .returned (.bool (longR m t)) ∧ Below w.heap.size w w' := by
  by_cases h1 : (16 : Int) < (m.length : Int)
  · have e : longR m t = true := by unfold longR; simp; omega
    rw [e]
    clear e
    go_enter Tryz.func56, Tryz.ntmps56
    go_wp2
    go_ret
    exact ⟨rfl, below_alloc _ _⟩
  · by_cases h2 : (1024 : Int) < (t.length : Int)
    · have e : longR m t = true := by unfold longR; simp; omega
      rw [e]
      have d1 : decide ((16 : Int) < (m.length : Int)) = false := decide_eq_false h1
      clear e h1
      go_enter Tryz.func56, Tryz.ntmps56
      go_wp2
      go_ret
      exact ⟨rfl, below_alloc _ _⟩
    · have e : longR m t = false := by unfold longR; simp; omega
      rw [e]
      have d1 : decide ((16 : Int) < (m.length : Int)) = false := decide_eq_false h1
      have d2 : decide ((1024 : Int) < (t.length : Int)) = false := decide_eq_false h2
      clear e h1 h2
      go_enter Tryz.func56, Tryz.ntmps56
      go_wp2
      go_ret
      exact ⟨rfl, below_alloc _ _⟩
def formedR (m t : List UInt8) (z : Int) : Bool := tokenL m && seenL t && (z == 0 || z == 1)
theorem seenL_of (t : List UInt8) (h : t ≠ []) : seenL t = t.all seenC := by
  unfold seenL
  cases t with
  | nil => exact absurd rfl h
  | cons c t => rfl
set_option maxHeartbeats 1000000 in
theorem qformed_any (m t : List UInt8) (z : Int) (ao : Option Addr) (n cap : Nat) (w : World) (hm : m.length ≤ 100000) (ht : t.length ≤ 100000) :
    Calls Tryz.prog 55 #[reqV m t z ao n cap] w fun e w' => e = .returned (.bool (formedR m t z)) ∧ Below w.heap.size w w' := by
  have c1 := fun W => Token_any ⟨m.toArray⟩ W (by rw [szL]; unfold maxLen; omega)
  have c2 := fun W => all_target ⟨t.toArray⟩ W (by rw [szL]; unfold maxLen; omega)
  rw [dtL] at c1 c2
  have c3 := fun W => versioned_any z ao n cap W
  have hf : formedR m t z = (tokenL m && seenL t && (z == 0 || z == 1)) := rfl
  generalize formedR m t z = R at hf ⊢
  generalize tokenL m = q1 at c1 hf
  have C1 := hid c1
  clear c1
  generalize (z == 0 || z == 1) = q3 at c3 hf
  have C3 := hid c3
  clear c3
  cases q1
  · obtain rfl : R = false := hf
    clear c2
    go_enter Tryz.func55, Tryz.ntmps55
    go_wp2_with (go_at_call 81; refine (C1.out _).mono ?_; rintro e w' ⟨rfl, rfl⟩)
    go_ret
    exact ⟨rfl, below_alloc _ _⟩
  · by_cases h0 : t = []
    · subst h0
      obtain rfl : R = false := hf
      clear c2 ht
      go_enter Tryz.func55, Tryz.ntmps55
      go_wp2_with (go_at_call 81; refine (C1.out _).mono ?_; rintro e w' ⟨rfl, rfl⟩)
      go_ret
      exact ⟨rfl, below_alloc _ _⟩
    · rw [seenL_of t h0] at hf
      have e1 : (t == []) = false := by cases t <;> simp at h0 ⊢
      have e2 : (t != []) = true := by rw [bne, e1]; rfl
      have e3 : t.isEmpty = false := by cases t <;> simp at h0 ⊢
      have e4 : (!t.isEmpty) = true := by rw [e3]; rfl
      generalize t.all seenC = q2 at c2 hf
      have C2 := hid c2
      clear c2 h0
      cases q2
      · obtain rfl : R = false := hf
        go_enter Tryz.func55, Tryz.ntmps55
        go_wp2_with (first | (go_at_call 81; refine (C1.out _).mono ?_; rintro e w' ⟨rfl, rfl⟩) | (go_at_call 82; refine (C2.out _).mono ?_; rintro e w' ⟨rfl, hb1⟩))
        go_ret
        exact ⟨rfl, (below_alloc _ _).trans (hb1.mono (by simp))⟩
      · obtain rfl : R = q3 := by rw [hf]; simp
        clear hf
        go_enter Tryz.func55, Tryz.ntmps55
        go_wp2_with fail
        refine (C1.out _).mono ?_
        rintro e w1 ⟨rfl, rfl⟩
        go_wp2_with fail
        refine (C2.out _).mono ?_
        rintro e w1 ⟨rfl, hb1⟩
        obtain ⟨W, hW⟩ : ∃ W, W = w.alloc (.cells #[strV m, strV t, .int .i64 z, .slice ao n cap] 40) := ⟨_, rfl⟩
        rw [← hW] at hb1
        have hro : rowIs w1 w.heap.size #[strV m, strV t, .int .i64 z, .slice ao n cap] 40 := (by rw [hW]; exact rowIs_new _ _ _ : rowIs W w.heap.size _ _).below hb1
        have g2 := hro.cell 2
        have g3 := hro.cell 3
        have hbW : Below w.heap.size w W := by rw [hW]; exact below_alloc _ _
        replace hb1 := chain2 hbW hbW.size hb1
        clear hro hW hbW
        go_wp2_with fail
        refine (C3.out _).mono ?_
        rintro e w2 ⟨rfl, hb2⟩
        go_wp2_with fail
        go_ret
        exact ⟨rfl, chain2 hb1 hb1.size hb2⟩
/-- is a request right? (its Minor as it is) -/
def rightQ (m t : List UInt8) (z : Int) (L : List Fld) : Bool := formedR m t z && !longR m t && rightFs L
end Go.Proofs.YtefplhkjcclppaaGreatDoor
/-
  The document's answers of layer 5: find, minor.
-/
namespace Go.Proofs.YtefplhkjcclppaaGreatDoor
open Go.RowKit Go.Pantry

/-- the place of w in s, from a place on -/
def findI (w s : List UInt8) (k : Nat) : Int := match findL w (s.drop k) with | none => -1 | some i => ((k + i : Nat) : Int)
theorem findI_hit {w s : List UInt8} {k j : Nat} (hw : w ≠ []) (hk : k ≤ j) (h : w.isPrefixOf (s.drop j) = true) (hf : ∀ i, k ≤ i → i < j → w.isPrefixOf (s.drop i) = false) : findI w s k = (j : Int) := by
  unfold findI
  rw [findL_first (i := j - k) hw (by rw [List.drop_drop, show k + (j - k) = j by omega]; exact h) (fun i hi => by rw [List.drop_drop]; exact hf (k + i) (by omega) (by omega))]
  show ((k + (j - k) : Nat) : Int) = _
  omega
theorem findI_miss {w s : List UInt8} {k j : Nat} (hw : w ≠ []) (hk : s.length < j + w.length) (hf : ∀ i, k ≤ i → i < j → w.isPrefixOf (s.drop i) = false) : findI w s k = -1 := by
  unfold findI
  cases h : findL w (s.drop k) with
  | none => rfl
  | some i =>
    obtain ⟨h1, h2, _⟩ := findL_some h
    have h3 := findL_lt hw h
    rw [List.length_drop] at h3
    rw [List.drop_drop] at h2
    have h0 : 0 < w.length := List.length_pos_iff.2 hw
    rw [hf (k + i) (by omega) (by omega)] at h2
    cases h2
theorem pre_take (w l : List UInt8) : (l.take w.length == w) = w.isPrefixOf l := by
  rw [Bool.eq_iff_iff, beq_iff_eq, List.isPrefixOf_iff_prefix, List.prefix_iff_eq_take]
  exact eq_comm
theorem extract_mid (s : List UInt8) (k n : Nat) : (⟨s.toArray⟩ : ByteArray).extract k (k + n) = ⟨((s.drop k).take n).toArray⟩ := by
  rw [Lib.extract_eq, show k + n - k = n by omega]
set_option maxHeartbeats 1000000 in
theorem refFind_any (s wd : List UInt8) (k0 : Nat) (w : World) (hw : wd ≠ []) (hs : s.length ≤ 1000000) (hwl : wd.length ≤ 100) (hk0 : k0 ≤ s.length) :
    Calls Tryz.prog 39 #[strV s, strV wd, .int .i64 (k0 : Int)] w fun e w' => e = .returned (.int .i64 (findI wd s k0)) ∧ w = w' := by
  have hmiss := fun j h hf => findI_miss (w := wd) (s := s) (k := k0) (j := j) hw h hf
  have hhit := fun j h hp hf => findI_hit (w := wd) (s := s) (k := k0) (j := j) hw h hp hf
  generalize findI wd s k0 = R at hmiss hhit ⊢
  have HM := hid hmiss
  have HH := hid hhit
  have HW : Hid (0 < wd.length) := hid (List.length_pos_iff.2 hw)
  clear hmiss hhit hw
  go_enter Tryz.func39, Tryz.ntmps39
  go_wp2
  go_loop [7] (fun i => ∃ k : Nat, k0 ≤ k ∧ k ≤ s.length ∧ i = .int .i64 k ∧ ∀ i, k0 ≤ i → i < k → wd.isPrefixOf (s.drop i) = false) (fun i => s.length - (intOf i).toNat)
  case atStart => exact ⟨k0, Nat.le_refl _, hk0, rfl, fun i h1 h2 => by omega⟩
  case round =>
    obtain ⟨k, hk, hks, rfl, hall⟩ := hrel
    have HA := hid hall
    clear hall
    by_cases hlt : (k : Int) + (wd.length : Int) ≤ (s.length : Int)
    · have hp := pre_take wd (s.drop k)
      have hex := extract_mid s k wd.length
      generalize (s.drop k).take wd.length = X at hp hex
      cases hq : wd.isPrefixOf (s.drop k) with
      | true =>
        rw [hq] at hp
        have HR := hid (HH.out k hk hq HA.out)
        clear hq
        go_wp2
        go_ret
        exact ⟨by rw [HR.out]; rfl, rfl⟩
      | false =>
        rw [hq] at hp
        have HQ := hid hq
        clear hq
        go_wp2
        go_round
        case rel => exact ⟨k + 1, by omega, by have := HW.out; omega, by go_num, fun i h1 h2 => by
          rcases Nat.lt_or_ge i k with h | h
          · exact HA.out i h1 h
          · obtain rfl : i = k := by omega
            exact HQ.out⟩
        case measure => have := HW.out; simp [intOf]; omega
    · have HR := hid (HM.out k (by omega) HA.out)
      go_wp2
      go_ret
      exact ⟨by rw [HR.out]; rfl, rfl⟩
/-- a version's number, or -1 -/
def minorI (s : List UInt8) : Int := match minorL s with | none => -1 | some n => (n : Int)
set_option maxHeartbeats 1000000 in
theorem refMinor_any (s : List UInt8) (w : World) :
    Calls Tryz.prog 62 #[strV s] w fun e w' => e = .returned (.int .i64 (minorI s)) ∧ w = w' := by
  have hm : minorI s = if s == v10 then 0 else if s == v11 then 1 else -1 := by
    unfold minorI minorL
    cases (s == v10) <;> cases (s == v11) <;> rfl
  rw [hm]
  clear hm
  obtain ⟨q0, h0⟩ : ∃ q, (s == v10) = q := ⟨_, rfl⟩
  obtain ⟨q1, h1⟩ : ∃ q, (s == v11) = q := ⟨_, rfl⟩
  rw [h0, h1]
  unfold v10 at h0
  unfold v11 at h1
  cases q0
  · cases q1
    · go_enter Tryz.func62, Tryz.ntmps62
      go_wp2
      go_ret
      exact ⟨rfl, rfl⟩
    · go_enter Tryz.func62, Tryz.ntmps62
      go_wp2
      go_ret
      exact ⟨rfl, rfl⟩
  · go_enter Tryz.func62, Tryz.ntmps62
    go_wp2
    go_ret
    exact ⟨rfl, rfl⟩
end Go.Proofs.YtefplhkjcclppaaGreatDoor
/-
  The document's answers of layer 5: pieces.
-/
namespace Go.Proofs.YtefplhkjcclppaaGreatDoor
open Go.RowKit Go.Pantry

theorem findI_at {w s : List UInt8} {k : Nat} : findI w s k = match findL w (s.drop k) with | none => -1 | some i => ((k + i : Nat) : Int) := rfl
theorem pieces_none {w s : List UInt8} (r : Nat) (h : findL w s = none) : piecesL w r s = [s] := by
  cases r with
  | zero => rfl
  | succ r => rw [piecesL, h]
theorem pieces_some {w s : List UInt8} {i r : Nat} (h : findL w s = some i) : piecesL w (r + 1) s = s.take i :: piecesL w r (s.drop (i + w.length)) := by
  rw [piecesL, h]
set_option maxHeartbeats 4000000 in
theorem refPieces_any (s wd : List UInt8) (z0 : Int) (n : Nat) (w : World) (hw : wd ≠ []) (hs : s.length ≤ 1000000) (hwl : wd.length ≤ 100) (hz : (z0 = (n : Int) ∧ n ≤ 1000) ∨ (z0 = -1 ∧ n = s.length)) :
    Calls Tryz.prog 40 #[strV s, strV wd, .int .i64 z0] w fun e w' => ∃ v, e = .returned v ∧ w'.ownsRow w.heap.size 9 1 v (piecesL wd n s).length ((piecesL wd n s).map strV) ∧ Below w.heap.size w w' := by
  have cf := fun k W h => refFind_any s wd k W hw hs hwl h
  have CF := hid cf
  have HW : Hid (0 < wd.length) := hid (List.length_pos_iff.2 hw)
  have hlt0 : ∀ (t : List UInt8) (i : Nat), findL wd t = some i → i + wd.length ≤ t.length := fun _ _ h => findL_lt hw h
  have HL := hid hlt0
  obtain ⟨R, hR⟩ : ∃ R, piecesL wd n s = R := ⟨_, rfl⟩
  rw [hR]
  have HR := hid hR
  have HZ := hid hz
  clear cf hw hlt0 hR hz
  go_enter Tryz.func40, Tryz.ntmps40
  go_wp2
  go_loopw [2, 7, 8] (fun zv v kv wr => ∃ (z : Int) (k r : Nat) (E : List (List UInt8)), zv = .int .i64 z ∧ kv = .int .i64 k ∧ k ≤ s.length ∧ E.length ≤ k ∧ E ++ piecesL wd r (s.drop k) = R ∧ ((z = (r : Int) ∧ r ≤ 1000) ∨ (z < 0 ∧ -1 - (k : Int) ≤ z ∧ (s.drop k).length ≤ r)) ∧ wr.ownsRow w.heap.size 9 1 v E.length (E.map strV) ∧ Below w.heap.size w wr) (fun _ _ kv _ => s.length - (intOf kv).toNat)
  case atStart =>
    refine ⟨z0, 0, n, [], rfl, rfl, Nat.zero_le _, Nat.zero_le _, by simpa using HR.out, ?_, World.ownsRow_nil _ _ _ _, Below.refl _ _⟩
    rcases HZ.out with ⟨h1, h2⟩ | ⟨h1, h2⟩
    · exact .inl ⟨h1, h2⟩
    · exact .inr ⟨by omega, by omega, by rw [List.drop_zero]; omega⟩
  case round =>
    obtain ⟨z, k, r, E, rfl, rfl, hk, hE, hRE, hzr, hown, hb⟩ := hrel
    have hB := hb.size
    have HE := hid hRE
    have HZR := hid hzr
    clear hRE hzr
    have hex := extract_mid s k (s.length - k)
    have hexs : (⟨s.toArray⟩ : ByteArray).extract k s.length = ⟨(s.drop k).toArray⟩ := by
      rw [show k + (s.length - k) = s.length by omega] at hex
      rw [hex, List.take_of_length_le (by rw [List.length_drop]; omega)]
    clear hex
    by_cases h0 : z = 0
    · have hl : E ++ [s.drop k] = R := by
        rcases HZR.out with ⟨h1, _⟩ | ⟨h1, _⟩
        · obtain rfl : r = 0 := by omega
          exact HE.out
        · omega
      have HLL := hid hl
      subst h0
      clear hl
      generalize s.drop k = X at hexs HLL HE HZR
      go_wp2_with ((at_builtin; go_must (refine wpList_append_one _ rfl _ _ 92 rfl w.heap.size 9 Tryz.underlying92 infoStr rfl (by decide) rfl hown rfl rfl (by omega) hB ?_); intro v' w3 hown3 hg3 hb3))
      go_ret
      exact ⟨v', rfl, by rw [← HLL.out]; simpa using hown3, hb.trans hb3⟩
    · have zn : (z != 0) = true := by simpa using h0
      cases hf : findL wd (s.drop k) with
      | none =>
        have hl : E ++ [s.drop k] = R := by rw [← HE.out, pieces_none r hf]
        have hi : findI wd s k = -1 := by rw [findI_at, hf]
        have HLL := hid hl
        have HI := hid hi
        clear hl hi hf
        generalize s.drop k = X at hexs HLL HE HZR
        go_wp2_with fail
        refine (CF.out k _ hk).mono ?_
        rintro e w2 ⟨rfl, rfl⟩
        rw [HI.out]
        go_wp2_with ((at_builtin; go_must (refine wpList_append_one _ rfl _ _ 92 rfl w.heap.size 9 Tryz.underlying92 infoStr rfl (by decide) rfl hown rfl rfl (by omega) hB ?_); intro v' w3 hown3 hg3 hb3))
        go_ret
        exact ⟨v', rfl, by rw [← HLL.out]; simpa using hown3, hb.trans hb3⟩
      | some i =>
        have hi : findI wd s k = ((k + i : Nat) : Int) := by rw [findI_at, hf]
        have hil := HL.out _ _ hf
        have hdl : (s.drop k).length = s.length - k := List.length_drop ..
        have h0w := HW.out
        obtain ⟨r', rfl⟩ : ∃ r', r = r' + 1 := by
          rcases HZR.out with ⟨h1, _⟩ | ⟨h1, _, h3⟩
          · exact ⟨r - 1, by omega⟩
          · exact ⟨r - 1, by omega⟩
        have hl : (E ++ [(s.drop k).take i]) ++ piecesL wd r' (s.drop (k + i + wd.length)) = R := by
          rw [← HE.out, pieces_some hf, List.drop_drop, ← Nat.add_assoc]
          simp
        have hex2 := extract_mid s k i
        obtain ⟨c, hc⟩ : ∃ c, c = k + i := ⟨_, rfl⟩
        rw [← hc] at hi hex2 hl
        have hkc : k ≤ c := by omega
        have hkc2 : (k : Int) ≤ (c : Int) := by omega
        have hcs : (c : Int) ≤ (s.length : Int) := by omega
        have hcn : ¬ (c : Int) < 0 := by omega
        have hcw : IntKind.i64.wrap ((c : Int) + (wd.length : Int)) = (c : Int) + (wd.length : Int) := IntWalk.i64_in _ (by omega)
        have hzw : IntKind.i64.wrap (z - 1) = z - 1 := by
          rcases HZR.out with ⟨h1, h2⟩ | ⟨h1, h2, h3⟩
          · exact IntWalk.i64_in _ (by omega)
          · exact IntWalk.i64_in _ (by omega)
        have HI := hid hi
        have HLL := hid hl
        have hdl2 : (s.drop (c + wd.length)).length = s.length - (c + wd.length) := List.length_drop ..
        have HC := hid hc
        have HIL := hid hil
        have HD2 := hid hdl2
        have HD1 := hid hdl
        clear hl hi hf hexs hdl2 hdl hc hil
        generalize (s.drop k).take i = X at hex2 HLL
        go_wp2_with fail
        refine (CF.out k _ hk).mono ?_
        rintro e w2 ⟨rfl, rfl⟩
        rw [HI.out]
        go_wp2_with ((at_builtin; go_must (refine wpList_append_one _ rfl _ _ 92 rfl w.heap.size 9 Tryz.underlying92 infoStr rfl (by decide) rfl hown rfl rfl (by omega) hB ?_); intro v' w3 hown3 hg3 hb3))
        go_roundw
        case rel =>
          have q1 := HC.out
          have q2 := HIL.out
          have q3 := HD1.out
          have q4 := HD2.out
          refine ⟨z - 1, c + wd.length, r', E ++ [X], by go_num, by go_num, by omega, by simp; omega, HLL.out, ?_, by simpa using hown3, hb.trans hb3⟩
          rcases HZR.out with ⟨h1, h2⟩ | ⟨h1, h2, h3⟩
          · exact .inl ⟨by omega, by omega⟩
          · exact .inr ⟨by omega, by omega, by omega⟩
        case measure =>
          have q1 := HC.out
          have q2 := HIL.out
          have q3 := HD1.out
          simp [intOf]; omega
end Go.Proofs.YtefplhkjcclppaaGreatDoor
/-
  The document's answers of layer 5: seen; a request's Right in the statement's order.
-/
namespace Go.Proofs.YtefplhkjcclppaaGreatDoor
open Go.RowKit Go.Pantry

theorem seenC_int (c : UInt8) : seenC c = (decide (33 ≤ (c.toNat : Int)) && decide ((c.toNat : Int) ≤ 126)) := by
  unfold seenC; rw [Bool.eq_iff_iff]; simp; omega
theorem refSeen_any (s : ByteArray) (w : World) (hs : s.size ≤ maxLen) :
    Calls Tryz.prog 67 #[.string s] w fun e w' => e = .returned (.bool (seenL s.data.toList)) ∧ w = w' := by
  unfold maxLen at hs
  have hsl : seenL s.data.toList = (decide (0 < (s.size : Int)) && s.data.toList.all seenC) := by
    rw [← not_isEmpty_int]
    rfl
  obtain ⟨R, hR⟩ : ∃ R, seenL s.data.toList = R := ⟨_, rfl⟩
  rw [hR] at hsl ⊢
  have HR := hid hsl
  clear hR hsl
  go_enter Tryz.func67, Tryz.ntmps67
  go_wp2
  go_loop [3] (fun i => ∃ k : Nat, k ≤ s.size ∧ i = .int .i64 k ∧ (s.data.toList.take k).all seenC = true) (fun i => s.size - (intOf i).toNat)
  case atStart => exact ⟨0, Nat.zero_le _, rfl, rfl⟩
  case round =>
    obtain ⟨k, hk, rfl, hall⟩ := hrel
    have HA := hid hall
    clear hall
    by_cases hlt : k < s.size
    · by_cases h1 : (s[k].toNat : Int) < 33
      · have hno : R = false := by
          rw [HR.out, all_bad s seenC k hlt (by rw [seenC_int]; simp; omega)]
          simp
        subst hno
        go_wp2
        go_ret
        exact ⟨rfl, rfl⟩
      · by_cases h2 : (126 : Int) < (s[k].toNat : Int)
        · have hno : R = false := by
            rw [HR.out, all_bad s seenC k hlt (by rw [seenC_int]; simp; omega)]
            simp
          subst hno
          go_wp2
          go_ret
          exact ⟨rfl, rfl⟩
        · have hok := hid (show seenC s[k] = true by rw [seenC_int]; simp; omega)
          go_wp2
          go_round
          case rel => exact ⟨k + 1, hlt, by go_num, by rw [take_succ_list s k hlt, List.all_append, HA.out]; simp [hok.out]⟩
          case measure => simp [intOf]; omega
    · have hke := take_all s k hlt
      have hyes : R = decide (0 < (s.size : Int)) := by rw [HR.out, ← hke, HA.out]; simp
      have HY := hid hyes
      clear hke hyes
      go_wp2
      go_ret
      exact ⟨ret_bool (by rw [HY.out]; simp), rfl⟩
abbrev hdV (m t : List UInt8) (st z : Int) (v : Value) : Value := .agg #[strV m, strV t, .int .i64 st, .int .i64 z, v]
/-- is a request right, as the document has it? -/
theorem rightQ_eq (m t : List UInt8) (z : Int) (L : List Fld) : rightQ m t z L = (!decide (z < 0) && !decide (1 < z) && rightFs L && tokenL m && decide (m.length ≤ 16) && seenL t && decide (t.length ≤ 1024)) := by
  unfold rightQ formedR longR
  have hz : (z == 0 || z == 1) = (!decide (z < 0) && !decide (1 < z)) := by rw [Bool.eq_iff_iff]; simp; omega
  rw [hz]
  have h1 : (!(decide (16 < m.length) || decide (1024 < t.length))) = (decide (m.length ≤ 16) && decide (t.length ≤ 1024)) := by rw [Bool.eq_iff_iff]; simp
  rw [h1]
  cases tokenL m <;> cases seenL t <;> cases rightFs L <;> simp
  all_goals
    rw [Bool.eq_iff_iff]
    simp
    try omega
end Go.Proofs.YtefplhkjcclppaaGreatDoor
