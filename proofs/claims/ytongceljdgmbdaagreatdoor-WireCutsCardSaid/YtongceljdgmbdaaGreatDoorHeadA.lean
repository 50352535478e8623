/-
  Contracts of package head: minorOf, judge, targetSign, textSign, all (over each), statusOf.
-/
import Derived.Test.YtongceljdgmbdaaGreatDoorSignN
import Derived.Test.YtongceljdgmbdaaGreatDoorPureAll2
import Derived.Test.YtongceljdgmbdaaGreatDoorMaxOk
namespace Go.Proofs.YtongceljdgmbdaaGreatDoor
open Go.RowKit Go.Pantry

/-- a version's Minor, as a number: -1 where it is none -/
def minorZ (s : List UInt8) : Int := match minorL s with | some n => (n : Int) | none => -1
theorem minorOf_any (e : List UInt8) (w : World) :
    Calls Tryz.prog 89 #[strV e] w fun r w' => r = .returned (.int .i64 (minorZ e)) ∧ w = w' := by
  by_cases h0 : e = v10
  · subst h0
    go_enter Tryz.func89, Tryz.ntmps89
    go_wp2
    go_ret
    exact ⟨rfl, rfl⟩
  · have e0 : (e == v10) = false := by simpa using h0
    have e0' : (e == [72, 84, 84, 80, 47, 49, 46, 48]) = false := e0
    by_cases h1 : e = v11
    · subst h1
      go_enter Tryz.func89, Tryz.ntmps89
      go_wp2
      go_ret
      exact ⟨rfl, rfl⟩
    · have e1 : (e == v11) = false := by simpa using h1
      have e1' : (e == [72, 84, 84, 80, 47, 49, 46, 49]) = false := e1
      have hz : minorZ e = -1 := by unfold minorZ minorL; rw [if_neg (by rw [e0]; simp), if_neg (by rw [e1]; simp)]
      rw [hz]
      clear h0 h1 e0 e1 hz
      go_enter Tryz.func89, Tryz.ntmps89
      go_wp2
      go_ret
      exact ⟨rfl, rfl⟩

/-- a line's error -/
def judgeZ (formed long : Bool) : Int := if formed then (if long then 22 else 0) else 21
theorem judge_any (a b : Bool) (w : World) :
    Calls Tryz.prog 90 #[.bool a, .bool b] w fun r w' => r = .returned (.int .i64 (judgeZ a b)) ∧ w = w' := by
  cases a <;> cases b
  all_goals
    go_enter Tryz.func90, Tryz.ntmps90
    go_wp2
    go_ret
    exact ⟨rfl, rfl⟩

def seenC (c : UInt8) : Bool := decide (33 ≤ c.toNat) && decide (c.toNat ≤ 126)
theorem targetSign_any (r : Nat) (w : World) :
    Calls Tryz.prog 124 #[.int .i32 (r : Int)] w fun e w' => e = .returned (.bool (decide (33 ≤ r) && decide (r ≤ 126))) ∧ w = w' := by
  by_cases h1 : (33 : Int) ≤ (r : Int)
  · by_cases h2 : (r : Int) ≤ 126
    · have e : (decide (33 ≤ r) && decide (r ≤ 126)) = true := by simp; omega
      rw [e]
      clear e
      go_enter Tryz.func124, Tryz.ntmps124
      go_wp2
      go_ret
      exact ⟨rfl, rfl⟩
    · have e : (decide (33 ≤ r) && decide (r ≤ 126)) = false := by simp; omega
      rw [e]
      clear e
      go_enter Tryz.func124, Tryz.ntmps124
      go_wp2
      go_ret
      exact ⟨rfl, rfl⟩
  · have e : (decide (33 ≤ r) && decide (r ≤ 126)) = false := by simp; omega
    rw [e]
    clear e
    go_enter Tryz.func124, Tryz.ntmps124
    go_wp2
    go_ret
    exact ⟨rfl, rfl⟩
def textN (r : Nat) : Bool := (r == 9) || (decide (32 ≤ r) && r != 127)
theorem textSign_any (r : Nat) (w : World) :
    Calls Tryz.prog 127 #[.int .i32 (r : Int)] w fun e w' => e = .returned (.bool (textN r)) ∧ w = w' := by
  by_cases h9 : r = 9
  · subst h9
    go_enter Tryz.func127, Tryz.ntmps127
    go_wp2
    go_ret
    exact ⟨rfl, rfl⟩
  · have e9 : (((r : Nat) : Int) == 9) = false := by simp; omega
    by_cases h1 : (32 : Int) ≤ (r : Int)
    · by_cases h2 : r = 127
      · subst h2
        go_enter Tryz.func127, Tryz.ntmps127
        go_wp2
        go_ret
        exact ⟨rfl, rfl⟩
      · have e2 : (((r : Nat) : Int) == 127) = false := by simp; omega
        have e3 : (((r : Nat) : Int) != 127) = true := by simp; omega
        have e : textN r = true := by unfold textN; simp; omega
        rw [e]
        clear e h9 h2
        go_enter Tryz.func127, Tryz.ntmps127
        go_wp2
        go_ret
        exact ⟨rfl, rfl⟩
    · have e : textN r = false := by unfold textN; simp; omega
      rw [e]
      clear e h9
      go_enter Tryz.func127, Tryz.ntmps127
      go_wp2
      go_ret
      exact ⟨rfl, rfl⟩
theorem textN_byte (c : UInt8) : textN c.toNat = okV c := by
  unfold textN okV
  rw [Bool.eq_iff_iff]
  simp
  omega
set_option maxHeartbeats 1000000 in
theorem all_text (s : ByteArray) (w : World) (_hs : s.size ≤ maxLen) :
    Calls Tryz.prog 123 #[.string s, .func (.func 127) #[] #[]] w fun e w' => e = .returned (.bool (s.data.toList.all okV)) ∧ Below w.heap.size w w' := by
  obtain ⟨R, hR⟩ : ∃ R, s.data.toList.all okV = R := ⟨_, rfl⟩
  rw [hR]
  have HR := hid hR
  clear hR
  go_enter Tryz.func123, Tryz.ntmps123
  go_wp2
  go_loopw [] (fun wr => ∃ pos : Nat, pos ≤ s.size ∧ wr.heap[w.heap.size]? = some (.stringIter s pos) ∧ (s.data.toList.take pos).all okV = true ∧ Below w.heap.size w wr) (fun wr => s.size - wr.iterPos w.heap.size)
  case atStart =>
    refine ⟨0, Nat.zero_le _, ?_, rfl, below_alloc _ _⟩
    have := World.iter_heap w s 0
    simpa using this
  case round =>
    obtain ⟨pos, hpos, hit, hall, hb⟩ := hrel
    have HA := hid hall
    clear hall
    have hsz : w.heap.size < wr.heap.size := (Array.getElem?_eq_some_iff.1 hit).1
    by_cases hp : pos < s.size
    · by_cases ha : (s[pos]'hp).toNat < 128
      · have hnx : ∀ ty, (Instr.next (.pointer (some ⟨w.heap.size, 0, none⟩)) true ty).run Tryz.prog wr = _ := fun ty => Lib.run_next_ascii_at wr w.heap.size s pos ty hit hp ha
        have hit2 := Lib.iterAt_heap wr w.heap.size s pos (pos + 1) hit
        have hb2 := Lib.below_iterAt hb (k := w.heap.size) (Nat.le_refl _) s (pos + 1)
        have cs := fun W => textSign_any (s[pos]'hp).toNat W
        rw [textN_byte] at cs
        obtain ⟨q, hq⟩ : ∃ q, okV (s[pos]'hp) = q := ⟨_, rfl⟩
        rw [hq] at cs
        have CS := hid cs
        have HQ := hid hq
        clear cs hq
        cases q
        · have hno : R = false := by rw [← HR.out]; exact all_bad s okV pos hp HQ.out
          subst hno
          go_wp2_with (refine (CS.out _).mono ?_; rintro e w' ⟨rfl, rfl⟩)
          go_ret
          exact ⟨rfl, hb2⟩
        · go_wp2_with (refine (CS.out _).mono ?_; rintro e w' ⟨rfl, rfl⟩)
          go_roundw
          case rel => exact ⟨pos + 1, hp, hit2, all_rune s okV pos 1 hp HA.out (fun k hk h1 h2 => by
            have : k = pos := by omega
            subst this; exact HQ.out), hb2⟩
          case measure =>
            simp only [World.iterPos, hit2, hit]
            omega
      · have hnx : ∀ ty, (Instr.next (.pointer (some ⟨w.heap.size, 0, none⟩)) true ty).run Tryz.prog wr = _ := fun ty => Lib.run_next_any_at wr w.heap.size s pos ty hit hp
        obtain ⟨hd1, hd2⟩ := decode_high s pos hp (by omega)
        obtain ⟨hw1, hw2⟩ := decode_wide s pos hp (by omega)
        have cs := fun W => textSign_any (Utf8.decode s pos).1 W
        have hit2 := Lib.iterAt_heap wr w.heap.size s pos (pos + (Utf8.decode s pos).2) hit
        have hb2 := Lib.below_iterAt hb (k := w.heap.size) (Nat.le_refl _) s (pos + (Utf8.decode s pos).2)
        rw [show textN (Utf8.decode s pos).1 = true by unfold textN; simp; omega] at cs
        have CS := hid cs
        have hlow := hid (all_rune s okV pos _ hw1 HA.out (fun k hk h1 h2 => by
          have := hw2 k hk h1 h2
          rw [← textN_byte]
          unfold textN
          simp
          omega))
        clear cs hw2 hd1
        go_wp2_with (refine (CS.out _).mono ?_; rintro e w' ⟨rfl, rfl⟩)
        go_roundw
        case rel => exact ⟨pos + (Utf8.decode s pos).2, hw1, hit2, hlow.out, hb2⟩
        case measure =>
          simp only [World.iterPos, hit2, hit]
          omega
    · have hnx : ∀ ty, (Instr.next (.pointer (some ⟨w.heap.size, 0, none⟩)) true ty).run Tryz.prog wr = _ := fun ty => Lib.run_next_end_at wr w.heap.size s pos ty hit hp
      have hyes : R = true := by rw [← HR.out, ← take_all s pos hp]; exact HA.out
      subst hyes
      go_wp2_with fail
      go_ret
      exact ⟨rfl, hb⟩
set_option maxHeartbeats 1000000 in
theorem all_target (s : ByteArray) (w : World) (_hs : s.size ≤ maxLen) :
    Calls Tryz.prog 123 #[.string s, .func (.func 124) #[] #[]] w fun e w' => e = .returned (.bool (s.data.toList.all seenC)) ∧ Below w.heap.size w w' := by
  obtain ⟨R, hR⟩ : ∃ R, s.data.toList.all seenC = R := ⟨_, rfl⟩
  rw [hR]
  have HR := hid hR
  clear hR
  go_enter Tryz.func123, Tryz.ntmps123
  go_wp2
  go_loopw [] (fun wr => ∃ pos : Nat, pos ≤ s.size ∧ wr.heap[w.heap.size]? = some (.stringIter s pos) ∧ (s.data.toList.take pos).all seenC = true ∧ Below w.heap.size w wr) (fun wr => s.size - wr.iterPos w.heap.size)
  case atStart =>
    refine ⟨0, Nat.zero_le _, ?_, rfl, below_alloc _ _⟩
    have := World.iter_heap w s 0
    simpa using this
  case round =>
    obtain ⟨pos, hpos, hit, hall, hb⟩ := hrel
    have HA := hid hall
    clear hall
    have hsz : w.heap.size < wr.heap.size := (Array.getElem?_eq_some_iff.1 hit).1
    by_cases hp : pos < s.size
    · by_cases ha : (s[pos]'hp).toNat < 128
      · have hnx : ∀ ty, (Instr.next (.pointer (some ⟨w.heap.size, 0, none⟩)) true ty).run Tryz.prog wr = _ := fun ty => Lib.run_next_ascii_at wr w.heap.size s pos ty hit hp ha
        have hit2 := Lib.iterAt_heap wr w.heap.size s pos (pos + 1) hit
        have hb2 := Lib.below_iterAt hb (k := w.heap.size) (Nat.le_refl _) s (pos + 1)
        have cs := fun W => targetSign_any (s[pos]'hp).toNat W
        rw [show (decide (33 ≤ (s[pos]'hp).toNat) && decide ((s[pos]'hp).toNat ≤ 126)) = seenC (s[pos]'hp) from rfl] at cs
        obtain ⟨q, hq⟩ : ∃ q, seenC (s[pos]'hp) = q := ⟨_, rfl⟩
        rw [hq] at cs
        have CS := hid cs
        have HQ := hid hq
        clear cs hq
        cases q
        · have hno : R = false := by rw [← HR.out]; exact all_bad s seenC pos hp HQ.out
          subst hno
          go_wp2_with (refine (CS.out _).mono ?_; rintro e w' ⟨rfl, rfl⟩)
          go_ret
          exact ⟨rfl, hb2⟩
        · go_wp2_with (refine (CS.out _).mono ?_; rintro e w' ⟨rfl, rfl⟩)
          go_roundw
          case rel => exact ⟨pos + 1, hp, hit2, all_rune s seenC pos 1 hp HA.out (fun k hk h1 h2 => by
            have : k = pos := by omega
            subst this; exact HQ.out), hb2⟩
          case measure =>
            simp only [World.iterPos, hit2, hit]
            omega
      · have hnx : ∀ ty, (Instr.next (.pointer (some ⟨w.heap.size, 0, none⟩)) true ty).run Tryz.prog wr = _ := fun ty => Lib.run_next_any_at wr w.heap.size s pos ty hit hp
        obtain ⟨hd1, hd2⟩ := decode_high s pos hp (by omega)
        obtain ⟨hw1, hw2⟩ := decode_wide s pos hp (by omega)
        have cs := fun W => targetSign_any (Utf8.decode s pos).1 W
        have hit2 := Lib.iterAt_heap wr w.heap.size s pos (pos + (Utf8.decode s pos).2) hit
        have hb2 := Lib.below_iterAt hb (k := w.heap.size) (Nat.le_refl _) s (pos + (Utf8.decode s pos).2)
        rw [show (decide (33 ≤ (Utf8.decode s pos).1) && decide ((Utf8.decode s pos).1 ≤ 126)) = false by simp; omega] at cs
        have CS := hid cs
        have hno : R = false := by
          rw [← HR.out]
          refine all_bad s seenC pos hp ?_
          unfold seenC
          simp
          omega
        subst hno
        clear cs hw2 hd1
        go_wp2_with (refine (CS.out _).mono ?_; rintro e w' ⟨rfl, rfl⟩)
        go_ret
        exact ⟨rfl, hb2⟩
    · have hnx : ∀ ty, (Instr.next (.pointer (some ⟨w.heap.size, 0, none⟩)) true ty).run Tryz.prog wr = _ := fun ty => Lib.run_next_end_at wr w.heap.size s pos ty hit hp
      have hyes : R = true := by rw [← HR.out, ← take_all s pos hp]; exact HA.out
      subst hyes
      go_wp2_with fail
      go_ret
      exact ⟨rfl, hb⟩

theorem statusOf_any (e : List UInt8) (w : World) (hs : e.length ≤ 100000) :
    Calls Tryz.prog 105 #[strV e] w fun r w' => r = .returned (.int .i64 ((if e.length = 3 then (numberL e).getD 0 else 0 : Nat) : Int)) ∧ w = w' := by
  have c1 := fun W => Number_any ⟨e.toArray⟩ W (by rw [szL]; omega)
  rw [dtL] at c1
  have C1 := hid c1
  clear c1
  by_cases h : e.length = 3
  · have h' : (e.length : Int) = 3 := by omega
    rw [if_pos h]
    clear h
    go_enter Tryz.func105, Tryz.ntmps105
    go_wp2_with fail
    refine (C1.out _).mono ?_
    rintro r w1 ⟨rfl, rfl⟩
    go_wp2_with fail
    go_ret
    exact ⟨rfl, rfl⟩
  · have h' : ((e.length : Int) == 3) = false := by simp; omega
    have h2 : ((e.length : Int) != 3) = true := by simp; omega
    rw [if_neg h]
    clear h
    go_enter Tryz.func105, Tryz.ntmps105
    go_wp2_with fail
    go_ret
    exact ⟨rfl, rfl⟩
end Go.Proofs.YtongceljdgmbdaaGreatDoor
