/-
  Several texts in one: HeadA, HeadB, HeadVer, Ref5Seen.
-/
import Derived.Test.YtongceljdgmbdaaGreatDoorW7f03
import Derived.Test.YtongceljdgmbdaaGreatDoorPureAll2
import Derived.Test.YtongceljdgmbdaaGreatDoorMaxOk
/-
  Contracts of package head: minorOf, judge, targetSign, textSign, all (over each), statusOf.
-/
namespace Go.Proofs.YtongceljdgmbdaaGreatDoor
open Go.RowKit Go.Pantry

/-- a version's Minor, as a number: -1 where it is none -/
def minorZ (s : List UInt8) : Int := match minorL s with | some n => (n : Int) | none => -1
theorem minorOf_any (e : List UInt8) (w : World) :
    Calls Tryz.prog 89 #[strV e] w fun r w' => r = .returned (.int .i64 (minorZ e)) ∧ w = w' := by
  by_cases h0 : e = v10
  · subst h0
    go_enter Tryz.func89, Tryz.ntmps89
    go_wp2
    go_ret
    exact ⟨rfl, rfl⟩
  · have e0 : (e == v10) = false := by simpa using h0
    have e0' : (e == [72, 84, 84, 80, 47, 49, 46, 48]) = false := e0
    by_cases h1 : e = v11
    · subst h1
      go_enter Tryz.func89, Tryz.ntmps89
      go_wp2
      go_ret
      exact ⟨rfl, rfl⟩
    · have e1 : (e == v11) = false := by simpa using h1
      have e1' : (e == [72, 84, 84, 80, 47, 49, 46, 49]) = false := e1
      have hz : minorZ e = -1 := by unfold minorZ minorL; rw [if_neg (by rw [e0]; simp), if_neg (by rw [e1]; simp)]
      rw [hz]
      clear h0 h1 e0 e1 hz
      go_enter Tryz.func89, Tryz.ntmps89
      go_wp2
      go_ret
      exact ⟨rfl, rfl⟩

/-- a line's error -/
def judgeZ (formed long : Bool) : Int := if formed then (if long then 22 else 0) else 21
theorem judge_any (a b : Bool) (w : World) :
    Calls Tryz.prog 90 #[.bool a, .bool b] w fun r w' => r = .returned (.int .i64 (judgeZ a b)) ∧ w = w' := by
  cases a <;> cases b
  all_goals
    go_enter Tryz.func90, Tryz.ntmps90
    go_wp2
    go_ret
    exact ⟨rfl, rfl⟩

def seenC (c : UInt8) : Bool := decide (33 ≤ c.toNat) && decide (c.toNat ≤ 126)
theorem targetSign_any (r : Nat) (w : World) :
    Calls Tryz.prog 124 #[.int .i32 (r : Int)] w fun e w' => e = .returned (.bool (decide (33 ≤ r) && decide (r ≤ 126))) ∧ w = w' := by
  by_cases h1 : (33 : Int) ≤ (r : Int)
  · by_cases h2 : (r : Int) ≤ 126
    · have e : (decide (33 ≤ r) && decide (r ≤ 126)) = true := by simp; omega
      rw [e]
      clear e
      go_enter Tryz.func124, Tryz.ntmps124
      go_wp2
      go_ret
      exact ⟨rfl, rfl⟩
    · have e : (decide (33 ≤ r) && decide (r ≤ 126)) = false := by simp; omega
      rw [e]
      clear e
      go_enter Tryz.func124, Tryz.ntmps124
      go_wp2
      go_ret
      exact ⟨rfl, rfl⟩
  · have e : (decide (33 ≤ r) && decide (r ≤ 126)) = false := by simp; omega
    rw [e]
    clear e
    go_enter Tryz.func124, Tryz.ntmps124
    go_wp2
    go_ret
    exact ⟨rfl, rfl⟩
def textN (r : Nat) : Bool := (r == 9) || (decide (32 ≤ r) && r != 127)
theorem textSign_any (r : Nat) (w : World) :
    Calls Tryz.prog 127 #[.int .i32 (r : Int)] w fun e w' => e = .returned (.bool (textN r)) ∧ w = w' := by
  by_cases h9 : r = 9
  · subst h9
    go_enter Tryz.func127, Tryz.ntmps127
    go_wp2
    go_ret
    exact ⟨rfl, rfl⟩
  · have e9 : (((r : Nat) : Int) == 9) = false := by simp; omega
    by_cases h1 : (32 : Int) ≤ (r : Int)
    · by_cases h2 : r = 127
      · subst h2
        go_enter Tryz.func127, Tryz.ntmps127
        go_wp2
        go_ret
        exact ⟨rfl, rfl⟩
      · have e2 : (((r : Nat) : Int) == 127) = false := by simp; omega
        have e3 : (((r : Nat) : Int) != 127) = true := by simp; omega
        have e : textN r = true := by unfold textN; simp; omega
        rw [e]
        clear e h9 h2
        go_enter Tryz.func127, Tryz.ntmps127
        go_wp2
        go_ret
        exact ⟨rfl, rfl⟩
    · have e : textN r = false := by unfold textN; simp; omega
      rw [e]
      clear e h9
      go_enter Tryz.func127, Tryz.ntmps127
      go_wp2
      go_ret
      exact ⟨rfl, rfl⟩
theorem textN_byte (c : UInt8) : textN c.toNat = okV c := by
  unfold textN okV
  rw [Bool.eq_iff_iff]
  simp
  omega
set_option maxHeartbeats 1000000 in
theorem all_text (s : ByteArray) (w : World) (_hs : s.size ≤ maxLen) :
    Calls Tryz.prog 123 #[.string s, .func (.func 127) #[] #[]] w fun e w' => e = .returned (.bool (s.data.toList.all okV)) ∧ Below w.heap.size w w' := by
  obtain ⟨R, hR⟩ : ∃ R, s.data.toList.all okV = R := ⟨_, rfl⟩
  rw [hR]
  have HR := hid hR
  clear hR
  go_enter Tryz.func123, Tryz.ntmps123
  go_wp2
  go_loopw [] (fun wr => ∃ pos : Nat, pos ≤ s.size ∧ wr.heap[w.heap.size]? = some (.stringIter s pos) ∧ (s.data.toList.take pos).all okV = true ∧ Below w.heap.size w wr) (fun wr => s.size - wr.iterPos w.heap.size)
  case atStart =>
    refine ⟨0, Nat.zero_le _, ?_, rfl, below_alloc _ _⟩
    have := World.iter_heap w s 0
    simpa using this
  case round =>
    obtain ⟨pos, hpos, hit, hall, hb⟩ := hrel
    have HA := hid hall
    clear hall
    have hsz : w.heap.size < wr.heap.size := (Array.getElem?_eq_some_iff.1 hit).1
    by_cases hp : pos < s.size
    · by_cases ha : (s[pos]'hp).toNat < 128
      · have hnx : ∀ ty, (Instr.next (.pointer (some ⟨w.heap.size, 0, none⟩)) true ty).run Tryz.prog wr = _ := fun ty => Lib.run_next_ascii_at wr w.heap.size s pos ty hit hp ha
        have hit2 := Lib.iterAt_heap wr w.heap.size s pos (pos + 1) hit
        have hb2 := Lib.below_iterAt hb (k := w.heap.size) (Nat.le_refl _) s (pos + 1)
        have cs := fun W => textSign_any (s[pos]'hp).toNat W
        rw [textN_byte] at cs
        obtain ⟨q, hq⟩ : ∃ q, okV (s[pos]'hp) = q := ⟨_, rfl⟩
        rw [hq] at cs
        have CS := hid cs
        have HQ := hid hq
        clear cs hq
        cases q
        · have hno : R = false := by rw [← HR.out]; exact all_bad s okV pos hp HQ.out
          subst hno
          go_wp2_with (refine (CS.out _).mono ?_; rintro e w' ⟨rfl, rfl⟩)
          go_ret
          exact ⟨rfl, hb2⟩
        · go_wp2_with (refine (CS.out _).mono ?_; rintro e w' ⟨rfl, rfl⟩)
          go_roundw
          case rel => exact ⟨pos + 1, hp, hit2, all_rune s okV pos 1 hp HA.out (fun k hk h1 h2 => by
            have : k = pos := by omega
            subst this; exact HQ.out), hb2⟩
          case measure =>
            simp only [World.iterPos, hit2, hit]
            omega
      · have hnx : ∀ ty, (Instr.next (.pointer (some ⟨w.heap.size, 0, none⟩)) true ty).run Tryz.prog wr = _ := fun ty => Lib.run_next_any_at wr w.heap.size s pos ty hit hp
        obtain ⟨hd1, hd2⟩ := decode_high s pos hp (by omega)
        obtain ⟨hw1, hw2⟩ := decode_wide s pos hp (by omega)
        have cs := fun W => textSign_any (Utf8.decode s pos).1 W
        have hit2 := Lib.iterAt_heap wr w.heap.size s pos (pos + (Utf8.decode s pos).2) hit
        have hb2 := Lib.below_iterAt hb (k := w.heap.size) (Nat.le_refl _) s (pos + (Utf8.decode s pos).2)
        rw [show textN (Utf8.decode s pos).1 = true by unfold textN; simp; omega] at cs
        have CS := hid cs
        have hlow := hid (all_rune s okV pos _ hw1 HA.out (fun k hk h1 h2 => by
          have := hw2 k hk h1 h2
          rw [← textN_byte]
          unfold textN
          simp
          omega))
        clear cs hw2 hd1
        go_wp2_with (refine (CS.out _).mono ?_; rintro e w' ⟨rfl, rfl⟩)
        go_roundw
        case rel => exact ⟨pos + (Utf8.decode s pos).2, hw1, hit2, hlow.out, hb2⟩
        case measure =>
          simp only [World.iterPos, hit2, hit]
          omega
    · have hnx : ∀ ty, (Instr.next (.pointer (some ⟨w.heap.size, 0, none⟩)) true ty).run Tryz.prog wr = _ := fun ty => Lib.run_next_end_at wr w.heap.size s pos ty hit hp
      have hyes : R = true := by rw [← HR.out, ← take_all s pos hp]; exact HA.out
      subst hyes
      go_wp2_with fail
      go_ret
      exact ⟨rfl, hb⟩
set_option maxHeartbeats 1000000 in
theorem all_target (s : ByteArray) (w : World) (_hs : s.size ≤ maxLen) :
    Calls Tryz.prog 123 #[.string s, .func (.func 124) #[] #[]] w fun e w' => e = .returned (.bool (s.data.toList.all seenC)) ∧ Below w.heap.size w w' := by
  obtain ⟨R, hR⟩ : ∃ R, s.data.toList.all seenC = R := ⟨_, rfl⟩
  rw [hR]
  have HR := hid hR
  clear hR
  go_enter Tryz.func123, Tryz.ntmps123
  go_wp2
  go_loopw [] (fun wr => ∃ pos : Nat, pos ≤ s.size ∧ wr.heap[w.heap.size]? = some (.stringIter s pos) ∧ (s.data.toList.take pos).all seenC = true ∧ Below w.heap.size w wr) (fun wr => s.size - wr.iterPos w.heap.size)
  case atStart =>
    refine ⟨0, Nat.zero_le _, ?_, rfl, below_alloc _ _⟩
    have := World.iter_heap w s 0
    simpa using this
  case round =>
    obtain ⟨pos, hpos, hit, hall, hb⟩ := hrel
    have HA := hid hall
    clear hall
    have hsz : w.heap.size < wr.heap.size := (Array.getElem?_eq_some_iff.1 hit).1
    by_cases hp : pos < s.size
    · by_cases ha : (s[pos]'hp).toNat < 128
      · have hnx : ∀ ty, (Instr.next (.pointer (some ⟨w.heap.size, 0, none⟩)) true ty).run Tryz.prog wr = _ := fun ty => Lib.run_next_ascii_at wr w.heap.size s pos ty hit hp ha
        have hit2 := Lib.iterAt_heap wr w.heap.size s pos (pos + 1) hit
        have hb2 := Lib.below_iterAt hb (k := w.heap.size) (Nat.le_refl _) s (pos + 1)
        have cs := fun W => targetSign_any (s[pos]'hp).toNat W
        rw [show (decide (33 ≤ (s[pos]'hp).toNat) && decide ((s[pos]'hp).toNat ≤ 126)) = seenC (s[pos]'hp) from rfl] at cs
        obtain ⟨q, hq⟩ : ∃ q, seenC (s[pos]'hp) = q := ⟨_, rfl⟩
        rw [hq] at cs
        have CS := hid cs
        have HQ := hid hq
        clear cs hq
        cases q
        · have hno : R = false := by rw [← HR.out]; exact all_bad s seenC pos hp HQ.out
          subst hno
          go_wp2_with (refine (CS.out _).mono ?_; rintro e w' ⟨rfl, rfl⟩)
          go_ret
          exact ⟨rfl, hb2⟩
        · go_wp2_with (refine (CS.out _).mono ?_; rintro e w' ⟨rfl, rfl⟩)
          go_roundw
          case rel => exact ⟨pos + 1, hp, hit2, all_rune s seenC pos 1 hp HA.out (fun k hk h1 h2 => by
            have : k = pos := by omega
            subst this; exact HQ.out), hb2⟩
          case measure =>
            simp only [World.iterPos, hit2, hit]
            omega
      · have hnx : ∀ ty, (Instr.next (.pointer (some ⟨w.heap.size, 0, none⟩)) true ty).run Tryz.prog wr = _ := fun ty => Lib.run_next_any_at wr w.heap.size s pos ty hit hp
        obtain ⟨hd1, hd2⟩ := decode_high s pos hp (by omega)
        obtain ⟨hw1, hw2⟩ := decode_wide s pos hp (by omega)
        have cs := fun W => targetSign_any (Utf8.decode s pos).1 W
        have hit2 := Lib.iterAt_heap wr w.heap.size s pos (pos + (Utf8.decode s pos).2) hit
        have hb2 := Lib.below_iterAt hb (k := w.heap.size) (Nat.le_refl _) s (pos + (Utf8.decode s pos).2)
        rw [show (decide (33 ≤ (Utf8.decode s pos).1) && decide ((Utf8.decode s pos).1 ≤ 126)) = false by simp; omega] at cs
        have CS := hid cs
        have hno : R = false := by
          rw [← HR.out]
          refine all_bad s seenC pos hp ?_
          unfold seenC
          simp
          omega
        subst hno
        clear cs hw2 hd1
        go_wp2_with (refine (CS.out _).mono ?_; rintro e w' ⟨rfl, rfl⟩)
        go_ret
        exact ⟨rfl, hb2⟩
    · have hnx : ∀ ty, (Instr.next (.pointer (some ⟨w.heap.size, 0, none⟩)) true ty).run Tryz.prog wr = _ := fun ty => Lib.run_next_end_at wr w.heap.size s pos ty hit hp
      have hyes : R = true := by rw [← HR.out, ← take_all s pos hp]; exact HA.out
      subst hyes
      go_wp2_with fail
      go_ret
      exact ⟨rfl, hb⟩

theorem statusOf_any (e : List UInt8) (w : World) (hs : e.length ≤ 100000) :
    Calls Tryz.prog 105 #[strV e] w fun r w' => r = .returned (.int .i64 ((if e.length = 3 then (numberL e).getD 0 else 0 : Nat) : Int)) ∧ w = w' := by
  have c1 := fun W => Number_any ⟨e.toArray⟩ W (by rw [szL]; omega)
  rw [dtL] at c1
  have C1 := hid c1
  clear c1
  by_cases h : e.length = 3
  · have h' : (e.length : Int) = 3 := by omega
    rw [if_pos h]
    clear h
    go_enter Tryz.func105, Tryz.ntmps105
    go_wp2_with fail
    refine (C1.out _).mono ?_
    rintro r w1 ⟨rfl, rfl⟩
    go_wp2_with fail
    go_ret
    exact ⟨rfl, rfl⟩
  · have h' : ((e.length : Int) == 3) = false := by simp; omega
    have h2 : ((e.length : Int) != 3) = true := by simp; omega
    rw [if_neg h]
    clear h
    go_enter Tryz.func105, Tryz.ntmps105
    go_wp2_with fail
    go_ret
    exact ⟨rfl, rfl⟩
end Go.Proofs.YtongceljdgmbdaaGreatDoor
/-
  Contracts of package head: versioned, version; of a request: long, formed, Right.
-/
namespace Go.Proofs.YtongceljdgmbdaaGreatDoor
open Go.RowKit Go.Pantry

theorem versioned_any (z : Int) (ao : Option Addr) (n cap : Nat) (w : World) :
    Calls Tryz.prog 125 #[.agg #[.int .i64 z, .slice ao n cap]] w fun e w' => e = .returned (.bool (z == 0 || z == 1)) ∧ Below w.heap.size w w' := by
  by_cases h0 : z = 0
  · subst h0
    go_enter Tryz.func125, Tryz.ntmps125
    go_wp2
    go_ret
    exact ⟨rfl, below_alloc _ _⟩
  · have e0 : (z == 0) = false := by simpa using h0
    rw [e0]
    obtain ⟨q, hq⟩ : ∃ q, (z == 1) = q := ⟨_, rfl⟩
    rw [hq]
    clear h0
    go_enter Tryz.func125, Tryz.ntmps125
    go_wp2
    go_ret
    exact ⟨rfl, below_alloc _ _⟩
/-- a request, by value -/
abbrev reqV (m t : List UInt8) (z : Int) (ao : Option Addr) (n cap : Nat) : Value := .agg #[strV m, strV t, .int .i64 z, .slice ao n cap]
abbrev resV (st : Int) (r : List UInt8) (z : Int) (ao : Option Addr) (n cap : Nat) : Value := .agg #[.int .i64 st, strV r, .int .i64 z, .slice ao n cap]
def longR (m t : List UInt8) : Bool := decide (16 < m.length) || decide (1024 < t.length)
theorem qlong_any (m t : List UInt8) (z : Int) (ao : Option Addr) (n cap : Nat) (w : World) :
    Calls Tryz.prog 92 #[reqV m t z ao n cap] w fun e w' => e = .returned (.bool (longR m t)) ∧ Below w.heap.size w w' := by
  by_cases h1 : (16 : Int) < (m.length : Int)
  · have e : longR m t = true := by unfold longR; simp; omega
    rw [e]
    clear e
    go_enter Tryz.func92, Tryz.ntmps92
    go_wp2
    go_ret
    exact ⟨rfl, below_alloc _ _⟩
  · by_cases h2 : (1024 : Int) < (t.length : Int)
    · have e : longR m t = true := by unfold longR; simp; omega
      rw [e]
      have d1 : decide ((16 : Int) < (m.length : Int)) = false := decide_eq_false h1
      clear e h1
      go_enter Tryz.func92, Tryz.ntmps92
      go_wp2
      go_ret
      exact ⟨rfl, below_alloc _ _⟩
    · have e : longR m t = false := by unfold longR; simp; omega
      rw [e]
      have d1 : decide ((16 : Int) < (m.length : Int)) = false := decide_eq_false h1
      have d2 : decide ((1024 : Int) < (t.length : Int)) = false := decide_eq_false h2
      clear e h1 h2
      go_enter Tryz.func92, Tryz.ntmps92
      go_wp2
      go_ret
      exact ⟨rfl, below_alloc _ _⟩
def formedR (m t : List UInt8) (z : Int) : Bool := tokenL m && seenL t && (z == 0 || z == 1)
theorem seenL_of (t : List UInt8) (h : t ≠ []) : seenL t = t.all seenC := by
  unfold seenL
  cases t with
  | nil => exact absurd rfl h
  | cons c t => rfl
set_option maxHeartbeats 1000000 in
theorem qformed_any (m t : List UInt8) (z : Int) (ao : Option Addr) (n cap : Nat) (w : World) (hm : m.length ≤ 100000) (ht : t.length ≤ 100000) :
    Calls Tryz.prog 91 #[reqV m t z ao n cap] w fun e w' => e = .returned (.bool (formedR m t z)) ∧ Below w.heap.size w w' := by
  have c1 := fun W => Token_any ⟨m.toArray⟩ W (by rw [szL]; unfold maxLen; omega)
  have c2 := fun W => all_target ⟨t.toArray⟩ W (by rw [szL]; unfold maxLen; omega)
  rw [dtL] at c1 c2
  have c3 := fun W => versioned_any z ao n cap W
  have hf : formedR m t z = (tokenL m && seenL t && (z == 0 || z == 1)) := rfl
  generalize formedR m t z = R at hf ⊢
  generalize tokenL m = q1 at c1 hf
  have C1 := hid c1
  clear c1
  generalize (z == 0 || z == 1) = q3 at c3 hf
  have C3 := hid c3
  clear c3
  cases q1
  · obtain rfl : R = false := hf
    clear c2
    go_enter Tryz.func91, Tryz.ntmps91
    go_wp2_with (go_at_call 122; refine (C1.out _).mono ?_; rintro e w' ⟨rfl, rfl⟩)
    go_ret
    exact ⟨rfl, below_alloc _ _⟩
  · by_cases h0 : t = []
    · subst h0
      obtain rfl : R = false := hf
      clear c2 ht
      go_enter Tryz.func91, Tryz.ntmps91
      go_wp2_with (go_at_call 122; refine (C1.out _).mono ?_; rintro e w' ⟨rfl, rfl⟩)
      go_ret
      exact ⟨rfl, below_alloc _ _⟩
    · rw [seenL_of t h0] at hf
      have e1 : (t == []) = false := by cases t <;> simp at h0 ⊢
      have e2 : (t != []) = true := by rw [bne, e1]; rfl
      have e3 : t.isEmpty = false := by cases t <;> simp at h0 ⊢
      have e4 : (!t.isEmpty) = true := by rw [e3]; rfl
      generalize t.all seenC = q2 at c2 hf
      have C2 := hid c2
      clear c2 h0
      cases q2
      · obtain rfl : R = false := hf
        go_enter Tryz.func91, Tryz.ntmps91
        go_wp2_with (first | (go_at_call 122; refine (C1.out _).mono ?_; rintro e w' ⟨rfl, rfl⟩) | (go_at_call 123; refine (C2.out _).mono ?_; rintro e w' ⟨rfl, hb1⟩))
        go_ret
        exact ⟨rfl, (below_alloc _ _).trans (hb1.mono (by simp))⟩
      · obtain rfl : R = q3 := by rw [hf]; simp
        clear hf
        go_enter Tryz.func91, Tryz.ntmps91
        go_wp2_with fail
        refine (C1.out _).mono ?_
        rintro e w1 ⟨rfl, rfl⟩
        go_wp2_with fail
        refine (C2.out _).mono ?_
        rintro e w1 ⟨rfl, hb1⟩
        obtain ⟨W, hW⟩ : ∃ W, W = w.alloc (.cells #[strV m, strV t, .int .i64 z, .slice ao n cap] 40) := ⟨_, rfl⟩
        rw [← hW] at hb1
        have hro : rowIs w1 w.heap.size #[strV m, strV t, .int .i64 z, .slice ao n cap] 40 := (by rw [hW]; exact rowIs_new _ _ _ : rowIs W w.heap.size _ _).below hb1
        have g2 := hro.cell 2
        have g3 := hro.cell 3
        have hbW : Below w.heap.size w W := by rw [hW]; exact below_alloc _ _
        replace hb1 := chain2 hbW hbW.size hb1
        clear hro hW hbW
        go_wp2_with fail
        refine (C3.out _).mono ?_
        rintro e w2 ⟨rfl, hb2⟩
        go_wp2_with fail
        go_ret
        exact ⟨rfl, chain2 hb1 hb1.size hb2⟩
/-- is a request right? (its Minor as it is) -/
def rightQ (m t : List UInt8) (z : Int) (L : List Fld) : Bool := formedR m t z && !longR m t && rightFs L
set_option maxHeartbeats 1000000 in
theorem qRight_any (m t : List UInt8) (z : Int) (v : Value) (L : List Fld) (w : World) (hm : m.length ≤ 100000) (ht : t.length ≤ 100000) (hr : Reads2 w v L) (hk : okFs L) :
    Calls Tryz.prog 72 #[.agg #[strV m, strV t, .int .i64 z, v]] w fun e w' => e = .returned (.bool (rightQ m t z L)) ∧ Below w.heap.size w w' := by
  obtain ⟨ao, cap, rfl⟩ := hr.form
  have c1 := fun W => qformed_any m t z ao L.length cap W hm ht
  have c2 := fun W => qlong_any m t z ao L.length cap W
  have c3 := fun W h => lRight_any (.slice ao L.length cap) L W h hk
  have hf : rightQ m t z L = (formedR m t z && !longR m t && rightFs L) := rfl
  generalize rightQ m t z L = R at hf ⊢
  generalize formedR m t z = q1 at c1 hf
  generalize longR m t = q2 at c2 hf
  generalize rightFs L = q3 at c3 hf
  have C1 := hid c1
  have C2 := hid c2
  have C3 := hid c3
  have HR := hid hr
  clear c1 c2 c3 hr hk
  obtain ⟨W, hW⟩ : ∃ W, W = w.alloc (.cells #[strV m, strV t, .int .i64 z, .slice ao L.length cap] 40) := ⟨_, rfl⟩
  have hbW : Below w.heap.size w W := by rw [hW]; exact below_alloc _ _
  have hroW : rowIs W w.heap.size #[strV m, strV t, .int .i64 z, .slice ao L.length cap] 40 := by rw [hW]; exact rowIs_new _ _ _
  cases q1
  · obtain rfl : R = false := hf
    go_enter Tryz.func72, Tryz.ntmps72
    go_wp2_with fail
    rw [← hW]
    clear hW
    refine (C1.out _).mono ?_
    rintro e w1 ⟨rfl, hb1⟩
    go_wp2_with fail
    go_ret
    exact ⟨rfl, chain2 hbW hbW.size hb1⟩
  · cases q2
    · obtain rfl : R = q3 := by rw [hf]; simp
      clear hf
      go_enter Tryz.func72, Tryz.ntmps72
      go_wp2_with fail
      rw [← hW]
      clear hW
      refine (C1.out _).mono ?_
      rintro e w1 ⟨rfl, hb1⟩
      have hro1 := hroW.below hb1
      have g0 := hro1.cell 0
      have g1 := hro1.cell 1
      have g2 := hro1.cell 2
      have g3 := hro1.cell 3
      go_wp2_with fail
      refine (C2.out _).mono ?_
      rintro e w2 ⟨rfl, hb2⟩
      have hro2 := hro1.below hb2
      clear g0 g1 g2 g3
      have g3 := hro2.cell 3
      have hbb := chain2 (chain2 hbW hbW.size hb1) (chain2 hbW hbW.size hb1).size hb2
      clear hro1 hro2 hroW hb1 hb2 hbW
      go_wp2_with fail
      refine (C3.out _ (HR.out.below hbb)).mono ?_
      rintro e w3 ⟨rfl, hb3⟩
      go_wp2_with fail
      go_ret
      exact ⟨rfl, chain2 hbb hbb.size hb3⟩
    · obtain rfl : R = false := by rw [hf]; simp
      clear hf
      go_enter Tryz.func72, Tryz.ntmps72
      go_wp2_with fail
      rw [← hW]
      clear hW
      refine (C1.out _).mono ?_
      rintro e w1 ⟨rfl, hb1⟩
      have hro1 := hroW.below hb1
      have g0 := hro1.cell 0
      have g1 := hro1.cell 1
      have g2 := hro1.cell 2
      have g3 := hro1.cell 3
      go_wp2_with fail
      refine (C2.out _).mono ?_
      rintro e w2 ⟨rfl, hb2⟩
      clear g0 g1 g2 g3
      go_wp2_with fail
      go_ret
      exact ⟨rfl, chain2 (chain2 hbW hbW.size hb1) (chain2 hbW hbW.size hb1).size hb2⟩
end Go.Proofs.YtongceljdgmbdaaGreatDoor
/-
  Contract of package head: version.
-/
namespace Go.Proofs.YtongceljdgmbdaaGreatDoor
open Go.RowKit Go.Pantry

theorem version_any (z : Int) (ao : Option Addr) (n cap : Nat) (w : World) (hz : 0 ≤ z) :
    Calls Tryz.prog 74 #[.agg #[.int .i64 z, .slice ao n cap]] w fun e w' => e = .returned (strV (verL z.toNat)) ∧ Below w.heap.size w w' := by
  by_cases h0 : z = 0
  · subst h0
    go_enter Tryz.func74, Tryz.ntmps74
    go_wp2
    go_ret
    exact ⟨rfl, below_alloc _ _⟩
  · have e0 : (z == 0) = false := by simpa using h0
    have hv : verL z.toNat = v11 := by unfold verL; rw [if_neg (by omega)]
    rw [hv]
    clear h0 hv hz
    go_enter Tryz.func74, Tryz.ntmps74
    go_wp2
    go_ret
    exact ⟨rfl, below_alloc _ _⟩
end Go.Proofs.YtongceljdgmbdaaGreatDoor
/-
  The document's answers of layer 5: seen; a request's Right in the statement's order.
-/
namespace Go.Proofs.YtongceljdgmbdaaGreatDoor
open Go.RowKit Go.Pantry

theorem seenC_int (c : UInt8) : seenC c = (decide (33 ≤ (c.toNat : Int)) && decide ((c.toNat : Int) ≤ 126)) := by
  unfold seenC; rw [Bool.eq_iff_iff]; simp; omega
theorem refSeen_any (s : ByteArray) (w : World) (hs : s.size ≤ maxLen) :
    Calls Tryz.prog 78 #[.string s] w fun e w' => e = .returned (.bool (seenL s.data.toList)) ∧ w = w' := by
  unfold maxLen at hs
  have hsl : seenL s.data.toList = (decide (0 < (s.size : Int)) && s.data.toList.all seenC) := by
    rw [← not_isEmpty_int]
    rfl
  obtain ⟨R, hR⟩ : ∃ R, seenL s.data.toList = R := ⟨_, rfl⟩
  rw [hR] at hsl ⊢
  have HR := hid hsl
  clear hR hsl
  go_enter Tryz.func78, Tryz.ntmps78
  go_wp2
  go_loop [3] (fun i => ∃ k : Nat, k ≤ s.size ∧ i = .int .i64 k ∧ (s.data.toList.take k).all seenC = true) (fun i => s.size - (intOf i).toNat)
  case atStart => exact ⟨0, Nat.zero_le _, rfl, rfl⟩
  case round =>
    obtain ⟨k, hk, rfl, hall⟩ := hrel
    have HA := hid hall
    clear hall
    by_cases hlt : k < s.size
    · by_cases h1 : (s[k].toNat : Int) < 33
      · have hno : R = false := by
          rw [HR.out, all_bad s seenC k hlt (by rw [seenC_int]; simp; omega)]
          simp
        subst hno
        go_wp2
        go_ret
        exact ⟨rfl, rfl⟩
      · by_cases h2 : (126 : Int) < (s[k].toNat : Int)
        · have hno : R = false := by
            rw [HR.out, all_bad s seenC k hlt (by rw [seenC_int]; simp; omega)]
            simp
          subst hno
          go_wp2
          go_ret
          exact ⟨rfl, rfl⟩
        · have hok := hid (show seenC s[k] = true by rw [seenC_int]; simp; omega)
          go_wp2
          go_round
          case rel => exact ⟨k + 1, hlt, by go_num, by rw [take_succ_list s k hlt, List.all_append, HA.out]; simp [hok.out]⟩
          case measure => simp [intOf]; omega
    · have hke := take_all s k hlt
      have hyes : R = decide (0 < (s.size : Int)) := by rw [HR.out, ← hke, HA.out]; simp
      have HY := hid hyes
      clear hke hyes
      go_wp2
      go_ret
      exact ⟨ret_bool (by rw [HY.out]; simp), rfl⟩
abbrev hdV (m t : List UInt8) (st z : Int) (v : Value) : Value := .agg #[strV m, strV t, .int .i64 st, .int .i64 z, v]
/-- is a request right, as the document has it? -/
theorem rightQ_eq (m t : List UInt8) (z : Int) (L : List Fld) : rightQ m t z L = (!decide (z < 0) && !decide (1 < z) && rightFs L && tokenL m && decide (m.length ≤ 16) && seenL t && decide (t.length ≤ 1024)) := by
  unfold rightQ formedR longR
  have hz : (z == 0 || z == 1) = (!decide (z < 0) && !decide (1 < z)) := by rw [Bool.eq_iff_iff]; simp; omega
  rw [hz]
  have h1 : (!(decide (16 < m.length) || decide (1024 < t.length))) = (decide (m.length ≤ 16) && decide (t.length ≤ 1024)) := by rw [Bool.eq_iff_iff]; simp
  rw [h1]
  cases tokenL m <;> cases seenL t <;> cases rightFs L <;> simp
  all_goals
    rw [Bool.eq_iff_iff]
    simp
    try omega
end Go.Proofs.YtongceljdgmbdaaGreatDoor
