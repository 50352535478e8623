/-
  Contracts: bytes.Clone; of package body: readCounted, readToEnd, Read.
-/
import Derived.Test.YtefplhkjcclppaaGreatDoorW8f10
import Derived.Test.YtefplhkjcclppaaGreatDoorShelf

namespace Go.Proofs.YtefplhkjcclppaaGreatDoor
open Go.RowKit Go.Pantry

theorem Clone_any (v : Value) (l : List UInt8) (w : World) (h : Bytes w v l) (hl : l.length ≤ 1000000) :
    Calls Tryz.prog 77 #[v] w fun e w' => ∃ v', e = .returned v' ∧ w'.ownsRow w.heap.size 5 1 v' l.length (l.map byteV) ∧ Below w.heap.size w w' := by
  obtain ⟨ao, cap, rfl, hc, hr⟩ := h
  obtain ⟨ao', cap', hv, hcell, hz⟩ := hr
  rw [List.length_map] at hv
  cases hv
  cases ao with
  | none =>
    have h0 := hz rfl
    obtain rfl : l = [] := List.length_eq_zero_iff.1 (by omega)
    refine (Tryz.bytes_Clone_nil _ _ w).mono ?_
    rintro e w' ⟨rfl, rfl⟩
    exact ⟨_, rfl, World.ownsRow_nil _ _ _ _, Below.refl _ _⟩
  | some a =>
    refine (Tryz.bytes_Clone_at a l.length cap (l.map fun c => (c.toNat : Int)) w (by simp) (by omega) (fun i hi => ?_)).mono ?_
    · obtain ⟨b, off, he, hce⟩ := hcell i (byteV l[i]) (by rw [List.getElem?_map, List.getElem?_eq_getElem hi]; rfl)
      cases he
      rw [addAt2, hce]
      simp [List.getD, hi]
    · rintro e w' ⟨v', rfl, ho, -, hb⟩
      refine ⟨v', rfl, ?_, hb⟩
      rw [List.map_map] at ho
      exact ho
/-- what chunks come to: a body, and how many bytes it takes -/
def readOf (n : Nat) (x : Except Nat (List UInt8 × List UInt8)) : Except Nat (List UInt8 × Nat) := match x with | .error k => .error k | .ok (c, t) => .ok (c, n - t.length)
/-- what a frame's reading comes to -/
def readF (kind len : Int) (closed : Bool) (l : List UInt8) : Except Nat (List UInt8 × Nat) :=
  if len < 0 ∨ 2048 < len then .error 10
  else if kind = 0 then .ok ([], 0)
  else if kind = 1 then (if (l.length : Int) < len then .error (lackN closed) else .ok (l.take len.toNat, len.toNat))
  else if kind = 2 then (readOf l.length (chunksL (lackN closed) (l.length + 1) [] l))
  else if kind = 3 then (if 2048 < l.length then .error 23 else if closed then .ok (l, l.length) else .error 20)
  else .error 10
/-- what Read tells -/
def ReadPost (B : Nat) (x : Except Nat (List UInt8 × Nat)) (e : Ending) (w' : World) : Prop := match x with
  | .error k => k ≠ 0 ∧ e = .returned (.tuple #[.slice none 0 0, .int .i64 0, .int .i64 (k : Int)])
  | .ok (c, n) => ∃ v, e = .returned (.tuple #[v, .int .i64 (n : Int), .int .i64 0]) ∧ w'.ownsRow B 5 1 v c.length (c.map byteV)
theorem ReadPost.form {B : Nat} {x : Except Nat (List UInt8 × Nat)} {e : Ending} {w' : World} (h : ReadPost B x e w') :
    ∃ v n k, e = .returned (.tuple #[v, .int .i64 n, .int .i64 k]) ∧ ∀ B', B' ≤ B → ReadPost B' x (.returned (.tuple #[v, .int .i64 n, .int .i64 k])) w' := by
  cases x with
  | error k => exact ⟨_, _, _, h.2, fun B' _ => ⟨h.1, rfl⟩⟩
  | ok p =>
    obtain ⟨v, rfl, ho⟩ := h
    exact ⟨_, _, _, rfl, fun B' hB => ⟨v, rfl, ho.base hB⟩⟩
theorem ChunksPost.read {B n : Nat} {x : Except Nat (List UInt8 × List UInt8)} {e : Ending} {w' : World} (h : ChunksPost B n x e w') : ReadPost B (readOf n x) e w' := by
  cases x with
  | error k => exact h
  | ok p => exact h.2
set_option maxRecDepth 100000 in
set_option maxHeartbeats 2000000 in
theorem readCounted_any (v : Value) (l : List UInt8) (n : Nat) (closed : Bool) (w : World) (hr : Bytes w v l) (hl : l.length ≤ 1000000) :
    Calls Tryz.prog 48 #[.int .i64 (n : Int), v, .bool closed] w fun e w' => ReadPost w.heap.size (if (l.length : Int) < (n : Int) then .error (lackN closed) else .ok (l.take n, n)) e w' ∧ Below w.heap.size w w' := by
  have c0 := lackN_any closed
  have hlk := lackN_ne closed
  by_cases h : (l.length : Int) < (n : Int)
  · rw [if_pos h]
    generalize lackN closed = lack at c0 hlk ⊢
    obtain ⟨ao, cap, rfl, hc⟩ := bytes_form hr
    have C0 := hid c0
    have HL := hid hlk
    clear c0 hlk hr
    go_enter Tryz.func48, Tryz.ntmps48
    go_wp2_with fail
    refine (C0.out _).mono ?_
    rintro e w1 ⟨rfl, rfl⟩
    go_wp2_with fail
    go_ret3
    exact ⟨⟨HL.out, rfl⟩, Below.refl _ _⟩
  · rw [if_neg h]
    obtain ⟨aoc, cc, hhigh, hvc⟩ := bytes_high (P := Tryz.prog) 27 (by kernel_rfl) (fun _ => by kernel_rfl) hr n (by omega)
    have hlt : (l.take n).length ≤ 1000000 := by rw [List.length_take]; omega
    have c1 := Clone_any _ _ w hvc hlt
    obtain ⟨ao, cap, rfl, hc⟩ := bytes_form hr
    have C1 := hid c1
    have HH := hid hhigh
    clear c0 hlk hr c1 hvc hhigh hlt
    go_enter Tryz.func48, Tryz.ntmps48
    go_wp2_with (refine wpList_slice_high rfl 27 _ _ rfl rfl rfl (by kernel_rfl) (HH.out _) ?_)
    refine C1.out.mono ?_
    rintro e w1 ⟨v', rfl, ho, hb⟩
    go_wp2_with fail
    go_ret3
    exact ⟨⟨_, rfl, ho⟩, hb⟩
set_option maxRecDepth 100000 in
set_option maxHeartbeats 2000000 in
theorem readToEnd_any (v : Value) (l : List UInt8) (closed : Bool) (w : World) (hr : Bytes w v l) (hl : l.length ≤ 1000000) :
    Calls Tryz.prog 50 #[v, .bool closed] w fun e w' => ReadPost w.heap.size (if 2048 < l.length then .error 23 else if closed then .ok (l, l.length) else .error 20) e w' ∧ Below w.heap.size w w' := by
  have c1 := Clone_any _ _ w hr hl
  obtain ⟨ao, cap, rfl, hc⟩ := bytes_form hr
  have C1 := hid c1
  clear hr c1
  by_cases h : (2048 : Int) < (l.length : Int)
  · rw [if_pos (by omega)]
    go_enter Tryz.func50, Tryz.ntmps50
    go_wp2_with fail
    go_ret3
    exact ⟨⟨by decide, rfl⟩, Below.refl _ _⟩
  · rw [if_neg (by omega)]
    cases closed
    · go_enter Tryz.func50, Tryz.ntmps50
      go_wp2_with fail
      go_ret3
      exact ⟨⟨by decide, rfl⟩, Below.refl _ _⟩
    · go_enter Tryz.func50, Tryz.ntmps50
      go_wp2_with fail
      refine C1.out.mono ?_
      rintro e w1 ⟨v', rfl, ho, hb⟩
      go_wp2_with fail
      go_ret3
      exact ⟨⟨_, rfl, ho⟩, hb⟩
set_option maxRecDepth 100000 in
set_option maxHeartbeats 4000000 in
theorem Read_any (kind len : Int) (v : Value) (l : List UInt8) (closed : Bool) (w : World) (hr : Bytes w v l) (hl : l.length ≤ 1000000) :
    Calls Tryz.prog 33 #[.agg #[.int .i64 kind, .int .i64 len], v, .bool closed] w fun e w' => ReadPost w.heap.size (readF kind len closed l) e w' ∧ Below w.heap.size w w' := by
  obtain ⟨W1, hW1⟩ : ∃ W, W = w.alloc (.cells #[.int .i64 kind, .int .i64 len] 80) := ⟨_, rfl⟩
  have hb1 : Below w.heap.size w W1 := by rw [hW1]; exact below_alloc _ _
  have hg1 : rowIs W1 w.heap.size #[.int .i64 kind, .int .i64 len] 80 := by rw [hW1]; exact rowIs_new _ _ _
  have hs1 : w.heap.size ≤ W1.heap.size := hb1.size
  have g0 := hg1.cell 0
  have g1 := hg1.cell 1
  have hr1 := bytes_below hr hb1
  have c1 := fun n => readCounted_any v l n closed W1 hr1 hl
  have c2 : Calls Tryz.prog 49 #[v, .bool closed] W1 fun e w' => ReadPost W1.heap.size (readOf l.length (chunksL (lackN closed) (l.length + 1) [] l)) e w' ∧ Below W1.heap.size W1 w' := (readChunks_any v l closed W1 hr1 hl).mono fun e w' h => ⟨h.1.read, h.2⟩
  have c3 := readToEnd_any v l closed W1 hr1 hl
  have hx : readF kind len closed l = if len < 0 ∨ 2048 < len then .error 10 else if kind = 0 then .ok ([], 0)
    else if kind = 1 then (if (l.length : Int) < len then .error (lackN closed) else .ok (l.take len.toNat, len.toNat))
    else if kind = 2 then (readOf l.length (chunksL (lackN closed) (l.length + 1) [] l))
    else if kind = 3 then (if 2048 < l.length then .error 23 else if closed then .ok (l, l.length) else .error 20)
    else .error 10 := rfl
  generalize readF kind len closed l = x at hx ⊢
  have C1 := hid c1
  have C2 := hid c2
  have C3 := hid c3
  have HX := hid hx
  have HB := hid hb1
  clear c1 c2 c3 hx hg1 hr hr1 hb1
  by_cases hbad : len < 0 ∨ 2048 < len
  · have hx := HX.out
    rw [if_pos hbad] at hx
    subst hx
    clear HX C1 C2 C3
    rcases hbad with h | h
    · go_enter Tryz.func33, Tryz.ntmps33
      go_wp2_with fail
      rw [← hW1]
      go_ret3
      exact ⟨⟨by decide, rfl⟩, HB.out⟩
    · have hn : ¬ len < 0 := by omega
      go_enter Tryz.func33, Tryz.ntmps33
      go_wp2_with fail
      rw [← hW1]
      go_ret3
      exact ⟨⟨by decide, rfl⟩, HB.out⟩
  · have hx := HX.out
    rw [if_neg hbad] at hx
    have HX2 := hid hx
    have n1 : ¬ len < 0 := by omega
    have n2 : ¬ 2048 < len := by omega
    clear HX hx hbad
    by_cases k0 : kind = 0
    · have hx := HX2.out
      rw [if_pos k0] at hx
      subst hx k0
      clear HX2 C1 C2 C3
      go_enter Tryz.func33, Tryz.ntmps33
      go_wp2_with fail
      rw [← hW1]
      go_ret3
      exact ⟨⟨_, rfl, World.ownsRow_nil _ _ _ _⟩, HB.out⟩
    · have z0 : (kind == 0) = false := by simpa using k0
      have hx := HX2.out
      rw [if_neg k0] at hx
      have HX3 := hid hx
      clear HX2 hx k0
      by_cases k1 : kind = 1
      · have hx := HX3.out
        rw [if_pos k1] at hx
        obtain ⟨n, rfl⟩ : ∃ n : Nat, len = (n : Int) := ⟨len.toNat, by omega⟩
        rw [Int.toNat_natCast] at hx
        have c1 := C1.out n
        rw [← hx] at c1
        have D1 := hid c1
        subst k1
        clear HX3 hx c1 C1 C2 C3
        go_enter Tryz.func33, Tryz.ntmps33
        go_wp2_with fail
        rw [← hW1]
        clear hW1
        refine D1.out.mono ?_
        rintro e w2 ⟨hp, hb2⟩
        obtain ⟨v2, n2, k2, rfl, hp2⟩ := hp.form
        go_wp2_with fail
        go_ret3
        exact ⟨hp2 _ hs1, chain2 HB.out HB.out.size hb2⟩
      · have z1 : (kind == 1) = false := by simpa using k1
        have hx := HX3.out
        rw [if_neg k1] at hx
        have HX4 := hid hx
        clear HX3 hx k1
        by_cases k2 : kind = 2
        · have hx := HX4.out
          rw [if_pos k2] at hx
          have c2 := C2.out
          rw [← hx] at c2
          have D1 := hid c2
          subst k2
          clear HX4 hx c2 C1 C2 C3
          go_enter Tryz.func33, Tryz.ntmps33
          go_wp2_with fail
          rw [← hW1]
          clear hW1
          refine D1.out.mono ?_
          rintro e w2 ⟨hp, hb2⟩
          obtain ⟨v2, n2, k2, rfl, hp2⟩ := hp.form
          go_wp2_with fail
          go_ret3
          exact ⟨hp2 _ hs1, chain2 HB.out HB.out.size hb2⟩
        · have z2 : (kind == 2) = false := by simpa using k2
          have hx := HX4.out
          rw [if_neg k2] at hx
          have HX5 := hid hx
          clear HX4 hx k2
          by_cases k3 : kind = 3
          · have hx := HX5.out
            rw [if_pos k3] at hx
            have c3 := C3.out
            rw [← hx] at c3
            have D1 := hid c3
            subst k3
            clear HX5 hx c3 C1 C2 C3
            go_enter Tryz.func33, Tryz.ntmps33
            go_wp2_with fail
            rw [← hW1]
            clear hW1
            refine D1.out.mono ?_
            rintro e w2 ⟨hp, hb2⟩
            obtain ⟨v2, n2, k2, rfl, hp2⟩ := hp.form
            go_wp2_with fail
            go_ret3
            exact ⟨hp2 _ hs1, chain2 HB.out HB.out.size hb2⟩
          · have z3 : (kind == 3) = false := by simpa using k3
            have hx := HX5.out
            rw [if_neg k3] at hx
            subst hx
            clear HX5 C1 C2 C3 k3
            go_enter Tryz.func33, Tryz.ntmps33
            go_wp2_with fail
            rw [← hW1]
            go_ret3
            exact ⟨⟨by decide, rfl⟩, HB.out⟩
end Go.Proofs.YtefplhkjcclppaaGreatDoor
