/-
  The walk of the statement WirePlays: the two readers side by side.
-/
import Derived.Test.YtefplhkjcclppaaGreatDoorW8fLaw07A
import Derived.Test.YtefplhkjcclppaaGreatDoorW8f12
import Derived.Test.YtefplhkjcclppaaGreatDoorW8f15

namespace Go.Pantry
open Go.RowKit
theorem nextX_len {rd : List UInt8 → Except Nat (Hd × Nat)} {fr : Hd → Except Nat (Nat × Nat)} (s : Rd) : (nextX rd fr s).2.came.length ≤ s.came.length := by
  unfold nextX
  split
  · exact Nat.le_refl _
  · cases rd s.came with
    | error e => exact Nat.le_refl _
    | ok p =>
      obtain ⟨h, n⟩ := p
      simp only
      cases fr h with
      | error e => exact Nat.le_refl _
      | ok q =>
        obtain ⟨k, m⟩ := q
        simp only
        cases bodyX k m s.closed (s.came.drop n) with
        | error e => exact Nat.le_refl _
        | ok r =>
          obtain ⟨b, u⟩ := r
          simp
theorem replyX_len (hd : Bool) : ∀ (k : Nat) (s : Rd), (replyX hd k s).2.came.length ≤ s.came.length
  | 0, s => Nat.le_refl _
  | k + 1, s => by
    rw [replyX]
    have h1 : (respX hd s).2.came.length ≤ s.came.length := nextX_len s
    generalize respX hd s = X at h1 ⊢
    obtain ⟨y, t⟩ := X
    cases y with
    | error e => exact h1
    | ok p =>
      obtain ⟨h, b⟩ := p
      simp only
      split
      · exact Nat.le_trans (replyX_len hd k t) h1
      · exact h1
theorem feedX_len {s : Rd} (b : List UInt8) (h : s.came.length ≤ 8192) : (feedX s b).2.came.length ≤ 8192 := by
  unfold feedX
  split
  · exact h
  · split
    · exact h
    · simp; omega
end Go.Pantry
namespace Go.Proofs.YtefplhkjcclppaaGreatDoor
open Go.RowKit Go.Pantry

/-- the program's reader at g and the document's at d, both where s is; both of the call's own since w0 -/
structure Two (w0 w : World) (g : Nat) (v : Value) (d : Nat) (u : Value) (s : Rd) : Prop where
  r : Rdr w0 w g v s
  m : DocAt w d u s
  lod : w0.heap.size ≤ d
  lou : In (fun k => w0.heap.size ≤ k) u
  fd : ¬ Fp g v d
  fu : In (fun k => ¬ Fp g v k) u
  len : s.came.length ≤ 8192
/-- one between: the program's has taken its step, the document's not yet -/
structure Mid (w0 w : World) (g : Nat) (v : Value) (d : Nat) (u : Value) (s t : Rd) : Prop where
  r : Rdr w0 w g v t
  m : DocAt w d u s
  lod : w0.heap.size ≤ d
  lou : In (fun k => w0.heap.size ≤ k) u
  fd : ¬ Fp g v d
  fu : In (fun k => ¬ Fp g v k) u
  len : s.came.length ≤ 8192
theorem Two.then {w0 w w' : World} {g : Nat} {v : Value} {d : Nat} {u : Value} {s : Rd} (h : Two w0 w g v d u s) (hb : Below w.heap.size w w') : Two w0 w' g v d u s :=
  ⟨h.r.then hb, h.m.below hb, h.lod, h.lou, h.fd, h.fu, h.len⟩
theorem Mid.then {w0 w w' : World} {g : Nat} {v : Value} {d : Nat} {u : Value} {s t : Rd} (h : Mid w0 w g v d u s t) (hb : Below w.heap.size w w') : Mid w0 w' g v d u s t :=
  ⟨h.r.then hb, h.m.below hb, h.lod, h.lou, h.fd, h.fu, h.len⟩
theorem Two.stepR {w0 w w' : World} {g : Nat} {v v' : Value} {d : Nat} {u : Value} {s t : Rd} (h : Two w0 w g v d u s) (hr : Rdr w0 w' g v' t) (hk : Kept (Fp g v) w w') (hi : In (fun k => v.ownBlock = some k ∨ w.heap.size ≤ k) v') : Mid w0 w' g v' d u s t := by
  refine ⟨hr, h.m.kept hk h.fd h.fu, h.lod, h.lou, fun hf => ?_, fun k hk2 hf => ?_, h.len⟩
  · rcases hf with hf | hf
    · exact h.fd (.inl hf)
    · rcases hi d hf with h1 | h1
      · exact h.fd (.inr h1)
      · have := h.m.row.lt; omega
  · have hlt := (h.m.apart k hk2).2
    rcases hf with hf | hf
    · exact h.fu k hk2 (.inl hf)
    · rcases hi k hf with h1 | h1
      · exact h.fu k hk2 (.inr h1)
      · omega
theorem Mid.stepM {w0 w w' : World} {g : Nat} {v : Value} {d : Nat} {u u' : Value} {s t : Rd} (h : Mid w0 w g v d u s t) (hm : DocAt w' d u' t) (hk : Kept (fun k => k = d) w w') (hi : In (fun k => u.ownBlock = some k ∨ w.heap.size ≤ k) u') (hl : t.came.length ≤ 8192) : Two w0 w' g v d u' t := by
  refine ⟨h.r.kept hk (fun k hf e => by subst e; exact h.fd hf) (fun k e => by subst e; exact h.lod), hm, h.lod, fun k hk2 => ?_, h.fd, fun k hk2 hf => ?_, hl⟩
  · rcases hi k hk2 with h1 | h1
    · exact h.lou k h1
    · have := h.r.bl.size; omega
  · rcases hi k hk2 with h1 | h1
    · exact h.fu k h1 hf
    · have := Fp.lt h.r.rd hf; omega
end Go.Proofs.YtefplhkjcclppaaGreatDoor
