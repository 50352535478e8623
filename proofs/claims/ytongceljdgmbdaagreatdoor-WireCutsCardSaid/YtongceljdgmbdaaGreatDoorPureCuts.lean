/-
  In whatever pieces bytes come: the plain mathematics of the statement WireCuts. No program is imported.
-/
import Derived.Test.YtongceljdgmbdaaGreatDoorPureWire
namespace Go.Pantry
open Go.RowKit

/-- these messages, one by one, lead from this reader to that -/
def Run : List (Hd × List UInt8) → Rd → Rd → Prop
  | [], s, t => s = t
  | x :: xs, s, t => ∃ u, queryX s = (.ok x, u) ∧ Run xs u t
theorem Run.snoc : ∀ {xs : List (Hd × List UInt8)} {s t u : Rd} {x : Hd × List UInt8}, Run xs s t → queryX t = (.ok x, u) → Run (xs ++ [x]) s u
  | [], _, _, u, _, h, hq => by cases h; exact ⟨u, hq, rfl⟩
  | _ :: _, _, _, _, _, h, hq => by obtain ⟨v, h1, h2⟩ := h; exact ⟨v, h1, h2.snoc hq⟩
theorem Run.len : ∀ {xs : List (Hd × List UInt8)} {c : List UInt8} {t : Rd}, Run xs ⟨c, false, 0⟩ t → t = ⟨t.came, false, 0⟩ ∧ t.came.length + xs.length ≤ c.length
  | [], c, t, h => by cases h; exact ⟨rfl, by simp⟩
  | _ :: xs, c, t, h => by
    obtain ⟨u, h1, h2⟩ := h
    obtain ⟨he, hl⟩ := queryX_good h1
    rw [he] at h2
    have := h2.len
    refine ⟨this.1, ?_⟩
    have h3 := this.2
    simp only [List.length_cons] at h3 ⊢
    omega
/-- where a reader that is fed in pieces stands: after i of n pieces, at bytes fed; the last one told -/
def CutJ (b : List UInt8) (n i at' : Nat) (xs : List (Hd × List UInt8)) (r : Rd) (last : Nat) : Prop :=
  at' ≤ b.length ∧ i ≤ n ∧ r.came.length ≤ b.length ∧ xs.length ≤ b.length ∧
  ((∃ c, r = ⟨c, false, 0⟩ ∧ Run xs ⟨b, false, 0⟩ ⟨c ++ b.drop at', false, 0⟩ ∧ ((last = 0 ∧ i = 0) ∨ (last = 20 ∧ (∃ t, queryX ⟨c, false, 0⟩ = (.error 20, t)) ∧ (i = n → at' = b.length)))) ∨
   (last ≠ 0 ∧ last ≠ 20 ∧ ∃ rest t, Run xs ⟨b, false, 0⟩ ⟨rest, false, 0⟩ ∧ queryX ⟨rest, false, 0⟩ = (.error last, t)))
theorem cutJ_start (b : List UInt8) (n : Nat) : CutJ b n 0 0 [] ⟨[], false, 0⟩ 0 :=
  ⟨Nat.zero_le _, Nat.zero_le _, Nat.zero_le _, Nat.zero_le _, .inl ⟨[], rfl, rfl, .inl ⟨rfl, rfl⟩⟩⟩
/-- while bytes are asked for: what came and what is still ahead -/
def LiveJ (b : List UInt8) (at' : Nat) (xs : List (Hd × List UInt8)) (r : Rd) : Prop :=
  at' ≤ b.length ∧ ∃ c, r = ⟨c, false, 0⟩ ∧ Run xs ⟨b, false, 0⟩ ⟨c ++ b.drop at', false, 0⟩
theorem LiveJ.len {b : List UInt8} {at' : Nat} {xs : List (Hd × List UInt8)} {r : Rd} (h : LiveJ b at' xs r) : r.came.length + (b.length - at') + xs.length ≤ b.length := by
  obtain ⟨h0, c, rfl, hr⟩ := h
  have := hr.len.2
  simp only [List.length_append, List.length_drop] at this ⊢
  omega
theorem CutJ.live {b : List UInt8} {n i at' : Nat} {xs : List (Hd × List UInt8)} {r : Rd} {last : Nat} (h : CutJ b n i at' xs r last) (hl : last = 0 ∨ last = 20) : LiveJ b at' xs r := by
  obtain ⟨h0, h1, h2, h2', ⟨c, hr, hrun, -⟩ | ⟨h3, h4, -⟩⟩ := h
  · exact ⟨h0, c, hr, hrun⟩
  · omega
theorem LiveJ.feed {b : List UInt8} {at' : Nat} {xs : List (Hd × List UInt8)} {r : Rd} (h : LiveJ b at' xs r) (hb : b.length ≤ 3000) {k : Nat} (hk : at' + k ≤ b.length) :
    feedX r ((b.drop at').take k) = (0, ⟨r.came ++ (b.drop at').take k, false, 0⟩) ∧ LiveJ b (at' + k) xs ⟨r.came ++ (b.drop at').take k, false, 0⟩ := by
  have hl := h.len
  obtain ⟨h0, c, rfl, hr⟩ := h
  refine ⟨feedX_ok (by rw [List.length_take, List.length_drop]; simp only at hl; omega), hk, _, rfl, ?_⟩
  rw [List.append_assoc, ← List.drop_drop, List.take_append_drop]
  exact hr
theorem LiveJ.got {b : List UInt8} {at' : Nat} {xs : List (Hd × List UInt8)} {r : Rd} (h : LiveJ b at' xs r) (hb : b.length ≤ 3000) {x : Hd × List UInt8} {t : Rd} (hq : queryX r = (.ok x, t)) :
    LiveJ b at' (xs ++ [x]) t ∧ t.came.length < r.came.length := by
  have hl := h.len
  obtain ⟨h0, c, rfl, hr⟩ := h
  obtain ⟨he, hlt⟩ := queryX_good hq
  have h2 := queryX_ok (r := b.drop at') (by simp only at hl; omega) hq
  refine ⟨⟨h0, t.came, he, hr.snoc ?_⟩, hlt⟩
  exact h2.2.2.2
theorem LiveJ.told {b : List UInt8} {n i at' : Nat} {xs : List (Hd × List UInt8)} {r : Rd} (h : LiveJ b at' xs r) (hb : b.length ≤ 3000) {e : Nat} {t : Rd} (hq : queryX r = (.error e, t)) (hi : i < n) (hn : i + 1 = n → at' = b.length) :
    CutJ b n (i + 1) at' xs t e := by
  have hl := h.len
  obtain ⟨h0, c, rfl, hr⟩ := h
  simp only at hl
  obtain ⟨hc, hcl, hne, hw, h43, hE⟩ := queryX_err (r := b.drop at') (by omega) hq
  refine ⟨h0, hi, by rw [hc]; omega, by omega, ?_⟩
  by_cases h20 : e = 20
  · subst h20
    refine .inl ⟨c, ?_, hr, .inr ⟨rfl, ⟨t, hq⟩, hn⟩⟩
    obtain ⟨a, b', d⟩ := t
    simp only at hc hcl hw
    subst hc hcl hw
    rfl
  · obtain ⟨t', ht'⟩ := hE h20
    exact .inr ⟨hne, h20, _, t', hr, ht'⟩
/-- at the end: from the reader that has it all, the same messages, and then what the last one told -/
theorem CutJ.fin {b : List UInt8} {n i at' : Nat} {xs : List (Hd × List UInt8)} {r : Rd} {last : Nat} (h : CutJ b n i at' xs r last) (hi : (last ≠ 0 ∧ last ≠ 20) ∨ (i = n ∧ 0 < n)) :
    ∃ rest t, Run xs ⟨b, false, 0⟩ ⟨rest, false, 0⟩ ∧ queryX ⟨rest, false, 0⟩ = (.error last, t) := by
  obtain ⟨h0, h1, h2, h2', ⟨c, hr, hrun, h | ⟨h20, ⟨t, ht⟩, hat⟩⟩ | ⟨h3, h4, h5⟩⟩ := h
  · omega
  · have hat' := hat (by omega)
    subst hat' h20
    rw [List.drop_length, List.append_nil] at hrun
    exact ⟨c, t, hrun, ht⟩
  · exact h5
/-- a request that came has few fields -/
theorem queryX_flds {s t : Rd} {h : Hd} {b : List UInt8} (hq : queryX s = (.ok (h, b), t)) : h.flds.length < 1000000 ∧ b.length ≤ 2048 := by
  unfold queryX nextX at hq
  split at hq
  · cases hq
  · cases hr : readL reqL s.came with
    | error e => rw [hr] at hq; simp only at hq; cases hq
    | ok q =>
      obtain ⟨g, n⟩ := q
      rw [hr] at hq
      simp only at hq
      cases hf : reqFr g with
      | error e => rw [hf] at hq; simp only at hq; cases hq
      | ok q =>
        obtain ⟨k, m⟩ := q
        rw [hf] at hq
        simp only at hq
        cases hb : bodyX k m s.closed (s.came.drop n) with
        | error e => rw [hb] at hq; simp only at hq; cases hq
        | ok q =>
          obtain ⟨b', u⟩ := q
          rw [hb] at hq
          simp only at hq
          cases hq
          refine ⟨?_, (bodyX_len hb).2⟩
          have := readReq_right hr
          unfold rightReq at this
          simp only [Bool.and_eq_true] at this
          have h2 := this.1.1.2
          unfold rightFs at h2
          simp only [Bool.and_eq_true, decide_eq_true_eq] at h2
          omega
end Go.Pantry
