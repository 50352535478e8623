/-
  Bodies: the plain mathematics of layer 6: hexadecimal digits, chunks as they are written and as they are read. No program is imported.
-/
import Derived.Test.YtfoghjhdjmapnaaDoorPureSign
namespace Go.Pantry
open Go.RowKit

def crlfB : List UInt8 := [13, 10]
/-- a digit's value -/
def hexV (c : UInt8) : Option Nat :=
  if 48 ≤ c.toNat ∧ c.toNat ≤ 57 then some (c.toNat - 48)
  else if 97 ≤ c.toNat ∧ c.toNat ≤ 102 then some (c.toNat - 87)
  else if 65 ≤ c.toNat ∧ c.toNat ≤ 70 then some (c.toNat - 55) else none
theorem hexV_le {c : UInt8} {v : Nat} (h : hexV c = some v) : v ≤ 15 := by
  unfold hexV at h
  split at h
  · cases h; omega
  · split at h
    · cases h; omega
    · split at h
      · cases h; omega
      · cases h
/-- the digits ahead, at most so many: what they come to behind n, and how many they are -/
def hexRun : Nat → Nat → List UInt8 → Nat × Nat
  | 0, n, _ => (n, 0)
  | _ + 1, n, [] => (n, 0)
  | m + 1, n, c :: s => match hexV c with
    | none => (n, 0)
    | some v => ((hexRun m (16 * n + v) s).1, (hexRun m (16 * n + v) s).2 + 1)
theorem hexRun_none {m n : Nat} {c : UInt8} {s : List UInt8} (h : hexV c = none) : hexRun m n (c :: s) = (n, 0) := by
  cases m with
  | zero => rfl
  | succ m => rw [hexRun, h]
theorem hexRun_some {m n v : Nat} {c : UInt8} {s : List UInt8} (h : hexV c = some v) : hexRun (m + 1) n (c :: s) = ((hexRun m (16 * n + v) s).1, (hexRun m (16 * n + v) s).2 + 1) := by
  rw [hexRun, h]
theorem hexRun_nil (m n : Nat) : hexRun m n [] = (n, 0) := by cases m <;> rfl
theorem one_pow (m : Nat) : 1 ≤ 16 ^ m := Nat.one_le_pow _ _ (by decide)
theorem hexRun_le : ∀ (m n : Nat) (s : List UInt8), (hexRun m n s).2 ≤ s.length ∧ (hexRun m n s).2 ≤ m ∧ (hexRun m n s).1 < (n + 1) * 16 ^ m
  | 0, n, s => ⟨Nat.zero_le _, Nat.zero_le _, by show n < (n + 1) * 1; omega⟩
  | m + 1, n, [] => ⟨Nat.zero_le _, Nat.zero_le _, Nat.lt_of_lt_of_le (by omega : n < (n + 1) * 1) (Nat.mul_le_mul_left _ (one_pow _))⟩
  | m + 1, n, c :: s => by
    cases h : hexV c with
    | none =>
      rw [hexRun_none h]
      exact ⟨Nat.zero_le _, Nat.zero_le _, Nat.lt_of_lt_of_le (by omega : n < (n + 1) * 1) (Nat.mul_le_mul_left _ (one_pow _))⟩
    | some v =>
      have hv := hexV_le h
      rw [hexRun_some h]
      obtain ⟨h1, h2, h3⟩ := hexRun_le m (16 * n + v) s
      refine ⟨by simp only [List.length_cons]; omega, by simp only; omega, ?_⟩
      show (hexRun m (16 * n + v) s).1 < _
      calc (hexRun m (16 * n + v) s).1 < (16 * n + v + 1) * 16 ^ m := h3
        _ ≤ (16 * (n + 1)) * 16 ^ m := Nat.mul_le_mul_right _ (by omega)
        _ = (n + 1) * 16 ^ (m + 1) := by rw [Nat.pow_succ, Nat.mul_comm 16, Nat.mul_assoc, Nat.mul_comm 16]
/-- a line's end: 0, or the error -/
def lineE (lack : Nat) : List UInt8 → Nat
  | [] => lack
  | [c] => if c = 13 then lack else 21
  | c :: d :: _ => if c = 13 ∧ d = 10 then 0 else 21
theorem lineE_one (lack : Nat) (c : UInt8) : lineE lack [c] = if c = 13 then lack else 21 := rfl
theorem lineE_two (lack : Nat) (c d : UInt8) (s : List UInt8) : lineE lack (c :: d :: s) = if c = 13 ∧ d = 10 then 0 else 21 := rfl
theorem lineE_ok {lack : Nat} {s : List UInt8} (hl : lack ≠ 0) (h : lineE lack s = 0) : ∃ t, s = 13 :: 10 :: t := by
  match s with
  | [] => exact absurd h hl
  | [c] =>
    rw [lineE_one] at h
    by_cases hc : c = 13
    · rw [if_pos hc] at h; exact absurd h hl
    · rw [if_neg hc] at h; cases h
  | c :: d :: t =>
    rw [lineE_two] at h
    by_cases hc : c = 13 ∧ d = 10
    · exact ⟨t, by rw [hc.1, hc.2]⟩
    · rw [if_neg hc] at h; cases h
theorem lineE_crlf (lack : Nat) (t : List UInt8) : lineE lack (13 :: 10 :: t) = 0 := rfl
theorem lineE_cases (lack : Nat) (s : List UInt8) : lineE lack s = 0 ∨ lineE lack s = lack ∨ lineE lack s = 21 := by
  match s with
  | [] => exact .inr (.inl rfl)
  | [c] =>
    rw [lineE_one]
    by_cases hc : c = 13
    · rw [if_pos hc]; exact .inr (.inl rfl)
    · rw [if_neg hc]; exact .inr (.inr rfl)
  | c :: d :: t =>
    rw [lineE_two]
    by_cases hc : c = 13 ∧ d = 10
    · rw [if_pos hc]; exact .inl rfl
    · rw [if_neg hc]; exact .inr (.inr rfl)
/-- a chunk's number, and what is behind its digits -/
def numE (s : List UInt8) : Nat := if (hexRun 8 0 s).2 = 0 ∧ s ≠ [] then 21 else 0
/-- a chunk, and what is behind it -/
def chunkL (lack most : Nat) (s : List UInt8) : Except Nat (List UInt8 × List UInt8) :=
  if numE s ≠ 0 then .error 21
  else if lineE lack (s.drop (hexRun 8 0 s).2) ≠ 0 then .error (lineE lack (s.drop (hexRun 8 0 s).2))
  else if most < (hexRun 8 0 s).1 then .error 23
  else if (s.drop ((hexRun 8 0 s).2 + 2)).length < (hexRun 8 0 s).1 then .error lack
  else if lineE lack ((s.drop ((hexRun 8 0 s).2 + 2)).drop (hexRun 8 0 s).1) ≠ 0 then .error (lineE lack ((s.drop ((hexRun 8 0 s).2 + 2)).drop (hexRun 8 0 s).1))
  else .ok ((s.drop ((hexRun 8 0 s).2 + 2)).take (hexRun 8 0 s).1, (s.drop ((hexRun 8 0 s).2 + 2)).drop ((hexRun 8 0 s).1 + 2))
def chunksL (lack : Nat) : Nat → List UInt8 → List UInt8 → Except Nat (List UInt8 × List UInt8)
  | 0, _, _ => .error 0
  | k + 1, acc, s => match chunkL lack (2048 - acc.length) s with
    | .error e => .error e
    | .ok (c, t) => if c.length = 0 then .ok (acc, t) else chunksL lack k (acc ++ c) t
theorem chunkL_ok {lack most : Nat} {s c t : List UInt8} (hl : lack ≠ 0) (h : chunkL lack most s = .ok (c, t)) : c.length ≤ most ∧ c.length + t.length + 4 ≤ s.length ∧ t = s.drop (s.length - t.length) := by
  unfold chunkL at h
  split at h
  · cases h
  · split at h
    · cases h
    · rename_i h1 h2
      obtain ⟨u, hu⟩ := lineE_ok hl (Decidable.not_not.1 h2)
      rw [← List.drop_drop, hu] at h
      have e2 : List.drop 2 (13 :: 10 :: u) = u := rfl
      rw [e2] at h
      have hul := congrArg List.length hu
      simp only [List.length_drop, List.length_cons] at hul
      split at h
      · cases h
      · split at h
        · cases h
        · split at h
          · cases h
          · rename_i h3 h4 h5
            obtain ⟨x, hx⟩ := lineE_ok hl (Decidable.not_not.1 h5)
            have hxl := congrArg List.length hx
            simp only [List.length_drop, List.length_cons] at hxl
            cases h
            rw [← List.drop_drop, hx]
            have e3 : List.drop 2 (13 :: 10 :: x) = x := rfl
            rw [e3]
            refine ⟨by rw [List.length_take]; omega, by rw [List.length_take]; omega, ?_⟩
            have e4 : x = s.drop ((hexRun 8 0 s).2 + 2 + (hexRun 8 0 s).1 + 2) := by
              rw [← List.drop_drop, ← List.drop_drop, ← List.drop_drop, hu, e2, hx]; rfl
            have e5 := congrArg List.length e4
            rw [List.length_drop] at e5
            rw [show s.length - x.length = (hexRun 8 0 s).2 + 2 + (hexRun 8 0 s).1 + 2 by omega]
            exact e4
theorem chunkL_err {lack most e : Nat} {s : List UInt8} (h : chunkL lack most s = .error e) (hl : lack ≠ 0) : e ≠ 0 := by
  unfold chunkL at h
  split at h
  · cases h; decide
  · split at h
    · rename_i h2; cases h; exact h2
    · split at h
      · cases h; decide
      · split at h
        · cases h; exact hl
        · split at h
          · rename_i h2; cases h; exact h2
          · cases h
/-- any road that is long enough leads there -/
theorem chunksL_fuel {lack : Nat} (hl : lack ≠ 0) : ∀ (k m : Nat) (acc s : List UInt8), s.length < k → s.length < m → chunksL lack k acc s = chunksL lack m acc s
  | 0, _, _, s, h, _ => by omega
  | _ + 1, 0, _, s, _, h => by omega
  | k + 1, m + 1, acc, s, h1, h2 => by
    unfold chunksL
    cases hc : chunkL lack (2048 - acc.length) s with
    | error e => rfl
    | ok p =>
      obtain ⟨c, t⟩ := p
      have := chunkL_ok hl hc
      simp only
      split
      · rfl
      · exact chunksL_fuel hl k m (acc ++ c) t (by omega) (by omega)

/-- a number's digit -/
def hexD (n : Nat) : UInt8 := if n < 10 then (48 + n).toUInt8 else (87 + n).toUInt8
/-- a number, in small letters, without noughts ahead -/
def hexN (n : Nat) : List UInt8 := if n < 16 then [hexD n] else hexN (n / 16) ++ [hexD (n % 16)]
termination_by n
decreasing_by omega
theorem hexD_V : ∀ n : Nat, n < 16 → hexV (hexD n) = some n := by decide
theorem hexN_small {n : Nat} (h : n < 16) : hexN n = [hexD n] := by rw [hexN, if_pos h]
theorem hexN_big {n : Nat} (h : 16 ≤ n) : hexN n = hexN (n / 16) ++ [hexD (n % 16)] := by rw [hexN, if_neg (by omega)]
theorem hexN_len : ∀ (k n : Nat), n < 16 ^ (k + 1) → (hexN n).length ≤ k + 1
  | 0, n, h => by rw [hexN_small (by simpa using h)]; simp
  | k + 1, n, h => by
    by_cases h16 : n < 16
    · rw [hexN_small h16]; simp
    · rw [hexN_big (by omega), List.length_append]
      have := hexN_len k (n / 16) (by rw [Nat.div_lt_iff_lt_mul (by decide)]; rw [Nat.pow_succ] at h; exact h)
      simp; omega
theorem hexN_pos (n : Nat) : 0 < (hexN n).length := by
  rw [hexN]
  split
  · simp
  · simp
/-- digits are read as the number that they show -/
theorem hexRun_N : ∀ (n m : Nat) (s : List UInt8), (hexN n).length ≤ m → hexRun m 0 (hexN n ++ s) = ((hexRun (m - (hexN n).length) n s).1, (hexRun (m - (hexN n).length) n s).2 + (hexN n).length) := by
  intro n
  induction n using Nat.strongRecOn with
  | ind n ih =>
    intro m s hm
    by_cases h16 : n < 16
    · rw [hexN_small h16] at hm ⊢
      obtain ⟨m, rfl⟩ : ∃ k, m = k + 1 := ⟨m - 1, by simp at hm; omega⟩
      show hexRun (m + 1) 0 (hexD n :: s) = _
      rw [hexRun_some (hexD_V n h16)]
      simp
    · have e := hexN_big (n := n) (by omega)
      have hl : (hexN n).length = (hexN (n / 16)).length + 1 := by rw [e]; simp
      rw [e, List.append_assoc, ih (n / 16) (by omega) m _ (by omega), ← e, hl]
      obtain ⟨k, hk⟩ : ∃ k, m - (hexN (n / 16)).length = k + 1 := ⟨m - (hexN (n / 16)).length - 1, by omega⟩
      rw [hk, show m - ((hexN (n / 16)).length + 1) = k by omega]
      show ((hexRun (k + 1) (n / 16) (hexD (n % 16) :: s)).1, (hexRun (k + 1) (n / 16) (hexD (n % 16) :: s)).2 + (hexN (n / 16)).length) = _
      rw [hexRun_some (hexD_V _ (Nat.mod_lt _ (by decide))), show 16 * (n / 16) + n % 16 = n by omega]
      simp; omega
theorem hexRun_line {n : Nat} (h : n < 4294967296) (s : List UInt8) : hexRun 8 0 (hexN n ++ 13 :: s) = (n, (hexN n).length) := by
  rw [hexRun_N n 8 _ (hexN_len 7 n h), hexRun_none (by decide)]
  simp
/-- what is cut off within the digits -/
theorem hexRun_take : ∀ (l : List UInt8) (m n : Nat), (∀ c ∈ l, (hexV c).isSome = true) → l.length ≤ m → (hexRun m n l).2 = l.length
  | [], m, n, _, _ => by rw [hexRun_nil]; rfl
  | c :: l, m, n, hc, hm => by
    obtain ⟨m, rfl⟩ : ∃ k, m = k + 1 := ⟨m - 1, by simp at hm; omega⟩
    obtain ⟨v, hv⟩ := Option.isSome_iff_exists.1 (hc c (by simp))
    rw [hexRun_some hv]
    show (hexRun m (16 * n + v) l).2 + 1 = _
    rw [hexRun_take l m _ (fun d hd => hc d (by simp [hd])) (by simp at hm; omega)]
    rfl
theorem hexN_digits : ∀ (n : Nat), ∀ c ∈ hexN n, (hexV c).isSome = true := by
  intro n
  induction n using Nat.strongRecOn with
  | ind n ih =>
    intro c hc
    by_cases h16 : n < 16
    · rw [hexN_small h16] at hc
      simp at hc
      rw [hc, hexD_V n h16]; rfl
    · rw [hexN_big (by omega)] at hc
      rcases List.mem_append.1 hc with h | h
      · exact ih (n / 16) (by omega) c h
      · simp at h
        rw [h, hexD_V _ (Nat.mod_lt _ (by decide))]; rfl

/-- a chunk's text -/
def chunkT (c : List UInt8) : List UInt8 := hexN c.length ++ crlfB ++ c ++ crlfB
/-- the text of chunks, and the last one -/
def chunksT (cs : List (List UInt8)) : List UInt8 := cs.flatMap chunkT ++ chunkT []
theorem chunkT_eq (c r : List UInt8) : chunkT c ++ r = hexN c.length ++ 13 :: 10 :: (c ++ 13 :: 10 :: r) := by
  unfold chunkT crlfB; simp
theorem chunk_begin {c : List UInt8} (h : c.length < 4294967296) (s : List UInt8) : (hexRun 8 0 (hexN c.length ++ 13 :: 10 :: s)).1 = c.length ∧ (hexRun 8 0 (hexN c.length ++ 13 :: 10 :: s)).2 = (hexN c.length).length ∧ numE (hexN c.length ++ 13 :: 10 :: s) = 0 ∧ (hexN c.length ++ 13 :: 10 :: s).drop (hexN c.length).length = 13 :: 10 :: s ∧ (hexN c.length ++ 13 :: 10 :: s).drop ((hexN c.length).length + 2) = s := by
  have e := hexRun_line h (10 :: s)
  have hp := hexN_pos c.length
  refine ⟨by rw [e], by rw [e], ?_, List.drop_left, ?_⟩
  · unfold numE
    rw [e, if_neg]
    rintro ⟨h1, _⟩
    simp only at h1
    omega
  · rw [← List.drop_drop, List.drop_left]; rfl
theorem chunk_text {lack most : Nat} {c : List UInt8} (hb : c.length < 4294967296) (h : c.length ≤ most) (r : List UInt8) : chunkL lack most (chunkT c ++ r) = .ok (c, r) := by
  rw [chunkT_eq]
  obtain ⟨h1, h2, h3, h4, h5⟩ := chunk_begin hb (c ++ 13 :: 10 :: r)
  unfold chunkL
  rw [h3, h2, h1, h4, h5, lineE_crlf, List.drop_left, lineE_crlf, if_neg (by simp), if_neg (by simp), if_neg (by omega), if_neg (by simp), if_neg (by simp), List.take_left, ← List.drop_drop, List.drop_left]
  rfl
theorem chunk_big {lack most : Nat} {c : List UInt8} (hb : c.length < 4294967296) (h : most < c.length) (r : List UInt8) : chunkL lack most (chunkT c ++ r) = .error 23 := by
  rw [chunkT_eq]
  obtain ⟨h1, h2, h3, h4, h5⟩ := chunk_begin hb (c ++ 13 :: 10 :: r)
  unfold chunkL
  rw [h3, h2, h1, h4, lineE_crlf, if_neg (by simp), if_neg (by simp), if_pos h]
theorem lineE_cut (lack : Nat) {k : Nat} (h : k < 2) : lineE lack (crlfB.take k) = lack := by
  match k, h with
  | 0, _ => rfl
  | 1, _ => rfl
/-- a chunk that is cut off -/
theorem chunk_cut {lack most : Nat} (hl : lack ≠ 0) {c : List UInt8} (hb : c.length < 4294967296) (h : c.length ≤ most) {k : Nat} (hk : k < (chunkT c).length) : chunkL lack most ((chunkT c).take k) = .error lack := by
  have hlen : (chunkT c).length = (hexN c.length).length + 2 + c.length + 2 := by unfold chunkT crlfB; simp; omega
  have h8 := hexN_len 7 c.length hb
  by_cases h1 : k ≤ (hexN c.length).length
  · have e : (chunkT c).take k = (hexN c.length).take k := by
      unfold chunkT
      rw [List.append_assoc, List.append_assoc, List.take_append_of_le_length h1]
    rw [e]
    have hd : ((hexN c.length).take k).length = k := by rw [List.length_take]; omega
    have hr := hexRun_take ((hexN c.length).take k) 8 0 (fun x hx => hexN_digits _ x (List.mem_of_mem_take hx)) (by omega)
    unfold chunkL numE
    rw [hr, List.drop_length]
    have e0 : lineE lack [] = lack := rfl
    rw [e0, if_neg, if_pos hl]
    split
    · rename_i h3
      exact absurd (List.length_eq_zero_iff.1 h3.1) h3.2
    · simp
  · by_cases h2 : k = (hexN c.length).length + 1
    · have e : (chunkT c).take k = hexN c.length ++ [13] := by
        have := chunkT_eq c []
        rw [List.append_nil] at this
        rw [this, h2, List.take_append, List.take_of_length_le (Nat.le_succ _), Nat.add_sub_cancel_left]
        rfl
      rw [e]
      have hr := hexRun_line hb []
      have hp := hexN_pos c.length
      unfold chunkL numE
      rw [hr]
      simp only [List.drop_left]
      have e0 : lineE lack [13] = lack := rfl
      rw [e0, if_neg, if_pos hl]
      rw [if_neg]
      · simp
      · rintro ⟨h3, _⟩; omega
    · obtain ⟨j, rfl⟩ : ∃ j, k = (hexN c.length).length + 2 + j := ⟨k - (hexN c.length).length - 2, by omega⟩
      have e : (chunkT c).take ((hexN c.length).length + 2 + j) = hexN c.length ++ 13 :: 10 :: ((c ++ crlfB).take j) := by
        have := chunkT_eq c []
        rw [List.append_nil] at this
        rw [this, List.take_append, List.take_of_length_le (by omega), show (hexN c.length).length + 2 + j - (hexN c.length).length = j + 2 by omega]
        rfl
      rw [e]
      obtain ⟨a1, a2, a3, a4, a5⟩ := chunk_begin hb ((c ++ crlfB).take j)
      unfold chunkL
      rw [a3, a2, a1, a4, a5, lineE_crlf, if_neg (by simp), if_neg (by simp), if_neg (by omega)]
      by_cases hj : j < c.length
      · rw [if_pos (by rw [List.length_take]; omega)]
      · have e3 : ((c ++ crlfB).take j).drop c.length = crlfB.take (j - c.length) := by
          rw [List.take_append, List.take_of_length_le (by omega), List.drop_left]
        rw [if_neg (by rw [List.length_take, List.length_append]; omega), e3, lineE_cut lack (by omega), if_pos hl]
theorem chunksL_step {lack k : Nat} {acc s c t : List UInt8} (h : chunkL lack (2048 - acc.length) s = .ok (c, t)) (hc : 0 < c.length) : chunksL lack (k + 1) acc s = chunksL lack k (acc ++ c) t := by
  rw [chunksL, h]
  simp only
  rw [if_neg (by omega)]
theorem chunksL_fail {lack k e : Nat} {acc s : List UInt8} (h : chunkL lack (2048 - acc.length) s = .error e) : chunksL lack (k + 1) acc s = .error e := by
  rw [chunksL, h]
theorem chunksT_cons (c : List UInt8) (cs : List (List UInt8)) : chunksT (c :: cs) = chunkT c ++ chunksT cs := by
  unfold chunksT; simp
theorem chunks_text (lack : Nat) : ∀ (cs : List (List UInt8)) (k : Nat) (acc rest : List UInt8), (∀ c ∈ cs, 0 < c.length) → cs.length < k → acc.length + cs.flatten.length ≤ 2048 → chunksL lack k acc (chunksT cs ++ rest) = .ok (acc ++ cs.flatten, rest)
  | _, 0, _, _, _, h, _ => by omega
  | [], k + 1, acc, rest, _, _, hs => by
    have h := chunk_text (lack := lack) (most := 2048 - acc.length) (c := []) (by decide) (by simp) rest
    show chunksL lack (k + 1) acc (chunkT [] ++ rest) = _
    rw [chunksL, h]
    simp
  | c :: cs, k + 1, acc, rest, hc, hk, hs => by
    simp only [List.flatten_cons, List.length_append] at hs
    rw [chunksT_cons, List.append_assoc, chunksL_step (chunk_text (by omega) (by omega) _) (hc c (by simp)), chunks_text lack cs k (acc ++ c) rest (fun x hx => hc x (by simp [hx])) (by simp at hk; omega) (by rw [List.length_append]; omega)]
    simp
theorem chunks_big (lack : Nat) : ∀ (cs : List (List UInt8)) (k : Nat) (acc rest : List UInt8), (∀ c ∈ cs, 0 < c.length ∧ c.length < 4294967296) → cs.length < k → acc.length ≤ 2048 → 2048 < acc.length + cs.flatten.length → chunksL lack k acc (chunksT cs ++ rest) = .error 23
  | _, 0, _, _, _, h, _, _ => by omega
  | [], k + 1, acc, rest, _, _, h1, h2 => by simp at h2; omega
  | c :: cs, k + 1, acc, rest, hc, hk, h1, h2 => by
    simp only [List.flatten_cons, List.length_append] at h2
    rw [chunksT_cons, List.append_assoc]
    by_cases hb : c.length ≤ 2048 - acc.length
    · rw [chunksL_step (chunk_text (hc c (by simp)).2 hb _) (hc c (by simp)).1]
      exact chunks_big lack cs k (acc ++ c) rest (fun x hx => hc x (by simp [hx])) (by simp at hk; omega) (by rw [List.length_append]; omega) (by rw [List.length_append]; omega)
    · exact chunksL_fail (chunk_big (hc c (by simp)).2 (by omega) _)
theorem chunks_cut {lack : Nat} (hl : lack ≠ 0) : ∀ (cs : List (List UInt8)) (k : Nat) (acc : List UInt8) (i : Nat), (∀ c ∈ cs, 0 < c.length) → cs.length < k → acc.length + cs.flatten.length ≤ 2048 → i < (chunksT cs).length → chunksL lack k acc ((chunksT cs).take i) = .error lack
  | _, 0, _, _, _, h, _, _ => by omega
  | [], k + 1, acc, i, _, _, hs, hi => by
    have e : chunksT [] = chunkT [] := rfl
    rw [e] at hi ⊢
    exact chunksL_fail (chunk_cut hl (by decide) (by simp) hi)
  | c :: cs, k + 1, acc, i, hc, hk, hs, hi => by
    simp only [List.flatten_cons, List.length_append] at hs
    rw [chunksT_cons] at hi ⊢
    rw [List.length_append] at hi
    by_cases h : i < (chunkT c).length
    · rw [List.take_append_of_le_length (by omega)]
      exact chunksL_fail (chunk_cut hl (by omega) (by omega) h)
    · rw [List.take_append, List.take_of_length_le (by omega), chunksL_step (chunk_text (by omega) (by omega) _) (hc c (by simp))]
      exact chunks_cut hl cs k (acc ++ c) _ (fun x hx => hc x (by simp [hx])) (by simp at hk; omega) (by rw [List.length_append]; omega) (by omega)
/-- a body, in chunks of these sizes -/
def cutS : List UInt8 → List Int → List (List UInt8)
  | b, [] => if b.length = 0 then [] else [b]
  | b, z :: zs => if 0 < min z (b.length : Int) then b.take (min z (b.length : Int)).toNat :: cutS (b.drop (min z (b.length : Int)).toNat) zs else cutS b zs
theorem cutS_pos : ∀ (zs : List Int) (b : List UInt8), ∀ c ∈ cutS b zs, 0 < c.length ∧ c.length ≤ b.length
  | [], b, c, h => by
    unfold cutS at h
    split at h
    · cases h
    · simp at h; subst h; omega
  | z :: zs, b, c, h => by
    unfold cutS at h
    split at h
    · rcases List.mem_cons.1 h with rfl | h
      · rw [List.length_take]; omega
      · have := cutS_pos zs _ c h
        rw [List.length_drop] at this
        omega
    · exact cutS_pos zs b c h
theorem cutS_flat : ∀ (zs : List Int) (b : List UInt8), (cutS b zs).flatten = b
  | [], b => by
    unfold cutS
    split
    · rename_i h; rw [List.length_eq_zero_iff.1 h]; rfl
    · simp
  | z :: zs, b => by
    unfold cutS
    split
    · rw [List.flatten_cons, cutS_flat zs, List.take_append_drop]
    · exact cutS_flat zs b
theorem cutS_len : ∀ (zs : List Int) (b : List UInt8), (cutS b zs).length ≤ zs.length + 1
  | [], b => by
    unfold cutS
    split <;> simp
  | z :: zs, b => by
    unfold cutS
    split
    · have := cutS_len zs (b.drop (min z (b.length : Int)).toNat)
      simp; omega
    · have := cutS_len zs b
      simp; omega
theorem cutS_text_len : ∀ (cs : List (List UInt8)), (∀ c ∈ cs, c.length < 4294967296) → (chunksT cs).length ≤ cs.flatten.length + 12 * cs.length + 12
  | [], _ => by
    have e : chunksT [] = chunkT [] := rfl
    rw [e]
    have h8 := hexN_len 7 ([] : List UInt8).length (by decide)
    unfold chunkT crlfB
    simp at h8 ⊢; omega
  | c :: cs, h => by
    have := cutS_text_len cs (fun x hx => h x (by simp [hx]))
    have h8 := hexN_len 7 c.length (h c (by simp))
    rw [chunksT_cons, List.length_append, List.flatten_cons, List.length_append, List.length_cons]
    have hc : (chunkT c).length = (hexN c.length).length + 2 + c.length + 2 := by unfold chunkT crlfB; simp; omega
    omega
end Go.Pantry
