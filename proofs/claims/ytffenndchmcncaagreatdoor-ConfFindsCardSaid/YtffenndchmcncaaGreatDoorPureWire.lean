/-
  Messages out of bytes: the plain mathematics of layer 7: a reader's steps, what stays when more bytes come. No program is imported.
-/
import Derived.Test.YtffenndchmcncaaGreatDoorPureAll2
namespace Go.Pantry
open Go.RowKit

def lackW (closed : Bool) : Nat := if closed then 21 else 20
def ofChunks (n : Nat) (x : Except Nat (List UInt8 × List UInt8)) : Except Nat (List UInt8 × Nat) := match x with | .error e => .error e | .ok p => .ok (p.1, n - p.2.length)
/-- what a frame's reading comes to -/
def bodyX (kind len : Nat) (closed : Bool) (l : List UInt8) : Except Nat (List UInt8 × Nat) :=
  if 2048 < len then .error 10
  else if kind = 0 then .ok ([], 0)
  else if kind = 1 then (if l.length < len then .error (lackW closed) else .ok (l.take len, len))
  else if kind = 2 then ofChunks l.length (chunksL (lackW closed) (l.length + 1) [] l)
  else if kind = 3 then (if 2048 < l.length then .error 23 else if closed then .ok (l, l.length) else .error 20)
  else .error 10
/-- an error of a head -/
def headE (closed : Bool) (came : List UInt8) (e : Nat) : Nat := if e = 20 ∧ closed = true then (if came = [] then 43 else 21) else e
/-- the error that stays -/
def tellX (e : Nat) : Nat := if e = 20 ∨ e = 43 then 0 else e
/-- a reader: the bytes that came, whether it is closed, its error -/
structure Rd where
  came : List UInt8
  closed : Bool
  wrong : Nat
/-- what the next message comes to, and the reader behind it -/
def nextX (rd : List UInt8 → Except Nat (Hd × Nat)) (fr : Hd → Except Nat (Nat × Nat)) (s : Rd) : Except Nat (Hd × List UInt8) × Rd :=
  if s.wrong ≠ 0 then (.error s.wrong, s)
  else match rd s.came with
    | .error e => (.error (headE s.closed s.came e), ⟨s.came, s.closed, tellX (headE s.closed s.came e)⟩)
    | .ok (h, n) => match fr h with
      | .error e => (.error e, ⟨s.came, s.closed, tellX e⟩)
      | .ok (k, m) => match bodyX k m s.closed (s.came.drop n) with
        | .error e => (.error e, ⟨s.came, s.closed, tellX e⟩)
        | .ok (b, u) => (.ok (h, b), ⟨s.came.drop (n + u), s.closed, 0⟩)
def reqFr (h : Hd) : Except Nat (Nat × Nat) := frameX (h.minor : Int) 0 h.flds
def resFr (head : Bool) (h : Hd) : Except Nat (Nat × Nat) := if bareX head (h.status : Int) then .ok (0, 0) else frameX (h.minor : Int) 3 h.flds
def queryX (s : Rd) : Except Nat (Hd × List UInt8) × Rd := nextX (readL reqL) reqFr s
def respX (head : Bool) (s : Rd) : Except Nat (Hd × List UInt8) × Rd := nextX (readL resL) (resFr head) s
/-- responses with a status below 200 are passed over -/
def replyX (head : Bool) : Nat → Rd → Except Nat (Hd × List UInt8) × Rd
  | 0, s => (.error 0, s)
  | k + 1, s => match respX head s with
    | (.error e, t) => (.error e, t)
    | (.ok (h, b), t) => if h.status < 200 then replyX head k t else (.ok (h, b), t)
def feedX (s : Rd) (b : List UInt8) : Nat × Rd :=
  if s.closed = true ∨ s.wrong ≠ 0 then (13, s) else if 8192 - s.came.length < b.length then (23, s) else (0, ⟨s.came ++ b, s.closed, s.wrong⟩)

theorem readL_err {first : List UInt8 → Except Nat Hd} (hf : ∀ a e, first a = .error e → e = 21 ∨ e = 22) {s : List UInt8} {e : Nat} (h : readL first s = .error e) : e = 20 ∨ e = 21 ∨ e = 22 := by
  unfold readL at h
  cases hc : findL crlf2 s with
  | none =>
    rw [hc] at h
    simp only at h
    split at h <;> cases h <;> simp
  | some n =>
    rw [hc] at h
    simp only at h
    split at h
    · cases h; simp
    · unfold headL at h
      cases hp : piecesL crlf n (s.take n) with
      | nil => rw [hp] at h; simp only at h; cases h; simp
      | cons a r =>
        rw [hp] at h
        simp only at h
        cases ha : first a with
        | error k =>
          rw [ha] at h
          simp only at h
          cases h
          have := hf a _ ha
          omega
        | ok g =>
          rw [ha] at h
          simp only at h
          cases hl : fldsL 0 r with
          | ok f => rw [hl] at h; cases h
          | error k =>
            rw [hl] at h
            simp only at h
            cases h
            have : ∀ (l : List (List UInt8)) (i k : Nat), fldsL i l = .error k → k = 21 ∨ k = 22 := by
              intro l
              induction l with
              | nil => intro i k h; cases h
              | cons x l ih =>
                intro i k h
                rw [fldsL] at h
                cases hx : fldL i x with
                | error e =>
                  rw [hx] at h
                  simp only at h
                  cases h
                  unfold fldL at hx
                  cases hk : findL [58] x with
                  | none => rw [hk] at hx; cases hx; simp
                  | some j =>
                    rw [hk] at hx
                    simp only at hx
                    split at hx
                    · split at hx
                      · cases hx; simp
                      · cases hx
                    · cases hx; simp
                | ok f =>
                  rw [hx] at h
                  simp only at h
                  cases hl : fldsL (i + 1) l with
                  | error e => rw [hl] at h; simp only at h; cases h; exact ih _ _ hl
                  | ok L => rw [hl] at h; cases h
            have := this r 0 _ hl
            omega
theorem reqL_err (a : List UInt8) (e : Nat) (h : reqL a = .error e) : e = 21 ∨ e = 22 := by
  unfold reqL at h
  split at h
  · split at h
    · split at h
      · cases h; simp
      · cases h
    · cases h; simp
  · cases h; simp
theorem resL_err (a : List UInt8) (e : Nat) (h : resL a = .error e) : e = 21 ∨ e = 22 := by
  unfold resL at h
  split at h
  · split at h
    · split at h
      · cases h; simp
      · cases h
    · cases h; simp
  · cases h; simp
theorem cntX_err {E : List (List UInt8)} {e : Nat} (h : cntX E = .error e) : e = 23 ∨ e = 24 := by
  unfold cntX at h
  split at h
  · cases h; simp
  · split at h
    · split at h <;> cases h <;> simp
    · cases h; simp
theorem frameX_err {z : Int} {o : Nat} {L : List Fld} {e : Nat} (h : frameX z o L = .error e) : e = 23 ∨ e = 24 := by
  unfold frameX at h
  split at h
  · split at h
    · cases h
    · exact cntX_err h
  · split at h <;> cases h <;> simp
theorem cntX_ok {E : List (List UInt8)} {p : Nat × Nat} (h : cntX E = .ok p) : p.1 = 1 ∧ p.2 ≤ 2048 := by
  unfold cntX at h
  split at h
  · cases h
  · split at h
    · split at h
      · cases h
      · cases h
        exact ⟨rfl, by simp only; omega⟩
    · cases h
theorem frameX_ok {z : Int} {o : Nat} {L : List Fld} {p : Nat × Nat} (h : frameX z o L = .ok p) : (p.1 = o ∨ p.1 = 1 ∨ p.1 = 2) ∧ p.2 ≤ 2048 := by
  unfold frameX at h
  split at h
  · split at h
    · cases h; exact ⟨.inl rfl, Nat.zero_le _⟩
    · have := cntX_ok h; exact ⟨.inr (.inl this.1), this.2⟩
  · split at h
    · cases h
    · cases h; exact ⟨.inr (.inr rfl), Nat.zero_le _⟩
theorem chunkL_errs {lack most e : Nat} {s : List UInt8} (h : chunkL lack most s = .error e) : e = lack ∨ e = 21 ∨ e = 23 := by
  unfold chunkL at h
  split at h
  · cases h; simp
  · split at h
    · cases h
      rcases lineE_cases lack (s.drop (hexRun 8 0 s).2) with h | h | h
      · contradiction
      · exact .inl h
      · exact .inr (.inl h)
    · split at h
      · cases h; simp
      · split at h
        · cases h; simp
        · split at h
          · cases h
            rcases lineE_cases lack ((s.drop ((hexRun 8 0 s).2 + 2)).drop (hexRun 8 0 s).1) with h | h | h
            · contradiction
            · exact .inl h
            · exact .inr (.inl h)
          · cases h
theorem chunksL_errs {lack : Nat} (hl : lack ≠ 0) : ∀ (k : Nat) (acc s : List UInt8) (e : Nat), s.length < k → chunksL lack k acc s = .error e → e = lack ∨ e = 21 ∨ e = 23
  | 0, _, s, _, hk, _ => by omega
  | k + 1, acc, s, e, hk, h => by
    rw [chunksL] at h
    cases hc : chunkL lack (2048 - acc.length) s with
    | error x => rw [hc] at h; simp only at h; cases h; exact chunkL_errs hc
    | ok p =>
      obtain ⟨c, t⟩ := p
      have := chunkL_ok hl hc
      rw [hc] at h
      simp only at h
      split at h
      · cases h
      · exact chunksL_errs hl k (acc ++ c) t e (by omega) h
theorem chunksL_len {lack : Nat} (hl : lack ≠ 0) : ∀ (k : Nat) (acc s c t : List UInt8), acc.length ≤ 2048 → chunksL lack k acc s = .ok (c, t) → t.length ≤ s.length ∧ c.length ≤ 2048 ∧ t = s.drop (s.length - t.length)
  | 0, _, s, _, _, _, h => by cases h
  | k + 1, acc, s, c, t, ha, h => by
    rw [chunksL] at h
    cases hc : chunkL lack (2048 - acc.length) s with
    | error x => rw [hc] at h; cases h
    | ok p =>
      obtain ⟨c', t'⟩ := p
      have h1 := chunkL_ok hl hc
      rw [hc] at h
      simp only at h
      split at h
      · cases h
        exact ⟨by omega, ha, h1.2.2⟩
      · obtain ⟨h2, h3, h4⟩ := chunksL_len hl k (acc ++ c') t' c t (by rw [List.length_append]; omega) h
        refine ⟨by omega, h3, ?_⟩
        have e1 : t = (s.drop (s.length - t'.length)).drop (t'.length - t.length) := by rw [← h1.2.2]; exact h4
        rw [List.drop_drop] at e1
        rw [show s.length - t.length = (s.length - t'.length) + (t'.length - t.length) by omega]
        exact e1
theorem bodyX_err {k m : Nat} {c : Bool} {l : List UInt8} {e : Nat} (h : bodyX k m c l = .error e) : e = 10 ∨ (e = 20 ∧ c = false) ∨ e = 21 ∨ e = 23 := by
  have hlk : lackW c = 20 ∧ c = false ∨ lackW c = 21 := by cases c <;> simp [lackW]
  have hl0 : lackW c ≠ 0 := by cases c <;> decide
  unfold bodyX at h
  split at h
  · cases h; simp
  · split at h
    · cases h
    · split at h
      · split at h
        · cases h
          rcases hlk with h | h
          · right; left; exact h
          · right; right; left; exact h
        · cases h
      · split at h
        · unfold ofChunks at h
          cases hc : chunksL (lackW c) (l.length + 1) [] l with
          | ok p => rw [hc] at h; cases h
          | error x =>
            rw [hc] at h
            simp only at h
            cases h
            rcases chunksL_errs hl0 _ _ _ _ (by omega) hc with h | h | h
            · rcases hlk with h' | h'
              · right; left; exact ⟨by rw [h]; exact h'.1, h'.2⟩
              · right; right; left; rw [h]; exact h'
            · right; right; left; exact h
            · right; right; right; exact h
        · split at h
          · split at h
            · cases h; simp
            · split at h
              · cases h
              · rename_i hcc
                cases h
                right; left
                exact ⟨rfl, by simpa using hcc⟩
          · cases h; simp
theorem bodyX_len {k m : Nat} {c : Bool} {l b : List UInt8} {u : Nat} (h : bodyX k m c l = .ok (b, u)) : u ≤ l.length ∧ b.length ≤ 2048 := by
  have hl0 : lackW c ≠ 0 := by cases c <;> decide
  unfold bodyX at h
  split at h
  · cases h
  · split at h
    · cases h; simp
    · split at h
      · split at h
        · cases h
        · cases h
          rw [List.length_take]; omega
      · split at h
        · unfold ofChunks at h
          cases hc : chunksL (lackW c) (l.length + 1) [] l with
          | error x => rw [hc] at h; cases h
          | ok p =>
            obtain ⟨c', t⟩ := p
            have := chunksL_len hl0 _ _ _ _ _ (by simp) hc
            rw [hc] at h
            cases h
            exact ⟨by simp only; omega, this.2.1⟩
        · split at h
          · split at h
            · cases h
            · split at h
              · cases h; omega
              · cases h
          · cases h
/-! What stays when more bytes come. -/
theorem findL_more {w s : List UInt8} (hw : w ≠ []) {i : Nat} (h : findL w s = some i) (r : List UInt8) : findL w (s ++ r) = some i := by
  obtain ⟨h1, h2, h3⟩ := findL_some h
  have hlt := findL_lt hw h
  refine findL_first hw ?_ (fun j hj => ?_)
  · rw [List.drop_append_of_le_length (by omega)]
    rw [List.isPrefixOf_iff_prefix] at h2 ⊢
    exact h2.trans (List.prefix_append _ _)
  · have hn := h3 j hj
    cases hp : w.isPrefixOf ((s ++ r).drop j) with
    | false => rfl
    | true =>
      exfalso
      rw [List.isPrefixOf_iff_prefix, List.drop_append_of_le_length (by omega)] at hp
      have : w <+: s.drop j := List.prefix_of_prefix_length_le hp (List.prefix_append _ _) (by rw [List.length_drop]; omega)
      rw [← List.isPrefixOf_iff_prefix, hn] at this
      cases this
theorem readL_more {first : List UInt8 → Except Nat Hd} {s : List UInt8} (hs : s.length < 4096) (hn : readL first s ≠ .error 20) (r : List UInt8) : readL first (s ++ r) = readL first s := by
  unfold readL at hn ⊢
  cases hc : findL crlf2 s with
  | none =>
    rw [hc] at hn
    simp only at hn
    rw [if_neg (by omega)] at hn
    exact absurd rfl hn
  | some n =>
    have hlt := findL_lt (by decide) hc
    rw [findL_more (by decide) hc r]
    simp only
    rw [List.take_append_of_le_length (by omega)]
theorem readL_pos {first : List UInt8 → Except Nat Hd} {s : List UInt8} {h : Hd} {n : Nat} (hr : readL first s = .ok (h, n)) : 4 ≤ n ∧ n ≤ s.length := by
  obtain ⟨i, a, l, g, h1, h2, h3, _⟩ := readL_ok hr
  have hlt := findL_lt (by decide) h1
  have : crlf2.length = 4 := rfl
  omega
theorem hexRun_more : ∀ (m n : Nat) (s r : List UInt8), (hexRun m n s).2 < s.length → hexRun m n (s ++ r) = hexRun m n s
  | 0, n, s, r, _ => by simp [hexRun]
  | m + 1, n, [], r, h => by simp [hexRun_nil] at h
  | m + 1, n, c :: s, r, h => by
    cases hc : hexV c with
    | none => rw [List.cons_append, hexRun_none hc, hexRun_none hc]
    | some v =>
      rw [hexRun_some hc] at h
      simp only [List.length_cons] at h
      rw [List.cons_append, hexRun_some hc, hexRun_some hc, hexRun_more m (16 * n + v) s r (by omega)]
theorem lineE_more {lack : Nat} : ∀ {s : List UInt8}, lineE lack s ≠ lack → ∀ r, lineE lack (s ++ r) = lineE lack s
  | [], h, _ => absurd rfl h
  | [c], h, r => by
    rw [lineE_one] at h ⊢
    by_cases hc : c = 13
    · rw [if_pos hc] at h; exact absurd rfl h
    · rw [if_neg hc]
      cases r with
      | nil => rw [List.append_nil, lineE_one, if_neg hc]
      | cons d r => rw [List.cons_append, List.nil_append, lineE_two, if_neg (fun h => hc h.1)]
  | c :: d :: s, _, r => rfl
theorem numE_more {s : List UInt8} (hs : s ≠ []) (hd : (hexRun 8 0 s).2 < s.length) (r : List UInt8) : numE (s ++ r) = numE s := by
  unfold numE
  rw [hexRun_more 8 0 s r hd]
  have : s ++ r ≠ [] := by simp [hs]
  simp [hs]
theorem chunkL_digits {most : Nat} {s : List UInt8} (h : chunkL 20 most s ≠ .error 20) : (hexRun 8 0 s).2 < s.length := by
  have hle := (hexRun_le 8 0 s).1
  rcases Nat.lt_or_ge (hexRun 8 0 s).2 s.length with h' | h'
  · exact h'
  · exfalso
    apply h
    unfold chunkL
    have he : (hexRun 8 0 s).2 = s.length := by omega
    have h1 : numE s = 0 := by
      unfold numE
      rw [if_neg]
      rintro ⟨h2, h3⟩
      exact h3 (List.length_eq_zero_iff.1 (by omega))
    rw [h1, he, List.drop_length, if_neg (by simp), if_pos (by decide)]
    rfl
theorem chunkL_more {most : Nat} {s : List UInt8} (h : chunkL 20 most s ≠ .error 20) (r : List UInt8) :
    chunkL 20 most (s ++ r) = match chunkL 20 most s with | .error e => .error e | .ok p => .ok (p.1, p.2 ++ r) := by
  have hd := chunkL_digits h
  have hne : s ≠ [] := by rintro rfl; simp at hd
  have hnum := numE_more hne hd r
  have hrun := hexRun_more 8 0 s r hd
  unfold chunkL at h ⊢
  rw [hnum, hrun]
  generalize (hexRun 8 0 s).2 = k at *
  generalize (hexRun 8 0 s).1 = n at *
  by_cases h1 : numE s ≠ 0
  · rw [if_pos h1, if_pos h1]
  · rw [if_neg h1] at h ⊢
    rw [if_neg h1]
    rw [List.drop_append_of_le_length (by omega)]
    by_cases h2 : lineE 20 (s.drop k) ≠ 0
    · rw [if_pos h2] at h ⊢
      have h3 : lineE 20 (s.drop k) ≠ 20 := fun e => h (by rw [e])
      rw [lineE_more h3 r, if_pos h2]
    · rw [if_neg h2] at h ⊢
      have h3 : lineE 20 (s.drop k) ≠ 20 := by intro e; rw [e] at h2; exact h2 (by decide)
      rw [lineE_more h3 r, if_neg h2]
      have hk : k + 2 ≤ s.length := by
        obtain ⟨t, ht⟩ := lineE_ok (lack := 20) (by decide) (Decidable.not_not.1 h2)
        have := congrArg List.length ht
        rw [List.length_drop] at this
        simp at this
        omega
      rw [List.drop_append_of_le_length hk]
      by_cases h4 : most < n
      · rw [if_pos h4, if_pos h4]
      · rw [if_neg h4] at h ⊢
        rw [if_neg h4]
        by_cases h5 : (s.drop (k + 2)).length < n
        · rw [if_pos h5] at h; exact absurd rfl h
        · rw [if_neg h5] at h ⊢
          rw [if_neg (by rw [List.length_append]; omega)]
          rw [List.drop_append_of_le_length (by omega)]
          generalize s.drop (k + 2) = x at *
          by_cases h6 : lineE 20 (x.drop n) ≠ 0
          · rw [if_pos h6] at h ⊢
            have h7 : lineE 20 (x.drop n) ≠ 20 := fun e => h (by rw [e])
            rw [lineE_more h7 r, if_pos h6]
          · rw [if_neg h6]
            have h7 : lineE 20 (x.drop n) ≠ 20 := by intro e; rw [e] at h6; exact h6 (by decide)
            rw [lineE_more h7 r, if_neg h6]
            have hn : n + 2 ≤ x.length := by
              obtain ⟨t, ht⟩ := lineE_ok (lack := 20) (by decide) (Decidable.not_not.1 h6)
              have := congrArg List.length ht
              rw [List.length_drop] at this
              simp at this
              omega
            rw [List.take_append_of_le_length (by omega), List.drop_append_of_le_length hn]
theorem chunksL_more : ∀ (k : Nat) (acc s : List UInt8), chunksL 20 k acc s ≠ .error 20 → ∀ r,
    chunksL 20 k acc (s ++ r) = match chunksL 20 k acc s with | .error e => .error e | .ok p => .ok (p.1, p.2 ++ r)
  | 0, _, _, _, _ => rfl
  | k + 1, acc, s, h, r => by
    rw [chunksL] at h
    have hc : chunkL 20 (2048 - acc.length) s ≠ .error 20 := fun e => h (by rw [e])
    rw [chunksL, chunksL, chunkL_more hc r]
    cases hs : chunkL 20 (2048 - acc.length) s with
    | error e => rfl
    | ok p =>
      obtain ⟨c, t⟩ := p
      rw [hs] at h
      simp only at h ⊢
      by_cases h0 : c.length = 0
      · rw [if_pos h0, if_pos h0]
      · rw [if_neg h0] at h
        rw [if_neg h0, if_neg h0]
        exact chunksL_more k (acc ++ c) t h r
theorem bodyX_more {k m : Nat} {l : List UInt8} (hk : k ≤ 2) (h : bodyX k m false l ≠ .error 20) (r : List UInt8) : bodyX k m false (l ++ r) = bodyX k m false l := by
  unfold bodyX at h ⊢
  by_cases h1 : 2048 < m
  · rw [if_pos h1, if_pos h1]
  rw [if_neg h1] at h ⊢
  rw [if_neg h1]
  by_cases h2 : k = 0
  · rw [if_pos h2, if_pos h2]
  rw [if_neg h2] at h ⊢
  rw [if_neg h2]
  by_cases h3 : k = 1
  · rw [if_pos h3] at h ⊢
    rw [if_pos h3]
    by_cases h4 : l.length < m
    · rw [if_pos h4] at h; exact absurd rfl h
    · rw [if_neg h4, if_neg (by rw [List.length_append]; omega), List.take_append_of_le_length (by omega)]
  · rw [if_neg h3] at h ⊢
    have h4 : k = 2 := by omega
    rw [if_neg h3]
    rw [if_pos h4] at h ⊢
    rw [if_pos h4]
    have hl : lackW false = 20 := rfl
    rw [hl] at h ⊢
    have hc : chunksL 20 (l.length + 1) [] l ≠ .error 20 := fun e => h (by rw [e]; rfl)
    have hf : chunksL 20 ((l ++ r).length + 1) [] l = chunksL 20 (l.length + 1) [] l := chunksL_fuel (by decide) _ _ _ _ (by rw [List.length_append]; omega) (by omega)
    rw [← hf] at hc
    rw [chunksL_more _ _ _ hc r, hf]
    rw [hf] at hc
    cases hs : chunksL 20 (l.length + 1) [] l with
    | error e => rfl
    | ok p =>
      obtain ⟨c, t⟩ := p
      have := chunksL_len (lack := 20) (by decide) _ _ _ _ _ (by simp) hs
      show (Except.ok (c, (l ++ r).length - (t ++ r).length) : Except Nat (List UInt8 × Nat)) = .ok (c, l.length - t.length)
      rw [List.length_append, List.length_append, Nat.add_sub_add_right]
theorem nextX_ok {first : List UInt8 → Except Nat Hd} {fr : Hd → Except Nat (Nat × Nat)} {s t : Rd} {p : Hd × List UInt8} (h : nextX (readL first) fr s = (.ok p, t)) : t.came.length < s.came.length ∧ t.closed = s.closed ∧ t.wrong = 0 := by
  unfold nextX at h
  split at h
  · cases h
  · cases hr : readL first s.came with
    | error e => rw [hr] at h; simp only at h; cases h
    | ok q =>
      obtain ⟨g, n⟩ := q
      have hn := readL_pos hr
      rw [hr] at h
      simp only at h
      cases hf : fr g with
      | error e => rw [hf] at h; simp only at h; cases h
      | ok q =>
        obtain ⟨k, m⟩ := q
        rw [hf] at h
        simp only at h
        cases hb : bodyX k m s.closed (s.came.drop n) with
        | error e => rw [hb] at h; simp only at h; cases h
        | ok q =>
          obtain ⟨b, u⟩ := q
          rw [hb] at h
          simp only at h
          cases h
          exact ⟨by simp only [List.length_drop]; omega, rfl, rfl⟩
theorem nextX_err {first : List UInt8 → Except Nat Hd} {fr : Hd → Except Nat (Nat × Nat)} {s t : Rd} {e : Nat} (h : nextX (readL first) fr s = (.error e, t)) : t.came = s.came ∧ t.closed = s.closed := by
  unfold nextX at h
  split at h
  · cases h; exact ⟨rfl, rfl⟩
  · cases hr : readL first s.came with
    | error e => rw [hr] at h; simp only at h; cases h; exact ⟨rfl, rfl⟩
    | ok q =>
      obtain ⟨g, n⟩ := q
      rw [hr] at h
      simp only at h
      cases hf : fr g with
      | error e => rw [hf] at h; simp only at h; cases h; exact ⟨rfl, rfl⟩
      | ok q =>
        obtain ⟨k, m⟩ := q
        rw [hf] at h
        simp only at h
        cases hb : bodyX k m s.closed (s.came.drop n) with
        | error e => rw [hb] at h; simp only at h; cases h; exact ⟨rfl, rfl⟩
        | ok q => obtain ⟨b, u⟩ := q; rw [hb] at h; simp only at h; cases h
theorem queryX_fail {c : List UInt8} {e : Nat} {t : Rd} (hq : queryX ⟨c, false, 0⟩ = (.error e, t)) : e ≠ 0 ∧ e ≠ 43 ∧ t = ⟨c, false, tellX e⟩ := by
  unfold queryX nextX at hq
  simp only [ne_eq, not_true_eq_false, if_false] at hq
  cases hr : readL reqL c with
  | error x =>
    rw [hr] at hq
    simp only at hq
    have hx : headE false c x = x := by unfold headE; simp
    rw [hx] at hq
    cases hq
    have hxe := readL_err reqL_err hr
    exact ⟨by omega, by omega, rfl⟩
  | ok p =>
    obtain ⟨g, n⟩ := p
    rw [hr] at hq
    simp only at hq
    cases hf : reqFr g with
    | error x =>
      rw [hf] at hq
      simp only at hq
      cases hq
      have := frameX_err hf
      exact ⟨by omega, by omega, rfl⟩
    | ok q =>
      obtain ⟨k, m⟩ := q
      rw [hf] at hq
      simp only at hq
      cases hb : bodyX k m false (c.drop n) with
      | ok q => obtain ⟨b', u⟩ := q; rw [hb] at hq; simp only at hq; cases hq
      | error x =>
        rw [hb] at hq
        simp only at hq
        cases hq
        have := bodyX_err hb
        exact ⟨by omega, by omega, rfl⟩
theorem queryX_good {c : List UInt8} {p : Hd × List UInt8} {t : Rd} (hq : queryX ⟨c, false, 0⟩ = (.ok p, t)) : t = ⟨t.came, false, 0⟩ ∧ t.came.length < c.length := by
  obtain ⟨h1, h2, h3⟩ := nextX_ok hq
  obtain ⟨a, b, d⟩ := t
  simp only at h2 h3
  subst h2 h3
  exact ⟨rfl, h1⟩
theorem queryX_wrong {s : Rd} (h : s.wrong ≠ 0) : queryX s = (.error s.wrong, s) := by unfold queryX nextX; rw [if_pos h]
theorem replyX_wrong {s : Rd} (h : s.wrong ≠ 0) (hd : Bool) (k : Nat) : replyX hd (k + 1) s = (.error s.wrong, s) := by
  rw [replyX]
  have e : respX hd s = (.error s.wrong, s) := by unfold respX nextX; rw [if_pos h]
  rw [e]
theorem feedX_wrong {s : Rd} (h : s.wrong ≠ 0) (b : List UInt8) : feedX s b = (13, s) := by unfold feedX; rw [if_pos (.inr h)]
theorem feedX_ok {c b : List UInt8} (h : c.length + b.length ≤ 8192) : feedX ⟨c, false, 0⟩ b = (0, ⟨c ++ b, false, 0⟩) := by unfold feedX; rw [if_neg (by simp), if_neg (by simp only; omega)]
/-- a request that is there stays, whatever comes behind it; so does an error, but that more are wanted -/
theorem queryX_ok {c r : List UInt8} (hl : c.length < 4096) {h : Hd} {b : List UInt8} {t : Rd} (hq : queryX ⟨c, false, 0⟩ = (.ok (h, b), t)) :
    t.closed = false ∧ t.wrong = 0 ∧ t.came.length < c.length ∧ queryX ⟨c ++ r, false, 0⟩ = (.ok (h, b), ⟨t.came ++ r, false, 0⟩) := by
  unfold queryX nextX at hq ⊢
  simp only [ne_eq, not_true_eq_false, if_false] at hq ⊢
  cases hr : readL reqL c with
  | error e => rw [hr] at hq; simp only at hq; cases hq
  | ok p =>
    obtain ⟨g, n⟩ := p
    have hn := readL_pos hr
    rw [readL_more hl (by rw [hr]; simp) r, hr]
    rw [hr] at hq
    simp only at hq ⊢
    cases hf : reqFr g with
    | error e => rw [hf] at hq; simp only at hq; cases hq
    | ok q =>
      obtain ⟨k, m⟩ := q
      have hk := frameX_ok hf
      rw [hf] at hq
      simp only at hq hk ⊢
      cases hb : bodyX k m false (c.drop n) with
      | error e => rw [hb] at hq; simp only at hq; cases hq
      | ok q =>
        obtain ⟨b', u⟩ := q
        have hu := bodyX_len hb
        rw [hb] at hq
        simp only at hq
        cases hq
        rw [List.drop_append_of_le_length hn.2, bodyX_more (by omega) (by rw [hb]; simp) r, hb]
        rw [List.length_drop] at hu
        refine ⟨rfl, rfl, by simp only [List.length_drop]; omega, ?_⟩
        simp only
        rw [List.drop_append_of_le_length (by omega)]
theorem queryX_err {c r : List UInt8} (hl : c.length < 4096) {e : Nat} {t : Rd} (hq : queryX ⟨c, false, 0⟩ = (.error e, t)) :
    t.came = c ∧ t.closed = false ∧ e ≠ 0 ∧ t.wrong = tellX e ∧ e ≠ 43 ∧ (e ≠ 20 → ∃ t', queryX ⟨c ++ r, false, 0⟩ = (.error e, t')) := by
  unfold queryX nextX at hq ⊢
  simp only [ne_eq, not_true_eq_false, if_false] at hq ⊢
  cases hr : readL reqL c with
  | error x =>
    rw [hr] at hq
    simp only at hq
    have hx : headE false c x = x := by unfold headE; simp
    rw [hx] at hq
    cases hq
    have hxe := readL_err reqL_err hr
    refine ⟨rfl, rfl, by omega, rfl, by omega, fun h20 => ?_⟩
    rw [readL_more hl (by rw [hr]; intro h; cases h; exact h20 rfl) r, hr]
    simp only
    have hx2 : headE false (c ++ r) e = e := by unfold headE; simp
    rw [hx2]
    exact ⟨_, rfl⟩
  | ok p =>
    obtain ⟨g, n⟩ := p
    have hn := readL_pos hr
    rw [readL_more hl (by rw [hr]; simp) r, hr]
    rw [hr] at hq
    simp only at hq ⊢
    cases hf : reqFr g with
    | error x =>
      rw [hf] at hq
      simp only at hq
      cases hq
      have := frameX_err hf
      exact ⟨rfl, rfl, by omega, rfl, by omega, fun _ => ⟨_, rfl⟩⟩
    | ok q =>
      obtain ⟨k, m⟩ := q
      have hk := frameX_ok hf
      rw [hf] at hq
      simp only at hq hk ⊢
      cases hb : bodyX k m false (c.drop n) with
      | ok q =>
        obtain ⟨b', u⟩ := q
        rw [hb] at hq; simp only at hq; cases hq
      | error x =>
        rw [hb] at hq
        simp only at hq
        cases hq
        have := bodyX_err hb
        refine ⟨rfl, rfl, by omega, rfl, by omega, fun h20 => ?_⟩
        rw [List.drop_append_of_le_length hn.2, bodyX_more (by omega) (by rw [hb]; intro h; cases h; exact h20 rfl) r, hb]
        exact ⟨_, rfl⟩
end Go.Pantry
