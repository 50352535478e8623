/-
  Places, configs, bytes of messages: the plain mathematics of layers 7 to 9 (several texts in one). No program is imported.
-/
import Derived.Test.YtgdeiokaicjkdaaPureAll2
import Derived.Lib.ItoaMem
import Derived.Test.YtgdeiokaicjkdaaPureAll1
import Derived.Lib.Join
set_option linter.unusedVariables false
set_option linter.unusedSimpArgs false
namespace Go.Pantry
open Go.RowKit

def lackW (closed : Bool) : Nat := if closed then 21 else 20
def ofChunks (n : Nat) (x : Except Nat (List UInt8 × List UInt8)) : Except Nat (List UInt8 × Nat) := match x with | .error e => .error e | .ok p => .ok (p.1, n - p.2.length)
/-- what a frame's reading comes to -/
def bodyX (kind len : Nat) (closed : Bool) (l : List UInt8) : Except Nat (List UInt8 × Nat) :=
  if 2048 < len then .error 10
  else if kind = 0 then .ok ([], 0)
  else if kind = 1 then (if l.length < len then .error (lackW closed) else .ok (l.take len, len))
  else if kind = 2 then ofChunks l.length (chunksL (lackW closed) (l.length + 1) [] l)
  else if kind = 3 then (if 2048 < l.length then .error 23 else if closed then .ok (l, l.length) else .error 20)
  else .error 10
/-- an error of a head -/
def headE (closed : Bool) (came : List UInt8) (e : Nat) : Nat := if e = 20 ∧ closed = true then (if came = [] then 43 else 21) else e
/-- the error that stays -/
def tellX (e : Nat) : Nat := if e = 20 ∨ e = 43 then 0 else e
/-- a reader: the bytes that came, whether it is closed, its error -/
structure Rd where
  came : List UInt8
  closed : Bool
  wrong : Nat
/-- what the next message comes to, and the reader behind it -/
def nextX (rd : List UInt8 → Except Nat (Hd × Nat)) (fr : Hd → Except Nat (Nat × Nat)) (s : Rd) : Except Nat (Hd × List UInt8) × Rd :=
  if s.wrong ≠ 0 then (.error s.wrong, s)
  else match rd s.came with
    | .error e => (.error (headE s.closed s.came e), ⟨s.came, s.closed, tellX (headE s.closed s.came e)⟩)
    | .ok (h, n) => match fr h with
      | .error e => (.error e, ⟨s.came, s.closed, tellX e⟩)
      | .ok (k, m) => match bodyX k m s.closed (s.came.drop n) with
        | .error e => (.error e, ⟨s.came, s.closed, tellX e⟩)
        | .ok (b, u) => (.ok (h, b), ⟨s.came.drop (n + u), s.closed, 0⟩)
def reqFr (h : Hd) : Except Nat (Nat × Nat) := frameX (h.minor : Int) 0 h.flds
def resFr (head : Bool) (h : Hd) : Except Nat (Nat × Nat) := if bareX head (h.status : Int) then .ok (0, 0) else frameX (h.minor : Int) 3 h.flds
def queryX (s : Rd) : Except Nat (Hd × List UInt8) × Rd := nextX (readL reqL) reqFr s
def respX (head : Bool) (s : Rd) : Except Nat (Hd × List UInt8) × Rd := nextX (readL resL) (resFr head) s
/-- responses with a status below 200 are passed over -/
def replyX (head : Bool) : Nat → Rd → Except Nat (Hd × List UInt8) × Rd
  | 0, s => (.error 0, s)
  | k + 1, s => match respX head s with
    | (.error e, t) => (.error e, t)
    | (.ok (h, b), t) => if h.status < 200 then replyX head k t else (.ok (h, b), t)
def feedX (s : Rd) (b : List UInt8) : Nat × Rd :=
  if s.closed = true ∨ s.wrong ≠ 0 then (13, s) else if 8192 - s.came.length < b.length then (23, s) else (0, ⟨s.came ++ b, s.closed, s.wrong⟩)

theorem readL_err {first : List UInt8 → Except Nat Hd} (hf : ∀ a e, first a = .error e → e = 21 ∨ e = 22) {s : List UInt8} {e : Nat} (h : readL first s = .error e) : e = 20 ∨ e = 21 ∨ e = 22 := by
  unfold readL at h
  cases hc : findL crlf2 s with
  | none =>
    rw [hc] at h
    simp only at h
    split at h <;> cases h <;> simp
  | some n =>
    rw [hc] at h
    simp only at h
    split at h
    · cases h; simp
    · unfold headL at h
      cases hp : piecesL crlf n (s.take n) with
      | nil => rw [hp] at h; simp only at h; cases h; simp
      | cons a r =>
        rw [hp] at h
        simp only at h
        cases ha : first a with
        | error k =>
          rw [ha] at h
          simp only at h
          cases h
          have := hf a _ ha
          omega
        | ok g =>
          rw [ha] at h
          simp only at h
          cases hl : fldsL 0 r with
          | ok f => rw [hl] at h; cases h
          | error k =>
            rw [hl] at h
            simp only at h
            cases h
            have : ∀ (l : List (List UInt8)) (i k : Nat), fldsL i l = .error k → k = 21 ∨ k = 22 := by
              intro l
              induction l with
              | nil => intro i k h; cases h
              | cons x l ih =>
                intro i k h
                rw [fldsL] at h
                cases hx : fldL i x with
                | error e =>
                  rw [hx] at h
                  simp only at h
                  cases h
                  unfold fldL at hx
                  cases hk : findL [58] x with
                  | none => rw [hk] at hx; cases hx; simp
                  | some j =>
                    rw [hk] at hx
                    simp only at hx
                    split at hx
                    · split at hx
                      · cases hx; simp
                      · cases hx
                    · cases hx; simp
                | ok f =>
                  rw [hx] at h
                  simp only at h
                  cases hl : fldsL (i + 1) l with
                  | error e => rw [hl] at h; simp only at h; cases h; exact ih _ _ hl
                  | ok L => rw [hl] at h; cases h
            have := this r 0 _ hl
            omega
theorem reqL_err (a : List UInt8) (e : Nat) (h : reqL a = .error e) : e = 21 ∨ e = 22 := by
  unfold reqL at h
  split at h
  · split at h
    · split at h
      · cases h; simp
      · cases h
    · cases h; simp
  · cases h; simp
theorem resL_err (a : List UInt8) (e : Nat) (h : resL a = .error e) : e = 21 ∨ e = 22 := by
  unfold resL at h
  split at h
  · split at h
    · split at h
      · cases h; simp
      · cases h
    · cases h; simp
  · cases h; simp
theorem cntX_err {E : List (List UInt8)} {e : Nat} (h : cntX E = .error e) : e = 23 ∨ e = 24 := by
  unfold cntX at h
  split at h
  · cases h; simp
  · split at h
    · split at h <;> cases h <;> simp
    · cases h; simp
theorem frameX_err {z : Int} {o : Nat} {L : List Fld} {e : Nat} (h : frameX z o L = .error e) : e = 23 ∨ e = 24 := by
  unfold frameX at h
  split at h
  · split at h
    · cases h
    · exact cntX_err h
  · split at h <;> cases h <;> simp
theorem cntX_ok {E : List (List UInt8)} {p : Nat × Nat} (h : cntX E = .ok p) : p.1 = 1 ∧ p.2 ≤ 2048 := by
  unfold cntX at h
  split at h
  · cases h
  · split at h
    · split at h
      · cases h
      · cases h
        exact ⟨rfl, by simp only; omega⟩
    · cases h
theorem frameX_ok {z : Int} {o : Nat} {L : List Fld} {p : Nat × Nat} (h : frameX z o L = .ok p) : (p.1 = o ∨ p.1 = 1 ∨ p.1 = 2) ∧ p.2 ≤ 2048 := by
  unfold frameX at h
  split at h
  · split at h
    · cases h; exact ⟨.inl rfl, Nat.zero_le _⟩
    · have := cntX_ok h; exact ⟨.inr (.inl this.1), this.2⟩
  · split at h
    · cases h
    · cases h; exact ⟨.inr (.inr rfl), Nat.zero_le _⟩
theorem chunkL_errs {lack most e : Nat} {s : List UInt8} (h : chunkL lack most s = .error e) : e = lack ∨ e = 21 ∨ e = 23 := by
  unfold chunkL at h
  split at h
  · cases h; simp
  · split at h
    · cases h
      rcases lineE_cases lack (s.drop (hexRun 8 0 s).2) with h | h | h
      · contradiction
      · exact .inl h
      · exact .inr (.inl h)
    · split at h
      · cases h; simp
      · split at h
        · cases h; simp
        · split at h
          · cases h
            rcases lineE_cases lack ((s.drop ((hexRun 8 0 s).2 + 2)).drop (hexRun 8 0 s).1) with h | h | h
            · contradiction
            · exact .inl h
            · exact .inr (.inl h)
          · cases h
theorem chunksL_errs {lack : Nat} (hl : lack ≠ 0) : ∀ (k : Nat) (acc s : List UInt8) (e : Nat), s.length < k → chunksL lack k acc s = .error e → e = lack ∨ e = 21 ∨ e = 23
  | 0, _, s, _, hk, _ => by omega
  | k + 1, acc, s, e, hk, h => by
    rw [chunksL] at h
    cases hc : chunkL lack (2048 - acc.length) s with
    | error x => rw [hc] at h; simp only at h; cases h; exact chunkL_errs hc
    | ok p =>
      obtain ⟨c, t⟩ := p
      have := chunkL_ok hl hc
      rw [hc] at h
      simp only at h
      split at h
      · cases h
      · exact chunksL_errs hl k (acc ++ c) t e (by omega) h
theorem chunksL_len {lack : Nat} (hl : lack ≠ 0) : ∀ (k : Nat) (acc s c t : List UInt8), acc.length ≤ 2048 → chunksL lack k acc s = .ok (c, t) → t.length ≤ s.length ∧ c.length ≤ 2048 ∧ t = s.drop (s.length - t.length)
  | 0, _, s, _, _, _, h => by cases h
  | k + 1, acc, s, c, t, ha, h => by
    rw [chunksL] at h
    cases hc : chunkL lack (2048 - acc.length) s with
    | error x => rw [hc] at h; cases h
    | ok p =>
      obtain ⟨c', t'⟩ := p
      have h1 := chunkL_ok hl hc
      rw [hc] at h
      simp only at h
      split at h
      · cases h
        exact ⟨by omega, ha, h1.2.2⟩
      · obtain ⟨h2, h3, h4⟩ := chunksL_len hl k (acc ++ c') t' c t (by rw [List.length_append]; omega) h
        refine ⟨by omega, h3, ?_⟩
        have e1 : t = (s.drop (s.length - t'.length)).drop (t'.length - t.length) := by rw [← h1.2.2]; exact h4
        rw [List.drop_drop] at e1
        rw [show s.length - t.length = (s.length - t'.length) + (t'.length - t.length) by omega]
        exact e1
theorem bodyX_err {k m : Nat} {c : Bool} {l : List UInt8} {e : Nat} (h : bodyX k m c l = .error e) : e = 10 ∨ (e = 20 ∧ c = false) ∨ e = 21 ∨ e = 23 := by
  have hlk : lackW c = 20 ∧ c = false ∨ lackW c = 21 := by cases c <;> simp [lackW]
  have hl0 : lackW c ≠ 0 := by cases c <;> decide
  unfold bodyX at h
  split at h
  · cases h; simp
  · split at h
    · cases h
    · split at h
      · split at h
        · cases h
          rcases hlk with h | h
          · right; left; exact h
          · right; right; left; exact h
        · cases h
      · split at h
        · unfold ofChunks at h
          cases hc : chunksL (lackW c) (l.length + 1) [] l with
          | ok p => rw [hc] at h; cases h
          | error x =>
            rw [hc] at h
            simp only at h
            cases h
            rcases chunksL_errs hl0 _ _ _ _ (by omega) hc with h | h | h
            · rcases hlk with h' | h'
              · right; left; exact ⟨by rw [h]; exact h'.1, h'.2⟩
              · right; right; left; rw [h]; exact h'
            · right; right; left; exact h
            · right; right; right; exact h
        · split at h
          · split at h
            · cases h; simp
            · split at h
              · cases h
              · rename_i hcc
                cases h
                right; left
                exact ⟨rfl, by simpa using hcc⟩
          · cases h; simp
theorem bodyX_len {k m : Nat} {c : Bool} {l b : List UInt8} {u : Nat} (h : bodyX k m c l = .ok (b, u)) : u ≤ l.length ∧ b.length ≤ 2048 := by
  have hl0 : lackW c ≠ 0 := by cases c <;> decide
  unfold bodyX at h
  split at h
  · cases h
  · split at h
    · cases h; simp
    · split at h
      · split at h
        · cases h
        · cases h
          rw [List.length_take]; omega
      · split at h
        · unfold ofChunks at h
          cases hc : chunksL (lackW c) (l.length + 1) [] l with
          | error x => rw [hc] at h; cases h
          | ok p =>
            obtain ⟨c', t⟩ := p
            have := chunksL_len hl0 _ _ _ _ _ (by simp) hc
            rw [hc] at h
            cases h
            exact ⟨by simp only; omega, this.2.1⟩
        · split at h
          · split at h
            · cases h
            · split at h
              · cases h; omega
              · cases h
          · cases h
/-! What stays when more bytes come. -/
theorem findL_more {w s : List UInt8} (hw : w ≠ []) {i : Nat} (h : findL w s = some i) (r : List UInt8) : findL w (s ++ r) = some i := by
  obtain ⟨h1, h2, h3⟩ := findL_some h
  have hlt := findL_lt hw h
  refine findL_first hw ?_ (fun j hj => ?_)
  · rw [List.drop_append_of_le_length (by omega)]
    rw [List.isPrefixOf_iff_prefix] at h2 ⊢
    exact h2.trans (List.prefix_append _ _)
  · have hn := h3 j hj
    cases hp : w.isPrefixOf ((s ++ r).drop j) with
    | false => rfl
    | true =>
      exfalso
      rw [List.isPrefixOf_iff_prefix, List.drop_append_of_le_length (by omega)] at hp
      have : w <+: s.drop j := List.prefix_of_prefix_length_le hp (List.prefix_append _ _) (by rw [List.length_drop]; omega)
      rw [← List.isPrefixOf_iff_prefix, hn] at this
      cases this
theorem readL_more {first : List UInt8 → Except Nat Hd} {s : List UInt8} (hs : s.length < 4096) (hn : readL first s ≠ .error 20) (r : List UInt8) : readL first (s ++ r) = readL first s := by
  unfold readL at hn ⊢
  cases hc : findL crlf2 s with
  | none =>
    rw [hc] at hn
    simp only at hn
    rw [if_neg (by omega)] at hn
    exact absurd rfl hn
  | some n =>
    have hlt := findL_lt (by decide) hc
    rw [findL_more (by decide) hc r]
    simp only
    rw [List.take_append_of_le_length (by omega)]
theorem readL_pos {first : List UInt8 → Except Nat Hd} {s : List UInt8} {h : Hd} {n : Nat} (hr : readL first s = .ok (h, n)) : 4 ≤ n ∧ n ≤ s.length := by
  obtain ⟨i, a, l, g, h1, h2, h3, _⟩ := readL_ok hr
  have hlt := findL_lt (by decide) h1
  have : crlf2.length = 4 := rfl
  omega
theorem hexRun_more : ∀ (m n : Nat) (s r : List UInt8), (hexRun m n s).2 < s.length → hexRun m n (s ++ r) = hexRun m n s
  | 0, n, s, r, _ => by simp [hexRun]
  | m + 1, n, [], r, h => by simp [hexRun_nil] at h
  | m + 1, n, c :: s, r, h => by
    cases hc : hexV c with
    | none => rw [List.cons_append, hexRun_none hc, hexRun_none hc]
    | some v =>
      rw [hexRun_some hc] at h
      simp only [List.length_cons] at h
      rw [List.cons_append, hexRun_some hc, hexRun_some hc, hexRun_more m (16 * n + v) s r (by omega)]
theorem lineE_more {lack : Nat} : ∀ {s : List UInt8}, lineE lack s ≠ lack → ∀ r, lineE lack (s ++ r) = lineE lack s
  | [], h, _ => absurd rfl h
  | [c], h, r => by
    rw [lineE_one] at h ⊢
    by_cases hc : c = 13
    · rw [if_pos hc] at h; exact absurd rfl h
    · rw [if_neg hc]
      cases r with
      | nil => rw [List.append_nil, lineE_one, if_neg hc]
      | cons d r => rw [List.cons_append, List.nil_append, lineE_two, if_neg (fun h => hc h.1)]
  | c :: d :: s, _, r => rfl
theorem numE_more {s : List UInt8} (hs : s ≠ []) (hd : (hexRun 8 0 s).2 < s.length) (r : List UInt8) : numE (s ++ r) = numE s := by
  unfold numE
  rw [hexRun_more 8 0 s r hd]
  have : s ++ r ≠ [] := by simp [hs]
  simp [hs]
theorem chunkL_digits {most : Nat} {s : List UInt8} (h : chunkL 20 most s ≠ .error 20) : (hexRun 8 0 s).2 < s.length := by
  have hle := (hexRun_le 8 0 s).1
  rcases Nat.lt_or_ge (hexRun 8 0 s).2 s.length with h' | h'
  · exact h'
  · exfalso
    apply h
    unfold chunkL
    have he : (hexRun 8 0 s).2 = s.length := by omega
    have h1 : numE s = 0 := by
      unfold numE
      rw [if_neg]
      rintro ⟨h2, h3⟩
      exact h3 (List.length_eq_zero_iff.1 (by omega))
    rw [h1, he, List.drop_length, if_neg (by simp), if_pos (by decide)]
    rfl
theorem chunkL_more {most : Nat} {s : List UInt8} (h : chunkL 20 most s ≠ .error 20) (r : List UInt8) :
    chunkL 20 most (s ++ r) = match chunkL 20 most s with | .error e => .error e | .ok p => .ok (p.1, p.2 ++ r) := by
  have hd := chunkL_digits h
  have hne : s ≠ [] := by rintro rfl; simp at hd
  have hnum := numE_more hne hd r
  have hrun := hexRun_more 8 0 s r hd
  unfold chunkL at h ⊢
  rw [hnum, hrun]
  generalize (hexRun 8 0 s).2 = k at *
  generalize (hexRun 8 0 s).1 = n at *
  by_cases h1 : numE s ≠ 0
  · rw [if_pos h1, if_pos h1]
  · rw [if_neg h1] at h ⊢
    rw [if_neg h1]
    rw [List.drop_append_of_le_length (by omega)]
    by_cases h2 : lineE 20 (s.drop k) ≠ 0
    · rw [if_pos h2] at h ⊢
      have h3 : lineE 20 (s.drop k) ≠ 20 := fun e => h (by rw [e])
      rw [lineE_more h3 r, if_pos h2]
    · rw [if_neg h2] at h ⊢
      have h3 : lineE 20 (s.drop k) ≠ 20 := by intro e; rw [e] at h2; exact h2 (by decide)
      rw [lineE_more h3 r, if_neg h2]
      have hk : k + 2 ≤ s.length := by
        obtain ⟨t, ht⟩ := lineE_ok (lack := 20) (by decide) (Decidable.not_not.1 h2)
        have := congrArg List.length ht
        rw [List.length_drop] at this
        simp at this
        omega
      rw [List.drop_append_of_le_length hk]
      by_cases h4 : most < n
      · rw [if_pos h4, if_pos h4]
      · rw [if_neg h4] at h ⊢
        rw [if_neg h4]
        by_cases h5 : (s.drop (k + 2)).length < n
        · rw [if_pos h5] at h; exact absurd rfl h
        · rw [if_neg h5] at h ⊢
          rw [if_neg (by rw [List.length_append]; omega)]
          rw [List.drop_append_of_le_length (by omega)]
          generalize s.drop (k + 2) = x at *
          by_cases h6 : lineE 20 (x.drop n) ≠ 0
          · rw [if_pos h6] at h ⊢
            have h7 : lineE 20 (x.drop n) ≠ 20 := fun e => h (by rw [e])
            rw [lineE_more h7 r, if_pos h6]
          · rw [if_neg h6]
            have h7 : lineE 20 (x.drop n) ≠ 20 := by intro e; rw [e] at h6; exact h6 (by decide)
            rw [lineE_more h7 r, if_neg h6]
            have hn : n + 2 ≤ x.length := by
              obtain ⟨t, ht⟩ := lineE_ok (lack := 20) (by decide) (Decidable.not_not.1 h6)
              have := congrArg List.length ht
              rw [List.length_drop] at this
              simp at this
              omega
            rw [List.take_append_of_le_length (by omega), List.drop_append_of_le_length hn]
theorem chunksL_more : ∀ (k : Nat) (acc s : List UInt8), chunksL 20 k acc s ≠ .error 20 → ∀ r,
    chunksL 20 k acc (s ++ r) = match chunksL 20 k acc s with | .error e => .error e | .ok p => .ok (p.1, p.2 ++ r)
  | 0, _, _, _, _ => rfl
  | k + 1, acc, s, h, r => by
    rw [chunksL] at h
    have hc : chunkL 20 (2048 - acc.length) s ≠ .error 20 := fun e => h (by rw [e])
    rw [chunksL, chunksL, chunkL_more hc r]
    cases hs : chunkL 20 (2048 - acc.length) s with
    | error e => rfl
    | ok p =>
      obtain ⟨c, t⟩ := p
      rw [hs] at h
      simp only at h ⊢
      by_cases h0 : c.length = 0
      · rw [if_pos h0, if_pos h0]
      · rw [if_neg h0] at h
        rw [if_neg h0, if_neg h0]
        exact chunksL_more k (acc ++ c) t h r
theorem bodyX_more {k m : Nat} {l : List UInt8} (hk : k ≤ 2) (h : bodyX k m false l ≠ .error 20) (r : List UInt8) : bodyX k m false (l ++ r) = bodyX k m false l := by
  unfold bodyX at h ⊢
  by_cases h1 : 2048 < m
  · rw [if_pos h1, if_pos h1]
  rw [if_neg h1] at h ⊢
  rw [if_neg h1]
  by_cases h2 : k = 0
  · rw [if_pos h2, if_pos h2]
  rw [if_neg h2] at h ⊢
  rw [if_neg h2]
  by_cases h3 : k = 1
  · rw [if_pos h3] at h ⊢
    rw [if_pos h3]
    by_cases h4 : l.length < m
    · rw [if_pos h4] at h; exact absurd rfl h
    · rw [if_neg h4, if_neg (by rw [List.length_append]; omega), List.take_append_of_le_length (by omega)]
  · rw [if_neg h3] at h ⊢
    have h4 : k = 2 := by omega
    rw [if_neg h3]
    rw [if_pos h4] at h ⊢
    rw [if_pos h4]
    have hl : lackW false = 20 := rfl
    rw [hl] at h ⊢
    have hc : chunksL 20 (l.length + 1) [] l ≠ .error 20 := fun e => h (by rw [e]; rfl)
    have hf : chunksL 20 ((l ++ r).length + 1) [] l = chunksL 20 (l.length + 1) [] l := chunksL_fuel (by decide) _ _ _ _ (by rw [List.length_append]; omega) (by omega)
    rw [← hf] at hc
    rw [chunksL_more _ _ _ hc r, hf]
    rw [hf] at hc
    cases hs : chunksL 20 (l.length + 1) [] l with
    | error e => rfl
    | ok p =>
      obtain ⟨c, t⟩ := p
      have := chunksL_len (lack := 20) (by decide) _ _ _ _ _ (by simp) hs
      show (Except.ok (c, (l ++ r).length - (t ++ r).length) : Except Nat (List UInt8 × Nat)) = .ok (c, l.length - t.length)
      rw [List.length_append, List.length_append, Nat.add_sub_add_right]
theorem nextX_ok {first : List UInt8 → Except Nat Hd} {fr : Hd → Except Nat (Nat × Nat)} {s t : Rd} {p : Hd × List UInt8} (h : nextX (readL first) fr s = (.ok p, t)) : t.came.length < s.came.length ∧ t.closed = s.closed ∧ t.wrong = 0 := by
  unfold nextX at h
  split at h
  · cases h
  · cases hr : readL first s.came with
    | error e => rw [hr] at h; simp only at h; cases h
    | ok q =>
      obtain ⟨g, n⟩ := q
      have hn := readL_pos hr
      rw [hr] at h
      simp only at h
      cases hf : fr g with
      | error e => rw [hf] at h; simp only at h; cases h
      | ok q =>
        obtain ⟨k, m⟩ := q
        rw [hf] at h
        simp only at h
        cases hb : bodyX k m s.closed (s.came.drop n) with
        | error e => rw [hb] at h; simp only at h; cases h
        | ok q =>
          obtain ⟨b, u⟩ := q
          rw [hb] at h
          simp only at h
          cases h
          exact ⟨by simp only [List.length_drop]; omega, rfl, rfl⟩
theorem nextX_err {first : List UInt8 → Except Nat Hd} {fr : Hd → Except Nat (Nat × Nat)} {s t : Rd} {e : Nat} (h : nextX (readL first) fr s = (.error e, t)) : t.came = s.came ∧ t.closed = s.closed := by
  unfold nextX at h
  split at h
  · cases h; exact ⟨rfl, rfl⟩
  · cases hr : readL first s.came with
    | error e => rw [hr] at h; simp only at h; cases h; exact ⟨rfl, rfl⟩
    | ok q =>
      obtain ⟨g, n⟩ := q
      rw [hr] at h
      simp only at h
      cases hf : fr g with
      | error e => rw [hf] at h; simp only at h; cases h; exact ⟨rfl, rfl⟩
      | ok q =>
        obtain ⟨k, m⟩ := q
        rw [hf] at h
        simp only at h
        cases hb : bodyX k m s.closed (s.came.drop n) with
        | error e => rw [hb] at h; simp only at h; cases h; exact ⟨rfl, rfl⟩
        | ok q => obtain ⟨b, u⟩ := q; rw [hb] at h; simp only at h; cases h
theorem queryX_fail {c : List UInt8} {e : Nat} {t : Rd} (hq : queryX ⟨c, false, 0⟩ = (.error e, t)) : e ≠ 0 ∧ e ≠ 43 ∧ t = ⟨c, false, tellX e⟩ := by
  unfold queryX nextX at hq
  simp only [ne_eq, not_true_eq_false, if_false] at hq
  cases hr : readL reqL c with
  | error x =>
    rw [hr] at hq
    simp only at hq
    have hx : headE false c x = x := by unfold headE; simp
    rw [hx] at hq
    cases hq
    have hxe := readL_err reqL_err hr
    exact ⟨by omega, by omega, rfl⟩
  | ok p =>
    obtain ⟨g, n⟩ := p
    rw [hr] at hq
    simp only at hq
    cases hf : reqFr g with
    | error x =>
      rw [hf] at hq
      simp only at hq
      cases hq
      have := frameX_err hf
      exact ⟨by omega, by omega, rfl⟩
    | ok q =>
      obtain ⟨k, m⟩ := q
      rw [hf] at hq
      simp only at hq
      cases hb : bodyX k m false (c.drop n) with
      | ok q => obtain ⟨b', u⟩ := q; rw [hb] at hq; simp only at hq; cases hq
      | error x =>
        rw [hb] at hq
        simp only at hq
        cases hq
        have := bodyX_err hb
        exact ⟨by omega, by omega, rfl⟩
theorem queryX_good {c : List UInt8} {p : Hd × List UInt8} {t : Rd} (hq : queryX ⟨c, false, 0⟩ = (.ok p, t)) : t = ⟨t.came, false, 0⟩ ∧ t.came.length < c.length := by
  obtain ⟨h1, h2, h3⟩ := nextX_ok hq
  obtain ⟨a, b, d⟩ := t
  simp only at h2 h3
  subst h2 h3
  exact ⟨rfl, h1⟩
theorem queryX_wrong {s : Rd} (h : s.wrong ≠ 0) : queryX s = (.error s.wrong, s) := by unfold queryX nextX; rw [if_pos h]
theorem replyX_wrong {s : Rd} (h : s.wrong ≠ 0) (hd : Bool) (k : Nat) : replyX hd (k + 1) s = (.error s.wrong, s) := by
  rw [replyX]
  have e : respX hd s = (.error s.wrong, s) := by unfold respX nextX; rw [if_pos h]
  rw [e]
theorem feedX_wrong {s : Rd} (h : s.wrong ≠ 0) (b : List UInt8) : feedX s b = (13, s) := by unfold feedX; rw [if_pos (.inr h)]
theorem feedX_ok {c b : List UInt8} (h : c.length + b.length ≤ 8192) : feedX ⟨c, false, 0⟩ b = (0, ⟨c ++ b, false, 0⟩) := by unfold feedX; rw [if_neg (by simp), if_neg (by simp only; omega)]
/-- a request that is there stays, whatever comes behind it; so does an error, but that more are wanted -/
theorem queryX_ok {c r : List UInt8} (hl : c.length < 4096) {h : Hd} {b : List UInt8} {t : Rd} (hq : queryX ⟨c, false, 0⟩ = (.ok (h, b), t)) :
    t.closed = false ∧ t.wrong = 0 ∧ t.came.length < c.length ∧ queryX ⟨c ++ r, false, 0⟩ = (.ok (h, b), ⟨t.came ++ r, false, 0⟩) := by
  unfold queryX nextX at hq ⊢
  simp only [ne_eq, not_true_eq_false, if_false] at hq ⊢
  cases hr : readL reqL c with
  | error e => rw [hr] at hq; simp only at hq; cases hq
  | ok p =>
    obtain ⟨g, n⟩ := p
    have hn := readL_pos hr
    rw [readL_more hl (by rw [hr]; simp) r, hr]
    rw [hr] at hq
    simp only at hq ⊢
    cases hf : reqFr g with
    | error e => rw [hf] at hq; simp only at hq; cases hq
    | ok q =>
      obtain ⟨k, m⟩ := q
      have hk := frameX_ok hf
      rw [hf] at hq
      simp only at hq hk ⊢
      cases hb : bodyX k m false (c.drop n) with
      | error e => rw [hb] at hq; simp only at hq; cases hq
      | ok q =>
        obtain ⟨b', u⟩ := q
        have hu := bodyX_len hb
        rw [hb] at hq
        simp only at hq
        cases hq
        rw [List.drop_append_of_le_length hn.2, bodyX_more (by omega) (by rw [hb]; simp) r, hb]
        rw [List.length_drop] at hu
        refine ⟨rfl, rfl, by simp only [List.length_drop]; omega, ?_⟩
        simp only
        rw [List.drop_append_of_le_length (by omega)]
theorem queryX_err {c r : List UInt8} (hl : c.length < 4096) {e : Nat} {t : Rd} (hq : queryX ⟨c, false, 0⟩ = (.error e, t)) :
    t.came = c ∧ t.closed = false ∧ e ≠ 0 ∧ t.wrong = tellX e ∧ e ≠ 43 ∧ (e ≠ 20 → ∃ t', queryX ⟨c ++ r, false, 0⟩ = (.error e, t')) := by
  unfold queryX nextX at hq ⊢
  simp only [ne_eq, not_true_eq_false, if_false] at hq ⊢
  cases hr : readL reqL c with
  | error x =>
    rw [hr] at hq
    simp only at hq
    have hx : headE false c x = x := by unfold headE; simp
    rw [hx] at hq
    cases hq
    have hxe := readL_err reqL_err hr
    refine ⟨rfl, rfl, by omega, rfl, by omega, fun h20 => ?_⟩
    rw [readL_more hl (by rw [hr]; intro h; cases h; exact h20 rfl) r, hr]
    simp only
    have hx2 : headE false (c ++ r) e = e := by unfold headE; simp
    rw [hx2]
    exact ⟨_, rfl⟩
  | ok p =>
    obtain ⟨g, n⟩ := p
    have hn := readL_pos hr
    rw [readL_more hl (by rw [hr]; simp) r, hr]
    rw [hr] at hq
    simp only at hq ⊢
    cases hf : reqFr g with
    | error x =>
      rw [hf] at hq
      simp only at hq
      cases hq
      have := frameX_err hf
      exact ⟨rfl, rfl, by omega, rfl, by omega, fun _ => ⟨_, rfl⟩⟩
    | ok q =>
      obtain ⟨k, m⟩ := q
      have hk := frameX_ok hf
      rw [hf] at hq
      simp only at hq hk ⊢
      cases hb : bodyX k m false (c.drop n) with
      | ok q =>
        obtain ⟨b', u⟩ := q
        rw [hb] at hq; simp only at hq; cases hq
      | error x =>
        rw [hb] at hq
        simp only at hq
        cases hq
        have := bodyX_err hb
        refine ⟨rfl, rfl, by omega, rfl, by omega, fun h20 => ?_⟩
        rw [List.drop_append_of_le_length hn.2, bodyX_more (by omega) (by rw [hb]; intro h; cases h; exact h20 rfl) r, hb]
        exact ⟨_, rfl⟩
end Go.Pantry
namespace Go.Pantry
open Go.RowKit

/-- a number's digits -/
def decL (n : Nat) : List UInt8 := Lib.decDigits n
theorem decL_small {n : Nat} (h : n < 10) : decL n = [(48 + n).toUInt8] := by
  unfold decL
  rw [Lib.decDigits, dif_pos h]
  try rfl
theorem decL_big {n : Nat} (h : ¬ n < 10) : decL n = decL (n / 10) ++ [(48 + n % 10).toUInt8] := by
  unfold decL
  rw [Lib.decDigits, dif_neg h]
  try rfl
theorem decL_itoa (n : Nat) : Lib.itoa (n : Int) = decL n := by
  unfold Lib.itoa decL
  rw [if_neg (by omega), Int.toNat_natCast]
theorem decL_digF : ∀ (f n : Nat), n < 10 ^ (f + 1) → decL n = digF (f + 1) n
  | 0, n, h => by
    rw [decL_small (by simpa using h), digF, if_pos (by simpa using h)]
  | f + 1, n, h => by
    by_cases h10 : n < 10
    · rw [decL_small h10, digF, if_pos h10]
    · rw [decL_big h10, digF, if_neg h10, decL_digF f (n / 10) (by rw [Nat.div_lt_iff_lt_mul (by decide)]; rw [Nat.pow_succ] at h; exact h)]
theorem decL_len : ∀ (f n : Nat), n < 10 ^ (f + 1) → (decL n).length ≤ f + 1
  | 0, n, h => by rw [decL_small (by simpa using h)]; simp
  | f + 1, n, h => by
    by_cases h10 : n < 10
    · rw [decL_small h10]; simp
    · rw [decL_big h10, List.length_append]
      have := decL_len f (n / 10) (by rw [Nat.div_lt_iff_lt_mul (by decide)]; rw [Nat.pow_succ] at h; exact h)
      simp; omega
theorem decL_five {n : Nat} (h : n < 100000) : decL n = digF 5 n := decL_digF 4 n (by simpa using h)
theorem decL_number {n : Nat} (h : n < 100000) : numberL (decL n) = some n := by
  rw [decL_five h]
  unfold numberL
  rw [digF_all, digF_val 4 n (by simpa using h)]
  have hne := digF_ne 4 n
  have he : (digF 5 n).isEmpty = false := by cases hd : digF 5 n with | nil => exact absurd hd hne | cons a r => rfl
  rw [he, if_pos (by decide), Nat.min_eq_left (by omega)]
theorem decL_list {n : Nat} (h : n < 100000) : listL (decL n) = [decL n] := by rw [decL_five h]; exact dig_list n
theorem decL_trim {n : Nat} (h : n < 100000) : trimL (decL n) = decL n := by rw [decL_five h]; exact dig_trim n
theorem decL_text {n : Nat} (h : n < 100000) : (decL n).all okV = true := by
  rw [decL_five h, List.all_eq_true]
  intro c hc
  have h2 := List.all_eq_true.1 (digF_all 5 n) c hc
  unfold isDig at h2
  simp only [Bool.and_eq_true, decide_eq_true_eq] at h2
  have h3 : 48 ≤ c.toNat := h2.1
  have h4 : c.toNat ≤ 57 := h2.2
  unfold okV
  simp
  omega
/-- Content-Length, so many -/
def lenFld (n : Nat) : Fld := (clN, decL n)
theorem lenFld_right {n : Nat} (h : n < 100000) : rightF (lenFld n) = true := by
  unfold rightF lenFld
  have h1 : tokenL clN = true := by decide +kernel
  have h2 := decL_len 4 n (by simpa using h)
  simp only [h1, decL_trim h, decL_text h, beq_self_eq_true, Bool.true_and, Bool.and_true, Bool.and_eq_true, decide_eq_true_eq]
  exact ⟨by decide, by omega⟩
theorem lenFld_is (n : Nat) : isF clN (lenFld n) = true ∧ isF teN (lenFld n) = false := by
  unfold isF lenFld
  have e1 : (lowerL clN == lowerL clN) = true := by decide +kernel
  have e2 : (lowerL clN == lowerL teN) = false := by decide +kernel
  exact ⟨e1, e2⟩
/-- a field of a name that none has is laid at the end -/
theorem withF_none (L : List Fld) (f : Fld) (h : allF L f.1 = []) : withF L f = L ++ [f] := by
  have ha : L.any (isF f.1) = false := by
    rw [List.any_eq_false]
    intro g hg hf
    have hm : g.2 ∈ allF L f.1 := by
      unfold allF
      exact List.mem_map.2 ⟨g, List.mem_filter.2 ⟨hg, hf⟩, rfl⟩
    rw [h] at hm
    cases hm
  obtain ⟨h1, h2, -⟩ := runW_out f L
  unfold withF
  rw [h2, ha, if_neg (by simp)]
  have key : ∀ (l acc : List Fld), (∀ g ∈ l, isF f.1 g = false) → l.foldl (stepW f) (acc, false) = (acc ++ l, false) := by
    intro l
    induction l with
    | nil => intro acc _; simp
    | cons g l ih =>
      intro acc hl
      rw [List.foldl_cons]
      have hg := hl g (List.mem_cons_self ..)
      have e : stepW f (acc, false) g = (acc ++ [g], false) := by unfold stepW; rw [hg]; rfl
      rw [e, ih _ (fun x hx => hl x (List.mem_cons_of_mem _ hx))]
      simp
  have e := key L [] (fun g hg => by have := List.any_eq_false.1 ha g hg; simpa using this)
  unfold runW
  rw [e]
  rfl
theorem all_outsW {L : List Fld} {ns : List (List UInt8)} {n : List UInt8} (h : n ∈ ns) : allF (outsF L ns) n = [] := by
  unfold allF outsF
  rw [List.filter_filter]
  have e : (L.filter fun f => isF n f && !ns.any fun m => isF m f) = [] := by
    rw [List.filter_eq_nil_iff]
    intro f _ hf
    simp only [Bool.and_eq_true, Bool.not_eq_true'] at hf
    have := List.any_eq_false.1 hf.2 n h
    exact this hf.1
  rw [e]
  rfl
def bareL (L : List Fld) : List Fld := outsF L [clN, teN]
theorem with_len (L : List Fld) (n : Nat) : withsF (bareL L) [lenFld n] = bareL L ++ [lenFld n] := by
  show withF (bareL L) (lenFld n) = _
  exact withF_none _ _ (all_outsW (by simp [lenFld]))
theorem bare_te (L : List Fld) : allF (bareL L) teN = [] := all_outsW (by simp)
theorem bare_cl (L : List Fld) : allF (bareL L) clN = [] := all_outsW (by simp)
theorem bareL_mem {L : List Fld} {f : Fld} (h : f ∈ bareL L) : f ∈ L := (List.mem_filter.1 h).1
theorem bareL_len (L : List Fld) : (bareL L).length ≤ L.length := List.length_filter_le ..
/-- the fields that are written: with a length, or without -/
def putL (L : List Fld) (o : Option Nat) : List Fld := match o with | none => bareL L | some n => bareL L ++ [lenFld n]
theorem putL_len (L : List Fld) (o : Option Nat) : (putL L o).length ≤ L.length + 1 := by
  have := bareL_len L
  cases o with
  | none => show (bareL L).length ≤ _; omega
  | some n => show (bareL L ++ [lenFld n]).length ≤ _; rw [List.length_append]; simp; omega
theorem frame_put (L : List Fld) (n : Nat) (h : n ≤ 2048) (z : Int) (o : Nat) : frameX z o (putL L (some n)) = .ok (1, n) := by
  have h1 : allF (bareL L ++ [lenFld n]) teN = [] := by
    rw [allF_append, bare_te, all_one, (lenFld_is n).2]
    rfl
  have h2 : allF (bareL L ++ [lenFld n]) clN = [decL n] := by
    rw [allF_append, bare_cl, all_one, (lenFld_is n).1]
    rfl
  have h3 : elementsF (bareL L ++ [lenFld n]) clN = [decL n] := by
    unfold elementsF getF
    rw [h2]
    exact decL_list (by omega)
  show frameX z o (bareL L ++ [lenFld n]) = _
  unfold frameX
  rw [h1, h2, h3]
  simp only [List.isEmpty_nil, List.isEmpty_cons, if_true]
  rw [if_neg (by simp)]
  unfold cntX
  simp only [List.all_cons, List.all_nil, goodN, decL_number (show n < 100000 by omega), Option.isSome_some, Option.getD_some, Bool.and_true, beq_self_eq_true, if_true]
  rw [if_neg (by omega)]
theorem frame_bare (L : List Fld) (z : Int) (o : Nat) : frameX z o (putL L none) = .ok (o, 0) := by
  show frameX z o (bareL L) = _
  unfold frameX
  rw [bare_te, bare_cl]
  rfl
/-- what is written: an error, or the head and the body -/
def putX (right : Bool) (text b : List UInt8) (head : Bool) : Except Nat (List UInt8) :=
  if right = false then .error 10 else if 4096 < text.length then .error 22 else if 2048 < b.length then .error 23 else .ok (if head then text else text ++ b)
theorem body_sized (b rest : List UInt8) (c : Bool) (h : b.length ≤ 2048) : bodyX 1 b.length c (b ++ rest) = .ok (b, b.length) := by
  unfold bodyX
  rw [if_neg (by omega), if_neg (by decide), if_pos rfl, if_neg (by rw [List.length_append]; omega), List.take_left]
theorem body_none (k : List UInt8) (c : Bool) : bodyX 0 0 c k = .ok ([], 0) := by
  unfold bodyX
  rw [if_neg (by decide), if_pos rfl]
/-- a request that is written is read as it was -/
theorem query_put {h : Hd} {L : List Fld} {b rest : List UInt8} {o : Option Nat} (ho : o = if b = [] then none else some b.length) (hf : h.flds = putL L o) (hr : rightReq h = true) (hl : (textReq h).length ≤ 4096) (hb : b.length ≤ 2048) :
    queryX ⟨textReq h ++ b ++ rest, false, 0⟩ = (.ok (h, b), ⟨rest, false, 0⟩) := by
  unfold queryX nextX
  simp only [ne_eq, not_true_eq_false, if_false]
  rw [List.append_assoc, read_req hr hl (b ++ rest)]
  simp only
  unfold reqFr
  rw [hf]
  by_cases he : b = []
  · subst he
    rw [if_pos rfl] at ho
    subst ho
    rw [frame_bare]
    simp only [List.nil_append, List.drop_left, body_none, Nat.add_zero]
  · rw [if_neg he] at ho
    subst ho
    rw [frame_put L _ hb]
    simp only [List.drop_left, body_sized b rest false hb]
    rw [← List.drop_drop, List.drop_left, List.drop_left]
/-- a response that is written is read as it was -/
theorem reply_put {h : Hd} {L : List Fld} {b : List UInt8} {hd : Bool} (hst : 200 ≤ h.status) (hf : h.flds = putL L (if bareX false (h.status : Int) then none else some b.length)) (hr : rightRes h = true) (hl : (textRes h).length ≤ 4096) (hb : b.length ≤ 2048) (hbb : bareX false (h.status : Int) = true → b = []) (k : Nat) :
    replyX hd (k + 1) ⟨textRes h ++ (if hd then [] else b), false, 0⟩ = (.ok (h, if hd then [] else b), ⟨[], false, 0⟩) := by
  have key : respX hd ⟨textRes h ++ (if hd then [] else b), false, 0⟩ = (.ok (h, if hd then [] else b), ⟨[], false, 0⟩) := by
    unfold respX nextX
    simp only [ne_eq, not_true_eq_false, if_false]
    rw [read_res hr hl]
    simp only
    unfold resFr
    by_cases hx : bareX hd (h.status : Int) = true
    · rw [if_pos hx]
      have he : (if hd = true then [] else b) = [] := by
        cases hd with
        | true => rfl
        | false => rw [if_neg (by simp)]; exact hbb hx
      rw [he]
      simp only [List.append_nil, List.drop_length, body_none, Nat.add_zero]
    · rw [if_neg hx]
      have hd0 : hd = false := by cases hd with | true => exact absurd rfl hx | false => rfl
      subst hd0
      rw [if_neg hx] at hf
      rw [hf, frame_put L _ hb]
      simp only [Bool.false_eq_true, if_false]
      have e := body_sized b [] false hb
      rw [List.append_nil] at e
      simp only [List.drop_left, e]
      rw [← List.drop_drop, List.drop_left, List.drop_length]
  rw [replyX, key]
  simp only
  rw [if_neg (by omega)]
end Go.Pantry
namespace Go.Pantry
open Go.RowKit

def isAl (c : UInt8) : Bool := isLow c || isUp c || isDig c
def isHC (c : UInt8) : Bool := isAl c || c == 45 || c == 46
def isUn (c : UInt8) : Bool := isAl c || c == 45 || c == 46 || c == 95 || c == 126
/-- what stands ahead of the first x, what stands behind it, and whether there is one -/
def bef (x : UInt8) (s : List UInt8) : List UInt8 := s.takeWhile (· != x)
def beh (x : UInt8) (s : List UInt8) : List UInt8 := (s.dropWhile (· != x)).tail
def hasB (x : UInt8) (s : List UInt8) : Bool := s.any (· == x)
theorem bef_at (x : UInt8) {a b : List UInt8} (h : x ∉ a) : bef x (a ++ x :: b) = a ∧ beh x (a ++ x :: b) = b ∧ hasB x (a ++ x :: b) = true := by
  induction a with
  | nil => simp [bef, beh, hasB]
  | cons c a ih =>
    have hc : (c != x) = true := by rw [bne_iff_ne]; intro e; exact h (by simp [e])
    obtain ⟨h1, h2, _⟩ := ih (fun hm => h (List.mem_cons_of_mem _ hm))
    refine ⟨?_, ?_, by simp [hasB]⟩
    · show bef x (c :: (a ++ x :: b)) = _
      unfold bef at h1 ⊢
      rw [List.takeWhile_cons_of_pos (by simpa using hc), h1]
    · show beh x (c :: (a ++ x :: b)) = _
      unfold beh at h2 ⊢
      rw [List.dropWhile_cons_of_pos (by simpa using hc), h2]
theorem bef_none (x : UInt8) {a : List UInt8} (h : x ∉ a) : bef x a = a ∧ beh x a = [] ∧ hasB x a = false := by
  have h1 : ∀ c ∈ a, (c != x) = true := fun c hc => by rw [bne_iff_ne]; intro e; exact h (e ▸ hc)
  have h2 := take_all_of (p := fun c => c != x) h1
  refine ⟨h2.1, ?_, ?_⟩
  · unfold beh; rw [h2.2]; rfl
  · unfold hasB; rw [Bool.eq_false_iff]; intro hh
    rw [List.any_eq_true] at hh
    obtain ⟨c, hc, he⟩ := hh
    have := h1 c hc
    simp at this he
    exact this he
theorem bef_cases (x : UInt8) (s : List UInt8) : (x ∉ s ∧ bef x s = s ∧ beh x s = [] ∧ hasB x s = false) ∨ (∃ a b, x ∉ a ∧ s = a ++ x :: b ∧ bef x s = a ∧ beh x s = b ∧ hasB x s = true) := by
  by_cases h : x ∈ s
  · obtain ⟨a, b, e, hn⟩ : ∃ a b, s = a ++ x :: b ∧ x ∉ a := by
      induction s with
      | nil => cases h
      | cons c s ih =>
        by_cases hc : c = x
        · exact ⟨[], s, by simp [hc], by simp⟩
        · have hm : x ∈ s := by
            rcases List.mem_cons.1 h with e | e
            · exact absurd e.symm hc
            · exact e
          obtain ⟨a', b', e', hn⟩ := ih hm
          exact ⟨c :: a', b', by rw [e']; rfl, by simp [hn]; exact fun h => hc h.symm⟩
    have h3 := bef_at x (b := b) hn
    rw [← e] at h3
    exact .inr ⟨a, b, hn, e, h3⟩
  · exact .inl ⟨h, bef_none x h⟩
/-- a port's number, 0 to 99999 -/
def portL (d : List UInt8) : List UInt8 := if valL d = 80 then [] else 58 :: digF 5 (valL d)
def hostL (s : List UInt8) : Option (List UInt8) :=
  if bef 58 s = [] ∨ 40 < (bef 58 s).length ∨ (bef 58 s).all isHC = false then none
  else if beh 58 s = [] then some (lowerL (bef 58 s))
  else if 5 < (beh 58 s).length ∨ (beh 58 s).all isDig = false then none
  else some (lowerL (bef 58 s) ++ portL (beh 58 s))
/-- what stands for a % and two digits that come to n -/
def hexG (n : Nat) : UInt8 := if n < 10 then (48 + n).toUInt8 else (55 + n).toUInt8
def escB (n : Nat) : List UInt8 := if isUn n.toUInt8 then [n.toUInt8] else [37, hexG (n / 16), hexG (n % 16)]
def badC (c : UInt8) : Bool := decide (c.toNat < 33) || decide (126 < c.toNat) || c == 35
def cleanL : List UInt8 → Option (List UInt8)
  | [] => some []
  | [c] => if badC c || c == 37 then none else some [c]
  | [c, d] => if badC c || c == 37 then none else (cleanL [d]).map (c :: ·)
  | c :: a :: b :: r => if badC c then none else if c == 37 then
      (match hexV a, hexV b with
      | some x, some y => (cleanL r).map (escB (16 * x + y) ++ ·)
      | _, _ => none)
    else (cleanL (a :: b :: r)).map (c :: ·)
theorem cleanL_nil : cleanL [] = some [] := by rw [cleanL]
theorem cleanL_bad {c : UInt8} (r : List UInt8) (h : badC c = true) : cleanL (c :: r) = none := by
  match r with
  | [] => rw [cleanL]; simp [h]
  | [d] => rw [cleanL]; simp [h]
  | a :: b :: r => rw [cleanL]; simp [h]
theorem cleanL_plain {c : UInt8} (r : List UInt8) (h : badC c = false) (h2 : c ≠ 37) : cleanL (c :: r) = (cleanL r).map (c :: ·) := by
  match r with
  | [] => rw [cleanL, cleanL]; simp [h, h2]
  | [d] => conv => lhs; rw [cleanL, if_neg (by simp [h, h2])]
  | a :: b :: r => rw [cleanL]; simp [h, h2]
theorem cleanL_esc {a b : UInt8} {x y : Nat} (r : List UInt8) (ha : hexV a = some x) (hb : hexV b = some y) : cleanL (37 :: a :: b :: r) = (cleanL r).map (escB (16 * x + y) ++ ·) := by
  rw [cleanL, if_neg (by decide), if_pos (by decide), ha, hb]
theorem cleanL_esc1 {a : UInt8} (r : List UInt8) (ha : hexV a = none) : cleanL (37 :: a :: r) = none := by
  match r with
  | [] => rw [cleanL]; simp
  | b :: r => rw [cleanL, if_neg (by decide), if_pos (by decide), ha]
theorem cleanL_esc2 {a b : UInt8} (r : List UInt8) (hb : hexV b = none) : cleanL (37 :: a :: b :: r) = none := by
  rw [cleanL, if_neg (by decide), if_pos (by decide), hb]
  cases hexV a <;> rfl
theorem cleanL_short0 : cleanL [37] = none := by rw [cleanL]; simp
/-- the induction that cleaning goes by -/
theorem clean_ind {p : List UInt8 → Prop} (h0 : p []) (hb : ∀ c r, badC c = true → p (c :: r)) (hp : ∀ c r, badC c = false → c ≠ 37 → p r → p (c :: r))
    (he : ∀ a b r x y, hexV a = some x → hexV b = some y → p r → p (37 :: a :: b :: r)) (h1 : p [37]) (h2 : ∀ a r, hexV a = none → p (37 :: a :: r)) (h3 : ∀ a, p [37, a]) (h4 : ∀ a b r, hexV b = none → p (37 :: a :: b :: r)) : ∀ s, p s := by
  intro s
  induction hn : s.length using Nat.strongRecOn generalizing s with
  | _ n ih =>
    subst hn
    match s with
    | [] => exact h0
    | c :: r =>
      by_cases hc : badC c = true
      · exact hb c r hc
      · have hc' : badC c = false := by simpa using hc
        by_cases h37 : c = 37
        · subst h37
          match r with
          | [] => exact h1
          | [a] => exact h3 a
          | a :: b :: r =>
            cases ha : hexV a with
            | none => exact h2 a _ ha
            | some x =>
              cases hb : hexV b with
              | none => exact h4 a b r hb
              | some y => exact he a b r x y ha hb (ih r.length (by simp; omega) r rfl)
        · exact hp c r hc' h37 (ih r.length (by simp) r rfl)
theorem hexG_V : ∀ n : Nat, n < 16 → hexV (hexG n) = some n := by decide
theorem hexG_plain : ∀ n : Nat, n < 16 → isAl (hexG n) = true := by decide
theorem al_plain : ∀ c : UInt8, isUn c = true → badC c = false ∧ c ≠ 37 ∧ c ≠ 47 ∧ c ≠ 63 := fun c h => by
  have h1 := byte_all (p := fun c => !isUn c || (!badC c && c != 37 && c != 47 && c != 63)) (by decide +kernel) c
  simp only [h, Bool.not_true, Bool.false_or, Bool.and_eq_true, Bool.not_eq_true', bne_iff_ne, ne_eq] at h1
  exact ⟨h1.1.1.1, h1.1.1.2, h1.1.2, h1.2⟩
theorem esc_un {n : Nat} (h : isUn n.toUInt8 = true) : escB n = [n.toUInt8] := by unfold escB; rw [if_pos h]
theorem esc_not {n : Nat} (h : isUn n.toUInt8 = false) : escB n = [37, hexG (n / 16), hexG (n % 16)] := by unfold escB; rw [h]; rfl
theorem esc_mem {n : Nat} (hn : n < 256) : ∀ c ∈ escB n, c ≠ 47 ∧ c ≠ 63 := by
  by_cases h : isUn n.toUInt8 = true
  · rw [esc_un h]
    intro c hc
    simp at hc; subst hc
    exact ⟨(al_plain _ h).2.2.1, (al_plain _ h).2.2.2⟩
  · rw [esc_not (by simpa using h)]
    have hx : ∀ m, m < 16 → isUn (hexG m) = true := by decide
    intro c hc
    simp only [List.mem_cons, List.not_mem_nil, or_false] at hc
    rcases hc with rfl | rfl | rfl
    · decide
    · exact ⟨(al_plain _ (hx _ (by omega))).2.2.1, (al_plain _ (hx _ (by omega))).2.2.2⟩
    · exact ⟨(al_plain _ (hx _ (by omega))).2.2.1, (al_plain _ (hx _ (by omega))).2.2.2⟩
theorem hex_sum {a b : UInt8} {x y : Nat} (ha : hexV a = some x) (hb : hexV b = some y) : 16 * x + y < 256 := by
  have := hexV_le ha; have := hexV_le hb; omega
/-- a cleaned text behind another -/
theorem clean_after (t : List UInt8) {n : Nat} (hn : n < 256) : cleanL (escB n ++ t) = (cleanL t).map (escB n ++ ·) := by
  by_cases h : isUn n.toUInt8 = true
  · rw [esc_un h, List.singleton_append, cleanL_plain _ (al_plain _ h).1 (al_plain _ h).2.1]; rfl
  · have h' : isUn n.toUInt8 = false := by simpa using h
    rw [esc_not h']
    show cleanL (37 :: hexG (n / 16) :: hexG (n % 16) :: t) = _
    rw [cleanL_esc t (hexG_V _ (by omega)) (hexG_V _ (by omega)), show 16 * (n / 16) + n % 16 = n from by omega, esc_not h']
theorem clean_idem : ∀ s t, cleanL s = some t → cleanL t = some t := by
  refine clean_ind (p := fun s => ∀ t, cleanL s = some t → cleanL t = some t) ?_ ?_ ?_ ?_ ?_ ?_ ?_ ?_
  · intro t h; rw [cleanL_nil] at h; cases h; exact cleanL_nil
  · intro c r hb t h; rw [cleanL_bad r hb] at h; cases h
  · intro c r hb h37 ih t h
    rw [cleanL_plain r hb h37] at h
    cases hr : cleanL r with
    | none => rw [hr] at h; cases h
    | some u =>
      rw [hr] at h; cases h
      rw [cleanL_plain u hb h37, ih u hr]; rfl
  · intro a b r x y ha hb ih t h
    rw [cleanL_esc r ha hb] at h
    cases hr : cleanL r with
    | none => rw [hr] at h; cases h
    | some u =>
      rw [hr] at h; cases h
      rw [clean_after u (hex_sum ha hb), ih u hr]; rfl
  · intro t h; rw [cleanL_short0] at h; cases h
  · intro a r ha t h; rw [cleanL_esc1 r ha] at h; cases h
  · intro a t h
    rw [show cleanL [37, a] = none from by rw [cleanL]; simp] at h; cases h
  · intro a b r hb t h; rw [cleanL_esc2 r hb] at h; cases h
/-- a byte that is no digit and no % parts a text in two that are cleaned apart -/
theorem clean_parts {c : UInt8} (hc : badC c = false) (h37 : c ≠ 37) (hx : hexV c = none) (b : List UInt8) : ∀ a, cleanL (a ++ c :: b) = (match cleanL a, cleanL b with | some x, some y => some (x ++ c :: y) | _, _ => none) := by
  refine clean_ind ?_ ?_ ?_ ?_ ?_ ?_ ?_ ?_
  · rw [List.nil_append, cleanL_plain b hc h37, cleanL_nil]
    cases cleanL b <;> rfl
  · intro d r hd
    rw [List.cons_append, cleanL_bad _ hd, cleanL_bad _ hd]
  · intro d r hd h ih
    rw [List.cons_append, cleanL_plain _ hd h, cleanL_plain _ hd h, ih]
    cases cleanL r <;> cases cleanL b <;> rfl
  · intro d e r x y hd he ih
    show cleanL (37 :: d :: e :: (r ++ c :: b)) = _
    rw [cleanL_esc _ hd he, cleanL_esc _ hd he, ih]
    cases cleanL r <;> cases cleanL b <;> simp
  · show cleanL (37 :: c :: b) = _
    rw [cleanL_esc1 _ hx, cleanL_short0]
  · intro d r hd
    show cleanL (37 :: d :: (r ++ c :: b)) = _
    rw [cleanL_esc1 _ hd, cleanL_esc1 _ hd]
  · intro d
    show cleanL (37 :: d :: c :: b) = _
    rw [cleanL_esc2 _ hx, show cleanL [37, d] = none from by rw [cleanL]; simp]
  · intro d e r he
    show cleanL (37 :: d :: e :: (r ++ c :: b)) = _
    rw [cleanL_esc2 _ he, cleanL_esc2 _ he]
/-- no slash and no question mark comes up -/
theorem clean_none {x : UInt8} (hx : x = 47 ∨ x = 63) : ∀ s t, cleanL s = some t → x ∉ s → x ∉ t := by
  refine clean_ind (p := fun s => ∀ t, cleanL s = some t → x ∉ s → x ∉ t) ?_ ?_ ?_ ?_ ?_ ?_ ?_ ?_
  · intro t h _; rw [cleanL_nil] at h; cases h; simp
  · intro c r hb t h; rw [cleanL_bad r hb] at h; cases h
  · intro c r hb h37 ih t h hn
    rw [cleanL_plain r hb h37] at h
    cases hr : cleanL r with
    | none => rw [hr] at h; cases h
    | some u =>
      rw [hr] at h; cases h
      simp only [List.mem_cons, not_or] at hn ⊢
      exact ⟨hn.1, ih u hr hn.2⟩
  · intro a b r z y ha hb ih t h hn
    rw [cleanL_esc r ha hb] at h
    cases hr : cleanL r with
    | none => rw [hr] at h; cases h
    | some u =>
      rw [hr] at h; cases h
      simp only [List.mem_cons, not_or] at hn
      simp only [List.mem_append, not_or]
      refine ⟨fun hm => ?_, ih u hr hn.2.2.2⟩
      have := esc_mem (hex_sum ha hb) x hm
      rcases hx with rfl | rfl
      · exact this.1 rfl
      · exact this.2 rfl
  · intro t h; rw [cleanL_short0] at h; cases h
  · intro a r ha t h; rw [cleanL_esc1 r ha] at h; cases h
  · intro a t h
    rw [show cleanL [37, a] = none from by rw [cleanL]; simp] at h; cases h
  · intro a b r hb t h; rw [cleanL_esc2 r hb] at h; cases h
theorem clean_len : ∀ s t, cleanL s = some t → t.length ≤ s.length := by
  refine clean_ind (p := fun s => ∀ t, cleanL s = some t → t.length ≤ s.length) ?_ ?_ ?_ ?_ ?_ ?_ ?_ ?_
  · intro t h; rw [cleanL_nil] at h; cases h; simp
  · intro c r hb t h; rw [cleanL_bad r hb] at h; cases h
  · intro c r hb h37 ih t h
    rw [cleanL_plain r hb h37] at h
    cases hr : cleanL r with
    | none => rw [hr] at h; cases h
    | some u =>
      rw [hr] at h; cases h
      have := ih u hr
      simp; omega
  · intro a b r z y ha hb ih t h
    rw [cleanL_esc r ha hb] at h
    cases hr : cleanL r with
    | none => rw [hr] at h; cases h
    | some u =>
      rw [hr] at h; cases h
      have := ih u hr
      have h3 : (escB (16 * z + y)).length ≤ 3 := by unfold escB; split <;> simp
      simp; omega
  · intro t h; rw [cleanL_short0] at h; cases h
  · intro a r ha t h; rw [cleanL_esc1 r ha] at h; cases h
  · intro a t h
    rw [show cleanL [37, a] = none from by rw [cleanL]; simp] at h; cases h
  · intro a b r hb t h; rw [cleanL_esc2 r hb] at h; cases h
end Go.Pantry
namespace Go.Pantry
open Go.RowKit

/-- what stands between slashes, and behind the last one -/
def segL : List UInt8 → List (List UInt8)
  | [] => [[]]
  | c :: r => if c == 47 then [] :: segL r else match segL r with
    | [] => [[c]]
    | x :: l => (c :: x) :: l
theorem seg_ne : ∀ s, segL s ≠ []
  | [] => by simp [segL]
  | c :: r => by
    rw [segL]; split
    · simp
    · split <;> simp
theorem seg_slash (b : List UInt8) : segL (47 :: b) = [] :: segL b := by rw [segL]; rfl
theorem seg_at (b : List UInt8) : ∀ {a : List UInt8}, (47 : UInt8) ∉ a → segL (a ++ 47 :: b) = a :: segL b
  | [], _ => seg_slash b
  | c :: a, h => by
    have hc : (c == 47) = false := by rw [beq_eq_false_iff_ne]; intro e; exact h (by simp [e])
    rw [List.cons_append, segL, hc, seg_at b (fun hm => h (List.mem_cons_of_mem _ hm))]; rfl
theorem seg_none : ∀ {a : List UInt8}, (47 : UInt8) ∉ a → segL a = [a]
  | [], _ => rfl
  | c :: a, h => by
    have hc : (c == 47) = false := by rw [beq_eq_false_iff_ne]; intro e; exact h (by simp [e])
    rw [segL, hc, seg_none (fun hm => h (List.mem_cons_of_mem _ hm))]; rfl
/-- the induction that segments go by -/
theorem seg_ind {p : List UInt8 → Prop} (h0 : ∀ a, (47 : UInt8) ∉ a → p a) (h1 : ∀ a b, (47 : UInt8) ∉ a → p b → p (a ++ 47 :: b)) : ∀ s, p s := by
  intro s
  induction hn : s.length using Nat.strongRecOn generalizing s with
  | _ n ih =>
    subst hn
    rcases bef_cases 47 s with ⟨h, _⟩ | ⟨a, b, h, e, _⟩
    · exact h0 s h
    · rw [e]
      exact h1 a b h (ih b.length (by rw [e]; simp; omega) b rfl)
theorem seg_no : ∀ s, ∀ x ∈ segL s, (47 : UInt8) ∉ x := by
  refine seg_ind ?_ ?_
  · intro a h x hx
    rw [seg_none h] at hx
    simp at hx; rw [hx]; exact h
  · intro a b h ih x hx
    rw [seg_at b h] at hx
    rcases List.mem_cons.1 hx with rfl | hx
    · exact h
    · exact ih x hx
theorem seg_join : ∀ {l : List (List UInt8)}, l ≠ [] → (∀ x ∈ l, (47 : UInt8) ∉ x) → segL (joinL [47] l) = l
  | [], h, _ => absurd rfl h
  | [a], _, h => by show segL a = [a]; exact seg_none (h a (by simp))
  | a :: b :: r, _, h => by
    show segL (a ++ [47] ++ joinL [47] (b :: r)) = _
    rw [List.append_assoc, List.singleton_append, seg_at _ (h a (by simp)), seg_join (by simp) (fun x hx => h x (List.mem_cons_of_mem _ hx))]
theorem seg_pieces : ∀ (s : List UInt8) (n : Nat), s.length ≤ n → piecesL [47] n s = segL s := by
  refine seg_ind (p := fun s => ∀ n, s.length ≤ n → piecesL [47] n s = segL s) ?_ ?_
  · intro a h n _
    rw [seg_none h]
    cases n with
    | zero => rfl
    | succ n => rw [piecesL, findL_no 47 [] a h]
  · intro a b h ih n hn
    rw [seg_at b h]
    have hl : a.length + (b.length + 1) ≤ n := by simpa using hn
    obtain ⟨m, rfl⟩ : ∃ m, n = m + 1 := ⟨n - 1, by omega⟩
    have hf := findL_at 47 [] a b h
    rw [List.append_assoc, List.singleton_append] at hf
    rw [piecesL, hf]
    simp only
    rw [List.take_left, show a.length + [(47 : UInt8)].length = a.length + 1 from rfl, ← List.drop_drop, List.drop_left]
    show a :: piecesL [47] m b = _
    rw [ih m (by omega)]
theorem seg_split (s : List UInt8) : Lib.split s [47] = segL s := by
  unfold Lib.split
  rw [splitK_pieces, pieces_count (by simp) s.length s (Nat.le_refl _)]
  exact seg_pieces s _ (Nat.le_refl _)
theorem join_lib : ∀ l : List (List UInt8), Lib.join l [47] = joinL [47] l
  | [] => rfl
  | [a] => by simp [Lib.join, joinL, List.intercalate, List.intersperse]
  | a :: b :: r => by
    have ih := join_lib (b :: r)
    unfold Lib.join at ih ⊢
    show _ = a ++ [47] ++ joinL [47] (b :: r)
    rw [← ih]
    simp [List.intercalate, List.intersperse]

def dotS : List UInt8 := [46]
def dots2 : List UInt8 := [46, 46]
def isDots (x : List UInt8) : Bool := x == [46] || x == [46, 46]
/-- one segment more; last: it is the last one -/
def stepS (acc : List (List UInt8)) (x : List UInt8) (last : Bool) : List (List UInt8) :=
  if isDots x then (if x == [46, 46] then acc.dropLast else acc) ++ (if last then [[]] else []) else acc ++ [x]
def settleL : List (List UInt8) → List (List UInt8) → List (List UInt8)
  | acc, [] => acc
  | acc, x :: r => settleL (stepS acc x r.isEmpty) r
def pathL (p : List UInt8) : List UInt8 := 47 :: joinL [47] (settleL [] (segL p.tail))
theorem settle_snoc (x : List UInt8) : ∀ (l acc : List (List UInt8)), (∀ y ∈ l, True) → settleL acc (l ++ [x]) = stepS (l.foldl (fun a y => stepS a y false) acc) x true
  | [], acc, _ => rfl
  | y :: l, acc, _ => by
    have h := settle_snoc x l (stepS acc y false) (fun _ _ => trivial)
    rw [List.cons_append, settleL, show (l ++ [x]).isEmpty = false from by simp, h]; rfl
theorem step_mem {acc : List (List UInt8)} {x : List UInt8} {b : Bool} : ∀ y ∈ stepS acc x b, y ∈ acc ∨ (y = x ∧ isDots x = false) ∨ y = [] := by
  intro y hy
  unfold stepS at hy
  split at hy
  · rcases List.mem_append.1 hy with h | h
    · left
      split at h
      · exact List.dropLast_subset _ h
      · exact h
    · right; right
      cases b <;> simp at h
      exact h
  · rename_i hd
    rcases List.mem_append.1 hy with h | h
    · exact .inl h
    · simp at h; exact .inr (.inl ⟨h, by simpa using hd⟩)
theorem settle_mem : ∀ (l acc : List (List UInt8)), ∀ y ∈ settleL acc l, y ∈ acc ∨ (y ∈ l ∧ isDots y = false) ∨ y = []
  | [], acc, y, h => .inl h
  | x :: r, acc, y, h => by
    rw [settleL] at h
    rcases settle_mem r _ y h with h | h | h
    · rcases step_mem y h with h | h | h
      · exact .inl h
      · obtain ⟨rfl, hd⟩ := h; exact .inr (.inl ⟨by simp, hd⟩)
      · exact .inr (.inr h)
    · exact .inr (.inl ⟨List.mem_cons_of_mem _ h.1, h.2⟩)
    · exact .inr (.inr h)
theorem settle_plain : ∀ (l acc : List (List UInt8)), (∀ x ∈ l, isDots x = false) → settleL acc l = acc ++ l
  | [], acc, _ => by simp [settleL]
  | x :: r, acc, h => by
    rw [settleL, stepS, if_neg (by simp [h x (by simp)]), settle_plain r _ (fun y hy => h y (List.mem_cons_of_mem _ hy))]; simp
def wS (l : List (List UInt8)) : Nat := (l.map fun x => x.length + 1).sum
theorem wS_append (a b : List (List UInt8)) : wS (a ++ b) = wS a + wS b := by simp [wS]
theorem wS_one (x : List UInt8) : wS [x] = x.length + 1 := by simp [wS]
theorem wS_drop (l : List (List UInt8)) : wS l.dropLast ≤ wS l := by
  rcases List.eq_nil_or_concat l with rfl | ⟨a, x, rfl⟩
  · simp
  · rw [List.concat_eq_append, List.dropLast_concat, wS_append]; omega
theorem wS_step (acc : List (List UInt8)) (x : List UInt8) (b : Bool) : wS (stepS acc x b) ≤ wS acc + (x.length + 1) := by
  unfold stepS
  split
  · have h1 : wS (if x == [46, 46] then acc.dropLast else acc) ≤ wS acc := by
      split
      · exact wS_drop acc
      · exact Nat.le_refl _
    have h2 : wS (if b then [[]] else []) ≤ x.length + 1 := by
      cases b
      · simp [wS]
      · simp [wS]
    rw [wS_append]; omega
  · rw [wS_append, wS_one]; omega
theorem wS_settle : ∀ (l acc : List (List UInt8)), wS (settleL acc l) ≤ wS acc + wS l
  | [], acc => by simp [settleL]
  | x :: r, acc => by
    rw [settleL]
    have h1 := wS_settle r (stepS acc x r.isEmpty)
    have h2 := wS_step acc x r.isEmpty
    have h3 : wS (x :: r) = (x.length + 1) + wS r := by simp [wS]
    omega
theorem wS_seg : ∀ s, wS (segL s) = s.length + 1 := by
  refine seg_ind ?_ ?_
  · intro a h; rw [seg_none h, wS_one]
  · intro a b h ih
    rw [seg_at b h]
    have h3 : wS (a :: segL b) = (a.length + 1) + wS (segL b) := by simp [wS]
    rw [h3, ih]; simp; omega
theorem wS_join : ∀ l : List (List UInt8), (joinL [47] l).length ≤ wS l
  | [] => by simp [joinL]
  | [a] => by simp [joinL, wS]
  | a :: b :: r => by
    have ih := wS_join (b :: r)
    have h3 : wS (a :: b :: r) = (a.length + 1) + wS (b :: r) := by simp [wS]
    simp only [joinL, List.length_append, List.length_singleton]
    omega
theorem wS_len (l : List (List UInt8)) : l.length ≤ wS l := by
  induction l with
  | nil => simp
  | cons a l ih =>
    have h3 : wS (a :: l) = (a.length + 1) + wS l := by simp [wS]
    simp; omega
theorem wS_all {l : List (List UInt8)} {x : List UInt8} (h : x ∈ l) : x.length ≤ wS l := by
  induction l with
  | nil => cases h
  | cons a l ih =>
    have h3 : wS (a :: l) = (a.length + 1) + wS l := by simp [wS]
    rcases List.mem_cons.1 h with rfl | h
    · omega
    · have := ih h; omega
theorem path_len (p : List UInt8) : (pathL p).length ≤ p.length + 2 := by
  unfold pathL
  have h1 := wS_join (settleL [] (segL p.tail))
  have h2 := wS_settle (segL p.tail) []
  rw [wS_seg] at h2
  have h3 : wS [] = 0 := rfl
  simp at h2 ⊢
  omega
/-- each with a slash ahead -/
def slashL (l : List (List UInt8)) : List UInt8 := l.flatMap (47 :: ·)
theorem slash_join : ∀ {l : List (List UInt8)}, l ≠ [] → slashL l = 47 :: joinL [47] l
  | [], h => absurd rfl h
  | [a], _ => by simp [slashL, joinL]
  | a :: b :: r, _ => by
    have ih := slash_join (l := b :: r) (by simp)
    unfold slashL at ih ⊢
    rw [List.flatMap_cons, ih]
    simp [joinL]
theorem path_slash (p : List UInt8) : pathL p = if slashL (settleL [] (segL p.tail)) = [] then [47] else slashL (settleL [] (segL p.tail)) := by
  unfold pathL
  by_cases h : settleL [] (segL p.tail) = []
  · rw [h]; rfl
  · rw [slash_join h, if_neg (by simp)]
theorem path_segs (p : List UInt8) : ∃ l : List (List UInt8), pathL p = 47 :: joinL [47] l ∧ (∀ x ∈ l, isDots x = false ∧ (47 : UInt8) ∉ x ∧ (x ∈ segL p.tail ∨ x = [])) := by
  refine ⟨_, rfl, fun x hx => ?_⟩
  rcases settle_mem _ _ x hx with h | h | h
  · cases h
  · exact ⟨h.2, seg_no _ x h.1, .inl h.1⟩
  · rw [h]; exact ⟨by decide, by simp, .inr rfl⟩
theorem path_seg (p : List UInt8) : ∀ x ∈ segL (pathL p).tail, isDots x = false := by
  obtain ⟨l, h1, h2⟩ := path_segs p
  rw [h1]
  show ∀ x ∈ segL (joinL [47] l), _
  by_cases h : l = []
  · rw [h]
    intro x hx
    have hx' : x ∈ [([] : List UInt8)] := hx
    simp at hx'; rw [hx']; rfl
  · rw [seg_join h (fun x hx => (h2 x hx).2.1)]
    exact fun x hx => (h2 x hx).1
theorem join_seg : ∀ s, joinL [47] (segL s) = s := by
  refine seg_ind ?_ ?_
  · intro a h; rw [seg_none h]; rfl
  · intro a b h ih
    rw [seg_at b h]
    cases hb : segL b with
    | nil => exact absurd hb (seg_ne b)
    | cons x l =>
      rw [hb] at ih
      show a ++ [47] ++ joinL [47] (x :: l) = _
      rw [ih]; simp
theorem path_plain {p : List UInt8} (hp : p.head? = some 47) (h : ∀ x ∈ segL p.tail, isDots x = false) : pathL p = p := by
  unfold pathL
  rw [settle_plain _ _ h, List.nil_append, join_seg]
  cases p with
  | nil => cases hp
  | cons c p => simp at hp; rw [hp]; rfl
theorem path_idem (p : List UInt8) : pathL (pathL p) = pathL p := path_plain (by rfl) (path_seg p)
theorem clean_seg : ∀ s, cleanL s = some s → ∀ x ∈ segL s, cleanL x = some x := by
  refine seg_ind (p := fun s => cleanL s = some s → ∀ x ∈ segL s, cleanL x = some x) ?_ ?_
  · intro a h hc x hx
    rw [seg_none h] at hx
    simp at hx; rw [hx]; exact hc
  · intro a b h ih hc x hx
    rw [clean_parts (c := 47) (by decide) (by decide) (by decide)] at hc
    cases ha : cleanL a with
    | none => rw [ha] at hc; cases hc
    | some u =>
      cases hb : cleanL b with
      | none => rw [ha, hb] at hc; cases hc
      | some v =>
        rw [ha, hb] at hc
        have he : u ++ 47 :: v = a ++ 47 :: b := by simpa using hc
        have hu : (47 : UInt8) ∉ u := clean_none (.inl rfl) a u ha h
        have e1 := bef_at 47 (b := v) hu
        have e2 := bef_at 47 (b := b) h
        rw [he] at e1
        have hua : u = a := by rw [← e1.1, e2.1]
        have hvb : v = b := by rw [← e1.2.1, e2.2.1]
        rw [seg_at b h] at hx
        rcases List.mem_cons.1 hx with rfl | hx
        · rw [ha, hua]
        · exact ih (by rw [hb, hvb]) x hx
theorem clean_join : ∀ l : List (List UInt8), (∀ x ∈ l, cleanL x = some x) → cleanL (joinL [47] l) = some (joinL [47] l)
  | [], _ => cleanL_nil
  | [a], h => h a (by simp)
  | a :: b :: r, h => by
    show cleanL (a ++ [47] ++ joinL [47] (b :: r)) = some (a ++ [47] ++ joinL [47] (b :: r))
    rw [List.append_assoc, List.singleton_append, clean_parts (c := 47) (by decide) (by decide) (by decide), h a (by simp), clean_join (b :: r) (fun x hx => h x (List.mem_cons_of_mem _ hx))]
theorem path_clean {p : List UInt8} (hc : cleanL p = some p) (hp : p.head? = some 47) : cleanL (pathL p) = some (pathL p) := by
  cases p with
  | nil => cases hp
  | cons c p =>
    simp at hp; subst hp
    have hc' : cleanL p = some p := by
      rw [cleanL_plain p (by decide) (by decide)] at hc
      cases h : cleanL p with
      | none => rw [h] at hc; cases hc
      | some u => rw [h] at hc; simp at hc; rw [hc]
    have h := clean_join (settleL [] (segL p)) (fun x hx => by
      rcases settle_mem _ _ x hx with h | h | h
      · cases h
      · exact clean_seg p hc' x h.1
      · rw [h]; exact cleanL_nil)
    show cleanL (47 :: joinL [47] (settleL [] (segL p))) = some _
    rw [cleanL_plain _ (by decide) (by decide), h]; rfl
theorem join_not {x : UInt8} (hx : x ≠ 47) : ∀ l : List (List UInt8), (∀ a ∈ l, x ∉ a) → x ∉ joinL [47] l
  | [], _ => by simp [joinL]
  | [a], h => h a (by simp)
  | a :: b :: r, h => by
    have ih := join_not hx (b :: r) (fun y hy => h y (List.mem_cons_of_mem _ hy))
    have := h a (by simp)
    simp only [joinL, List.mem_append, List.mem_singleton, not_or]
    exact ⟨⟨this, hx⟩, ih⟩
theorem seg_sub {x : UInt8} : ∀ s, x ∉ s → ∀ a ∈ segL s, x ∉ a := by
  refine seg_ind (p := fun s => x ∉ s → ∀ a ∈ segL s, x ∉ a) ?_ ?_
  · intro a h hn y hy
    rw [seg_none h] at hy
    simp at hy; rw [hy]; exact hn
  · intro a b h ih hn y hy
    simp only [List.mem_append, List.mem_cons, not_or] at hn
    rw [seg_at b h] at hy
    rcases List.mem_cons.1 hy with rfl | hy
    · exact hn.1
    · exact ih hn.2.2 y hy
theorem path_not {x : UInt8} (hx : x ≠ 47) {p : List UInt8} (h : x ∉ p) : x ∉ pathL p := by
  obtain ⟨l, h1, h2⟩ := path_segs p
  rw [h1]
  have h3 := join_not hx l (fun a ha => by
    rcases (h2 a ha).2.2 with h4 | h4
    · exact seg_sub _ (fun hm => h (List.mem_of_mem_tail hm)) a h4
    · rw [h4]; simp)
  simp only [List.mem_cons, not_or]
  exact ⟨hx, h3⟩

structure PlaceR where
  host : List UInt8
  path : List UInt8
  query : List UInt8
  has : Bool
def leadL : List UInt8 := [104, 116, 116, 112, 58, 47, 47]
def leadU : List UInt8 := [72, 84, 84, 80, 58, 47, 47]
def ownL (t : List UInt8) : Bool := lowerL (t.take 7) == leadL
def isSQ (c : UInt8) : Bool := c == 47 || c == 63
def apartH (r : List UInt8) : List UInt8 := r.takeWhile fun c => !isSQ c
def apartB (r : List UInt8) : List UInt8 := r.dropWhile fun c => !isSQ c
def apartR (r : List UInt8) : List UInt8 := if (apartB r).head? = some 47 then apartB r else 47 :: apartB r
def placeL (h r : List UInt8) : Option PlaceR :=
  match hostL h, cleanL (bef 63 r), cleanL (beh 63 r) with
  | some H, some P, some Q => if r.head? = some 47 ∧ (pathL P).length ≤ 512 ∧ Q.length ≤ 512 then some ⟨H, pathL P, Q, hasB 63 r⟩ else none
  | _, _, _ => none
def readP (t h : List UInt8) : Option PlaceR := if ownL t then placeL (apartH (t.drop 7)) (apartR (t.drop 7)) else placeL h t
def showP (p : PlaceR) : List UInt8 := if p.has then p.path ++ 63 :: p.query else p.path
theorem lowC_not : ∀ c : UInt8, isHC c = true → isHC (lowC c) = true ∧ lowC c ≠ 58 := fun c h => by
  have h1 := byte_all (p := fun c => !isHC c || (isHC (lowC c) && lowC c != 58)) (by decide +kernel) c
  simp only [h, Bool.not_true, Bool.false_or, Bool.and_eq_true, bne_iff_ne, ne_eq] at h1
  exact h1
theorem hc_not : ∀ c : UInt8, isHC c = true ∨ isDig c = true ∨ c = 58 → isSQ c = false := fun c h => by
  have h1 := byte_all (p := fun c => !(isHC c || isDig c || c == 58) || !isSQ c) (by decide +kernel) c
  have h2 : (isHC c || isDig c || c == 58) = true := by
    rcases h with h | h | h <;> simp [h]
  simpa [h2] using h1
theorem lower_hc {n : List UInt8} (h : n.all isHC = true) : (lowerL n).all isHC = true ∧ (58 : UInt8) ∉ lowerL n := by
  unfold lowerL
  constructor
  · rw [List.all_map, List.all_eq_true]
    exact fun c hc => (lowC_not c (List.all_eq_true.1 h c hc)).1
  · intro hm
    obtain ⟨c, hc, e⟩ := List.mem_map.1 hm
    exact (lowC_not c (List.all_eq_true.1 h c hc)).2 e
theorem hostL_none {s : List UInt8} (h : bef 58 s = [] ∨ 40 < (bef 58 s).length ∨ (bef 58 s).all isHC = false) : hostL s = none := by
  unfold hostL; rw [if_pos h]
/-- a name and what stands behind its colon -/
def hostN (n d : List UInt8) : Option (List UInt8) :=
  if n = [] ∨ 40 < n.length ∨ n.all isHC = false then none
  else if d = [] then some (lowerL n)
  else if 5 < d.length ∨ d.all isDig = false then none
  else some (lowerL n ++ portL d)
theorem hostL_eq (s : List UInt8) : hostL s = hostN (bef 58 s) (beh 58 s) := rfl
theorem val_lt {l : List UInt8} (h1 : l.length ≤ 5) (h2 : l.all isDig = true) : valL l < 100000 := by
  have key : ∀ (l : List UInt8) (n : Nat), l.all isDig = true → l.foldl (fun n c => 10 * n + (c.toNat - 48)) n < (n + 1) * 10 ^ l.length := by
    intro l
    induction l with
    | nil => intro n _; simp
    | cons c l ih =>
      intro n h
      rw [List.all_cons, Bool.and_eq_true] at h
      have hc := isDig_bounds h.1
      have := ih (10 * n + (c.toNat - 48)) h.2
      have h3 : (10 * n + (c.toNat - 48) + 1) * 10 ^ l.length ≤ (10 * (n + 1)) * 10 ^ l.length := Nat.mul_le_mul_right _ (by omega)
      rw [List.foldl_cons, List.length_cons, Nat.pow_succ]
      have h4 : (n + 1) * (10 ^ l.length * 10) = (10 * (n + 1)) * 10 ^ l.length := by
        rw [Nat.mul_comm (10 ^ l.length) 10, ← Nat.mul_assoc, Nat.mul_comm (n + 1) 10]
      omega
  have := key l 0 h2
  have h5 : 10 ^ l.length ≤ 10 ^ 5 := Nat.pow_le_pow_right (by decide) h1
  unfold valL
  omega
theorem host_form {s H : List UInt8} (h : hostL s = some H) : ∃ n d, n ≠ [] ∧ n.length ≤ 40 ∧ n.all isHC = true ∧ lowerL n = n ∧ H = n ++ d ∧ (d = [] ∨ ∃ m, m < 100000 ∧ m ≠ 80 ∧ d = 58 :: digF 5 m) := by
  rw [hostL_eq] at h
  unfold hostN at h
  split at h
  · cases h
  · rename_i h1
    have a1 : bef 58 s ≠ [] := fun e => h1 (.inl e)
    have a2 : (bef 58 s).length ≤ 40 := Nat.not_lt.1 fun e => h1 (.inr (.inl e))
    have a3 : (bef 58 s).all isHC = true := by
      cases e : (bef 58 s).all isHC with
      | true => rfl
      | false => exact absurd (.inr (.inr e)) h1
    have b1 : lowerL (bef 58 s) ≠ [] := by unfold lowerL; simpa using a1
    have b2 : (lowerL (bef 58 s)).length ≤ 40 := by unfold lowerL; simpa using a2
    have b3 := (lower_hc a3).1
    have b4 := lowerL_idem (bef 58 s)
    split at h
    · cases h
      exact ⟨lowerL (bef 58 s), [], b1, b2, b3, b4, by simp, .inl rfl⟩
    · split at h
      · cases h
      · rename_i h3
        cases h
        refine ⟨lowerL (bef 58 s), portL (beh 58 s), b1, b2, b3, b4, rfl, ?_⟩
        unfold portL
        split
        · exact .inl rfl
        · rename_i h80
          refine .inr ⟨_, ?_, h80, rfl⟩
          have c1 : (beh 58 s).length ≤ 5 := Nat.not_lt.1 fun e => h3 (.inl e)
          have c2 : (beh 58 s).all isDig = true := by
            cases e : (beh 58 s).all isDig with
            | true => rfl
            | false => exact absurd (.inr e) h3
          exact val_lt c1 c2
theorem host_len {s H : List UInt8} (h : hostL s = some H) : H.length ≤ 46 := by
  obtain ⟨n, d, _, h2, _, _, rfl, h5⟩ := host_form h
  have : d.length ≤ 6 := by
    rcases h5 with rfl | ⟨m, _, _, rfl⟩
    · simp
    · have := digF_len 5 m; simp; omega
  simp; omega
theorem host_back {s H : List UInt8} (h : hostL s = some H) : hostL H = some H := by
  obtain ⟨n, d, h1, h2, h3, h4, rfl, h5⟩ := host_form h
  have h58 : (58 : UInt8) ∉ n := by rw [← h4]; exact (lower_hc h3).2
  rw [hostL_eq]
  rcases h5 with rfl | ⟨m, hm, h80, rfl⟩
  · obtain ⟨e1, e2, _⟩ := bef_none 58 h58
    rw [List.append_nil, e1, e2, hostN, if_neg (by simp [h1, h3]; omega), if_pos rfl, h4]
  · obtain ⟨e1, e2, _⟩ := bef_at 58 (b := digF 5 m) h58
    have e3 := digF_len 5 m
    rw [e1, e2, hostN, if_neg (by simp [h1, h3]; omega), if_neg (digF_ne 4 m), if_neg (by rw [digF_all]; simp; omega), h4, portL, digF_val 4 m (by omega), if_neg h80]
theorem host_sq {s H : List UInt8} (h : hostL s = some H) : ∀ c ∈ H, isSQ c = false := by
  obtain ⟨n, d, _, _, h3, _, rfl, h5⟩ := host_form h
  intro c hc
  rcases List.mem_append.1 hc with hc | hc
  · exact hc_not c (.inl (List.all_eq_true.1 h3 c hc))
  · rcases h5 with rfl | ⟨m, _, _, rfl⟩
    · cases hc
    · rcases List.mem_cons.1 hc with rfl | hc
      · rfl
      · exact hc_not c (.inr (.inl (digF_mem hc)))
theorem apart_at {a r : List UInt8} (h : ∀ c ∈ a, isSQ c = false) (hr : ∀ c, r.head? = some c → isSQ c = true) : apartH (a ++ r) = a ∧ apartB (a ++ r) = r := by
  unfold apartH apartB
  induction a with
  | nil =>
    cases r with
    | nil => simp
    | cons c r => simp [hr c rfl]
  | cons c a ih =>
    obtain ⟨h1, h2⟩ := ih (fun d hd => h d (List.mem_cons_of_mem _ hd))
    have hc : (!isSQ c) = true := by rw [h c (by simp)]; rfl
    rw [List.cons_append, List.takeWhile_cons_of_pos (p := fun c => !isSQ c) hc, List.dropWhile_cons_of_pos (p := fun c => !isSQ c) hc, h1, h2]
    exact ⟨rfl, rfl⟩
theorem own_slash {t : List UInt8} (h : t.head? = some 47) : ownL t = false := by
  cases t with
  | nil => cases h
  | cons c t =>
    simp at h; subst h
    unfold ownL lowerL
    rw [List.take_succ_cons, List.map_cons, show lowC 47 = 47 from by decide]
    rw [beq_eq_false_iff_ne]
    intro e
    have := (List.cons.inj e).1
    exact absurd this (by decide)
theorem own_lead (t : List UInt8) (l : List UInt8) (hl : l = leadL ∨ l = leadU) : ownL (l ++ t) = true ∧ (l ++ t).drop 7 = t := by
  rcases hl with rfl | rfl
  · exact ⟨rfl, rfl⟩
  · exact ⟨by show (lowerL leadU == leadL) = true; decide, rfl⟩
theorem place_shown {h : List UInt8} {p : PlaceR} (hp : ∃ r, placeL h r = some p) : placeL p.host (showP p) = some p ∧ hostL h = some p.host ∧ p.path.head? = some 47 ∧ p.path.length ≤ 512 ∧ p.query.length ≤ 512 ∧ (p.has = false → p.query = []) ∧ (∀ x ∈ segL p.path.tail, isDots x = false) ∧ (showP p).head? = some 47 ∧ cleanL p.path = some p.path ∧ pathL p.path = p.path ∧ (63 : UInt8) ∉ p.path := by
  obtain ⟨r, hr⟩ := hp
  unfold placeL at hr
  cases hH : hostL h with
  | none => rw [hH] at hr; cases hr
  | some H =>
    cases hP : cleanL (bef 63 r) with
    | none => rw [hH, hP] at hr; cases hr
    | some P =>
      cases hQ : cleanL (beh 63 r) with
      | none => rw [hH, hP, hQ] at hr; cases hr
      | some Q =>
        rw [hH, hP, hQ] at hr
        simp only at hr
        split at hr
        · rename_i hc
          obtain ⟨c1, c2, c3⟩ := hc
          have hp : p = ⟨H, pathL P, Q, hasB 63 r⟩ := by simpa using hr.symm
          have hbef : (63 : UInt8) ∉ bef 63 r := by
            rcases bef_cases 63 r with ⟨h1, h2, _⟩ | ⟨a, b, h1, h2, h3, _⟩
            · rw [h2]; exact h1
            · rw [h3]; exact h1
          have hPn : (63 : UInt8) ∉ P := clean_none (.inr rfl) _ P hP hbef
          have hPp : (63 : UInt8) ∉ pathL P := path_not (by decide) hPn
          have hPh : P.head? = some 47 := by
            cases r with
            | nil => cases c1
            | cons d r =>
              simp at c1; subst c1
              have : bef 63 (47 :: r) = 47 :: bef 63 r := by unfold bef; rw [List.takeWhile_cons_of_pos (by decide)]
              rw [this, cleanL_plain _ (by decide) (by decide)] at hP
              cases hu : cleanL (bef 63 r) with
              | none => rw [hu] at hP; cases hP
              | some u => rw [hu] at hP; cases hP; rfl
          have hPc := path_clean (clean_idem _ P hP) hPh
          have hQc := clean_idem _ Q hQ
          have hHb := host_back hH
          have hhas : hasB 63 r = false → Q = [] := by
            intro h0
            rcases bef_cases 63 r with ⟨h1, h2, h3, h4⟩ | ⟨a, b, h1, h2, h3, h4, h5⟩
            · rw [h3, cleanL_nil] at hQ; cases hQ; rfl
            · rw [h5] at h0; cases h0
          have hsh : (showP p).head? = some 47 := by
            rw [hp]; unfold showP
            split
            · rfl
            · rfl
          refine ⟨?_, by rw [hp], by rw [hp]; rfl, by rw [hp]; exact c2, by rw [hp]; exact c3, by rw [hp]; exact hhas, by rw [hp]; exact path_seg P, hsh, by rw [hp]; exact hPc, by rw [hp]; exact path_idem P, by rw [hp]; exact hPp⟩
          have key : bef 63 (showP p) = pathL P ∧ beh 63 (showP p) = Q ∧ hasB 63 (showP p) = hasB 63 r := by
            rw [hp]
            unfold showP
            cases hb : hasB 63 r with
            | true => exact bef_at 63 hPp
            | false =>
              rw [hhas hb]
              exact bef_none 63 hPp
          obtain ⟨k1, k2, k3⟩ := key
          unfold placeL
          rw [k1, k2, k3, hPc, hQc, show p.host = H from by rw [hp], hHb]
          simp only
          rw [if_pos ⟨hsh, by rw [path_idem]; exact c2, c3⟩, path_idem, hp]
        · cases hr
theorem read_place {t h : List UInt8} {p : PlaceR} (hp : readP t h = some p) : ∃ h' r, placeL h' r = some p := by
  unfold readP at hp
  split at hp
  · exact ⟨_, _, hp⟩
  · exact ⟨_, _, hp⟩
/-- what is read is shown as a target that is read as the same place -/
theorem place_back {t h : List UInt8} {p : PlaceR} (hp : readP t h = some p) : readP (showP p) p.host = some p ∧ readP (leadU ++ p.host ++ showP p) [] = some p := by
  obtain ⟨h', r, hr⟩ := read_place hp
  obtain ⟨h1, h2, h3, h4, h5, h6, h7, h8, _⟩ := place_shown ⟨r, hr⟩
  constructor
  · unfold readP
    rw [own_slash h8, if_neg (by decide)]
    exact h1
  · unfold readP
    rw [List.append_assoc]
    obtain ⟨e1, e2⟩ := own_lead (p.host ++ showP p) leadU (.inr rfl)
    rw [e1, if_pos rfl, e2]
    obtain ⟨a1, a2⟩ := apart_at (a := p.host) (r := showP p) (host_sq h2) (fun c hc => by rw [h8] at hc; cases hc; rfl)
    unfold apartR
    rw [a1, a2, if_pos h8]
    exact h1
/-- a target's own host -/
theorem place_own {a p : List UInt8} (h : ∀ c ∈ a, isSQ c = false) (b : List UInt8) : readP (leadL ++ a ++ 47 :: p) b = readP (47 :: p) a := by
  unfold readP
  rw [List.append_assoc, (own_lead _ leadL (.inl rfl)).1, (own_lead _ leadL (.inl rfl)).2, own_slash (t := 47 :: p) rfl, if_pos rfl, if_neg (by decide)]
  obtain ⟨a1, a2⟩ := apart_at (a := a) (r := 47 :: p) h (fun c hc => by cases hc; rfl)
  unfold apartR
  rw [a1, a2]
  rfl
theorem read_host {t h : List UInt8} (ht : t.head? = some 47) {p : PlaceR} (hp : readP t h = some p) : hostL h = some p.host := by
  unfold readP at hp
  rw [own_slash ht, if_neg (by decide)] at hp
  exact (place_shown ⟨_, hp⟩).2.1
end Go.Pantry
namespace Go.Pantry
open Go.RowKit

theorem host_h : hostL [104] = some [104] := by decide
theorem read_slash {t : List UInt8} (h : t.head? = some 47) (k : List UInt8) : readP t k = placeL k t := by
  unfold readP; rw [own_slash h, if_neg (by decide)]
/-- a path that was read is read as itself -/
theorem read_plain {t h : List UInt8} {p : PlaceR} (hp : readP t h = some p) :
    p.path.head? = some 47 ∧ p.path.length ≤ 512 ∧ (p.has = false → p.query = []) ∧ (∀ x ∈ segL p.path.tail, isDots x = false) ∧ readP p.path [104] = some ⟨[104], p.path, [], false⟩ := by
  obtain ⟨h', r, hr⟩ := read_place hp
  obtain ⟨h1, h2, h3, h4, h5, h6, h7, h8, h9, h10, h11⟩ := place_shown ⟨r, hr⟩
  refine ⟨h3, h4, h6, h7, ?_⟩
  rw [read_slash h3]
  obtain ⟨e1, e2, e3⟩ := bef_none 63 h11
  unfold placeL
  rw [e1, e2, e3, h9, host_h, cleanL_nil]
  simp only
  rw [h10, if_pos ⟨h3, h4, by simp⟩]
theorem seg_step {s : List UInt8} {l i : Nat} (h1 : l ≤ i) (hi : i ≤ s.length) (hd : ∀ x ∈ segL (s.drop l), isDots x = false) (hn : (47 : UInt8) ∉ (s.drop l).take (i - l)) (he : i = s.length ∨ (∃ h : i < s.length, s[i] = 47)) :
    isDots ((s.drop l).take (i - l)) = false ∧ (i < s.length → ∀ x ∈ segL (s.drop (i + 1)), isDots x = false) := by
  rcases he with rfl | ⟨h, he⟩
  · have e : (s.drop l).take (s.length - l) = s.drop l := List.take_of_length_le (by simp)
    rw [e] at hn ⊢
    rw [seg_none hn] at hd
    exact ⟨hd _ (by simp), fun h => absurd h (Nat.lt_irrefl _)⟩
  · have e : s.drop l = (s.drop l).take (i - l) ++ 47 :: s.drop (i + 1) := by
      conv => lhs; rw [← List.take_append_drop (i - l) (s.drop l)]
      rw [List.drop_drop, show l + (i - l) = i from by omega, List.drop_eq_getElem_cons h, he]
    rw [e, seg_at _ hn] at hd
    exact ⟨hd _ (by simp), fun _ x hx => hd x (by simp [hx])⟩
theorem seg_more {s : List UInt8} {l i : Nat} (h1 : l ≤ i) (hi : i < s.length) (hn : (47 : UInt8) ∉ (s.drop l).take (i - l)) (he : s[i] ≠ 47) : (47 : UInt8) ∉ (s.drop l).take (i + 1 - l) := by
  rw [show i + 1 - l = (i - l) + 1 from by omega, List.take_add_one]
  have e : (s.drop l)[i - l]? = some s[i] := by
    rw [List.getElem?_drop, show l + (i - l) = i from by omega, List.getElem?_eq_getElem hi]
  rw [e]
  simp only [Option.toList_some, List.mem_append, List.mem_singleton, not_or]
  exact ⟨hn, fun e => he e.symm⟩

/-- a text of bytes that stand for themselves -/
theorem clean_all : ∀ {s : List UInt8}, (∀ c ∈ s, badC c = false ∧ c ≠ 37) → cleanL s = some s
  | [], _ => cleanL_nil
  | c :: s, h => by
    rw [cleanL_plain s (h c (by simp)).1 (h c (by simp)).2, clean_all (fun d hd => h d (List.mem_cons_of_mem _ hd))]; rfl

def hexS (n : Nat) : UInt8 := if n < 10 then (48 + n).toUInt8 else (87 + n).toUInt8
def hexW (b : Bool) (n : Nat) : UInt8 := if b then hexS n else hexG n
theorem hexW_V (b : Bool) : ∀ n : Nat, n < 16 → hexV (hexW b n) = some n := by cases b <;> decide
theorem hexW_q (b : Bool) : ∀ n : Nat, n < 16 → hexW b n ≠ 63 := by cases b <;> decide
theorem hexG_s : ∀ n : Nat, n < 16 → hexG n ≠ 47 := by decide
/-- a percent sign and two digits, great or small -/
def escT (b : Bool) (n : Nat) : List UInt8 := [37, hexW b (n / 16), hexW b (n % 16)]
theorem escT_clean (b : Bool) {n : Nat} (hn : n < 256) (r : List UInt8) : cleanL (escT b n ++ r) = (cleanL r).map (escB n ++ ·) := by
  show cleanL (37 :: hexW b (n / 16) :: hexW b (n % 16) :: r) = _
  rw [cleanL_esc r (hexW_V b _ (by omega)) (hexW_V b _ (by omega)), show 16 * (n / 16) + n % 16 = n from by omega]
theorem esc_read (b : Bool) {n : Nat} (hn : n < 256) : readP ([47, 120] ++ escT b n ++ [121, 63] ++ escT b n) [104] = some ⟨[104], [47, 120] ++ escB n ++ [121], escB n, true⟩ := by
  have hs : [47, 120] ++ escT b n ++ [121, 63] ++ escT b n = ([47, 120] ++ escT b n ++ [121]) ++ 63 :: escT b n := by simp
  have hq : (63 : UInt8) ∉ [47, 120] ++ escT b n ++ [121] := by
    have q1 := hexW_q b (n / 16) (by omega)
    have q2 := hexW_q b (n % 16) (by omega)
    unfold escT
    simp only [List.mem_append, List.mem_cons, List.not_mem_nil, or_false, not_or]
    exact ⟨⟨⟨by decide, by decide⟩, by decide, fun e => q1 e.symm, fun e => q2 e.symm⟩, by decide⟩
  obtain ⟨e1, e2, e3⟩ := bef_at 63 (b := escT b n) hq
  have hl : (escB n).length ≤ 3 := by unfold escB; split <;> simp
  have c1 : cleanL ([47, 120] ++ escT b n ++ [121]) = some ([47, 120] ++ escB n ++ [121]) := by
    rw [List.append_assoc]
    show cleanL (47 :: 120 :: (escT b n ++ [121])) = _
    rw [cleanL_plain _ (by decide) (by decide), cleanL_plain _ (by decide) (by decide), escT_clean b hn, show cleanL [121] = some [121] from by decide]
    simp
  have c2 : cleanL (escT b n) = some (escB n) := by
    have := escT_clean b hn []
    rw [List.append_nil, cleanL_nil] at this
    rw [this]; simp
  have hp : pathL ([47, 120] ++ escB n ++ [121]) = [47, 120] ++ escB n ++ [121] := by
    refine path_plain rfl ?_
    show ∀ x ∈ segL (120 :: (escB n ++ [121])), isDots x = false
    rw [seg_none (by
      have := esc_mem hn
      simp only [List.mem_cons, List.mem_append, List.not_mem_nil, or_false, not_or]
      exact ⟨by decide, fun hm => (this 47 hm).1 rfl, by decide⟩)]
    intro x hx
    simp only [List.mem_cons, List.not_mem_nil, or_false] at hx
    subst hx
    unfold isDots
    simp
  rw [hs, read_slash (by rfl)]
  unfold placeL
  rw [e1, e2, e3, c1, c2, host_h]
  simp only
  rw [hp, if_pos ⟨by rfl, by simp; omega, by omega⟩]

theorem host_name {n : List UInt8} (h : (58 : UInt8) ∉ n) : hostL n = hostN n [] ∧ ∀ d, hostL (n ++ 58 :: d) = hostN n d := by
  refine ⟨?_, fun d => ?_⟩
  · obtain ⟨e1, e2, _⟩ := bef_none 58 h
    rw [hostL_eq, e1, e2]
  · obtain ⟨e1, e2, _⟩ := bef_at 58 (b := d) h
    rw [hostL_eq, e1, e2]
theorem hostN_none {n : List UInt8} (h : hostN n [] = none) (d : List UInt8) : hostN n d = none := by
  unfold hostN at h ⊢
  split at h
  · rename_i h1; rw [if_pos h1]
  · rw [if_pos rfl] at h; cases h
theorem hostN_some {n H : List UInt8} (h : hostN n [] = some H) {s : List UInt8} (hs : s ≠ []) (hd : s.all isDig = true) : hostN n s = if 5 < s.length then none else some (H ++ portL s) := by
  unfold hostN at h ⊢
  split at h
  · cases h
  · rename_i h1
    rw [if_pos rfl] at h; cases h
    rw [if_neg h1, if_neg hs]
    by_cases h5 : 5 < s.length
    · rw [if_pos (.inl h5), if_pos h5]
    · rw [if_neg (by simp [hd]; omega), if_neg h5]
/-- a number's digits with noughts ahead -/
def zdL (k n : Nat) : List UInt8 := List.replicate k 48 ++ digF 5 n
theorem zdL_ok (k : Nat) {n : Nat} (h : n < 100000) : zdL k n ≠ [] ∧ (zdL k n).all isDig = true ∧ valL (zdL k n) = n ∧ (zdL k n).length ≤ k + 5 := by
  unfold zdL
  refine ⟨?_, ?_, ?_, ?_⟩
  · have := digF_ne 4 n
    simp [this]
  · rw [List.all_append, digF_all, Bool.and_true, List.all_eq_true]
    intro x hx
    rw [(List.mem_replicate.1 hx).2]; decide
  · rw [valL_zeros, digF_val 4 n (by omega)]
  · have := digF_len 5 n
    simp; omega
theorem port_zd (k : Nat) {n : Nat} (h : n < 100000) : portL (zdL k n) = if n = 80 then [] else 58 :: digF 5 n := by
  unfold portL
  rw [(zdL_ok k h).2.2.1]
theorem port_80 : portL [56, 48] = [] := by decide

/-- what stands for one letter: nothing, a dot, or a segment and two dots, ahead of it -/
def dotG (p : Nat × UInt8) : List (List UInt8) := if p.1 = 1 then [[46], [p.2]] else if p.1 = 2 then [[120], [46, 46], [p.2]] else [[p.2]]
def plainSeg (P : List (Nat × UInt8)) : List (List UInt8) := P.map fun p => [p.2]
def dotSeg (P : List (Nat × UInt8)) : List (List UInt8) := P.flatMap dotG
theorem dots_low {c : UInt8} (h : isLow c = true) : isDots [c] = false := by
  have h1 := byte_all (p := fun c => !isLow c || !isDots [c]) (by decide +kernel) c
  simpa [h] using h1
theorem dotG_ne (p : Nat × UInt8) : dotG p ≠ [] := by
  unfold dotG; split
  · simp
  · split <;> simp
theorem settle_dots : ∀ (P : List (Nat × UInt8)) (acc : List (List UInt8)), (∀ p ∈ P, isLow p.2 = true) → settleL acc (dotSeg P) = acc ++ plainSeg P
  | [], acc, _ => by simp [dotSeg, plainSeg, settleL]
  | p :: P, acc, h => by
    have hp := dots_low (h p (by simp))
    have ih := settle_dots P (acc ++ [[p.2]]) (fun q hq => h q (List.mem_cons_of_mem _ hq))
    have hl : ∀ b, stepS acc [p.2] b = acc ++ [[p.2]] := fun b => by unfold stepS; rw [hp]; rfl
    show settleL acc (dotG p ++ dotSeg P) = _
    have hr : settleL acc ([p.2] :: dotSeg P) = acc ++ plainSeg (p :: P) := by
      rw [settleL, hl, ih]; simp [plainSeg]
    unfold dotG
    split
    · show settleL acc ([46] :: [p.2] :: dotSeg P) = _
      rw [settleL, show stepS acc [46] ([p.2] :: dotSeg P).isEmpty = acc from by unfold stepS; simp [isDots], hr]
    · split
      · show settleL acc ([120] :: [46, 46] :: [p.2] :: dotSeg P) = _
        rw [settleL, settleL, show stepS (stepS acc [120] ([46, 46] :: [p.2] :: dotSeg P).isEmpty) [46, 46] ([p.2] :: dotSeg P).isEmpty = acc from by unfold stepS; simp [isDots], hr]
      · exact hr
theorem slash_more (a b : List (List UInt8)) : slashL (a ++ b) = slashL a ++ slashL b := by unfold slashL; simp
/-- plain segments read -/
theorem slash_read {S : List (List UInt8)} (h0 : S ≠ []) (hc : ∀ x ∈ S, ∀ c ∈ x, isLow c = true ∨ c = 46) (hl : (joinL [47] (settleL [] S)).length ≤ 511) :
    readP (slashL S) [104] = some ⟨[104], 47 :: joinL [47] (settleL [] S), [], false⟩ := by
  have hb : ∀ c, isLow c = true ∨ c = 46 → badC c = false ∧ c ≠ 37 ∧ c ≠ 47 ∧ c ≠ 63 := fun c h => by
    have h1 := byte_all (p := fun c => !(isLow c || c == 46) || (!badC c && c != 37 && c != 47 && c != 63)) (by decide +kernel) c
    have h2 : (isLow c || c == 46) = true := by rcases h with h | h <;> simp [h]
    simp only [h2, Bool.not_true, Bool.false_or, Bool.and_eq_true, Bool.not_eq_true', bne_iff_ne, ne_eq] at h1
    exact ⟨h1.1.1.1, h1.1.1.2, h1.1.2, h1.2⟩
  have h47 : ∀ x ∈ S, (47 : UInt8) ∉ x := fun x hx hm => (hb _ (hc x hx _ hm)).2.2.1 rfl
  have h63 : (63 : UInt8) ∉ slashL S := by
    rw [slash_join h0]
    simp only [List.mem_cons, not_or]
    exact ⟨by decide, join_not (by decide) S (fun x hx hm => (hb _ (hc x hx _ hm)).2.2.2 rfl)⟩
  have hcl : cleanL (slashL S) = some (slashL S) := by
    rw [slash_join h0, cleanL_plain _ (by decide) (by decide), clean_join S (fun x hx => clean_all (fun c hm => ⟨(hb c (hc x hx c hm)).1, (hb c (hc x hx c hm)).2.1⟩))]
    rfl
  have hh : (slashL S).head? = some 47 := by rw [slash_join h0]; rfl
  have hp : pathL (slashL S) = 47 :: joinL [47] (settleL [] S) := by
    unfold pathL
    rw [slash_join h0, List.tail_cons, seg_join h0 h47]
  obtain ⟨e1, e2, e3⟩ := bef_none 63 h63
  rw [read_slash hh]
  unfold placeL
  rw [e1, e2, e3, hcl, host_h, cleanL_nil]
  simp only
  rw [hp, if_pos ⟨hh, by simp; omega, by simp⟩]
theorem plain_len (P : List (Nat × UInt8)) : (joinL [47] (plainSeg P)).length ≤ 2 * P.length := by
  have h1 := wS_join (plainSeg P)
  have h2 : wS (plainSeg P) = 2 * P.length := by
    clear h1
    unfold wS plainSeg
    induction P with
    | nil => rfl
    | cons p P ih => simp at ih ⊢; omega
  omega
theorem dots_read {P : List (Nat × UInt8)} (h0 : P ≠ []) (hl : P.length ≤ 20) (hP : ∀ p ∈ P, isLow p.2 = true) :
    readP (slashL (plainSeg P)) [104] = some ⟨[104], slashL (plainSeg P), [], false⟩ ∧ readP (slashL (dotSeg P)) [104] = some ⟨[104], slashL (plainSeg P), [], false⟩ := by
  have hp0 : plainSeg P ≠ [] := by unfold plainSeg; simpa using h0
  have hd0 : dotSeg P ≠ [] := by
    cases P with
    | nil => exact absurd rfl h0
    | cons p P =>
      have := dotG_ne p
      unfold dotSeg
      simp [this]
  have hlen := plain_len P
  have e1 : settleL [] (plainSeg P) = plainSeg P := by
    rw [settle_plain _ _ (fun x hx => by
      unfold plainSeg at hx
      obtain ⟨p, hp, rfl⟩ := List.mem_map.1 hx
      exact dots_low (hP p hp)), List.nil_append]
  have e2 : settleL [] (dotSeg P) = plainSeg P := by rw [settle_dots P [] hP, List.nil_append]
  constructor
  · rw [slash_read hp0 (fun x hx c hc => by
      unfold plainSeg at hx
      obtain ⟨p, hp, rfl⟩ := List.mem_map.1 hx
      simp at hc; subst hc
      exact .inl (hP p hp)) (by rw [e1]; omega), e1, ← slash_join hp0]
  · rw [slash_read hd0 (fun x hx c hc => by
      unfold dotSeg at hx
      obtain ⟨p, hp, hx⟩ := List.mem_flatMap.1 hx
      have hlow := hP p hp
      unfold dotG at hx
      split at hx
      · simp only [List.mem_cons, List.not_mem_nil, or_false] at hx
        rcases hx with rfl | rfl
        · simp at hc; exact .inr hc
        · simp at hc; subst hc; exact .inl hlow
      · split at hx
        · simp only [List.mem_cons, List.not_mem_nil, or_false] at hx
          rcases hx with rfl | rfl | rfl
          · simp at hc; subst hc; exact .inl (by decide)
          · simp at hc; exact .inr hc
          · simp at hc; subst hc; exact .inl hlow
        · simp at hx; subst hx
          simp at hc; subst hc; exact .inl hlow) (by rw [e2]; omega), e2, ← slash_join hp0]
theorem dots_none : readP [47] [104] = some ⟨[104], [47], [], false⟩ ∧ readP [47, 46] [104] = some ⟨[104], [47], [], false⟩ := ⟨by kernel_rfl, by kernel_rfl⟩
end Go.Pantry
namespace Go.Pantry
open Go.RowKit

def isGap (c : UInt8) : Bool := c == 32 || c == 9 || c == 10
def isMark (c : UInt8) : Bool := c == 123 || c == 125 || c == 59
/-- does a remark begin there? -/
def remB (s : List UInt8) : Bool := ([47, 47] : List UInt8).isPrefixOf s
/-- without what parts words at the beginning; true: within a remark -/
def skipL : Bool → List UInt8 → List UInt8
  | _, [] => []
  | true, c :: r => if c == 10 then skipL false r else skipL true r
  | false, c :: r => if isGap c then skipL false r else if remB (c :: r) then skipL true r else c :: r
/-- up to what ends a word -/
def runL : List UInt8 → List UInt8
  | [] => []
  | c :: r => if isGap c || isMark c || remB (c :: r) then [] else c :: runL r
/-- the word that a text begins with -/
def wordL (s : List UInt8) : List UInt8 := match s with
  | [] => []
  | c :: r => if isMark c then [c] else runL (c :: r)
def stepL (s : List UInt8) : List UInt8 := skipL false (s.drop (wordL s).length)
def wordsF : Nat → List UInt8 → List (List UInt8)
  | 0, _ => []
  | k + 1, s => if s.isEmpty then [] else wordL s :: wordsF k (stepL s)
/-- the words of a text that begins with one, or is empty -/
def wordsL (s : List UInt8) : List (List UInt8) := wordsF s.length s
def textW (t : List UInt8) : List (List UInt8) := wordsL (skipL false t)
def nlL (s : List UInt8) : Nat := s.count 10
def stepN : Nat → List UInt8 → List UInt8
  | 0, s => s
  | j + 1, s => stepN j (stepL s)
/-- the line of the word behind which k - 1 more stand -/
def lineK (t : List UInt8) (k : Nat) : Nat := 1 + (nlL t - nlL (stepN ((textW t).length - k) (skipL false t)))

theorem skipL_le : ∀ (s : List UInt8) (b : Bool), (skipL b s).length ≤ s.length
  | [], b => by cases b <;> simp [skipL]
  | c :: r, true => by
    rw [skipL]; split
    · exact Nat.le_succ_of_le (skipL_le r false)
    · exact Nat.le_succ_of_le (skipL_le r true)
  | c :: r, false => by
    rw [skipL]; split
    · exact Nat.le_succ_of_le (skipL_le r false)
    · split
      · exact Nat.le_succ_of_le (skipL_le r true)
      · exact Nat.le_refl _
theorem skipL_suffix : ∀ (s : List UInt8) (b : Bool), skipL b s <:+ s
  | [], b => by cases b <;> simp [skipL]
  | c :: r, true => by
    rw [skipL]; split
    · exact (skipL_suffix r false).trans (List.suffix_cons _ _)
    · exact (skipL_suffix r true).trans (List.suffix_cons _ _)
  | c :: r, false => by
    rw [skipL]; split
    · exact (skipL_suffix r false).trans (List.suffix_cons _ _)
    · split
      · exact (skipL_suffix r true).trans (List.suffix_cons _ _)
      · exact List.suffix_refl _
theorem skipL_idem : ∀ (s : List UInt8) (b : Bool), skipL false (skipL b s) = skipL b s
  | [], b => by cases b <;> simp [skipL]
  | c :: r, true => by
    rw [skipL]; split
    · exact skipL_idem r false
    · exact skipL_idem r true
  | c :: r, false => by
    rw [skipL]; split
    · exact skipL_idem r false
    · split
      · exact skipL_idem r true
      · rename_i h1 h2; rw [skipL, if_neg h1, if_neg h2]
/-- nothing that parts words stands at the beginning -/
def Norm (s : List UInt8) : Prop := skipL false s = s
theorem norm_skip (s : List UInt8) (b : Bool) : Norm (skipL b s) := skipL_idem s b
theorem norm_step (s : List UInt8) : Norm (stepL s) := norm_skip _ _
theorem norm_cons {c : UInt8} {r : List UInt8} (h : Norm (c :: r)) : isGap c = false ∧ remB (c :: r) = false := by
  unfold Norm at h
  rw [skipL] at h
  by_cases h1 : isGap c = true
  · rw [if_pos h1] at h
    have := skipL_le r false
    rw [h, List.length_cons] at this; omega
  · rw [if_neg h1] at h
    by_cases h2 : remB (c :: r) = true
    · rw [if_pos h2] at h
      have := skipL_le r true
      rw [h, List.length_cons] at this; omega
    · exact ⟨by simpa using h1, by simpa using h2⟩
theorem wordL_ne {c : UInt8} {r : List UInt8} (h : Norm (c :: r)) : wordL (c :: r) ≠ [] := by
  obtain ⟨h1, h2⟩ := norm_cons h
  unfold wordL
  simp only
  split
  · simp
  · rename_i h3
    rw [runL, h1, h2]
    simp [h3]
theorem runL_prefix : ∀ s : List UInt8, runL s <+: s
  | [] => by simp [runL]
  | c :: r => by
    rw [runL]; split
    · exact List.nil_prefix
    · exact (List.prefix_cons_inj c).2 (runL_prefix r)
theorem wordL_prefix (s : List UInt8) : wordL s <+: s := by
  unfold wordL
  cases s with
  | nil => exact List.nil_prefix
  | cons c r =>
    simp only
    split
    · exact ⟨r, rfl⟩
    · exact runL_prefix _
theorem wordL_len (s : List UInt8) : (wordL s).length ≤ s.length := (wordL_prefix s).length_le
theorem stepL_suffix (s : List UInt8) : stepL s <:+ s := (skipL_suffix _ _).trans (List.drop_suffix _ _)
theorem stepL_lt {s : List UInt8} (h : Norm s) (h0 : s ≠ []) : (stepL s).length < s.length := by
  cases s with
  | nil => exact absurd rfl h0
  | cons c r =>
    have h1 := wordL_ne h
    have h2 := skipL_le ((c :: r).drop (wordL (c :: r)).length) false
    have h3 : 0 < (wordL (c :: r)).length := List.length_pos_iff.2 h1
    rw [List.length_drop] at h2
    unfold stepL
    simp only [List.length_cons] at h2 ⊢
    omega
theorem wordsF_fuel : ∀ (k m : Nat) (s : List UInt8), Norm s → s.length ≤ k → s.length ≤ m → wordsF k s = wordsF m s
  | 0, m, s, _, hk, _ => by
    have : s = [] := List.eq_nil_of_length_eq_zero (by omega)
    subst this
    cases m <;> rfl
  | k + 1, m, s, hn, hk, hm => by
    by_cases h0 : s = []
    · subst h0; cases m <;> rfl
    · cases m with
      | zero => exact absurd (List.eq_nil_of_length_eq_zero (by omega)) h0
      | succ m =>
        have h1 : s.isEmpty = false := by cases s <;> simp_all
        have h2 := stepL_lt hn h0
        rw [wordsF, wordsF, h1, wordsF_fuel k m (stepL s) (norm_step s) (by omega) (by omega)]
theorem wordsL_nil : wordsL [] = [] := rfl
theorem wordsL_cons {s : List UInt8} (h : Norm s) (h0 : s ≠ []) : wordsL s = wordL s :: wordsL (stepL s) := by
  have h2 := stepL_lt h h0
  have h1 : s.isEmpty = false := by cases s <;> simp_all
  unfold wordsL
  obtain ⟨n, hn⟩ : ∃ n, s.length = n + 1 := ⟨s.length - 1, by have := List.length_pos_iff.2 h0; omega⟩
  rw [hn, wordsF, h1, wordsF_fuel n (stepL s).length (stepL s) (norm_step s) (by omega) (Nat.le_refl _)]
  rfl
theorem stepL_nil : stepL [] = [] := rfl
theorem wordsL_step {s : List UInt8} (h : Norm s) : wordsL (stepL s) = (wordsL s).tail := by
  by_cases h0 : s = []
  · subst h0; rfl
  · rw [wordsL_cons h h0]; rfl
theorem wordsL_head {s : List UInt8} (h : Norm s) : (wordsL s).headD [] = wordL s := by
  by_cases h0 : s = []
  · subst h0; rfl
  · rw [wordsL_cons h h0]; rfl
theorem words_ne : ∀ (n : Nat) (s : List UInt8), s.length ≤ n → Norm s → ∀ w ∈ wordsL s, w ≠ []
  | n, s, hl, hn, w, hw => by
    by_cases h0 : s = []
    · subst h0; cases hw
    · rw [wordsL_cons hn h0] at hw
      rcases List.mem_cons.1 hw with e | e
      · subst e
        cases s with
        | nil => exact absurd rfl h0
        | cons c r => exact wordL_ne hn
      · have h2 := stepL_lt hn h0
        cases n with
        | zero => exact absurd (List.eq_nil_of_length_eq_zero (by omega)) h0
        | succ n => exact words_ne n (stepL s) (by omega) (norm_step s) w e
theorem stepN_succ : ∀ (j : Nat) (s : List UInt8), stepN (j + 1) s = stepL (stepN j s)
  | 0, s => rfl
  | j + 1, s => by rw [stepN, stepN_succ j (stepL s)]; rfl
theorem stepN_norm : ∀ (j : Nat) (s : List UInt8), Norm s → Norm (stepN j s)
  | 0, s, h => h
  | j + 1, s, h => by rw [stepN_succ]; exact norm_step _
theorem stepN_words : ∀ (j : Nat) (s : List UInt8), Norm s → wordsL (stepN j s) = (wordsL s).drop j
  | 0, s, h => by simp [stepN]
  | j + 1, s, h => by
    rw [stepN_succ, wordsL_step (stepN_norm j s h), stepN_words j s h, List.tail_drop]
theorem stepN_suffix : ∀ (j : Nat) (s : List UInt8), stepN j s <:+ s
  | 0, s => List.suffix_refl _
  | j + 1, s => by rw [stepN_succ]; exact (stepL_suffix _).trans (stepN_suffix j s)
theorem wordsL_empty {s : List UInt8} (h : Norm s) (he : wordsL s = []) : s = [] := by
  by_cases h0 : s = []
  · exact h0
  · rw [wordsL_cons h h0] at he; cases he
/-- a place in a text at which a word begins, or its end -/
def Spot (t s : List UInt8) : Prop := ∃ j, s = stepN j (skipL false t)
theorem place_start (t : List UInt8) : Spot t (skipL false t) := ⟨0, rfl⟩
theorem Spot.step {t s : List UInt8} (h : Spot t s) : Spot t (stepL s) := by
  obtain ⟨j, rfl⟩ := h
  exact ⟨j + 1, (stepN_succ _ _).symm⟩
theorem Spot.norm {t s : List UInt8} (h : Spot t s) : Norm s := by
  obtain ⟨j, rfl⟩ := h
  exact stepN_norm _ _ (norm_skip _ _)
theorem Spot.suffix {t s : List UInt8} (h : Spot t s) : s <:+ t := by
  obtain ⟨j, rfl⟩ := h
  exact (stepN_suffix _ _).trans (skipL_suffix _ _)
theorem stepN_nil : ∀ j : Nat, stepN j [] = []
  | 0 => rfl
  | j + 1 => by rw [stepN, stepL_nil]; exact stepN_nil j
theorem stepN_over {j : Nat} {s : List UInt8} (h : Norm s) (hj : (wordsL s).length ≤ j) : stepN j s = [] :=
  wordsL_empty (stepN_norm _ _ h) (by rw [stepN_words _ _ h]; exact List.drop_eq_nil_of_le hj)
theorem Spot.line {t s : List UInt8} (h : Spot t s) : lineK t (wordsL s).length = 1 + (nlL t - nlL s) := by
  obtain ⟨j, rfl⟩ := h
  unfold lineK textW
  rw [stepN_words _ _ (norm_skip t false), List.length_drop]
  have hn := norm_skip t false
  by_cases hj : j ≤ (wordsL (skipL false t)).length
  · rw [show (wordsL (skipL false t)).length - ((wordsL (skipL false t)).length - j) = j by omega]
  · rw [show (wordsL (skipL false t)).length - ((wordsL (skipL false t)).length - j) = (wordsL (skipL false t)).length by omega, stepN_over hn (Nat.le_refl _), stepN_over hn (show (wordsL (skipL false t)).length ≤ j by omega)]
theorem suffix_take {t s : List UInt8} (h : s <:+ t) : t = t.take (t.length - s.length) ++ s ∧ t.drop (t.length - s.length) = s := by
  obtain ⟨a, rfl⟩ := h
  rw [List.length_append, show a.length + s.length - s.length = a.length by omega, List.take_left, List.drop_left]
  exact ⟨rfl, rfl⟩
theorem nl_take {t s : List UInt8} (h : s <:+ t) : nlL (t.take (t.length - s.length)) = nlL t - nlL s := by
  have h1 := congrArg nlL (suffix_take h).1
  unfold nlL at h1 ⊢
  rw [List.count_append] at h1
  omega
theorem lineK_pos (t : List UInt8) (k : Nat) : 0 < lineK t k := by unfold lineK; omega
theorem lineK_le (t : List UInt8) (k : Nat) : lineK t k ≤ 1 + t.length := by
  unfold lineK nlL
  have := List.count_le_length (a := (10 : UInt8)) (l := t)
  omega

/-- how far a reader is: the first fault's code (nought: none), how many words stood at it, and the words to come -/
structure Ps where
  code : Nat
  pos : Nat
  ws : List (List UInt8)
structure SiteM where
  host : List UInt8
  origin : Nat
  min : Nat
  max : Nat
  query : Bool
  keep : Bool
  heads : List (List UInt8)
deriving DecidableEq
def wPath : List UInt8 := [112, 97, 116, 104]
def wQuery : List UInt8 := [113, 117, 101, 114, 121]
def wHeader : List UInt8 := [104, 101, 97, 100, 101, 114]
def wSite : List UInt8 := [115, 105, 116, 101]
def wOrigin : List UInt8 := [111, 114, 105, 103, 105, 110]
def wTtl : List UInt8 := [116, 116, 108]
def wKey : List UInt8 := [107, 101, 121]
def wKeep : List UInt8 := [107, 101, 101, 112]
def wOn : List UInt8 := [111, 110]
def wOff : List UInt8 := [111, 102, 102]
def hdW (p : Ps) : List UInt8 := p.ws.headD []
def chk (b : Bool) (c : Nat) (p : Ps) : Ps := if b || p.code != 0 then p else ⟨c, p.ws.length, p.ws⟩
def stp (p : Ps) : Ps := ⟨p.code, p.pos, p.ws.tail⟩
def expM (w : List UInt8) (p : Ps) : Ps := stp (chk (hdW p == w) 30 p)
def onceM (seen : List (List UInt8)) (p : Ps) : Ps := stp (chk (!(seen.contains (hdW p))) 31 p)
def okD (w : List UInt8) : Bool := w.all isDig && !w.isEmpty && decide (w.length ≤ 10)
def valD (w : List UInt8) : Nat := if okD w then valL w else 0
def numM (lo hi : Nat) (p : Ps) : Ps := stp (chk (decide (lo ≤ valD (hdW p)) && decide (valD (hdW p) ≤ hi)) 11 (chk (okD (hdW p)) 30 p))
/-- is the first text below the second? -/
abbrev ltL (a b : List UInt8) : Bool := Op.bytesLess a b
def nameOk (n : List UInt8) : Bool := tokenL n && lowerL n == n && decide (n.length ≤ 64)
def mayM (heads : List (List UInt8)) (n : List UInt8) : Bool := nameOk n && (match heads.getLast? with | none => true | some l => ltL l n)
def nameM (heads : List (List UInt8)) (p : Ps) : Ps := stp (chk (decide (heads.length < 4)) 32 (chk (mayM heads (hdW p)) 30 p))
/-- one of a key's words -/
def keyR (s : SiteM) (p : Ps) : SiteM × Ps :=
  if hdW p == wQuery then ({ s with query := true }, stp (chk (!s.query) 30 p))
  else if hdW p == wHeader then ({ s with heads := s.heads ++ [hdW (stp p)] }, nameM s.heads (stp p))
  else (s, chk false 30 p)
def keyGo (p : Ps) : Bool := p.code == 0 && hdW p != [59]
def keyF : Nat → SiteM → Ps → SiteM × Ps
  | 0, s, p => (s, p)
  | k + 1, s, p => if keyGo p then keyF k (keyR s p).1 (keyR s p).2 else (s, p)
def meas (p : Ps) : Nat := if p.code == 0 then p.ws.length + 1 else 0
def keyM (s : SiteM) (p : Ps) : SiteM × Ps := keyF (meas (expM wPath p)) { s with query := false } (expM wPath p)
def ttlM (s : SiteM) (p : Ps) : SiteM × Ps :=
  ({ s with min := valD (hdW p), max := valD (hdW (numM 0 2147483648 p)) }, numM (valD (hdW p)) 2147483648 (numM 0 2147483648 p))
def originM (s : SiteM) (p : Ps) : SiteM × Ps := ({ s with origin := valD (hdW p) }, numM 1 9 p)
def keepM (s : SiteM) (p : Ps) : SiteM × Ps := ({ s with keep := hdW p == wOn }, stp (chk (hdW p == wOn || hdW p == wOff) 30 p))
def isRule (w : List UInt8) : Bool := w == wOrigin || w == wTtl || w == wKey || w == wKeep
def kindM (w : List UInt8) (s : SiteM) (p : Ps) : SiteM × Ps :=
  if w == wOrigin then originM s p else if w == wTtl then ttlM s p else if w == wKey then keyM s p else keepM s p
/-- a rule; the second: what has been seen -/
def ruleM (s : SiteM) (seen : List (List UInt8)) (p : Ps) : SiteM × List (List UInt8) × Ps :=
  if isRule (hdW p) then ((kindM (hdW p) s (onceM seen p)).1, hdW p :: seen, expM [59] (kindM (hdW p) s (onceM seen p)).2)
  else (s, seen, chk false 30 p)
def ruleGo (p : Ps) : Bool := p.code == 0 && hdW p != [125]
def ruleF : Nat → SiteM → List (List UInt8) → Ps → SiteM × Ps
  | 0, s, _, p => (s, p)
  | k + 1, s, seen, p => if ruleGo p then ruleF k (ruleM s seen p).1 (ruleM s seen p).2.1 (ruleM s seen p).2.2 else (s, p)
def ownH (h : List UInt8) : Bool := hostL h == some h
def site0 (h : List UInt8) : SiteM := ⟨h, 1, 0, 3600, true, true, []⟩
def headM (hosts : List (List UInt8)) (p : Ps) : Ps := expM [123] (onceM hosts (chk (ownH (hdW p)) 30 p))
def siteM (hosts : List (List UInt8)) (p : Ps) : SiteM × Ps :=
  ((ruleF (meas (headM hosts p)) (site0 (hdW p)) [] (headM hosts p)).1, expM [125] (ruleF (meas (headM hosts p)) (site0 (hdW p)) [] (headM hosts p)).2)
def cfgGo (p : Ps) : Bool := p.code == 0 && hdW p != []
def atSite (n : Nat) (p : Ps) : Ps := stp (chk (decide (n < 8)) 32 (chk (hdW p == wSite) 30 p))
def cfgF : Nat → List SiteM → List (List UInt8) → Ps → List SiteM × Ps
  | 0, c, _, p => (c, p)
  | k + 1, c, hosts, p => if cfgGo p then cfgF k (c ++ [(siteM hosts (atSite c.length p)).1]) (hdW (atSite c.length p) :: hosts) (siteM hosts (atSite c.length p)).2 else (c, p)
def ps0 (t : List UInt8) : Ps := ⟨0, 0, textW t⟩
def cfgM (t : List UInt8) : List SiteM × Ps := cfgF (meas (ps0 t)) [] [] (ps0 t)
/-- the config, the fault's code and its line -/
def readM (t : List UInt8) : List SiteM × Nat × Nat :=
  if 4096 < t.length then ([], 32, 1)
  else if (cfgM t).2.code = 0 then ((cfgM t).1, 0, 0) else ([], (cfgM t).2.code, lineK t (cfgM t).2.pos)
end Go.Pantry
namespace Go.Pantry
open Go.RowKit

theorem chk_true (c : Nat) (p : Ps) : chk true c p = p := by unfold chk; simp
theorem chk_off {b : Bool} {c : Nat} {p : Ps} (h : p.code ≠ 0) : chk b c p = p := by unfold chk; simp [h]
theorem chk_no {c : Nat} {p : Ps} (h : p.code = 0) : chk false c p = ⟨c, p.ws.length, p.ws⟩ := by unfold chk; simp [h]
theorem chk_ws (b : Bool) (c : Nat) (p : Ps) : (chk b c p).ws = p.ws := by unfold chk; split <;> rfl
theorem chk_hd (b : Bool) (c : Nat) (p : Ps) : hdW (chk b c p) = hdW p := by unfold hdW; rw [chk_ws]
theorem chk_ok {b : Bool} {c : Nat} {p : Ps} (hc : c ≠ 0) (h : (chk b c p).code = 0) : p.code = 0 ∧ b = true ∧ chk b c p = p := by
  unfold chk at h ⊢
  split at h
  · rename_i hb
    rw [if_pos hb]
    refine ⟨h, ?_, rfl⟩
    simpa [h] using hb
  · exact absurd h hc
/-- how a reader goes on: words are taken, and the first fault stays -/
structure Fol (p q : Ps) : Prop where
  suf : q.ws <:+ p.ws
  err : p.code ≠ 0 → q.code = p.code ∧ q.pos = p.pos
  pos : q.code = 0 → q.pos = p.pos
theorem Fol.refl (p : Ps) : Fol p p := ⟨List.suffix_refl _, fun _ => ⟨rfl, rfl⟩, fun _ => rfl⟩
theorem Fol.ok {p q : Ps} (h : Fol p q) (hq : q.code = 0) : p.code = 0 := by
  by_cases e : p.code = 0
  · exact e
  · rw [(h.err e).1] at hq; exact hq
theorem Fol.trans {p q r : Ps} (h : Fol p q) (k : Fol q r) : Fol p r :=
  ⟨k.suf.trans h.suf, fun e => by
    obtain ⟨h1, h2⟩ := h.err e
    obtain ⟨k1, k2⟩ := k.err (by rw [h1]; exact e)
    exact ⟨k1.trans h1, k2.trans h2⟩, fun e => (k.pos e).trans (h.pos (k.ok e))⟩
theorem Fol.len {p q : Ps} (h : Fol p q) : q.ws.length ≤ p.ws.length := h.suf.length_le
theorem fol_chk (b : Bool) (c : Nat) (p : Ps) (hc : c ≠ 0 := by decide) : Fol p (chk b c p) :=
  ⟨by rw [chk_ws]; exact List.suffix_refl _, fun h => by rw [chk_off h]; exact ⟨rfl, rfl⟩, fun h => by rw [(chk_ok hc h).2.2]⟩
theorem fol_stp (p : Ps) : Fol p (stp p) := ⟨List.tail_suffix _, fun _ => ⟨rfl, rfl⟩, fun _ => rfl⟩
theorem fol_exp (w : List UInt8) (p : Ps) : Fol p (expM w p) := (fol_chk _ _ _).trans (fol_stp _)
theorem fol_once (s : List (List UInt8)) (p : Ps) : Fol p (onceM s p) := (fol_chk _ _ _).trans (fol_stp _)
theorem fol_num (lo hi : Nat) (p : Ps) : Fol p (numM lo hi p) := ((fol_chk _ _ _).trans (fol_chk _ _ _)).trans (fol_stp _)
theorem fol_name (h : List (List UInt8)) (p : Ps) : Fol p (nameM h p) := ((fol_chk _ _ _).trans (fol_chk _ _ _)).trans (fol_stp _)
theorem fol_keyR (s : SiteM) (p : Ps) : Fol p (keyR s p).2 := by
  unfold keyR
  split
  · exact (fol_chk _ _ _).trans (fol_stp _)
  · split
    · exact (fol_stp _).trans (fol_name _ _)
    · exact fol_chk _ _ _
theorem fol_keyF : ∀ (k : Nat) (s : SiteM) (p : Ps), Fol p (keyF k s p).2
  | 0, s, p => Fol.refl p
  | k + 1, s, p => by
    rw [keyF]; split
    · exact (fol_keyR s p).trans (fol_keyF k _ _)
    · exact Fol.refl p
theorem fol_keyM (s : SiteM) (p : Ps) : Fol p (keyM s p).2 := (fol_exp _ _).trans (fol_keyF _ _ _)
theorem fol_kind (w : List UInt8) (s : SiteM) (p : Ps) : Fol p (kindM w s p).2 := by
  unfold kindM
  split
  · exact fol_num _ _ _
  · split
    · exact (fol_num _ _ _).trans (fol_num _ _ _)
    · split
      · exact fol_keyM _ _
      · exact (fol_chk _ _ _).trans (fol_stp _)
theorem fol_rule (s : SiteM) (seen : List (List UInt8)) (p : Ps) : Fol p (ruleM s seen p).2.2 := by
  unfold ruleM
  split
  · exact ((fol_once _ _).trans (fol_kind _ _ _)).trans (fol_exp _ _)
  · exact fol_chk _ _ _
theorem fol_ruleF : ∀ (k : Nat) (s : SiteM) (seen : List (List UInt8)) (p : Ps), Fol p (ruleF k s seen p).2
  | 0, s, seen, p => Fol.refl p
  | k + 1, s, seen, p => by
    rw [ruleF]; split
    · exact (fol_rule s seen p).trans (fol_ruleF k _ _ _)
    · exact Fol.refl p
theorem fol_head (hosts : List (List UInt8)) (p : Ps) : Fol p (headM hosts p) := ((fol_chk _ _ _).trans (fol_once _ _)).trans (fol_exp _ _)
theorem fol_site (hosts : List (List UInt8)) (p : Ps) : Fol p (siteM hosts p).2 := ((fol_head _ _).trans (fol_ruleF _ _ _ _)).trans (fol_exp _ _)
theorem fol_at (n : Nat) (p : Ps) : Fol p (atSite n p) := ((fol_chk _ _ _).trans (fol_chk _ _ _)).trans (fol_stp _)
theorem fol_cfgF : ∀ (k : Nat) (c : List SiteM) (hosts : List (List UInt8)) (p : Ps), Fol p (cfgF k c hosts p).2
  | 0, c, hosts, p => Fol.refl p
  | k + 1, c, hosts, p => by
    rw [cfgF]; split
    · exact ((fol_at _ _).trans (fol_site _ _)).trans (fol_cfgF k _ _ _)
    · exact Fol.refl p

theorem stp_less {p q : Ps} (h : Fol p q) (h0 : p.ws ≠ []) : (stp q).ws.length < p.ws.length := by
  have h1 := h.len
  have h2 := List.length_pos_iff.2 h0
  show q.ws.tail.length < _
  rw [List.length_tail]; omega
theorem meas_less {p q : Ps} (h0 : p.code = 0) (h : q.code ≠ 0 ∨ q.ws.length < p.ws.length) : meas q < meas p := by
  unfold meas
  rw [h0]
  simp only [beq_self_eq_true, if_true]
  split
  · rename_i e
    rw [beq_iff_eq] at e
    rcases h with h | h
    · exact absurd e h
    · omega
  · omega
theorem hd_ne {p : Ps} (h : hdW p ≠ []) : p.ws ≠ [] := by intro e; apply h; unfold hdW; rw [e]; rfl
theorem keyR_less {s : SiteM} {p : Ps} (h : keyGo p = true) : meas (keyR s p).2 < meas p := by
  unfold keyGo at h
  rw [Bool.and_eq_true, beq_iff_eq] at h
  refine meas_less h.1 ?_
  unfold keyR
  split
  · rename_i e
    rw [beq_iff_eq] at e
    exact .inr (stp_less (fol_chk _ _ _) (hd_ne (by rw [e]; decide)))
  · split
    · rename_i e
      rw [beq_iff_eq] at e
      refine .inr ?_
      refine stp_less (((fol_stp _).trans (fol_chk _ _ _)).trans (fol_chk _ _ _)) (hd_ne (by rw [e]; decide))
    · rw [chk_no h.1]; exact .inl (by simp)
theorem keyGo_zero {p : Ps} (h : meas p = 0) : keyGo p = false := by
  unfold meas at h
  split at h
  · omega
  · rename_i e
    unfold keyGo
    rw [Bool.eq_false_iff.2 e]; rfl
theorem keyF_fuel : ∀ (k m : Nat) (s : SiteM) (p : Ps), meas p ≤ k → meas p ≤ m → keyF k s p = keyF m s p
  | 0, 0, s, p, _, _ => rfl
  | 0, m + 1, s, p, hk, _ => by rw [keyF, keyF, keyGo_zero (by omega)]; rfl
  | k + 1, 0, s, p, _, hm => by rw [keyF, keyF, keyGo_zero (by omega)]; rfl
  | k + 1, m + 1, s, p, hk, hm => by
    rw [keyF, keyF]
    by_cases h : keyGo p = true
    · have h1 := keyR_less (s := s) h
      rw [h, if_pos rfl, if_pos rfl, keyF_fuel k m _ _ (by omega) (by omega)]
    · rw [if_neg h, if_neg h]
theorem keyF_end : ∀ (k : Nat) (s : SiteM) (p : Ps), meas p ≤ k → keyGo (keyF k s p).2 = false
  | 0, s, p, hk => show keyGo p = false from keyGo_zero (by omega)
  | k + 1, s, p, hk => by
    rw [keyF]
    by_cases h : keyGo p = true
    · have h1 := keyR_less (s := s) h
      rw [if_pos h]; exact keyF_end k _ _ (by omega)
    · rw [if_neg h]; exact Bool.eq_false_iff.2 h
theorem isRule_ne {w : List UInt8} (h : isRule w = true) : w ≠ [] := by rintro rfl; revert h; decide
theorem rule_less {s : SiteM} {seen : List (List UInt8)} {p : Ps} (h : ruleGo p = true) : meas (ruleM s seen p).2.2 < meas p := by
  unfold ruleGo at h
  rw [Bool.and_eq_true, beq_iff_eq] at h
  refine meas_less h.1 ?_
  unfold ruleM
  split
  · rename_i e
    refine .inr (stp_less (((fol_once _ _).trans (fol_kind _ _ _)).trans (fol_chk _ _ _)) (hd_ne (isRule_ne e)))
  · rw [chk_no h.1]; exact .inl (by simp)
theorem ruleGo_zero {p : Ps} (h : meas p = 0) : ruleGo p = false := by
  unfold meas at h
  split at h
  · omega
  · rename_i e
    unfold ruleGo
    rw [Bool.eq_false_iff.2 e]; rfl
theorem ruleF_fuel : ∀ (k m : Nat) (s : SiteM) (seen : List (List UInt8)) (p : Ps), meas p ≤ k → meas p ≤ m → ruleF k s seen p = ruleF m s seen p
  | 0, 0, s, seen, p, _, _ => rfl
  | 0, m + 1, s, seen, p, hk, _ => by rw [ruleF, ruleF, ruleGo_zero (by omega)]; rfl
  | k + 1, 0, s, seen, p, _, hm => by rw [ruleF, ruleF, ruleGo_zero (by omega)]; rfl
  | k + 1, m + 1, s, seen, p, hk, hm => by
    rw [ruleF, ruleF]
    by_cases h : ruleGo p = true
    · have h1 := rule_less (s := s) (seen := seen) h
      rw [h, if_pos rfl, if_pos rfl, ruleF_fuel k m _ _ _ (by omega) (by omega)]
    · rw [if_neg h, if_neg h]
theorem ruleF_end : ∀ (k : Nat) (s : SiteM) (seen : List (List UInt8)) (p : Ps), meas p ≤ k → ruleGo (ruleF k s seen p).2 = false
  | 0, s, seen, p, hk => show ruleGo p = false from ruleGo_zero (by omega)
  | k + 1, s, seen, p, hk => by
    rw [ruleF]
    by_cases h : ruleGo p = true
    · have h1 := rule_less (s := s) (seen := seen) h
      rw [if_pos h]; exact ruleF_end k _ _ _ (by omega)
    · rw [if_neg h]; exact Bool.eq_false_iff.2 h
theorem cfg_less {n : Nat} {hosts : List (List UInt8)} {p : Ps} (h : cfgGo p = true) : meas (siteM hosts (atSite n p)).2 < meas p := by
  unfold cfgGo at h
  rw [Bool.and_eq_true, beq_iff_eq, bne_iff_ne] at h
  refine meas_less h.1 (.inr ?_)
  exact stp_less (((fol_at _ _).trans ((fol_head _ _).trans (fol_ruleF _ _ _ _))).trans (fol_chk _ _ _)) (hd_ne h.2)
theorem cfgGo_zero {p : Ps} (h : meas p = 0) : cfgGo p = false := by
  unfold meas at h
  split at h
  · omega
  · rename_i e
    unfold cfgGo
    rw [Bool.eq_false_iff.2 e]; rfl
theorem cfgF_fuel : ∀ (k m : Nat) (c : List SiteM) (hosts : List (List UInt8)) (p : Ps), meas p ≤ k → meas p ≤ m → cfgF k c hosts p = cfgF m c hosts p
  | 0, 0, c, hosts, p, _, _ => rfl
  | 0, m + 1, c, hosts, p, hk, _ => by rw [cfgF, cfgF, cfgGo_zero (by omega)]; rfl
  | k + 1, 0, c, hosts, p, _, hm => by rw [cfgF, cfgF, cfgGo_zero (by omega)]; rfl
  | k + 1, m + 1, c, hosts, p, hk, hm => by
    rw [cfgF, cfgF]
    by_cases h : cfgGo p = true
    · have h1 := cfg_less (n := c.length) (hosts := hosts) h
      rw [h, if_pos rfl, if_pos rfl, cfgF_fuel k m _ _ _ (by omega) (by omega)]
    · rw [if_neg h, if_neg h]
theorem cfgF_end : ∀ (k : Nat) (c : List SiteM) (hosts : List (List UInt8)) (p : Ps), meas p ≤ k → cfgGo (cfgF k c hosts p).2 = false
  | 0, c, hosts, p, hk => show cfgGo p = false from cfgGo_zero (by omega)
  | k + 1, c, hosts, p, hk => by
    rw [cfgF]
    by_cases h : cfgGo p = true
    · have h1 := cfg_less (n := c.length) (hosts := hosts) h
      rw [if_pos h]; exact cfgF_end k _ _ _ (by omega)
    · rw [if_neg h]; exact Bool.eq_false_iff.2 h

/-- with more words behind -/
def app (p : Ps) (x : List (List UInt8)) : Ps := ⟨p.code, p.pos, p.ws ++ x⟩
theorem hd_app {p : Ps} (x : List (List UInt8)) (h : hdW p ≠ []) : hdW (app p x) = hdW p := by
  have h1 := hd_ne h
  unfold hdW app
  obtain ⟨a, r, e⟩ := List.exists_cons_of_ne_nil h1
  simp only [e]; rfl
theorem stp_app {p : Ps} (x : List (List UInt8)) (h : p.ws ≠ []) : stp (app p x) = app (stp p) x := by
  unfold stp app
  obtain ⟨a, r, e⟩ := List.exists_cons_of_ne_nil h
  simp only [e]; rfl
/-- a check that is well, and the word behind -/
theorem one_app {p : Ps} {b : Bool} {c : Nat} (x : List (List UInt8)) (hc : c ≠ 0) (h : (stp (chk b c p)).code = 0) : p.code = 0 ∧ b = true ∧ stp (chk b c p) = stp p := by
  obtain ⟨h1, h2, h3⟩ := chk_ok (p := p) hc h
  exact ⟨h1, h2, by rw [h3]⟩
theorem exp_app {w : List UInt8} {p : Ps} (x : List (List UInt8)) (hw : w ≠ []) (h : (expM w p).code = 0) : p.code = 0 ∧ hdW p = w ∧ expM w (app p x) = app (expM w p) x ∧ expM w p = stp p := by
  obtain ⟨h1, h2, h3⟩ := one_app (p := p) x (by decide) h
  have e : hdW p = w := by simpa using h2
  have hn : hdW p ≠ [] := by rw [e]; exact hw
  have h4 : expM w p = stp p := h3
  refine ⟨h1, e, ?_, h4⟩
  rw [h4, ← stp_app x (hd_ne hn)]
  unfold expM
  rw [hd_app x hn, e, beq_self_eq_true, chk_true]
theorem once_app {seen : List (List UInt8)} {p : Ps} (x : List (List UInt8)) (hn : hdW p ≠ []) (h : (onceM seen p).code = 0) : p.code = 0 ∧ seen.contains (hdW p) = false ∧ onceM seen (app p x) = app (onceM seen p) x ∧ onceM seen p = stp p := by
  obtain ⟨h1, h2, h3⟩ := one_app (p := p) x (by decide) h
  have e : seen.contains (hdW p) = false := by simpa using h2
  have h4 : onceM seen p = stp p := h3
  refine ⟨h1, e, ?_, h4⟩
  rw [h4, ← stp_app x (hd_ne hn)]
  unfold onceM
  rw [hd_app x hn, e, Bool.not_false, chk_true]
theorem okD_ne {w : List UInt8} (h : okD w = true) : w ≠ [] := by rintro rfl; revert h; decide
theorem num_app {lo hi : Nat} {p : Ps} (x : List (List UInt8)) (h : (numM lo hi p).code = 0) :
    p.code = 0 ∧ okD (hdW p) = true ∧ lo ≤ valD (hdW p) ∧ valD (hdW p) ≤ hi ∧ hdW (app p x) = hdW p ∧ numM lo hi (app p x) = app (numM lo hi p) x ∧ numM lo hi p = stp p := by
  obtain ⟨h1, h2, h3⟩ := one_app (p := chk (okD (hdW p)) 30 p) x (by decide) h
  obtain ⟨k1, k2, k3⟩ := chk_ok (p := p) (by decide) h1
  rw [Bool.and_eq_true, decide_eq_true_eq, decide_eq_true_eq] at h2
  have hn := okD_ne k2
  have h4 : numM lo hi p = stp p := by
    show stp (chk _ 11 (chk (okD (hdW p)) 30 p)) = _
    rw [h3, k3]
  refine ⟨k1, k2, h2.1, h2.2, hd_app x hn, ?_, h4⟩
  rw [h4, ← stp_app x (hd_ne hn)]
  unfold numM
  rw [hd_app x hn, k2, chk_true, decide_eq_true h2.1, decide_eq_true h2.2, Bool.and_self, chk_true]
theorem may_ne {heads : List (List UInt8)} {w : List UInt8} (h : mayM heads w = true) : w ≠ [] := by
  rintro rfl
  unfold mayM nameOk at h
  rw [show tokenL [] = false by decide] at h
  simp at h
theorem name_app {heads : List (List UInt8)} {p : Ps} (x : List (List UInt8)) (h : (nameM heads p).code = 0) :
    p.code = 0 ∧ mayM heads (hdW p) = true ∧ heads.length < 4 ∧ hdW (app p x) = hdW p ∧ nameM heads (app p x) = app (nameM heads p) x ∧ nameM heads p = stp p := by
  obtain ⟨h1, h2, h3⟩ := one_app (p := chk (mayM heads (hdW p)) 30 p) x (by decide) h
  obtain ⟨k1, k2, k3⟩ := chk_ok (p := p) (by decide) h1
  rw [decide_eq_true_eq] at h2
  have hn := may_ne k2
  have h4 : nameM heads p = stp p := by
    show stp (chk _ 32 (chk (mayM heads (hdW p)) 30 p)) = _
    rw [h3, k3]
  refine ⟨k1, k2, h2, hd_app x hn, ?_, h4⟩
  rw [h4, ← stp_app x (hd_ne hn)]
  unfold nameM
  rw [hd_app x hn, k2, chk_true, decide_eq_true h2, chk_true]
theorem keyR_app {s : SiteM} {p : Ps} (x : List (List UInt8)) (h : (keyR s p).2.code = 0) : keyR s (app p x) = ((keyR s p).1, app (keyR s p).2 x) ∧ hdW p ≠ [] := by
  unfold keyR at h ⊢
  by_cases h1 : hdW p = wQuery
  · have hn : hdW p ≠ [] := by rw [h1]; decide
    rw [hd_app x hn, h1, beq_self_eq_true, if_pos rfl, if_pos rfl]
    rw [h1, beq_self_eq_true, if_pos rfl] at h
    obtain ⟨k1, k2, k3⟩ := one_app (p := p) x (by decide) h
    simp only
    rw [k3, k2, chk_true, stp_app x (hd_ne hn)]
    exact ⟨rfl, by decide⟩
  · have e1 : (hdW p == wQuery) = false := by simpa using h1
    by_cases h2 : hdW p = wHeader
    · have hn : hdW p ≠ [] := by rw [h2]; decide
      rw [e1] at h
      rw [h2, beq_self_eq_true] at h
      simp only [if_false, if_true] at h
      obtain ⟨k1, k2, k3, k4, k5, k6⟩ := name_app x h
      rw [hd_app x hn, e1, h2, beq_self_eq_true, stp_app x (hd_ne hn)]
      simp only [if_true]
      rw [k4, k5]
      exact ⟨rfl, by decide⟩
    · have e2 : (hdW p == wHeader) = false := by simpa using h2
      rw [e1, e2] at h
      obtain ⟨k1, k2, k3⟩ := chk_ok (p := p) (by decide) h
      cases k2
theorem keyF_app (x : List (List UInt8)) : ∀ (k : Nat) (s : SiteM) (p : Ps), (keyF k s p).2.code = 0 → hdW (keyF k s p).2 = [59] → keyF k s (app p x) = ((keyF k s p).1, app (keyF k s p).2 x)
  | 0, s, p, _, _ => rfl
  | k + 1, s, p, h, h59 => by
    rw [keyF] at h h59 ⊢
    by_cases hg : keyGo p = true
    · rw [if_pos hg] at h h59
      obtain ⟨k1, k2⟩ := keyR_app x ((fol_keyF k _ _).ok h)
      have hg' : keyGo (app p x) = true := by
        unfold keyGo at hg ⊢
        rw [hd_app x k2]; exact hg
      rw [if_pos hg', k1, keyF_app x k _ _ h h59, keyF, if_pos hg]
    · rw [if_neg hg] at h h59
      have hn : hdW p ≠ [] := by
        intro e
        rw [show (s, p).2 = p from rfl, e] at h59
        cases h59
      have hg' : ¬ keyGo (app p x) = true := by
        unfold keyGo at hg ⊢
        rw [hd_app x hn]; exact hg
      rw [if_neg hg', keyF, if_neg hg]
theorem meas_app (p : Ps) (x : List (List UInt8)) : meas p ≤ meas (app p x) := by
  unfold meas app
  simp only [List.length_append]
  split <;> omega
theorem key_app {s : SiteM} {p : Ps} (x : List (List UInt8)) (h : (keyM s p).2.code = 0) (h59 : hdW (keyM s p).2 = [59]) : keyM s (app p x) = ((keyM s p).1, app (keyM s p).2 x) := by
  obtain ⟨h1, h2, h3, h4⟩ := exp_app (w := wPath) (p := p) x (by decide) ((fol_keyF _ _ _).ok h)
  have h5 := keyF_app x _ _ _ h h59
  unfold keyM
  rw [h3, keyF_fuel _ (meas (expM wPath p) + meas (app (expM wPath p) x)) _ _ (Nat.le_refl _) (by omega),
    keyF_fuel (meas (expM wPath p)) (meas (expM wPath p) + meas (app (expM wPath p) x)) _ (expM wPath p) (Nat.le_refl _) (by omega)]
  unfold keyM at h h59
  rw [keyF_fuel (meas (expM wPath p)) (meas (expM wPath p) + meas (app (expM wPath p) x)) _ (expM wPath p) (Nat.le_refl _) (by omega)] at h h59
  exact keyF_app x _ _ _ h h59
theorem kind_app {w : List UInt8} {s : SiteM} {p : Ps} (x : List (List UInt8)) (h : (kindM w s p).2.code = 0) (h59 : hdW (kindM w s p).2 = [59]) : kindM w s (app p x) = ((kindM w s p).1, app (kindM w s p).2 x) := by
  unfold kindM at h h59 ⊢
  by_cases h1 : (w == wOrigin) = true
  · rw [if_pos h1] at h h59 ⊢
    rw [if_pos h1]
    obtain ⟨_, _, _, _, k5, k6, _⟩ := num_app x h
    unfold originM
    rw [k5, k6]
  rw [if_neg h1] at h h59 ⊢
  rw [if_neg h1]
  by_cases h2 : (w == wTtl) = true
  · rw [if_pos h2] at h h59 ⊢
    rw [if_pos h2]
    obtain ⟨k1, k2, k3, k4, k5, k6, k7⟩ := num_app x h
    obtain ⟨_, _, _, _, j5, j6, _⟩ := num_app x k1
    unfold ttlM
    rw [j5, j6, k5, k6]
  rw [if_neg h2] at h h59 ⊢
  rw [if_neg h2]
  by_cases h3 : (w == wKey) = true
  · rw [if_pos h3] at h h59 ⊢
    rw [if_pos h3]
    exact key_app x h h59
  rw [if_neg h3] at h h59 ⊢
  rw [if_neg h3]
  unfold keepM at h ⊢
  obtain ⟨k1, k2, k3⟩ := one_app (p := p) x (by decide) h
  have hn : hdW p ≠ [] := by intro e; rw [e] at k2; revert k2; decide
  rw [hd_app x hn, k2, chk_true, stp_app x (hd_ne hn), chk_true]
theorem rule_app {s : SiteM} {seen : List (List UInt8)} {p : Ps} (x : List (List UInt8)) (h : (ruleM s seen p).2.2.code = 0) : ruleM s seen (app p x) = ((ruleM s seen p).1, (ruleM s seen p).2.1, app (ruleM s seen p).2.2 x) ∧ hdW p ≠ [] := by
  unfold ruleM at h ⊢
  by_cases h1 : isRule (hdW p) = true
  · have hn := isRule_ne h1
    rw [if_pos h1] at h
    rw [hd_app x hn, if_pos h1, if_pos h1]
    obtain ⟨k1, k2, k3, k4⟩ := exp_app x (by decide) h
    obtain ⟨j1, j2, j3, j4⟩ := once_app x hn ((fol_kind _ _ _).ok k1)
    have j5 := kind_app x k1 k2
    rw [j3, j5, k3]
    exact ⟨rfl, hn⟩
  · rw [if_neg h1] at h
    obtain ⟨k1, k2, k3⟩ := chk_ok (p := p) (by decide) h
    cases k2
theorem ruleF_app (x : List (List UInt8)) : ∀ (k : Nat) (s : SiteM) (seen : List (List UInt8)) (p : Ps), (ruleF k s seen p).2.code = 0 → hdW (ruleF k s seen p).2 = [125] → ruleF k s seen (app p x) = ((ruleF k s seen p).1, app (ruleF k s seen p).2 x)
  | 0, s, seen, p, _, _ => rfl
  | k + 1, s, seen, p, h, h59 => by
    rw [ruleF] at h h59 ⊢
    by_cases hg : ruleGo p = true
    · rw [if_pos hg] at h h59
      obtain ⟨k1, k2⟩ := rule_app x ((fol_ruleF k _ _ _).ok h)
      have hg' : ruleGo (app p x) = true := by
        unfold ruleGo at hg ⊢
        rw [hd_app x k2]; exact hg
      rw [if_pos hg', k1, ruleF_app x k _ _ _ h h59, ruleF, if_pos hg]
    · rw [if_neg hg] at h h59
      have hn : hdW p ≠ [] := by
        intro e
        rw [show (s, p).2 = p from rfl, e] at h59
        cases h59
      have hg' : ¬ ruleGo (app p x) = true := by
        unfold ruleGo at hg ⊢
        rw [hd_app x hn]; exact hg
      rw [if_neg hg', ruleF, if_neg hg]
theorem ownH_ne {w : List UInt8} (h : ownH w = true) : w ≠ [] := by
  rintro rfl
  revert h
  unfold ownH hostL
  rw [if_pos (.inl rfl)]
  decide
theorem head_app {hosts : List (List UInt8)} {p : Ps} (x : List (List UInt8)) (h : (headM hosts p).code = 0) :
    p.code = 0 ∧ ownH (hdW p) = true ∧ hosts.contains (hdW p) = false ∧ headM hosts (app p x) = app (headM hosts p) x ∧ headM hosts p = stp (stp p) ∧ hdW (stp p) = [123] := by
  obtain ⟨k1, k2, k3, k4⟩ := exp_app x (by decide) h
  have hc := (fol_once hosts (chk (ownH (hdW p)) 30 p)).ok k1
  obtain ⟨j1, j2, j3⟩ := chk_ok (p := p) (by decide) hc
  have hn := ownH_ne j2
  rw [j3] at k1 k2 k3 k4
  obtain ⟨i1, i2, i3, i4⟩ := once_app x hn k1
  refine ⟨j1, j2, i2, ?_, ?_, by rw [← i4]; exact k2⟩
  · unfold headM
    rw [hd_app x hn, j2, chk_true, chk_true, i3, k3]
  · unfold headM
    rw [j2, chk_true, k4, i4]
theorem site_app {hosts : List (List UInt8)} {p : Ps} (x : List (List UInt8)) (h : (siteM hosts p).2.code = 0) : siteM hosts (app p x) = ((siteM hosts p).1, app (siteM hosts p).2 x) ∧ p.code = 0 ∧ ownH (hdW p) = true ∧ hosts.contains (hdW p) = false := by
  obtain ⟨k1, k2, k3, k4⟩ := exp_app (w := [125]) x (by decide) h
  obtain ⟨j1, j2, j3, j4, j5, j6⟩ := head_app (p := p) (hosts := hosts) x ((fol_ruleF _ _ _ _).ok k1)
  have hn := ownH_ne j2
  refine ⟨?_, j1, j2, j3⟩
  unfold siteM
  rw [j4, hd_app x hn]
  rw [ruleF_fuel (meas (app (headM hosts p) x)) (meas (headM hosts p) + meas (app (headM hosts p) x)) _ _ _ (Nat.le_refl _) (by omega)]
  rw [ruleF_fuel (meas (headM hosts p)) (meas (headM hosts p) + meas (app (headM hosts p) x)) _ _ (headM hosts p) (Nat.le_refl _) (by omega)] at k1 k2 k3 ⊢
  rw [ruleF_app x _ _ _ _ k1 k2]
  simp only
  rw [k3]
theorem at_app {n : Nat} {p : Ps} (x : List (List UInt8)) (h : (atSite n p).code = 0) : p.code = 0 ∧ hdW p = wSite ∧ n < 8 ∧ atSite n (app p x) = app (atSite n p) x ∧ atSite n p = stp p := by
  obtain ⟨h1, h2, h3⟩ := one_app (p := chk (hdW p == wSite) 30 p) x (by decide) h
  obtain ⟨k1, k2, k3⟩ := chk_ok (p := p) (by decide) h1
  rw [decide_eq_true_eq] at h2
  have e : hdW p = wSite := by simpa using k2
  have hn : hdW p ≠ [] := by rw [e]; decide
  have h4 : atSite n p = stp p := by
    show stp (chk _ 32 (chk (hdW p == wSite) 30 p)) = _
    rw [h3, k3]
  refine ⟨k1, e, h2, ?_, h4⟩
  rw [h4, ← stp_app x (hd_ne hn)]
  unfold atSite
  rw [hd_app x hn, k2, chk_true, decide_eq_true h2, chk_true]
end Go.Pantry
namespace Go.Pantry
open Go.RowKit

theorem skip_gap {c : UInt8} {r : List UInt8} (h : isGap c = true) : skipL false (c :: r) = skipL false r := by rw [skipL, if_pos h]
theorem gap10 : isGap 10 = true := by decide
theorem skip_lines : ∀ (n : Nat) (t : List UInt8), skipL false (List.replicate n 10 ++ t) = skipL false t
  | 0, t => rfl
  | n + 1, t => by rw [List.replicate_succ, List.cons_append, skip_gap gap10, skip_lines n t]
theorem text_lines (n : Nat) (t : List UInt8) : textW (List.replicate n 10 ++ t) = textW t := by unfold textW; rw [skip_lines]
theorem nl_suffix {s t : List UInt8} (h : s <:+ t) : nlL s ≤ nlL t := by
  unfold nlL; exact List.Sublist.count_le _ h.sublist
theorem line_lines (n : Nat) (t : List UInt8) (k : Nat) : lineK (List.replicate n 10 ++ t) k = n + lineK t k := by
  unfold lineK
  rw [text_lines, skip_lines]
  have h1 : nlL (List.replicate n 10 ++ t) = n + nlL t := by unfold nlL; rw [List.count_append, List.count_replicate_self]
  have h2 := nl_suffix ((stepN_suffix ((textW t).length - k) (skipL false t)).trans (skipL_suffix t false))
  rw [h1]; omega
theorem cfg_lines (n : Nat) (t : List UInt8) : cfgM (List.replicate n 10 ++ t) = cfgM t := by unfold cfgM ps0; rw [text_lines]
theorem readM_short {t : List UInt8} (h : t.length ≤ 4096) : readM t = if (cfgM t).2.code = 0 then ((cfgM t).1, 0, 0) else ([], (cfgM t).2.code, lineK t (cfgM t).2.pos) := by
  unfold readM; rw [if_neg (by omega)]
theorem readM_long {t : List UInt8} (h : 4096 < t.length) : readM t = ([], 32, 1) := by
  unfold readM; rw [if_pos h]
theorem readM_lines (n : Nat) (t : List UInt8) (h1 : t.length ≤ 4096) (h2 : n + t.length ≤ 4096) :
    readM (List.replicate n 10 ++ t) = ((readM t).1, (readM t).2.1, if (readM t).2.1 = 0 then (readM t).2.2 else n + (readM t).2.2) := by
  rw [readM_short (t := t) h1, readM_short (by rw [List.length_append, List.length_replicate]; omega), cfg_lines]
  by_cases h : (cfgM t).2.code = 0
  · rw [if_pos h, if_pos h]; rfl
  · rw [if_neg h, if_neg h]
    simp only
    rw [if_neg h, line_lines]

theorem runL_cons (c : UInt8) (r : List UInt8) : runL (c :: r) = if isGap c || isMark c || remB (c :: r) then [] else c :: runL r := rfl
/-- where a text ends within a remark, and what is left else; then more behind an end of line -/
theorem skip_app : ∀ (s : List UInt8) (b : Bool) (t : List UInt8), skipL b (s ++ 10 :: t) = if skipL b s = [] then skipL false t else skipL b s ++ 10 :: t
  | [], true, t => by
    rw [List.nil_append, skipL, if_pos (by decide)]
    simp [skipL]
  | [], false, t => by
    rw [List.nil_append, skip_gap gap10]
    simp [skipL]
  | c :: r, true, t => by
    rw [List.cons_append, skipL, skipL]
    split
    · exact skip_app r false t
    · exact skip_app r true t
  | c :: r, false, t => by
    rw [List.cons_append, skipL, skipL]
    split
    · exact skip_app r false t
    · have e : remB (c :: (r ++ 10 :: t)) = remB (c :: r) := by
        unfold remB
        cases r with
        | nil => simp [List.isPrefixOf]
        | cons d r => simp [List.isPrefixOf]
      rw [e]
      split
      · exact skip_app r true t
      · rw [if_neg (by simp)]; rfl
theorem rem_app {c : UInt8} {r t : List UInt8} {d : UInt8} (hd : d ≠ 47) : remB (c :: (r ++ d :: t)) = remB (c :: r) := by
  unfold remB
  cases r with
  | nil => simp [List.isPrefixOf, Ne.symm hd]
  | cons d r => simp [List.isPrefixOf]
theorem run_app {d : UInt8} (hg : isGap d = true ∨ isMark d = true) (hd : d ≠ 47) : ∀ (s t : List UInt8), runL (s ++ d :: t) = runL s
  | [], t => by
    rw [List.nil_append, runL_cons, if_pos (by rcases hg with h | h <;> simp [h])]; rfl
  | c :: r, t => by
    rw [List.cons_append, runL_cons, runL_cons, rem_app hd, run_app hg hd r t]
theorem word_app {d : UInt8} (hg : isGap d = true ∨ isMark d = true) (hd : d ≠ 47) {s : List UInt8} (h : s ≠ []) (t : List UInt8) : wordL (s ++ d :: t) = wordL s := by
  obtain ⟨c, r, rfl⟩ := List.exists_cons_of_ne_nil h
  have h1 := run_app hg hd (c :: r) t
  unfold wordL
  rw [List.cons_append] at h1 ⊢
  simp only
  rw [h1]
theorem step_app {s : List UInt8} (h : s ≠ []) (t : List UInt8) : stepL (s ++ 10 :: t) = if stepL s = [] then skipL false t else stepL s ++ 10 :: t := by
  unfold stepL
  rw [word_app (.inl gap10) (by decide) h, List.drop_append_of_le_length (wordL_len s)]
  exact skip_app _ false t
theorem norm_app {s t : List UInt8} (h : Norm s) (h0 : s ≠ []) : Norm (s ++ 10 :: t) := by
  unfold Norm at h ⊢
  rw [skip_app, h, if_neg h0]
theorem words_app : ∀ (n : Nat) (s t : List UInt8), s.length ≤ n → Norm s → s ≠ [] → wordsL (s ++ 10 :: t) = wordsL s ++ textW t
  | 0, s, t, hl, _, h0 => absurd (List.eq_nil_of_length_eq_zero (by omega)) h0
  | n + 1, s, t, hl, hn, h0 => by
    have h1 := stepL_lt hn h0
    rw [wordsL_cons (norm_app hn h0) (by simp), wordsL_cons hn h0, word_app (.inl gap10) (by decide) h0, step_app h0, List.cons_append]
    by_cases h2 : stepL s = []
    · rw [if_pos h2, h2]; rfl
    · rw [if_neg h2, words_app n _ t (by omega) (norm_step s) h2]
theorem text_app (a t : List UInt8) : textW (a ++ 10 :: t) = textW a ++ textW t := by
  unfold textW
  rw [skip_app]
  by_cases h : skipL false a = []
  · rw [if_pos h, h]; rfl
  · rw [if_neg h]; exact words_app _ _ _ (Nat.le_refl _) (norm_skip _ _) h
theorem text_nl (a : List UInt8) : textW (a ++ [10]) = textW a := by rw [text_app]; simp [textW, skipL, wordsL_nil]

/-- all words are something -/
def Some1 (p : Ps) : Prop := ∀ w ∈ p.ws, w ≠ []
theorem some_text (t : List UInt8) : Some1 (ps0 t) := words_ne _ _ (Nat.le_refl _) (norm_skip _ _)
theorem Some1.fol {p q : Ps} (h : Some1 p) (k : Fol p q) : Some1 q := fun w hw => h w (k.suf.subset hw)
theorem cfgGo_end {p : Ps} (h : cfgGo p = false) (hs : Some1 p) (hc : p.code = 0) : p.ws = [] := by
  unfold cfgGo at h
  rw [hc] at h
  cases e : p.ws with
  | nil => rfl
  | cons a r =>
    have h1 := hs a (by rw [e]; simp)
    have h2 : hdW p = a := by unfold hdW; rw [e]; rfl
    rw [h2] at h
    simp [h1] at h
theorem cfgGo_nil {p : Ps} (h : p.ws = []) : cfgGo p = false := by
  unfold cfgGo hdW; rw [h]; simp
/-- the hosts of sites, the last one first -/
def hostsR (c : List SiteM) : List (List UInt8) := (c.map (·.host)).reverse
theorem keyR_host (s : SiteM) (p : Ps) : (keyR s p).1.host = s.host := by
  unfold keyR; split
  · rfl
  · split <;> rfl
theorem keyF_host : ∀ (k : Nat) (s : SiteM) (p : Ps), (keyF k s p).1.host = s.host
  | 0, s, p => rfl
  | k + 1, s, p => by
    rw [keyF]; split
    · rw [keyF_host, keyR_host]
    · rfl
theorem kind_host (w : List UInt8) (s : SiteM) (p : Ps) : (kindM w s p).1.host = s.host := by
  unfold kindM
  split
  · rfl
  · split
    · rfl
    · split
      · exact keyF_host _ _ _
      · rfl
theorem rule_host (s : SiteM) (seen : List (List UInt8)) (p : Ps) : (ruleM s seen p).1.host = s.host := by
  unfold ruleM; split
  · exact kind_host _ _ _
  · rfl
theorem ruleF_host : ∀ (k : Nat) (s : SiteM) (seen : List (List UInt8)) (p : Ps), (ruleF k s seen p).1.host = s.host
  | 0, s, seen, p => rfl
  | k + 1, s, seen, p => by
    rw [ruleF]; split
    · rw [ruleF_host, rule_host]
    · rfl
theorem site_host' (hosts : List (List UInt8)) (p : Ps) : (siteM hosts p).1.host = hdW p := ruleF_host _ _ _ _
/-- the sites of words, without a look at other sites: as long as all is well -/
theorem site_hosts {hosts hosts' : List (List UInt8)} {p : Ps} (h : (siteM hosts p).2.code = 0) (hc : hosts'.contains (hdW p) = false) : siteM hosts' p = siteM hosts p := by
  obtain ⟨_, j1, j2, j3⟩ := site_app [] h
  have e : headM hosts' p = headM hosts p := by
    unfold headM onceM
    rw [chk_hd, hc, j3]
  unfold siteM
  rw [e]
/-- words behind words: the sites of the first ones, then the rest -/
theorem cfgF_app (x : List (List UInt8)) : ∀ (k m : Nat) (c : List SiteM) (hosts : List (List UInt8)) (p : Ps), Some1 p → meas p ≤ k → meas (app p x) ≤ m → (cfgF k c hosts p).2.code = 0 →
    ∃ d, (cfgF k c hosts p).1 = c ++ d ∧ (cfgF k c hosts p).2.ws = [] ∧ ∀ j, x.length + 1 ≤ j → cfgF m c hosts (app p x) = cfgF j (c ++ d) (hostsR d ++ hosts) ⟨0, p.pos, x⟩
  | k, m, c, hosts, p, hs, hk, hm, h => by
    by_cases hg : cfgGo p = true
    · cases k with
      | zero => rw [cfgGo_zero (by omega)] at hg; cases hg
      | succ k =>
      rw [cfgF, if_pos hg] at h ⊢
      have hl := cfg_less (n := c.length) (hosts := hosts) hg
      have hf : Fol p (siteM hosts (atSite c.length p)).2 := (fol_at _ _).trans (fol_site _ _)
      have hc := (fol_cfgF k _ _ _).ok h
      obtain ⟨s1, s2, s3, s4⟩ := site_app x hc
      obtain ⟨a1, a2, a3, a4, a5⟩ := at_app x s2
      have hn : hdW p ≠ [] := by rw [a2]; decide
      have hg' : cfgGo (app p x) = true := by
        unfold cfgGo at hg ⊢
        rw [hd_app x hn]; exact hg
      cases m with
      | zero => rw [cfgGo_zero (by omega)] at hg'; cases hg'
      | succ m =>
      have hl' := cfg_less (n := c.length) (hosts := hosts) hg'
      rw [a4, s1] at hl'
      change meas (app (siteM hosts (atSite c.length p)).2 x) < _ at hl'
      have hn2 : hdW (atSite c.length p) ≠ [] := ownH_ne s3
      obtain ⟨d, e1, e2, e3⟩ := cfgF_app x k m _ _ _ (hs.fol hf) (by omega) (show meas (app (siteM hosts (atSite c.length p)).2 x) ≤ m by omega) h
      have ep : (siteM hosts (atSite c.length p)).2.pos = p.pos := hf.pos hc
      refine ⟨(siteM hosts (atSite c.length p)).1 :: d, ?_, e2, fun j hj => ?_⟩
      · rw [e1, List.append_assoc]; rfl
      · rw [cfgF, if_pos hg', a4, s1, hd_app x hn2]
        have := e3 j hj
        rw [ep] at this
        simp only
        rw [this, List.append_assoc]
        unfold hostsR
        rw [List.map_cons, List.reverse_cons, List.append_assoc, site_host']
        rfl
    · have e : ∀ k, cfgF k c hosts p = (c, p) := fun k => by cases k <;> simp [cfgF, hg]
      rw [e] at h ⊢
      have hw := cfgGo_end (Bool.eq_false_iff.2 hg) hs h
      refine ⟨[], by simp, hw, fun j hj => ?_⟩
      have ep : app p x = ⟨0, p.pos, x⟩ := by unfold app; rw [hw, h]; rfl
      rw [ep] at hm ⊢
      rw [List.append_nil]
      refine cfgF_fuel _ _ _ _ _ hm (Nat.le_trans (Nat.le_of_eq ?_) hj)
      unfold meas; simp
end Go.Pantry
namespace Go.Pantry
open Go.RowKit

/-- a site of any numbers -/
structure SiteZ where
  host : List UInt8
  origin : Int
  min : Int
  max : Int
  query : Bool
  keep : Bool
  heads : List (List UInt8)
deriving DecidableEq
def SiteM.z (s : SiteM) : SiteZ := ⟨s.host, s.origin, s.min, s.max, s.query, s.keep, s.heads⟩
abbrev rowZ (hv : Value) (s : SiteZ) : Array Value := #[strV s.host, .int .i64 s.origin, .int .i64 s.min, .int .i64 s.max, .bool s.query, .bool s.keep, hv]
def rowsZ (L : List (SiteZ × Value)) : List Value := L.flatMap fun x => (rowZ x.2 x.1).toList
theorem rowsZ_len : ∀ L : List (SiteZ × Value), (rowsZ L).length = 7 * L.length
  | [] => rfl
  | x :: L => by
    have := rowsZ_len L
    unfold rowsZ at this ⊢
    rw [List.flatMap_cons, List.length_append, this, List.length_cons]
    simp; omega
theorem rowsZ_at : ∀ (L : List (SiteZ × Value)) (j i : Nat) (x : SiteZ × Value), L[j]? = some x → i < 7 → (rowsZ L)[j * 7 + i]? = (rowZ x.2 x.1)[i]?
  | [], j, i, x, h, _ => by cases h
  | y :: L, 0, i, x, h, hi => by
    cases h
    unfold rowsZ
    rw [List.flatMap_cons, Nat.zero_mul, Nat.zero_add, List.getElem?_append_left (by simpa using hi), Array.getElem?_toList]
  | y :: L, j + 1, i, x, h, hi => by
    have := rowsZ_at L j i x (by simpa using h) hi
    unfold rowsZ at this ⊢
    rw [List.flatMap_cons, List.getElem?_append_right (by simp; omega), ← this]
    congr 1
    simp; omega
theorem rowsZ_snoc (L : List (SiteZ × Value)) (x : SiteZ × Value) : rowsZ (L ++ [x]) = rowsZ L ++ (rowZ x.2 x.1).toList := by
  unfold rowsZ; rw [List.flatMap_append]; simp
/-- v is a slice whose elements are the sites L, each with its heads' slice -/
structure ReadsP (w : World) (v : Value) (L : List (SiteZ × Value)) : Prop where
  form : ∃ ao cap, v = .slice ao L.length cap ∧ ∀ (j : Nat) x, L[j]? = some x → ∃ b off, ao = some ⟨b, off, none⟩ ∧ ∀ (i : Nat) u, (rowZ x.2 x.1)[i]? = some u → w.cell? ⟨b, off + j * 7 + i, none⟩ = some u
  heads : ∀ x ∈ L, Reads w x.2 (x.1.heads.map strV)
theorem ReadsP.below {w w' : World} {v : Value} {L : List (SiteZ × Value)} (h : ReadsP w v L) (hb : Below w.heap.size w w') : ReadsP w' v L := by
  obtain ⟨ao, cap, hv, hc⟩ := h.form
  refine ⟨⟨ao, cap, hv, fun j x hj => ?_⟩, fun x hx => (h.heads x hx).below hb⟩
  obtain ⟨b, off, ha, hcell⟩ := hc j x hj
  exact ⟨b, off, ha, fun i u hu => kept (hcell i u hu) hb⟩
theorem ReadsP.at_ {w : World} {ao : Option Addr} {n cap : Nat} {L : List (SiteZ × Value)} (h : ReadsP w (.slice ao n cap) L) {j : Nat} {x : SiteZ × Value} (hj : L[j]? = some x) :
    ∃ b off, ao = some ⟨b, off, none⟩ ∧ ∀ (i : Nat) u, (rowZ x.2 x.1)[i]? = some u → w.cell? ⟨b, off + j * 7 + i, none⟩ = some u := by
  obtain ⟨ao', cap', hv, hc⟩ := h.form
  cases hv
  exact hc j x hj
theorem ReadsP.nil (w : World) (cap : Nat) : ReadsP w (.slice none 0 cap) [] := ⟨⟨none, cap, rfl, fun j x h => by cases h⟩, fun x h => absurd h List.not_mem_nil⟩
theorem readsP_own {w : World} {B : Nat} {e : TypeId} {v : Value} {n : Nat} {L : List (SiteZ × Value)} (h : w.ownsRow B e 7 v n (rowsZ L)) (hh : ∀ x ∈ L, Reads w x.2 (x.1.heads.map strV)) : ReadsP w v L := by
  have hl : n = L.length := by have h1 := h.1; rw [rowsZ_len] at h1; omega
  refine ⟨?_, hh⟩
  rcases h.2 with ⟨rfl, hn⟩ | ⟨g, cap, cur, rfl, hb, hg, hnc, hcm, hcs, htake⟩
  · refine ⟨none, 0, by rw [← hl, hn], fun j x hj => ?_⟩
    have : j < L.length := (List.getElem?_eq_some_iff.1 hj).1
    omega
  · refine ⟨some ⟨g, 0, none⟩, cap, by rw [hl], fun j x hj => ⟨g, 0, rfl, fun i u hu => ?_⟩⟩
    have hi : i < 7 := by
      by_cases e : i < 7
      · exact e
      · have : (rowZ x.2 x.1)[i]? = none := Array.getElem?_eq_none (by simp; omega)
        rw [this] at hu; cases hu
    have := h.cells (g := g) rfl (j * 7 + i) u (by rw [rowsZ_at L j i x hj hi]; exact hu)
    rw [addAt2] at this
    rw [show 0 + j * 7 + i = 0 + (j * 7 + i) by omega]
    exact this
end Go.Pantry
namespace Go.Pantry
open Go.RowKit
def anchT1 : List UInt8 := [115, 105, 116, 101, 32, 97, 46, 98, 32, 123, 32, 116, 116, 108, 32, 53, 32, 54, 48, 59, 32, 107, 101, 121, 32, 112, 97, 116, 104, 32, 104, 101, 97, 100, 101, 114, 32, 97, 99, 99, 101, 112, 116, 59, 32, 125]
def anchT2 : List UInt8 := [115, 105, 116, 101, 32, 97, 32, 123, 10, 32, 111, 114, 105, 103, 105, 110, 32, 48, 59, 32, 125]
def anchS : SiteM := ⟨[97, 46, 98], 1, 5, 60, false, true, [[97, 99, 99, 101, 112, 116]]⟩
theorem anch1 : readM anchT1 = ([anchS], 0, 0) := by decide +kernel
theorem anch2 : readM anchT2 = ([], 11, 2) := by decide +kernel
end Go.Pantry
namespace Go.Pantry
open Go.RowKit

theorem once_bad {seen : List (List UInt8)} {p : Ps} (hp : p.code = 0) (h : seen.contains (hdW p) = true) : (onceM seen p).code = 31 := by
  unfold onceM
  rw [h, Bool.not_true, chk_no hp]; rfl
theorem cfgF_bad {k : Nat} {c : List SiteM} {hosts : List (List UInt8)} {p q : Ps} (hf : Fol q p) (hq : q.code = 31) : (cfgF k c hosts p).2.code = 31 := by
  rw [((hf.trans (fol_cfgF k c hosts p)).err (by omega)).1, hq]
/-- the same words with other sites ahead -/
theorem cfgF_shift : ∀ (k : Nat) (c : List SiteM) (h : List (List UInt8)) (p : Ps), (cfgF k c h p).2.code = 0 →
    ∃ d, (cfgF k c h p).1 = c ++ d ∧ (∀ s ∈ d, h.contains s.host = false) ∧ ∀ (c1 : List SiteM) (h1 : List (List UInt8)), c1.length + d.length ≤ 8 →
      ((∀ s ∈ d, h1.contains s.host = false) → cfgF k c1 h1 p = (c1 ++ d, (cfgF k c h p).2)) ∧
      ((∃ s ∈ d, h1.contains s.host = true) → (cfgF k c1 h1 p).2.code = 31)
  | 0, c, h, p, _ => ⟨[], by simp [cfgF], (by intro s hs; cases hs), fun c1 h1 _ => ⟨fun _ => by simp [cfgF], fun ⟨s, hs, _⟩ => by cases hs⟩⟩
  | k + 1, c, h, p, hc => by
    by_cases hg : cfgGo p = true
    · rw [cfgF, if_pos hg] at hc ⊢
      have hsc := (fol_cfgF k _ _ _).ok hc
      obtain ⟨_, s2, s3, s4⟩ := site_app [] hsc
      obtain ⟨a1, a2, a3, _, a5⟩ := at_app [] s2
      obtain ⟨d, e1, e2, e3⟩ := cfgF_shift k _ _ _ hc
      rw [a5] at s2 s3 s4 e1 e2 e3 hsc ⊢
      have e0 : (siteM h (stp p)).1.host = hdW (stp p) := site_host' _ _
      refine ⟨(siteM h (stp p)).1 :: d, by rw [e1, List.append_assoc]; rfl, ?_, fun c1 h1 hl => ?_⟩
      · intro s hs
        rcases List.mem_cons.1 hs with rfl | hs
        · rw [e0]; exact s4
        · have := e2 s hs
          rw [List.contains_cons, Bool.or_eq_false_iff] at this
          exact this.2
      · rw [List.length_cons] at hl
        have a6 : atSite c1.length p = stp p := by
          unfold atSite
          rw [a2, beq_self_eq_true, chk_true, decide_eq_true (by omega), chk_true]
        rw [cfgF, if_pos hg, a6]
        cases hk : h1.contains (hdW (stp p)) with
        | false =>
          rw [site_hosts hsc hk]
          obtain ⟨f1, f2⟩ := e3 (c1 ++ [(siteM h (stp p)).1]) (hdW (stp p) :: h1) (by rw [List.length_append, List.length_singleton]; omega)
          constructor
          · intro hd
            rw [f1 ?_, List.append_assoc]; · rfl
            intro s hs
            have j1 := e2 s hs
            rw [List.contains_cons, Bool.or_eq_false_iff] at j1 ⊢
            exact ⟨j1.1, hd s (List.mem_cons_of_mem _ hs)⟩
          · rintro ⟨s, hs, hb⟩
            refine f2 ?_
            rcases List.mem_cons.1 hs with rfl | hs
            · rw [e0, hk] at hb; cases hb
            · exact ⟨s, hs, by rw [List.contains_cons, hb, Bool.or_true]⟩
        | true =>
          have b1 : (onceM h1 (chk (ownH (hdW (stp p))) 30 (stp p))).code = 31 := by
            rw [s3, chk_true]; exact once_bad s2 hk
          have b2 : Fol (onceM h1 (chk (ownH (hdW (stp p))) 30 (stp p))) (siteM h1 (stp p)).2 := ((fol_exp _ _).trans (fol_ruleF _ _ _ _)).trans (fol_exp _ _)
          constructor
          · intro hd
            have := hd _ (List.mem_cons_self ..)
            rw [e0, hk] at this; cases this
          · intro _; exact cfgF_bad b2 b1
    · have e : ∀ c h, cfgF (k + 1) c h p = (c, p) := fun c h => by rw [cfgF, if_neg hg]
      rw [e] at hc ⊢
      refine ⟨[], by simp, (by intro s hs; cases hs), fun c1 h1 _ => ⟨fun _ => by rw [e]; simp, fun ⟨s, hs, _⟩ => by cases hs⟩⟩

/-- what is read of a text behind another -/
theorem read_rows {a b : List UInt8} (ha : a.length ≤ 4095) (hl : a.length + b.length ≤ 4095) (hA : (readM (a ++ [10])).2.1 = 0) (hB : (readM b).2.1 = 0)
    (h8 : (readM (a ++ [10])).1.length + (readM b).1.length ≤ 8) :
    ((∀ s ∈ (readM (a ++ [10])).1, ∀ t ∈ (readM b).1, t.host ≠ s.host) → readM (a ++ 10 :: b) = ((readM (a ++ [10])).1 ++ (readM b).1, 0, 0)) ∧
    ((∃ s ∈ (readM (a ++ [10])).1, ∃ t ∈ (readM b).1, t.host = s.host) → (readM (a ++ 10 :: b)).2.1 = 31) := by
  have hA' : (cfgM (a ++ [10])).2.code = 0 := by
    rw [readM_short (by simp; omega)] at hA
    by_cases e : (cfgM (a ++ [10])).2.code = 0
    · exact e
    · rw [if_neg e] at hA; exact hA
  have hB' : (cfgM b).2.code = 0 := by
    rw [readM_short (by omega)] at hB
    by_cases e : (cfgM b).2.code = 0
    · exact e
    · rw [if_neg e] at hB; exact hB
  have eA : readM (a ++ [10]) = ((cfgM (a ++ [10])).1, 0, 0) := by rw [readM_short (by simp; omega), if_pos hA']
  have eB : readM b = ((cfgM b).1, 0, 0) := by rw [readM_short (by omega), if_pos hB']
  rw [eA, eB] at h8 ⊢
  simp only at h8 ⊢
  have ep : ps0 (a ++ 10 :: b) = app (ps0 (a ++ [10])) (textW b) := by
    unfold ps0 app; rw [text_nl, text_app]
  obtain ⟨c, c1, c2, c3⟩ := cfgF_app (textW b) _ (meas (ps0 (a ++ 10 :: b))) [] [] _ (some_text (a ++ [10])) (Nat.le_refl _) (by rw [ep]; exact Nat.le_refl _) hA'
  have ec : (cfgM (a ++ [10])).1 = c := by unfold cfgM; rw [c1, List.nil_append]
  have hm : (textW b).length + 1 ≤ meas (ps0 b) := by unfold meas ps0; simp
  have c4 := c3 (meas (ps0 b)) hm
  rw [List.nil_append, List.append_nil, ← ep] at c4
  obtain ⟨d, d1, d2, d3⟩ := cfgF_shift _ _ _ _ hB'
  have ed : (cfgM b).1 = d := by unfold cfgM; rw [d1, List.nil_append]
  rw [ec, ed] at h8 ⊢
  obtain ⟨g1, g2⟩ := d3 c (hostsR c) h8
  have e1 : cfgM (a ++ 10 :: b) = cfgF (meas (ps0 b)) c (hostsR c) (ps0 b) := c4
  have hh : ∀ t : SiteM, (hostsR c).contains t.host = true ↔ ∃ s ∈ c, t.host = s.host := by
    intro t
    unfold hostsR
    rw [List.contains_iff_mem, List.mem_reverse, List.mem_map]
    exact ⟨fun ⟨s, hs, e⟩ => ⟨s, hs, e.symm⟩, fun ⟨s, hs, e⟩ => ⟨s, hs, e.symm⟩⟩
  rw [readM_short (by simp; omega), e1]
  constructor
  · intro h
    rw [g1 (fun t ht => by
      rw [Bool.eq_false_iff]; intro e
      obtain ⟨s, hs, e⟩ := (hh t).1 e
      exact h s hs t ht e)]
    have : (cfgF (meas (ps0 b)) [] [] (ps0 b)).2.code = 0 := hB'
    simp only
    rw [if_pos this]
  · rintro ⟨s, hs, t, ht, e⟩
    have := g2 ⟨t, ht, (hh t).2 ⟨s, hs, e⟩⟩
    rw [if_neg (by rw [this]; decide)]
    exact this
end Go.Pantry
