/-
  What the Reads tell, as numbers.
-/
import Derived.Test.YtongceljdgmbdaaGreatDoorHeadI
namespace Go.Proofs.YtongceljdgmbdaaGreatDoor
open Go.RowKit Go.Pantry

/-- an error's number, or 0; how many bytes -/
def codeX (x : Except Nat (Hd × Nat)) : Int := match x with | .error k => (k : Int) | .ok _ => 0
def nX (x : Except Nat (Hd × Nat)) : Int := match x with | .error _ => 0 | .ok p => (p.2 : Int)
/-- the head, or none -/
def hX (x : Except Nat (Hd × Nat)) : Hd := match x with | .error _ => hd0 | .ok p => p.1
theorem reqRead_form {t : TypeId} {B : Nat} {x : Except Nat (Hd × Nat)} {e : Ending} {w' : World} (h : ReqRead t B x e w') :
    ∃ ao c, e = .returned (.tuple #[.agg #[strV (hX x).first, strV (hX x).second, .int .i64 ((hX x).minor : Int), .slice ao (hX x).flds.length c], .int .i64 (nX x), .int .i64 (codeX x)]) ∧ Reads2 w' (.slice ao (hX x).flds.length c) (hX x).flds := by
  cases x with
  | error k =>
    obtain ⟨_, rfl⟩ := h
    exact ⟨none, 0, rfl, ⟨none, 0, rfl, (fun j p hj => by cases hj), fun _ => rfl, Nat.le_refl _⟩⟩
  | ok p =>
    obtain ⟨h', n⟩ := p
    obtain ⟨v', rfl, ho⟩ := h
    obtain ⟨ao, c, rfl⟩ := ownsRow_form ho
    exact ⟨ao, c, rfl, (ho.reads2).2⟩
theorem resRead_form {t : TypeId} {B : Nat} {x : Except Nat (Hd × Nat)} {e : Ending} {w' : World} (h : ResRead t B x e w') :
    ∃ ao c, e = .returned (.tuple #[.agg #[.int .i64 ((hX x).status : Int), strV (hX x).first, .int .i64 ((hX x).minor : Int), .slice ao (hX x).flds.length c], .int .i64 (nX x), .int .i64 (codeX x)]) ∧ Reads2 w' (.slice ao (hX x).flds.length c) (hX x).flds := by
  cases x with
  | error k =>
    obtain ⟨_, rfl⟩ := h
    exact ⟨none, 0, rfl, ⟨none, 0, rfl, (fun j p hj => by cases hj), fun _ => rfl, Nat.le_refl _⟩⟩
  | ok p =>
    obtain ⟨h', n⟩ := p
    obtain ⟨v', rfl, ho⟩ := h
    obtain ⟨ao, c, rfl⟩ := ownsRow_form ho
    exact ⟨ao, c, rfl, (ho.reads2).2⟩
theorem reqL_err {s : List UInt8} {e : Nat} (h : reqL s = .error e) : e = 21 ∨ e = 22 := by
  rcases reqL_code s with ⟨_, _, h2⟩ | ⟨h1, h2⟩
  · rw [h2] at h; cases h
  · rw [h2] at h
    cases h
    omega
theorem resL_err {s : List UInt8} {e : Nat} (h : resL s = .error e) : e = 21 ∨ e = 22 := by
  rcases resL_code s with ⟨_, _, h2⟩ | ⟨h1, h2⟩
  · rw [h2] at h; cases h
  · rw [h2] at h
    cases h
    omega
theorem fldsL_err : ∀ (l : List (List UInt8)) (i e : Nat), fldsL i l = .error e → e = 21 ∨ e = 22
  | [], _, _, h => by cases h
  | a :: r, i, e, h => by
    rw [fldsL] at h
    rcases fldL_code i a with ⟨_, h2⟩ | ⟨h1, h2⟩
    · rw [h2] at h
      by_cases h64 : 64 ≤ i
      · rw [if_pos h64] at h
        cases h
        exact .inr rfl
      · rw [if_neg h64] at h
        simp only at h
        cases hf : fldsL (i + 1) r with
        | error k =>
          rw [hf] at h
          cases h
          exact fldsL_err r (i + 1) _ hf
        | ok L => rw [hf] at h; cases h
    · rw [h2] at h
      cases h
      omega
theorem headL_err {first : List UInt8 → Except Nat Hd} (hf : ∀ s e, first s = .error e → e = 21 ∨ e = 22) {l : List (List UInt8)} {e : Nat} (h : headL first l = .error e) : e = 21 ∨ e = 22 := by
  cases l with
  | nil => cases h; exact .inl rfl
  | cons a r =>
    unfold headL at h
    simp only at h
    cases h1 : first a with
    | error k => rw [h1] at h; cases h; exact hf _ _ h1
    | ok g =>
      rw [h1] at h
      simp only at h
      cases h2 : fldsL 0 r with
      | error k => rw [h2] at h; cases h; exact fldsL_err _ _ _ h2
      | ok L => rw [h2] at h; cases h
/-- both Reads ask for more, or say that it is too long; or what each says is of the lines -/
theorem read_cases (s : List UInt8) : (readL reqL s = .error 20 ∧ readL resL s = .error 20) ∨ (readL reqL s = .error 22 ∧ readL resL s = .error 22) ∨
    ((∀ e, readL reqL s = .error e → e = 21 ∨ e = 22) ∧ (∀ e, readL resL s = .error e → e = 21 ∨ e = 22)) := by
  rw [readL_cut, readL_cut]
  cases hc : cutL s with
  | error e => rcases cutL_err hc with rfl | rfl <;> simp
  | ok p =>
    obtain ⟨l, n⟩ := p
    right; right
    simp only
    constructor
    · intro e h
      cases hh : headL reqL l with
      | error k => rw [hh] at h; cases h; exact headL_err (fun _ _ => reqL_err) hh
      | ok g => rw [hh] at h; cases h
    · intro e h
      cases hh : headL resL l with
      | error k => rw [hh] at h; cases h; exact headL_err (fun _ _ => resL_err) hh
      | ok g => rw [hh] at h; cases h
theorem kinds_cases (s : List UInt8) : (codeX (readL reqL s) = 20 ∧ nX (readL reqL s) = 0 ∧ codeX (readL resL s) = 20 ∧ nX (readL resL s) = 0) ∨
    ((codeX (readL reqL s) = 21 ∨ codeX (readL reqL s) = 22) ∧ nX (readL reqL s) = 0 ∧ (codeX (readL resL s) = 21 ∨ codeX (readL resL s) = 22) ∧ nX (readL resL s) = 0) ∨
    (codeX (readL reqL s) = 0 ∧ (codeX (readL resL s) = 21 ∨ codeX (readL resL s) = 22) ∧ nX (readL resL s) = 0) ∨
    ((codeX (readL reqL s) = 21 ∨ codeX (readL reqL s) = 22) ∧ nX (readL reqL s) = 0 ∧ codeX (readL resL s) = 0) := by
  have hk := read_kinds s
  have err : ∀ {k : Nat}, k = 21 ∨ k = 22 → (codeX (.error k) = 21 ∨ codeX (.error k) = 22) := fun h => by
    rcases h with rfl | rfl
    · exact .inl rfl
    · exact .inr rfl
  rcases read_cases s with ⟨h1, h2⟩ | ⟨h1, h2⟩ | ⟨h1, h2⟩
  · rw [h1, h2]; left; exact ⟨rfl, rfl, rfl, rfl⟩
  · rw [h1, h2]; right; left; exact ⟨.inr rfl, rfl, .inr rfl, rfl⟩
  · cases hx : readL reqL s with
    | error k =>
      have hk1 := err (h1 k hx)
      cases hy : readL resL s with
      | error j =>
        have hj1 := err (h2 j hy)
        right; left; exact ⟨hk1, rfl, hj1, rfl⟩
      | ok q => right; right; right; exact ⟨hk1, rfl, rfl⟩
    | ok p =>
      cases hy : readL resL s with
      | error j =>
        have hj1 := err (h2 j hy)
        right; right; left; exact ⟨rfl, hj1, rfl⟩
      | ok q => exact (hk p q hx hy).elim
end Go.Proofs.YtongceljdgmbdaaGreatDoor
