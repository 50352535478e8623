/-
  Fields: what the statements of layer 3 ask. No program is imported.
-/
import Derived.Test.YtfoghjhdjmapnaaDoorPureField
namespace Go.Pantry
open Go.RowKit

/-- induction at a list's end -/
theorem snoc_ind {α : Type} {p : List α → Prop} (h0 : p []) (hs : ∀ l a, p l → p (l ++ [a])) : ∀ l, p l := by
  have key : ∀ (n : Nat) (l : List α), l.length = n → p l := by
    intro n
    induction n with
    | zero => intro l hl; have : l = [] := List.eq_nil_of_length_eq_zero hl
              subst this; exact h0
    | succ n ih =>
      intro l hl
      rcases List.eq_nil_or_concat l with rfl | ⟨r, a, rfl⟩
      · exact h0
      · rw [List.concat_eq_append] at hl ⊢
        exact hs r a (ih r (by simpa using hl))
  exact fun l => key _ l rfl
theorem isF_self' {n : List UInt8} {f g : Fld} (h1 : isF n f = true) (h2 : isF f.1 g = true) : isF n g = true := by
  simp only [isF, beq_iff_eq] at h1 h2 ⊢
  exact h2.trans h1
theorem isF_other {n : List UInt8} {f g : Fld} (h1 : isF n f = false) (h2 : isF f.1 g = true) : isF n g = false := by
  cases h : isF n g
  · rfl
  · exfalso
    have h3 : isF n f = true := by
      simp only [isF, beq_iff_eq] at h h2 ⊢
      exact h2.symm.trans h
    rw [h1] at h3
    cases h3

/-- without any of these names -/
def outsF (l : List Fld) (ns : List (List UInt8)) : List Fld := l.filter fun f => !ns.any fun n => isF n f
theorem outsF_nil (l : List Fld) : outsF l [] = l := by simp [outsF]
theorem outsF_snoc (l : List Fld) (ns : List (List UInt8)) (n : List UInt8) : outsF l (ns ++ [n]) = outF (outsF l ns) n := by
  simp only [outsF, outF, List.filter_filter]
  congr 1
  funext f
  simp only [List.any_append, List.any_cons, List.any_nil, Bool.or_false]
  cases ns.any (fun n => isF n f) <;> cases isF n f <;> rfl
theorem outsF_one (l : List Fld) (n : List UInt8) : outsF l [n] = outF l n := by simp [outsF, outF]
theorem outsF_all (l : List Fld) (ns : List (List UInt8)) (n : List UInt8) (h : n ∈ ns) : allF (outsF l ns) n = [] := by
  simp only [allF, outsF, List.filter_filter, List.map_eq_nil_iff, List.filter_eq_nil_iff]
  intro f _ hf
  simp only [Bool.and_eq_true, Bool.not_eq_true', List.any_eq_false] at hf
  exact hf.2 n h (by rw [hf.1])
theorem outF_other (l : List Fld) (n m : List UInt8) (h : ∀ f : Fld, isF m f = true → isF n f = false) : allF (outF l n) m = allF l m := by
  simp only [allF, outF, List.filter_filter]
  congr 1
  apply List.filter_congr
  intro f _
  cases hm : isF m f
  · rfl
  · rw [h f hm]; rfl

/-- setting f leaves the values of other names -/
theorem runW_other (f : Fld) (n : List UInt8) (hn : isF n f = false) : ∀ l, allF (runW f l).1 n = allF l n := by
  refine snoc_ind rfl (fun l g ih => ?_)
  rw [runW_snoc, allF_snoc]
  unfold stepW
  cases hg : isF f.1 g
  · simp only [Bool.false_eq_true, if_false, allF_snoc, ih]
  · have hng := isF_other hn hg
    cases hs : (runW f l).2
    · simp only [if_true, Bool.false_eq_true, if_false, allF_snoc, ih, hn, hng]
    · simp only [if_true, ih, hng, Bool.false_eq_true, if_false, List.append_nil]
theorem withF_other (l : List Fld) (f : Fld) (n : List UInt8) (hn : isF n f = false) : allF (withF l f) n = allF l n := by
  unfold withF
  split
  · exact runW_other f n hn l
  · rw [allF_snoc, runW_other f n hn l, hn]; simp
theorem withF_same (l : List Fld) (f : Fld) (n : List UInt8) (hn : isF n f = true) : allF (withF l f) n = [f.2] := by
  have h := withF_all l f
  have e : ∀ g, isF n g = isF f.1 g := by
    intro g
    have : lowerL f.1 = lowerL n := by simpa [isF] using hn
    simp only [isF, this]
  simp only [allF] at h ⊢
  rw [← h]
  congr 1
  exact List.filter_congr (fun g _ => e g)
/-- several fields set, one behind the other -/
def withsF (l : List Fld) (more : List Fld) : List Fld := more.foldl withF l
theorem withsF_snoc (l more : List Fld) (f : Fld) : withsF l (more ++ [f]) = withF (withsF l more) f := by simp [withsF]
theorem withsF_nil (l : List Fld) : withsF l [] = l := rfl
/-- the last one of a name stays -/
theorem withsF_last (l : List Fld) (a : List Fld) (f : Fld) : ∀ b : List Fld, (∀ g ∈ b, isF f.1 g = false) → allF (withsF l (a ++ f :: b)) f.1 = [f.2] := by
  refine snoc_ind ?_ (fun b g ih hb => ?_)
  · intro _
    rw [withsF_snoc]
    exact withF_all _ _
  · have e : a ++ f :: (b ++ [g]) = (a ++ f :: b) ++ [g] := by simp
    rw [e, withsF_snoc, withF_other _ _ _ (hb g (by simp))]
    exact ih (fun x hx => hb x (by simp [hx]))

/-- where f's name stands once, as f, setting f changes nothing -/
theorem runW_mem (f : Fld) : ∀ l, ∀ g ∈ (runW f l).1, isF f.1 g = true → g = f := by
  refine snoc_ind (by simp [runW]) (fun l h ih => ?_)
  rw [runW_snoc]
  unfold stepW
  intro g hg hf
  cases hh : isF f.1 h
  · rw [hh] at hg
    simp only [Bool.false_eq_true, if_false, List.mem_append, List.mem_singleton] at hg
    rcases hg with hg | rfl
    · exact ih g hg hf
    · rw [hh] at hf; cases hf
  · rw [hh] at hg
    cases hs : (runW f l).2
    · rw [hs] at hg
      simp only [if_true, Bool.false_eq_true, if_false, List.mem_append, List.mem_singleton] at hg
      rcases hg with hg | rfl
      · exact ih g hg hf
      · rfl
    · rw [hs] at hg
      simp only [if_true] at hg
      exact ih g hg hf
theorem withF_mem (l : List Fld) (f : Fld) : ∀ g ∈ withF l f, isF f.1 g = true → g = f := by
  intro g hg hf
  unfold withF at hg
  split at hg
  · exact runW_mem f l g hg hf
  · rcases List.mem_append.1 hg with hg | hg
    · exact runW_mem f l g hg hf
    · exact List.mem_singleton.1 hg
theorem runW_still (f : Fld) : ∀ l : List Fld, (∀ g ∈ l, isF f.1 g = true → g = f) → (allF l f.1).length ≤ 1 → runW f l = (l, l.any (isF f.1)) := by
  refine snoc_ind (by intro _ _; rfl) (fun l g ih => ?_)
  intro hm hl
  rw [allF_snoc, List.length_append] at hl
  have ih' := ih (fun x hx => hm x (by simp [hx])) (by omega)
  rw [runW_snoc, ih']
  unfold stepW
  cases hg : isF f.1 g
  · simp [hg, List.any_append]
  · have hgf : g = f := hm g (by simp) hg
    subst hgf
    rw [hg] at hl
    simp only [if_true, List.length_singleton] at hl
    have h0 : allF l g.1 = [] := List.eq_nil_of_length_eq_zero (by omega)
    have hn : l.any (isF g.1) = false := by
      simp only [allF, List.map_eq_nil_iff, List.filter_eq_nil_iff] at h0
      exact List.any_eq_false.2 h0
    simp [hn, hg, List.any_append]
theorem withF_idem (l : List Fld) (f : Fld) : withF (withF l f) f = withF l f := by
  have h1 := withF_all l f
  have h2 := runW_still f (withF l f) (withF_mem l f) (by rw [h1]; simp)
  have h3 : (withF l f).any (isF f.1) = true := by
    cases h : (withF l f).any (isF f.1)
    · exfalso
      have h4 := List.any_eq_false.1 h
      have h5 : allF (withF l f) f.1 = [] := by
        simp only [allF, List.map_eq_nil_iff, List.filter_eq_nil_iff]
        exact h4
      rw [h1] at h5
      cases h5
    · rfl
  generalize withF l f = M at h2 h3
  unfold withF
  rw [h2, h3]
  rfl
theorem getF_low (l : List Fld) (n : List UInt8) : getF l (lowerL n) = getF l n ∧ allF l (lowerL n) = allF l n ∧ outF l (lowerL n) = outF l n := by
  have e : isF (lowerL n) = isF n := by funext f; exact isF_low n f
  refine ⟨?_, ?_, ?_⟩
  · simp only [getF, allF, e]
  · simp only [allF, e]
  · simp only [outF, e]
theorem hasF_low (l : List Fld) (n w : List UInt8) : hasF l (lowerL n) (lowerL w) = hasF l n w := by
  simp only [hasF, elementsF, (getF_low l n).1, lowerL_idem]
theorem getF_append (a b : List Fld) (n : List UInt8) : getF (a ++ b) n = if allF a n = [] then getF b n else if allF b n = [] then getF a n else getF a n ++ 44 :: 32 :: getF b n := by
  simp only [getF, allF_append, joinC_append]
theorem runW_len (f : Fld) (L : List Fld) : (runW f L).1.length ≤ L.length := by
  have key : ∀ (n : Nat) (r : List Fld), r.length = n → (runW f r).1.length ≤ n := by
    intro n
    induction n with
    | zero => intro r hr; have : r = [] := List.eq_nil_of_length_eq_zero hr
              subst this; simp [runW]
    | succ n ih =>
      intro r hr
      rcases List.eq_nil_or_concat r with rfl | ⟨r', g, rfl⟩
      · simp at hr
      · rw [List.concat_eq_append] at hr ⊢
        have := ih r' (by simpa using hr)
        rw [runW_snoc]
        unfold stepW
        split
        · split <;> simp <;> omega
        · simp; omega
  exact key _ L rfl
theorem withF_len (L : List Fld) (f : Fld) : (withF L f).length ≤ L.length + 1 := by
  have h := runW_len f L
  unfold withF
  split <;> simp <;> omega
theorem runW_of (f : Fld) : ∀ l, ∀ g ∈ (runW f l).1, g ∈ l ∨ g = f := by
  refine snoc_ind (by simp [runW]) (fun l h ih => ?_)
  rw [runW_snoc]
  unfold stepW
  intro g hg
  cases hh : isF f.1 h
  · rw [hh] at hg
    simp only [Bool.false_eq_true, if_false, List.mem_append, List.mem_singleton] at hg
    rcases hg with hg | rfl
    · rcases ih g hg with h1 | h1
      · exact .inl (by simp [h1])
      · exact .inr h1
    · exact .inl (by simp)
  · rw [hh] at hg
    cases hs : (runW f l).2
    · rw [hs] at hg
      simp only [if_true, Bool.false_eq_true, if_false, List.mem_append, List.mem_singleton] at hg
      rcases hg with hg | rfl
      · rcases ih g hg with h1 | h1
        · exact .inl (by simp [h1])
        · exact .inr h1
      · exact .inr rfl
    · rw [hs] at hg
      simp only [if_true] at hg
      rcases ih g hg with h1 | h1
      · exact .inl (by simp [h1])
      · exact .inr h1
theorem withF_of (L : List Fld) (f : Fld) : ∀ g ∈ withF L f, g ∈ L ∨ g = f := by
  intro g hg
  unfold withF at hg
  split at hg
  · exact runW_of f L g hg
  · rcases List.mem_append.1 hg with hg | hg
    · exact runW_of f L g hg
    · exact .inr (List.mem_singleton.1 hg)
theorem withsF_of (L : List Fld) : ∀ M : List Fld, ∀ g ∈ withsF L M, g ∈ L ∨ g ∈ M := by
  refine snoc_ind (fun g hg => .inl hg) (fun M f ih => ?_)
  intro g hg
  rw [withsF_snoc] at hg
  rcases withF_of _ _ g hg with h | h
  · rcases ih g h with h1 | h1
    · exact .inl h1
    · exact .inr (by simp [h1])
  · exact .inr (by simp [h])
theorem withsF_len (L : List Fld) : ∀ M : List Fld, (withsF L M).length ≤ L.length + M.length := by
  refine snoc_ind (by simp [withsF]) (fun M f ih => ?_)
  rw [withsF_snoc]
  have h := withF_len (withsF L M) f
  simp; omega
theorem outsF_mem {L : List Fld} {ns : List (List UInt8)} {f : Fld} (h : f ∈ outsF L ns) : f ∈ L := (List.mem_filter.1 h).1
theorem outsF_len (L : List Fld) (ns : List (List UInt8)) : (outsF L ns).length ≤ L.length := List.length_filter_le _ _
end Go.Pantry
