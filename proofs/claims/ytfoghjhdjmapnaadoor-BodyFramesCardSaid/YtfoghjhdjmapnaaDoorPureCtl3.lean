/-
  Directives, one by one. No program is imported.
-/
import Derived.Test.YtfoghjhdjmapnaaDoorPureCtl2
import Derived.Test.YtfoghjhdjmapnaaDoorBase3
namespace Go.Pantry
open Go.RowKit

/-- what is said when one directive is added -/
def takeC (c : Ctl) (e : List UInt8) : Ctl :=
  { noStore := c.noStore || lowerL (nameE e) == nNoStore, noCache := c.noCache || lowerL (nameE e) == nNoCache, priv := c.priv || lowerL (nameE e) == nPrivate, pub := c.pub || lowerL (nameE e) == nPublic
    must := c.must || (lowerL (nameE e) == nMust || lowerL (nameE e) == nProxy), only := c.only || lowerL (nameE e) == nOnly
    maxAge := comb false c.maxAge (dirE nMaxAge 0 0 e), shared := comb false c.shared (dirE nShared 0 0 e), minFresh := comb true c.minFresh (dirE nMinFresh farN farN e), maxStale := comb false c.maxStale (dirE nMaxStale 0 farN e) }
theorem ctlE_snoc (E : List (List UInt8)) (e : List UInt8) : ctlE (E ++ [e]) false = takeC (ctlE E false) e := by
  have h : ∀ k, saidE k (E ++ [e]) = (saidE k E || lowerL (nameE e) == k) := fun k => by rw [saidE_append]; simp [saidE]
  unfold ctlE takeC
  simp only [toldE_snoc, h, Bool.or_false]
  congr 1
  cases saidE nMust E <;> cases saidE nProxy E <;> cases (lowerL (nameE e) == nMust) <;> cases (lowerL (nameE e) == nProxy) <;> rfl
/-- which directive is it? -/
theorem name_cases (ln : List UInt8) : ln = nNoStore ∨ ln = nNoCache ∨ ln = nPrivate ∨ ln = nPublic ∨ ln = nMust ∨ ln = nProxy ∨ ln = nOnly ∨ ln = nMaxAge ∨ ln = nShared ∨ ln = nMinFresh ∨ ln = nMaxStale ∨
    ((ln == nNoStore) = false ∧ (ln == nNoCache) = false ∧ (ln == nPrivate) = false ∧ (ln == nPublic) = false ∧ (ln == nMust) = false ∧ (ln == nProxy) = false ∧ (ln == nOnly) = false ∧ (ln == nMaxAge) = false ∧ (ln == nShared) = false ∧ (ln == nMinFresh) = false ∧ (ln == nMaxStale) = false) := by
  by_cases h1 : ln = nNoStore
  · exact .inl h1
  refine .inr ?_
  by_cases h2 : ln = nNoCache
  · exact .inl h2
  refine .inr ?_
  by_cases h3 : ln = nPrivate
  · exact .inl h3
  refine .inr ?_
  by_cases h4 : ln = nPublic
  · exact .inl h4
  refine .inr ?_
  by_cases h5 : ln = nMust
  · exact .inl h5
  refine .inr ?_
  by_cases h6 : ln = nProxy
  · exact .inl h6
  refine .inr ?_
  by_cases h7 : ln = nOnly
  · exact .inl h7
  refine .inr ?_
  by_cases h8 : ln = nMaxAge
  · exact .inl h8
  refine .inr ?_
  by_cases h9 : ln = nShared
  · exact .inl h9
  refine .inr ?_
  by_cases h10 : ln = nMinFresh
  · exact .inl h10
  refine .inr ?_
  by_cases h11 : ln = nMaxStale
  · exact .inl h11
  refine .inr ?_
  have hb : ∀ k : List UInt8, ln ≠ k → (ln == k) = false := fun k h => by simpa using h
  exact ⟨hb _ h1, hb _ h2, hb _ h3, hb _ h4, hb _ h5, hb _ h6, hb _ h7, hb _ h8, hb _ h9, hb _ h10, hb _ h11⟩
/-- an argument that is not given -/
theorem sec_bare (e : List UInt8) (other : Nat) : (if hasE e then secE (argE e) other else other) = secE (argE e) other := by
  by_cases h : (61 : UInt8) ∈ e
  · have : hasE e = true := by simpa [hasE] using h
    rw [this]; rfl
  · obtain ⟨_, h2, h3⟩ := nameE_none h
    rw [h2, h3]; rfl
theorem intO_max (o : Option Nat) (t : Nat) : intO (comb true o (some t)) = max (intO o) (t : Int) := by
  cases o with
  | none => simp only [comb, intO]; omega
  | some y =>
    show ((max y t : Nat) : Int) = _
    simp only [intO]
    omega

/-- what a directive more leaves -/
theorem more_all (A B : List (List UInt8)) :
    (!(ctlE A false).noStore || (ctlE (A ++ B) false).noStore) = true ∧ (!(ctlE A false).noCache || (ctlE (A ++ B) false).noCache) = true ∧ (!(ctlE A false).priv || (ctlE (A ++ B) false).priv) = true ∧ (!(ctlE A false).pub || (ctlE (A ++ B) false).pub) = true
    ∧ (!(ctlE A false).must || (ctlE (A ++ B) false).must) = true ∧ (!(ctlE A false).only || (ctlE (A ++ B) false).only) = true
    ∧ (intO (ctlE A false).maxAge < 0 ∨ (0 ≤ intO (ctlE (A ++ B) false).maxAge ∧ intO (ctlE (A ++ B) false).maxAge ≤ intO (ctlE A false).maxAge))
    ∧ (intO (ctlE A false).shared < 0 ∨ (0 ≤ intO (ctlE (A ++ B) false).shared ∧ intO (ctlE (A ++ B) false).shared ≤ intO (ctlE A false).shared))
    ∧ (intO (ctlE A false).maxStale < 0 ∨ (0 ≤ intO (ctlE (A ++ B) false).maxStale ∧ intO (ctlE (A ++ B) false).maxStale ≤ intO (ctlE A false).maxStale))
    ∧ intO (ctlE A false).minFresh ≤ intO (ctlE (A ++ B) false).minFresh := by
  refine ⟨said_mono _ _ _, ?_, said_mono _ _ _, said_mono _ _ _, ?_, said_mono _ _ _, told_less _ _ _ _ _, told_less _ _ _ _ _, told_less _ _ _ _ _, told_more _ _ _ _ _⟩
  · show (!(saidE nNoCache A || false) || (saidE nNoCache (A ++ B) || false)) = true
    rw [Bool.or_false, Bool.or_false]
    exact said_mono _ _ _
  · show (!(saidE nMust A || saidE nProxy A) || (saidE nMust (A ++ B) || saidE nProxy (A ++ B))) = true
    rw [saidE_append, saidE_append]
    cases saidE nMust A <;> cases saidE nProxy A <;> simp

/-! worlds that differ at one block alone, and behind -/
theorem below_grown {w w' : World} (g : Nat) (h : Below w.heap.size w w') : w.grownBy w' (some g) := ⟨h.os, h.tape, h.output, h.size, fun k hk _ => h.block k hk⟩
theorem grown_refl (w : World) (g : Nat) : w.grownBy w (some g) := ⟨rfl, rfl, rfl, Nat.le_refl _, fun _ _ _ => rfl⟩
theorem grown_drew {w w' : World} {g : Nat} (h : w.grownBy w' (some g)) : w.grownBy w'.drew (some g) := ⟨h.os, h.tape, h.output, h.size, h.block⟩
theorem grown_trans {w w1 w2 : World} {g : Nat} (h : w.grownBy w1 (some g)) (h2 : w1.grownBy w2 (some g)) : w.grownBy w2 (some g) :=
  ⟨h2.os.trans h.os, h2.tape.trans h.tape, h2.output.trans h.output, Nat.le_trans h.size h2.size, fun k hk hne => (h2.block k (Nat.lt_of_lt_of_le hk h.size) hne).trans (h.block k hk hne)⟩
theorem grown_set {w w1 : World} {g : Nat} (h : w.grownBy w1 (some g)) (i : Nat) (v : Value) : w.grownBy (w1.setCell ⟨g, i, none⟩ v) (some g) :=
  ⟨h.os, h.tape, h.output, by have := h.size; simpa [World.setCell] using this, fun k hk hne => (Below.heap_setCell w1 ⟨g, i, none⟩ v k (fun e => hne (by rw [e]))).trans (h.block k hk hne)⟩
theorem grown_below {B : Nat} {w w' : World} {g : Nat} (h : w.grownBy w' (some g)) (hg : B ≤ g) (hB : B ≤ w.heap.size) : Below B w w' :=
  (Below.refl B w).grown h hB (fun k hk => by cases hk; exact hg)
theorem ownsRow_grown {w w' : World} {B g : Nat} {e : TypeId} {size : Nat} {v : Value} {n : Nat} {xs : List Value} (h : w.ownsRow B e size v n xs) (hg : w.grownBy w' (some g)) (hB : g < B) : w'.ownsRow B e size v n xs := by
  refine ⟨h.1, ?_⟩
  rcases h.2 with hn | ⟨g', cap, cur, rfl, hbg, hgg, rest⟩
  · exact .inl hn
  · refine .inr ⟨g', cap, cur, rfl, hbg, ?_, rest⟩
    rw [hg.block g' (Array.getElem?_eq_some_iff.1 hgg).1 (fun e => by injection e; omega)]
    exact hgg
theorem rowIs_grown {w w' : World} {g k : Nat} {cs : Array Value} {t : TypeId} (h : rowIs w k cs t) (hg : w.grownBy w' (some g)) (hk : k ≠ g) : rowIs w' k cs t :=
  (hg.block k h.lt (fun e => hk (by injection e))).trans h
end Go.Pantry
