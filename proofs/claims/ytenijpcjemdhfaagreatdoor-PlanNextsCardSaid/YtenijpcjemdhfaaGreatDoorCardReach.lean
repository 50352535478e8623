/-
  What the reach of a row says of a table: how many rules it holds, and how many names each of them. No program is imported.
-/
import Derived.Test.YtenijpcjemdhfaaGreatDoorCardConf
namespace Go.Pantry
open Go.RowKit Go.ChangeShapes Go.WideShapes Go.ChangeAt Go.Deep

theorem weights_all {H : Type} {P : Program} {e : TypeId} {z : Nat} : ∀ {L : List (DataW H)} {d : DataW H}, d ∈ L → z ∈ d.weights P e → z ∈ DataW.weightsAll P e L
  | [], d, h, _ => absurd h List.not_mem_nil
  | x :: L, d, h, hz => by
    simp only [DataW.weightsAll]
    rcases List.mem_cons.1 h with rfl | h
    · exact List.mem_append_left _ hz
    · exact List.mem_append_right _ (weights_all h hz)
/-- a slice's cell: its length -/
theorem slice_weight {H : Type} {enc : TypeId × Value → H} {P : Program} {W : World} {base : Nat} {sp : Nat → Bool} {held : Bool} {n : Nat} {t e : TypeId} {ao : Option Addr} {len cap B : Nat} {x : DataW H × List MemPlace} (ht : P.underlying t = some (.slice e))
    (h : DataW.trod enc P W base sp held n t [.slice ao len cap] = some x) (hz : ∀ z ∈ x.1.weights P t, z ≤ B) : len * P.bytesOf e ≤ B := by
  rcases open_slice ht h with ⟨hcs, _⟩ | ⟨a, len', cap', m, n', D, Pl, hcs, hb, hl, hm, hmm, rfl, hx⟩
  · injection hcs with hcs _
    injection hcs with _ h2 _
    subst h2
    simp
  · injection hcs with hcs _
    injection hcs with _ h2 _
    subst h2
    have h3 := hz _ (by simp only [DataW.weights, ht]; exact List.mem_cons_self ..)
    simp only [List.length_map, List.length_range] at h3
    exact Nat.le_trans (Nat.mul_le_mul_right _ (Nat.le_add_right _ _)) h3
/-- a slice of rules: how many, and how many names -/
theorem rules_weight {H : Type} {enc : TypeId × Value → H} {P : Program} {W : World} {base : Nat} {sp : Nat → Bool} {held : Bool} {n : Nat} {t r u : TypeId} {g0 g1 f0 f1 f2 f3 f4 f5 f6 : Field} {V : Value} {B : Nat} {x : DataW H × List MemPlace}
    (ht : P.underlying t = some (.slice r)) (hr : P.underlying r = some (.struct #[g0, g1])) (cr : P.cellsOf r = 8) (k0 : g0.offset = 0) (k1 : g1.offset = 7)
    (T : SiteT P g0.type u f0 f1 f2 f3 f4 f5 f6) (h : DataW.trod enc P W base sp held n t [V] = some x) (hz : ∀ z ∈ x.1.weights P t, z ≤ B) {L : List RuleZ} (hL : ReadsR W V L) :
    L.length * P.bytesOf r ≤ B ∧ ∀ y ∈ L, y.1.heads.length * P.bytesOf u ≤ B := by
  obtain ⟨ao, cap, rfl, hcell⟩ := hL.form
  refine ⟨slice_weight ht h hz, fun y hy => ?_⟩
  obtain ⟨i, hi, hiy⟩ := List.getElem_of_mem hy
  have hiy2 : L[i]? = some y := by rw [List.getElem?_eq_getElem hi, hiy]
  obtain ⟨b, off, rfl, hc⟩ := hcell i y hiy2
  rcases open_slice ht h with ⟨hcs, _⟩ | ⟨a, len', cap', m, n', D, Pl, hcs, hb, hl, hm, hmm, rfl, hx⟩
  · injection hcs with hcs _
    injection hcs with h1 _ _
    cases h1
  · injection hcs with hcs _
    injection hcs with h1 h2 _
    injection h1 with h1
    subst h1 h2
    have hlm : L.length ≤ m := by rw [hmm]; split <;> omega
    obtain ⟨cs', h1, h2⟩ := hx i (by omega)
    have hD : ∀ z ∈ (D i).weights P r, z ≤ B := fun z hz2 => hz z (by
      simp only [DataW.weights, ht]
      exact List.mem_cons_of_mem _ (List.mem_append_left _ (weights_all (List.mem_map.2 ⟨i, List.mem_range.2 hi, rfl⟩) hz2)))
    obtain ⟨xs, k, hk, hxy, hcl, hxl, hff⟩ := DataW.trod_struct hr h2
    have hDi : D i = .agg (xs.map (·.1)) := congrArg Prod.fst hxy
    have q0 := hff 0 g0 rfl
    obtain ⟨z0, hz0⟩ : ∃ y, xs[0]? = some y := ⟨xs[0]'(by rw [hxl]; exact of_decide_eq_true rfl), List.getElem?_eq_getElem (by rw [hxl]; exact of_decide_eq_true rfl)⟩
    rw [hz0, k0, T.ce] at q0
    have hw0 : ∀ z ∈ z0.1.weights P g0.type, z ≤ B := fun z hz2 => hD z (by
      rw [hDi]
      simp only [DataW.weights, hr]
      exact DataW.weights_mem_each (j := 0) (t := g0.type) rfl (by rw [List.getElem?_map, hz0]; rfl) z hz2)
    obtain ⟨ys, k', hk', hyy, hyl, hyl2, hgg⟩ := DataW.trod_struct T.st q0
    have q6 := hgg 6 f6 rfl
    obtain ⟨o6, c6⟩ := hone_of T.one 6 f6 rfl
    obtain ⟨z6, hz6⟩ : ∃ y, ys[6]? = some y := ⟨ys[6]'(by rw [hyl2]; exact of_decide_eq_true rfl), List.getElem?_eq_getElem (by rw [hyl2]; exact of_decide_eq_true rfl)⟩
    rw [hz6, o6, c6] at q6
    have hw6 : ∀ z ∈ z6.1.weights P f6.type, z ≤ B := fun z hz2 => hw0 z (by
      rw [show z0.1 = .agg (ys.map (·.1)) from congrArg Prod.fst hyy]
      simp only [DataW.weights, T.st]
      exact DataW.weights_mem_each (j := 6) (t := f6.type) rfl (by rw [List.getElem?_map, hz6]; rfl) z hz2)
    rw [cr] at h1 hcl
    obtain ⟨_, hlen, hcell2⟩ := World.cells?_some h1
    have e6 := hcell2 6 (by omega)
    rw [add_add, add_none] at e6
    have e6' := hc 6 y.2.1 rfl
    rw [show off + i * 8 + 6 = off + (i * 8 + 6) by omega] at e6'
    rw [e6'] at e6
    obtain ⟨ah, ch, eh⟩ := (hL.heads y hy).form
    rw [List.length_map] at eh
    rw [eh] at e6
    have hcs6 : (((cs'.drop 0).take 7).drop 6).take 1 = [.slice ah y.1.heads.length ch] := by
      have h6 : cs'[6]? = some (.slice ah y.1.heads.length ch) := e6.symm
      rw [List.drop_zero]
      have h7 : ((cs'.take 7).drop 6)[0]? = some (.slice ah y.1.heads.length ch) := by
        rw [List.getElem?_drop, List.getElem?_take]; simpa using h6
      cases hq : (cs'.take 7).drop 6 with
      | nil => rw [hq] at h7; cases h7
      | cons v vs =>
        rw [hq] at h7
        cases h7
        rfl
    rw [hcs6] at q6
    exact slice_weight T.s6 q6 hw6
/-- An argument that is a table. -/
theorem table_reach {H : Type} {enc : TypeId × Value → H} {P : Program} {c r u : TypeId} {k0 k1 g0 g1 f0 f1 f2 f3 f4 f5 f6 : Field} (hs : P.underlying c = some (.struct #[k0, k1])) (hone : oneCellFields P #[k0, k1] = true) (hC : P.cellsOf c = 2)
    (ht : P.underlying k1.type = some (.slice r)) (hr : P.underlying r = some (.struct #[g0, g1])) (cr : P.cellsOf r = 8) (o0 : g0.offset = 0) (o1 : g1.offset = 7)
    (T : SiteT P g0.type u f0 f1 f2 f3 f4 f5 f6)
    {W : World} {base B : Nat} {g : Int} {V : Value} {d : DataW H} {ps : List MemPlace} (hok : Value.okWide P W .any base c (.agg #[.int .i64 g, V])) (h : DataW.Trod enc P W 0 (fun _ => true) true c (.agg #[.int .i64 g, V]) d ps) (hz : ∀ z ∈ d.weights P c, z ≤ B) {L : List RuleZ} (hL : ReadsR W V L) :
    L.length * P.bytesOf r ≤ B ∧ ∀ y ∈ L, y.1.heads.length * P.bytesOf u ≤ B := by
  obtain ⟨fuel, hf⟩ := h
  obtain ⟨xs, k, hk, hxy, hcl, hxl, hff⟩ := DataW.trod_struct hs hf
  obtain ⟨q1, c1⟩ := hone_of hone 1 k1 rfl
  have g1' := hff 1 k1 rfl
  obtain ⟨z1, hz1⟩ : ∃ y, xs[1]? = some y := ⟨xs[1]'(by rw [hxl]; exact of_decide_eq_true rfl), List.getElem?_eq_getElem (by rw [hxl]; exact of_decide_eq_true rfl)⟩
  rw [hz1, q1, c1] at g1'
  have hw1 : ∀ z ∈ z1.1.weights P k1.type, z ≤ B := fun z hz2 => hz z (by
    rw [show d = .agg (xs.map (·.1)) from congrArg Prod.fst hxy]
    simp only [DataW.weights, hs]
    exact DataW.weights_mem_each (j := 1) (t := k1.type) rfl (by rw [List.getElem?_map, hz1]; rfl) z hz2)
  exact rules_weight ht hr cr o0 o1 T (by simpa [Value.cells] using g1') hw1 hL
end Go.Pantry
