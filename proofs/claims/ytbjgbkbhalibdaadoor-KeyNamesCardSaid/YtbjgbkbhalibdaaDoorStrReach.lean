/-
  What the reach of a row says of a slice of texts: how long each of them is. No program is imported.
-/
import Derived.Test.YtbjgbkbhalibdaaDoorCardAll
namespace Go.Pantry
open Go.RowKit Go.ChangeShapes Go.WideShapes Go.ChangeAt Go.Deep

theorem weights_all_str {H : Type} {P : Program} {e : TypeId} {z : Nat} : ∀ {L : List (DataW H)} {d : DataW H}, d ∈ L → z ∈ d.weights P e → z ∈ DataW.weightsAll P e L
  | [], d, h, _ => absurd h List.not_mem_nil
  | x :: L, d, h, hz => by
    simp only [DataW.weightsAll]
    rcases List.mem_cons.1 h with rfl | h
    · exact List.mem_append_left _ hz
    · exact List.mem_append_right _ (weights_all_str h hz)
theorem strings_reach {H : Type} {enc : TypeId × Value → H} {P : Program} {t e : TypeId} (ht : P.underlying t = some (.slice e)) (he : P.underlying e = some .string) (hc : P.cellsOf e = 1)
    {W : World} {v : Value} {d : DataW H} {ps : List MemPlace} (h : DataW.Trod enc P W 0 (fun _ => true) true t v d ps) {B : Nat} (hz : ∀ x ∈ d.weights P t, x ≤ B) {l : List (List UInt8)} (hL : Reads W v (l.map strV)) :
    ∀ x ∈ l, x.length ≤ B := by
  intro x hx
  obtain ⟨i, hi, hix⟩ := List.getElem_of_mem hx
  have hix2 : l[i]? = some x := by rw [List.getElem?_eq_getElem hi, hix]
  obtain ⟨ao, cap, rfl⟩ := hL.strs
  obtain ⟨b, off, rfl, hcell⟩ := hL.str hix2
  obtain ⟨fuel, hf⟩ := h
  rcases open_strings ht he hc hf with ⟨hcs, _⟩ | ⟨a, len', cap', ss, hcs, _, hl, hm, hzs, hxx, hcl, hws⟩
  · simp [Value.cells] at hcs
  · simp [Value.cells] at hcs
    obtain ⟨rfl, rfl, rfl⟩ := hcs
    have hlen : l.length ≤ ss.length := by rw [hzs]; split <;> omega
    have h1 := hcl i (by omega)
    rw [addAt2] at h1
    rw [hcell] at h1
    have h2 : ss[i]'(by omega) = ⟨x.toArray⟩ := by
      have h3 : ss.getD i ByteArray.empty = ss[i]'(by omega) := by rw [List.getD_eq_getElem?_getD, List.getElem?_eq_getElem (by omega)]; rfl
      rw [h3] at h1
      injection h1 with h1
      injection h1 with h1
      exact h1.symm
    have hd := congrArg Prod.fst hxx
    simp only at hd
    subst hd
    refine hz _ ?_
    simp only [DataW.weights, ht]
    refine List.mem_cons_of_mem _ (List.mem_append_left _ (weights_all_str (d := .lit (.string x)) ?_ (by simp [DataW.weights])))
    unfold strs
    rw [List.mem_map]
    refine ⟨ss[i]'(by omega), ?_, by rw [h2]⟩
    rw [List.mem_take_iff_getElem]
    exact ⟨i, by omega, rfl⟩
end Go.Pantry
