/-
  From data to values: a slice of bytes. No program is imported.
-/
import Derived.Test.YtfoghjhdjmapnaaGreatDoorCard
namespace Go.Pantry
open Go.RowKit Go.ChangeShapes Go.WideShapes Go.ChangeAt

/-- numbers that fit a byte are bytes -/
theorem ints_bytes (l : List Int) (h : ∀ x ∈ l, (Lit.int .u8 x).wf = true) : ∃ L : List UInt8, l.map (Value.int .u8) = L.map byteV ∧ L.length = l.length := by
  refine ⟨l.map fun x => UInt8.ofNat x.toNat, ?_, by simp⟩
  rw [List.map_map]
  refine List.map_congr_left fun x hx => ?_
  have h1 : (decide (IntKind.u8.min ≤ x) && decide (x ≤ IntKind.u8.max)) = true := h x hx
  rw [Bool.and_eq_true] at h1
  have h2 : (0 : Int) ≤ x := of_decide_eq_true h1.1
  have h3 : x ≤ 255 := of_decide_eq_true h1.2
  show Value.int .u8 x = Value.int .u8 (((UInt8.ofNat x.toNat).toNat : Nat) : Int)
  rw [UInt8.toNat_ofNat']
  congr 1
  omega
/-- An argument that is a slice of bytes reads as bytes, and has their room. -/
theorem bytes_reads {H : Type} {enc : TypeId × Value → H} {P : Program} {t e : TypeId} (ht : P.underlying t = some (.slice e)) (he : P.underlying e = some (.int .u8)) (hc : P.cellsOf e = 1)
    {W : World} {base : Nat} {v : Value} {d : DataW H} {ps : List MemPlace} (hok : Value.okWide P W .any base t v) (h : DataW.Trod enc P W 0 (fun _ => true) true t v d ps) :
    ∃ L : List UInt8, Reads W v (L.map byteV) ∧ (∀ ao n cap, v = .slice ao n cap → n ≤ cap) ∧ L.length ≤ maxLen := by
  obtain ⟨l, h1, h2, h3⟩ := ints_reads ht he hc hok h
  obtain ⟨L, e2, hl⟩ := ints_bytes l h2
  rw [e2] at h1
  refine ⟨L, h1, fun ao n cap hv => ?_, by omega⟩
  obtain ⟨fuel, hf⟩ := h
  subst hv
  rcases open_ints ht he hc hf with ⟨hcs, _⟩ | ⟨a, len', cap', zs, hcs, _, hl2, _⟩
  · simp [Value.cells] at hcs
    omega
  · simp [Value.cells] at hcs
    omega
end Go.Pantry
