/-
  Sites whose numbers are any; slices of sites that are only read. No program is imported.
-/
import Derived.Test.YtffenndchmcncaaGreatDoorPureConf3
namespace Go.Pantry
open Go.RowKit

/-- a site of any numbers -/
structure SiteZ where
  host : List UInt8
  origin : Int
  min : Int
  max : Int
  query : Bool
  keep : Bool
  heads : List (List UInt8)
deriving DecidableEq
def SiteM.z (s : SiteM) : SiteZ := ⟨s.host, s.origin, s.min, s.max, s.query, s.keep, s.heads⟩
abbrev rowZ (hv : Value) (s : SiteZ) : Array Value := #[strV s.host, .int .i64 s.origin, .int .i64 s.min, .int .i64 s.max, .bool s.query, .bool s.keep, hv]
def rowsZ (L : List (SiteZ × Value)) : List Value := L.flatMap fun x => (rowZ x.2 x.1).toList
theorem rowsZ_len : ∀ L : List (SiteZ × Value), (rowsZ L).length = 7 * L.length
  | [] => rfl
  | x :: L => by
    have := rowsZ_len L
    unfold rowsZ at this ⊢
    rw [List.flatMap_cons, List.length_append, this, List.length_cons]
    simp; omega
theorem rowsZ_at : ∀ (L : List (SiteZ × Value)) (j i : Nat) (x : SiteZ × Value), L[j]? = some x → i < 7 → (rowsZ L)[j * 7 + i]? = (rowZ x.2 x.1)[i]?
  | [], j, i, x, h, _ => by cases h
  | y :: L, 0, i, x, h, hi => by
    cases h
    unfold rowsZ
    rw [List.flatMap_cons, Nat.zero_mul, Nat.zero_add, List.getElem?_append_left (by simpa using hi), Array.getElem?_toList]
  | y :: L, j + 1, i, x, h, hi => by
    have := rowsZ_at L j i x (by simpa using h) hi
    unfold rowsZ at this ⊢
    rw [List.flatMap_cons, List.getElem?_append_right (by simp; omega), ← this]
    congr 1
    simp; omega
theorem rowsZ_snoc (L : List (SiteZ × Value)) (x : SiteZ × Value) : rowsZ (L ++ [x]) = rowsZ L ++ (rowZ x.2 x.1).toList := by
  unfold rowsZ; rw [List.flatMap_append]; simp
/-- v is a slice whose elements are the sites L, each with its heads' slice -/
structure ReadsP (w : World) (v : Value) (L : List (SiteZ × Value)) : Prop where
  form : ∃ ao cap, v = .slice ao L.length cap ∧ ∀ (j : Nat) x, L[j]? = some x → ∃ b off, ao = some ⟨b, off, none⟩ ∧ ∀ (i : Nat) u, (rowZ x.2 x.1)[i]? = some u → w.cell? ⟨b, off + j * 7 + i, none⟩ = some u
  heads : ∀ x ∈ L, Reads w x.2 (x.1.heads.map strV)
theorem ReadsP.below {w w' : World} {v : Value} {L : List (SiteZ × Value)} (h : ReadsP w v L) (hb : Below w.heap.size w w') : ReadsP w' v L := by
  obtain ⟨ao, cap, hv, hc⟩ := h.form
  refine ⟨⟨ao, cap, hv, fun j x hj => ?_⟩, fun x hx => (h.heads x hx).below hb⟩
  obtain ⟨b, off, ha, hcell⟩ := hc j x hj
  exact ⟨b, off, ha, fun i u hu => kept (hcell i u hu) hb⟩
theorem ReadsP.at_ {w : World} {ao : Option Addr} {n cap : Nat} {L : List (SiteZ × Value)} (h : ReadsP w (.slice ao n cap) L) {j : Nat} {x : SiteZ × Value} (hj : L[j]? = some x) :
    ∃ b off, ao = some ⟨b, off, none⟩ ∧ ∀ (i : Nat) u, (rowZ x.2 x.1)[i]? = some u → w.cell? ⟨b, off + j * 7 + i, none⟩ = some u := by
  obtain ⟨ao', cap', hv, hc⟩ := h.form
  cases hv
  exact hc j x hj
theorem ReadsP.nil (w : World) (cap : Nat) : ReadsP w (.slice none 0 cap) [] := ⟨⟨none, cap, rfl, fun j x h => by cases h⟩, fun x h => absurd h List.not_mem_nil⟩
theorem readsP_own {w : World} {B : Nat} {e : TypeId} {v : Value} {n : Nat} {L : List (SiteZ × Value)} (h : w.ownsRow B e 7 v n (rowsZ L)) (hh : ∀ x ∈ L, Reads w x.2 (x.1.heads.map strV)) : ReadsP w v L := by
  have hl : n = L.length := by have h1 := h.1; rw [rowsZ_len] at h1; omega
  refine ⟨?_, hh⟩
  rcases h.2 with ⟨rfl, hn⟩ | ⟨g, cap, cur, rfl, hb, hg, hnc, hcm, hcs, htake⟩
  · refine ⟨none, 0, by rw [← hl, hn], fun j x hj => ?_⟩
    have : j < L.length := (List.getElem?_eq_some_iff.1 hj).1
    omega
  · refine ⟨some ⟨g, 0, none⟩, cap, by rw [hl], fun j x hj => ⟨g, 0, rfl, fun i u hu => ?_⟩⟩
    have hi : i < 7 := by
      by_cases e : i < 7
      · exact e
      · have : (rowZ x.2 x.1)[i]? = none := Array.getElem?_eq_none (by simp; omega)
        rw [this] at hu; cases hu
    have := h.cells (g := g) rfl (j * 7 + i) u (by rw [rowsZ_at L j i x hj hi]; exact hu)
    rw [addAt2] at this
    rw [show 0 + j * 7 + i = 0 + (j * 7 + i) by omega]
    exact this
end Go.Pantry
