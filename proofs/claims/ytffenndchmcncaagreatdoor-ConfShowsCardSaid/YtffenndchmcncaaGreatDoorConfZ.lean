/-
  What the reader has made, as it is read.
-/
import Derived.Test.YtffenndchmcncaaGreatDoorConfK
import Derived.Test.YtffenndchmcncaaGreatDoorPureAll3
namespace Go.Proofs.YtffenndchmcncaaGreatDoor
open Go.RowKit Go.Pantry

theorem rowZ_one {ao : Option Addr} {n c : Nat} {s : SiteZ} : ∀ u ∈ (rowZ (.slice ao n c) s).toList, u.oneCell' = true := by
  intro u hu
  have := oneSite s.host s.origin s.min s.max s.query s.keep ao n c
  rw [Array.all_eq_true'] at this
  exact this u (by simpa using hu)
/-- what the reader has made, as it is read -/
def zs (L : List (SiteM × Value)) : List (SiteZ × Value) := L.map fun x => (x.1.z, x.2)
theorem siteCells_z : ∀ L : List (SiteM × Value), siteCells L = rowsZ (zs L)
  | [] => rfl
  | x :: L => by
    have := siteCells_z L
    unfold siteCells rowsZ zs at this ⊢
    rw [List.flatMap_cons, List.map_cons, List.flatMap_cons, this]; rfl
theorem SitesAt.readsP {w : World} {B : Nat} {sv : Value} {L : List (SiteM × Value)} (h : SitesAt w B sv L) : ReadsP w sv (zs L) := by
  have ho := h.own
  rw [siteCells_z] at ho
  refine readsP_own ho (fun x hx => ?_)
  obtain ⟨y, hy, rfl⟩ := List.mem_map.1 hx
  exact (h.heads y hy).reads
end Go.Proofs.YtffenndchmcncaaGreatDoor
