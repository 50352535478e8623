/-
  Two configs' sites, one behind the other: the parts of a region that draws its order.
-/
import Derived.Test.YtbibgnflkgafiaaGreatDoorLaw09B
import Derived.Test.YtbibgnflkgafiaaGreatDoorHeldB
namespace Go.Proofs.YtbibgnflkgafiaaGreatDoor
open Go.RowKit Go.Pantry

theorem _root_.Go.Pantry.ReadsP.cells {w : World} {ao : Option Addr} {n c : Nat} {L : List (SiteZ × Value)} (h : ReadsP w (.slice ao n c) L) (j : Nat) (u : Value) (hj : (rowsZ L)[j]? = some u) :
    ∃ b off, ao = some ⟨b, off, none⟩ ∧ w.cell? ⟨b, off + j, none⟩ = some u := by
  have h1 : j < (rowsZ L).length := (List.getElem?_eq_some_iff.1 hj).1
  rw [rowsZ_len] at h1
  obtain ⟨x, hx⟩ : ∃ x, L[j / 7]? = some x := ⟨L[j / 7]'(by omega), List.getElem?_eq_getElem (by omega)⟩
  obtain ⟨b, off, ha, hc⟩ := h.at_ hx
  have h2 := rowsZ_at L (j / 7) (j % 7) x hx (by omega)
  rw [show j / 7 * 7 + j % 7 = j by omega, hj] at h2
  refine ⟨b, off, ha, ?_⟩
  have := hc (j % 7) u h2.symm
  rwa [show off + j / 7 * 7 + j % 7 = off + j by omega] at this
theorem _root_.Go.Pantry.ReadsP.one {w : World} {v : Value} {L : List (SiteZ × Value)} (h : ReadsP w v L) : ∀ u ∈ rowsZ L, u.oneCell' = true := by
  intro u hu
  obtain ⟨x, hx, hu⟩ := List.mem_flatMap.1 hu
  obtain ⟨ao, c, e⟩ := (h.heads x hx).form
  rw [e] at hu
  exact rowZ_one u hu
/-- the sites gathered so far, and the box, once it is there -/
structure Gath (WR W : World) (v : Value) (n : Nat) (L : List (SiteZ × Value)) (o : Option Nat) : Prop where
  b : Below WR.heap.size WR W
  own : W.ownsRow WR.heap.size 42 7 v n (rowsZ L)
  row : ∀ g, o = some g → rowIs W g #[.slice none 0 0] 25 ∧ WR.heap.size ≤ g ∧ v.ownBlock ≠ some g
theorem Gath.start {WR W : World} (h : Below WR.heap.size WR W) : Gath WR W (.slice none 0 0) 0 [] none := ⟨h, World.ownsRow_nil _ _ _ _, fun g h => by cases h⟩
theorem Gath.build {WR W : World} {v : Value} {n : Nat} {o : Option Nat} (h : Gath WR W v n [] o) :
    Gath WR (W.alloc (.cells #[] 42)) (.slice (some ⟨W.heap.size, 0, none⟩) 0 0) 0 [] o := by
  refine ⟨h.b.trans ((below_alloc _ _).mono h.b.size), World.ownsRow_lit W #[] 0 h.b.size (by unfold maxLen; omega) rfl, fun g hg => ?_⟩
  obtain ⟨h1, h2, h3⟩ := h.row g hg
  refine ⟨h1.below (below_alloc _ _), h2, fun e => ?_⟩
  have := h1.lt
  simp [Value.ownBlock] at e
  omega
theorem Gath.box {WR W : World} {v : Value} {n : Nat} {L : List (SiteZ × Value)} (h : Gath WR W v n L none) :
    Gath WR (W.alloc (.cells #[.slice none 0 0] 25)) v n L (some W.heap.size) := by
  refine ⟨h.b.trans ((below_alloc _ _).mono h.b.size), h.own.below (below_alloc _ _), fun g hg => ?_⟩
  cases hg
  exact ⟨rowIs_new _ _ _, h.b.size, fun e => by have := (h.own.lt _ e).2; omega⟩
theorem Gath.more {WR W W' : World} {v v' : Value} {n m : Nat} {L M : List (SiteZ × Value)} {o : Option Nat} (h : Gath WR W v n L o)
    (h1 : W'.ownsRow WR.heap.size 42 7 v' (n + m) (rowsZ L ++ rowsZ M)) (h2 : W.grownBy W' v.ownBlock) (h3 : In (fun k => v.ownBlock = some k ∨ W.heap.size ≤ k) v') : Gath WR W' v' (n + m) (L ++ M) o := by
  have kk : Kept (fun k => v.ownBlock = some k) W W' := (Kept.refl (fun k => v.ownBlock = some k) W).grown h2 (fun k hk _ => hk)
  refine ⟨h.b.grown h2 h.b.size (fun k hk => (h.own.lt k hk).1), ?_, fun g hg => ?_⟩
  · unfold rowsZ at h1 ⊢
    rw [List.flatMap_append]; exact h1
  · obtain ⟨r1, r2, r3⟩ := h.row g hg
    refine ⟨(kk.2 g r1.lt r3).trans r1, r2, fun e => ?_⟩
    rcases h3 g e with h4 | h4
    · exact r3 h4
    · have := r1.lt; omega
/-- at the end -/
theorem Gath.done {WR W : World} {ao : Option Addr} {n m c g : Nat} {L : List (SiteZ × Value)} (h : Gath WR W (.slice ao m c) n L (some g)) (hh : ∀ x ∈ L, Reads WR x.2 (x.1.heads.map strV)) :
    Below WR.heap.size WR (W.setCell ⟨g, 0, none⟩ (.slice ao m c)) ∧ rowIs (W.setCell ⟨g, 0, none⟩ (.slice ao m c)) g #[.slice ao m c] 25 ∧ ReadsP (W.setCell ⟨g, 0, none⟩ (.slice ao m c)) (.slice ao m c) L := by
  obtain ⟨r1, r2, r3⟩ := h.row g rfl
  have kk := (Kept.refl (fun k => k = g) W).setCell (i := 0) (.inl rfl) (.slice ao m c)
  have hb : Below WR.heap.size WR (W.setCell ⟨g, 0, none⟩ (.slice ao m c)) := ((Kept.of_below (X := fun k => k = g) h.b).setCell (i := 0) (.inl rfl) (.slice ao m c)).below (fun k hk _ => by omega) (Nat.le_refl _)
  refine ⟨hb, r1.setCell 0 _, readsP_own (ownsRow_kept h.own kk (fun k hk e => r3 (by rw [hk, e]))) (fun x hx => (hh x hx).below hb)⟩
theorem sites_cap {w : World} {B : Nat} {ao : Option Addr} {n c : Nat} {L : List (SiteM × Value)} (h : SitesAt w B (.slice ao n c) L) : ao = none → n = 0 ∧ c = 0 := by
  rintro rfl
  rcases h.own.2 with ⟨hv, _⟩ | ⟨g, cap, cur, hv, _⟩
  · cases hv; exact ⟨rfl, rfl⟩
  · cases hv
end Go.Proofs.YtbibgnflkgafiaaGreatDoor
