/-
  What the walks of layers 15 and 16 say of a disk: its representation, what a call that writes leaves.
-/
import Derived.Test.YtgdeiokaicjkdaaInfo
import Derived.Test.YtgdeiokaicjkdaaPureAll2
import Derived.Test.YtgdeiokaicjkdaaPureAll3
import Derived.Test.YtgdeiokaicjkdaaPureDisk2
set_option linter.unusedVariables false
set_option linter.unusedSimpArgs false
namespace Go.Pantry
open Go.RowKit
/-- a row of the call's own whose elements are of one cell: where it lies, and its cells -/
theorem own1_cells {w : World} {B : Nat} {e : TypeId} {v : Value} {n : Nat} {xs : List Value} (h : w.ownsRow B e 1 v n xs) (hn : 0 < n) :
    ∃ g cap, v = .slice (some ⟨g, 0, none⟩) n cap ∧ xs.length = n ∧ (∀ (j : Nat) (u : Value), xs[j]? = some u → w.cell? ⟨g, j, none⟩ = some u) ∧ (∀ j, w.frozen? ⟨g, j, none⟩ = false) := by
  rcases h.2 with ⟨hv, rfl⟩ | ⟨g', cap', cur, hv, hb, hg, hnc, hcm, hcs, htake⟩
  · omega
  · refine ⟨g', cap', hv, by rw [h.1, Nat.mul_one], fun j u hj => ?_, fun j => ?_⟩
    · have hr : rowIs w g' cur e := hg
      rw [hr.cell]
      have hj2 : (cur.toList.take (n * 1))[j]? = some u := by rw [htake]; exact hj
      rw [List.getElem?_take] at hj2
      split at hj2
      · simpa using hj2
      · cases hj2
    · have hr : rowIs w g' cur e := hg
      exact hr.free j
/-- what is read stays, if its block does, or if it is empty -/
theorem reads_stayS {X : Nat → Prop} {w w' : World} {v : Value} {xs : List Value} (h : Reads w v xs) (hk : Kept X w w') (hx : xs ≠ [] → In (fun k => ¬ X k) v) : Reads w' v xs := by
  by_cases he : xs = []
  · subst he
    obtain ⟨ao, cap, hv, -, hz⟩ := h
    exact ⟨ao, cap, hv, (fun j u hj => by cases hj), hz⟩
  · exact reads_kept h hk (hx he)
/-- a block that is read lies there -/
theorem reads_ltS {w : World} {v : Value} {xs : List Value} (h : Reads w v xs) (hx : xs ≠ []) : In (fun k => k < w.heap.size) v := fun k hk => by
  obtain ⟨ao, cap, rfl, hc, -⟩ := h
  cases xs with
  | nil => exact absurd rfl hx
  | cons x xs =>
    obtain ⟨b, off, rfl, hcell⟩ := hc 0 x rfl
    cases hk
    exact World.block_lt_of_cell? w _ hcell
theorem own1_form {w : World} {B : Nat} {e : TypeId} {size : Nat} {v : Value} {n : Nat} {xs : List Value} (h : w.ownsRow B e size v n xs) : ∃ ao c, v = .slice ao n c := by
  rcases h.2 with ⟨hv, rfl⟩ | ⟨g', cap', cur, hv, _⟩
  · exact ⟨none, 0, hv⟩
  · exact ⟨_, _, hv⟩
end Go.Pantry
namespace Go.Proofs.Ytgdeiokaicjkdaa
open Go.RowKit Go.Pantry

abbrev In15 (z : Int) : Prop := -9223372036854775808 ≤ z ∧ z ≤ 9223372036854775807
/-- a disk's representation: world, box, its blocks, what it is -/
abbrev Rp := World → Nat → (Nat → Prop) → DiskM → Prop
/-- what a call that writes leaves -/
def WritPost (R : Rp) (w : World) (g : Nat) (F : Nat → Prop) (m : DiskM) (e : Ending) (w' : World) : Prop :=
  ∃ F', R w' g F' m ∧ Kept F w w' ∧ ∀ k, F' k → F k ∨ w.heap.size ≤ k
/-- a disk that the call made, since the world w0 -/
structure Dk (R : Rp) (w0 w : World) (g : Nat) (F : Nat → Prop) (m : DiskM) : Prop where
  rep : R w g F m
  lo : ∀ k, F k → w0.heap.size ≤ k
  bl : Below w0.heap.size w0 w
theorem Dk.wrote {R : Rp} {w0 w w' : World} {g : Nat} {F : Nat → Prop} {m : DiskM} {m' : DiskM} {e : Ending} (h : Dk R w0 w g F m) (hp : WritPost R w g F m' e w') : ∃ F', Dk R w0 w' g F' m' ∧ Kept F w w' ∧ ∀ k, F' k → F k ∨ w.heap.size ≤ k := by
  obtain ⟨F', h1, h2, h3⟩ := hp
  refine ⟨F', ⟨h1, fun k hk => ?_, h.bl.trans (h2.below (fun k hk _ => h.lo k hk) h.bl.size)⟩, h2, h3⟩
  rcases h3 k hk with e | e
  · exact h.lo k e
  · have := h.bl.size; omega
end Go.Proofs.Ytgdeiokaicjkdaa
