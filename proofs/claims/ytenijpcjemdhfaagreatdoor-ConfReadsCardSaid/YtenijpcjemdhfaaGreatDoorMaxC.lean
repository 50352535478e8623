/-
  What the library's searching asks of the world: internal/bytealg.MaxLen holds an integer: it follows from the world's shape; strings.Cut in the words of layer 5's mathematics.
-/
import Derived.Test.YtenijpcjemdhfaaGreatDoorShelf
import Derived.Test.YtenijpcjemdhfaaGreatDoorPureAll1
import Derived.Test.YtenijpcjemdhfaaGreatDoorPureAll2
import Derived.HandedShaped
import Derived.Shelf.Vars
namespace Go.Proofs.YtenijpcjemdhfaaGreatDoor
open Go.RowKit Go.Pantry

def MaxOk (w : World) : Prop := ∃ m, w.cell? ⟨0, 0, none⟩ = some (.int .i64 m)
theorem MaxOk.below {w w' : World} (h : MaxOk w) (hb : Below w.heap.size w w') : MaxOk w' := by
  obtain ⟨m, hm⟩ := h
  exact ⟨m, kept hm hb⟩
def cutT (sep e : List UInt8) : List UInt8 × List UInt8 × Bool := match findL sep e with | none => (e, [], false) | some i => (e.take i, e.drop (i + sep.length), true)
theorem cut_cutT (e sep : List UInt8) : Lib.cut e sep = cutT sep e := by
  unfold Lib.cut cutT
  cases hf : findL sep e with
  | none => rw [index_no hf]; rfl
  | some i =>
    rw [index_at hf]
    have h0 : ((0 : Int) ≤ (i : Int)) = True := by simp
    simp
theorem Cut2_any (e sep : List UInt8) (w : World) (hm : MaxOk w) (hs : e.length < 4294967281) :
    Calls Tryz.prog 71 #[strV e, strV sep] w fun r w' => r = .returned (.tuple #[strV (cutT sep e).1, strV (cutT sep e).2.1, .bool (cutT sep e).2.2]) ∧ Below w.heap.size w w' := by
  obtain ⟨m, hm⟩ := hm
  have c := Tryz.strings_Cut ⟨e.toArray⟩ ⟨sep.toArray⟩ m w (by rw [szL]; exact hs) hm
  rw [dtL, dtL, cut_cutT] at c
  refine c.mono ?_
  rintro r w' ⟨rfl, n, rfl⟩
  exact ⟨rfl, drewN_below2 _ _⟩
end Go.Proofs.YtenijpcjemdhfaaGreatDoor
namespace Go.Proofs.YtenijpcjemdhfaaGreatDoor
open Go.RowKit Go.Pantry
theorem maxOk_of_shaped {w : World} (h : w.ShapedOpen Tryz.prog) : MaxOk w :=
  cell_of_shapedOpen_int (t := 3) (zero := #[.int .i64 0]) h (of_decide_eq_true (by kernel_rfl)) (by kernel_rfl) rfl (by kernel_rfl) (by kernel_rfl) Tryz.underlying3
end Go.Proofs.YtenijpcjemdhfaaGreatDoor
