/-
  Several texts in one: MaxCut, MaxOk.
-/
import Derived.Test.YtefplhkjcclppaaGreatDoorShelf
import Derived.Test.YtefplhkjcclppaaGreatDoorPureAll1
import Derived.Test.YtefplhkjcclppaaGreatDoorPureAll2
import Derived.HandedShaped
import Derived.Shelf.Vars
/-
  What the library's searching asks of the world: internal/bytealg.MaxLen holds an integer: it follows from the world's shape; strings.Cut, Split in the words of layer 5's mathematics.
-/
namespace Go.Proofs.YtefplhkjcclppaaGreatDoor
open Go.RowKit Go.Pantry

def MaxOk (w : World) : Prop := ∃ m, w.cell? ⟨0, 0, none⟩ = some (.int .i64 m)
theorem MaxOk.below {w w' : World} (h : MaxOk w) (hb : Below w.heap.size w w') : MaxOk w' := by
  obtain ⟨m, hm⟩ := h
  exact ⟨m, kept hm hb⟩
def cutT (sep e : List UInt8) : List UInt8 × List UInt8 × Bool := match findL sep e with | none => (e, [], false) | some i => (e.take i, e.drop (i + sep.length), true)
theorem cut_cutT (e sep : List UInt8) : Lib.cut e sep = cutT sep e := by
  unfold Lib.cut cutT
  cases hf : findL sep e with
  | none => rw [index_no hf]; rfl
  | some i =>
    rw [index_at hf]
    have h0 : ((0 : Int) ≤ (i : Int)) = True := by simp
    simp
theorem Cut2_any (e sep : List UInt8) (w : World) (hm : MaxOk w) (hs : e.length < 4294967281) :
    Calls Tryz.prog 51 #[strV e, strV sep] w fun r w' => r = .returned (.tuple #[strV (cutT sep e).1, strV (cutT sep e).2.1, .bool (cutT sep e).2.2]) ∧ Below w.heap.size w w' := by
  obtain ⟨m, hm⟩ := hm
  have c := Tryz.strings_Cut ⟨e.toArray⟩ ⟨sep.toArray⟩ m w (by rw [szL]; exact hs) hm
  rw [dtL, dtL, cut_cutT] at c
  refine c.mono ?_
  rintro r w' ⟨rfl, n, rfl⟩
  exact ⟨rfl, drewN_below2 _ _⟩
theorem strs_of (L : List ByteArray) : L.map Value.string = (L.map (·.data.toList)).map strV := by
  rw [List.map_map]
  refine List.map_congr_left fun x _ => ?_
  show Value.string x = Value.string ⟨x.data.toList.toArray⟩
  rw [Lib.mk_data]
theorem Split2_any (e sep : List UInt8) (w : World) (hsep : sep ≠ []) (hm : MaxOk w) (hs : e.length < 4294967281) :
    Calls Tryz.prog 52 #[strV e, strV sep] w fun r w' => r = .returned (.slice (some ⟨w.heap.size, 0, none⟩) (piecesL sep e.length e).length (piecesL sep e.length e).length) ∧ w' = w.alloc (.cells ((piecesL sep e.length e).map strV).toArray 9) := by
  obtain ⟨m, hm⟩ := hm
  have h1 : 1 ≤ (⟨sep.toArray⟩ : ByteArray).size := by rw [szL]; exact List.length_pos_iff.2 hsep
  have c := Tryz.strings_Split ⟨e.toArray⟩ ⟨sep.toArray⟩ m w (by rw [szL]; exact hs) hm h1
  have hl := Lib.splitB_all ⟨sep.toArray⟩ h1 0 _ ⟨e.toArray⟩ rfl
  have hd := Lib.splitB_data ⟨sep.toArray⟩ 0 (Lib.countB ⟨e.toArray⟩ ⟨sep.toArray⟩) ⟨e.toArray⟩
  have hp : Lib.splitK sep 0 (Lib.countB ⟨e.toArray⟩ ⟨sep.toArray⟩) e = piecesL sep e.length e := by
    rw [splitK_pieces]
    have := pieces_count hsep e.length e (Nat.le_refl _)
    rw [← this]
  rw [dtL, dtL, hp] at hd
  rw [strs_of, hd] at c
  have hl2 : (piecesL sep e.length e).length = Lib.countB ⟨e.toArray⟩ ⟨sep.toArray⟩ + 1 := by rw [← hd, List.length_map, hl]
  rw [← hl2] at c
  exact c
end Go.Proofs.YtefplhkjcclppaaGreatDoor
namespace Go.Proofs.YtefplhkjcclppaaGreatDoor
open Go.RowKit Go.Pantry
theorem maxOk_of_shaped {w : World} (h : w.ShapedOpen Tryz.prog) : MaxOk w :=
  cell_of_shapedOpen_int (t := 3) (zero := #[.int .i64 0]) h (of_decide_eq_true (by kernel_rfl)) (by kernel_rfl) rfl (by kernel_rfl) (by kernel_rfl) Tryz.underlying3
end Go.Proofs.YtefplhkjcclppaaGreatDoor
/-
  strings.SplitN in the words of layer 5's mathematics.
-/
namespace Go.Proofs.YtefplhkjcclppaaGreatDoor
open Go.RowKit Go.Pantry

theorem SplitN3_any (e sep : List UInt8) (w : World) (hsep : sep ≠ []) (hm : MaxOk w) (hs : e.length < 4294967281) :
    Calls Tryz.prog 72 #[strV e, strV sep, .int .i64 3] w fun r w' => ∃ N, r = .returned (.slice (some ⟨w.heap.size, 0, none⟩) (piecesL sep 2 e).length N) ∧ (∀ (j : Nat) a, (piecesL sep 2 e)[j]? = some a → w'.cell? ⟨w.heap.size, j, none⟩ = some (strV a)) ∧ Below w.heap.size w w' := by
  obtain ⟨m, hm⟩ := hm
  have h1 : 1 ≤ (⟨sep.toArray⟩ : ByteArray).size := by rw [szL]; exact List.length_pos_iff.2 hsep
  have c := Tryz.strings_SplitN ⟨e.toArray⟩ ⟨sep.toArray⟩ 3 m w (by rw [szL]; exact hs) hm h1 (by decide) (by decide)
  rw [szL] at c
  have hd := Lib.splitB_data ⟨sep.toArray⟩ 0 (min 3 (e.length + 1) - 1) ⟨e.toArray⟩
  have hp : Lib.splitK sep 0 (min 3 (e.length + 1) - 1) e = piecesL sep 2 e := by
    rw [splitK_pieces]
    by_cases h : 2 ≤ e.length
    · rw [show min 3 (e.length + 1) - 1 = 2 by omega]
    · rw [show min 3 (e.length + 1) - 1 = e.length by omega]
      exact pieces_fuel hsep e.length 2 e (Nat.le_refl _) (by omega)
  rw [dtL, dtL, hp] at hd
  refine c.mono ?_
  rintro r w' ⟨rfl, rfl⟩
  refine ⟨min 3 (e.length + 1), ?_, fun j a hj => ?_, below_alloc _ _⟩
  · rw [← hd, List.length_map]
  · rw [World.cell?_alloc_at _ _ _ _ rfl]
    rw [← hd] at hj
    unfold Lib.cellsOf
    rw [strs_of]
    have hjl := (List.getElem?_eq_some_iff.1 hj).1
    rw [List.getElem?_toArray, List.getElem?_append_left (by rw [List.length_map]; exact hjl), List.getElem?_map, hj]
    rfl
end Go.Proofs.YtefplhkjcclppaaGreatDoor
