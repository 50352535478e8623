/-
  The document's answers of layer 8: Read.
-/
import Derived.Test.YthokpbpnecdgpaaGreatDoorRef8G
import Derived.Test.YthokpbpnecdgpaaGreatDoorRef8H
namespace Go.Proofs.YthokpbpnecdgpaaGreatDoor
open Go.RowKit Go.Pantry

theorem refPlace_any (t : ByteArray) (h : List UInt8) (w : World) (ht : t.size ≤ 40000) (hh : h.length ≤ 40000) :
    Calls Tryz.prog 6 #[.string t, strV h] w fun e w' => e = .returned (.tuple #[placeV (readP t.data.toList h), .bool (readP t.data.toList h).isSome]) ∧ Below w.heap.size w w' := by
  by_cases h7 : t.size < 7
  · have hn : ownL t.data.toList = false := by
      unfold ownL
      rw [beq_eq_false_iff_ne]
      intro h
      have h1 := congrArg List.length h
      unfold lowerL leadL at h1
      rw [List.length_map, List.length_take, size_list] at h1
      simp at h1; omega
    have hr : readP t.data.toList h = placeL h t.data.toList := by unfold readP; rw [hn, if_neg (by decide)]
    rw [hr]
    exact refReadA t h w (by omega) (by omega) (by rw [decide_eq_false_iff_not]; omega)
  · have hx1 := ext_take t 7
    have hx2 := ext_drop t 7
    have cl := fun W => refLower_any (t.extract 0 7) W (by rw [hx1, szL, List.length_take]; omega)
    have hl : (t.extract 0 7).data.toList = t.data.toList.take 7 := by rw [hx1]
    rw [hl] at cl
    have e7 : decide ((7 : Int) ≤ (t.size : Int)) = true := by simp; omega
    by_cases ho : ownL t.data.toList = true
    · have hr : readP t.data.toList h = placeL (apartH (t.data.toList.drop 7)) (apartR (t.data.toList.drop 7)) := by unfold readP; rw [ho, if_pos rfl]
      rw [hr]
      have hL : lowerL (t.data.toList.take 7) = leadL := by unfold ownL at ho; exact beq_iff_eq.1 ho
      rw [hL] at cl
      have hl2 : (t.extract 7 t.size).data.toList = t.data.toList.drop 7 := by rw [hx2]
      have hsz : (t.extract 7 t.size).size = t.size - 7 := by rw [← size_list, hl2, List.length_drop, size_list]
      have ca := fun W => refApart_any (t.extract 7 t.size) W (by omega)
      rw [hl2] at ca
      obtain ⟨l1, l2⟩ := apartR_len (t.data.toList.drop 7)
      rw [List.length_drop, size_list] at l1 l2
      obtain ⟨RB, hRB⟩ : ∃ RB : ByteArray, RB = ⟨(apartR (t.data.toList.drop 7)).toArray⟩ := ⟨_, rfl⟩
      have hd : apartR (t.data.toList.drop 7) = RB.data.toList := by rw [hRB]
      rw [hd]
      have hRs : RB.size ≤ 60000 := by rw [← size_list, ← hd]; omega
      exact refReadC t h _ RB w hRs (by omega) e7 (by omega) (hid cl) (hid (fun W => by rw [hRB]; exact ca W))
    · have hof : ownL t.data.toList = false := by simpa using ho
      have hr : readP t.data.toList h = placeL h t.data.toList := by unfold readP; rw [hof, if_neg (by decide)]
      rw [hr]
      have hL : (lowerL (t.data.toList.take 7) == leadL) = false := hof
      exact refReadB t h _ w (by omega) (by omega) e7 (by omega) (hid cl) (by rw [beq_eq_false_iff_ne] at hL; exact hL) hL
end Go.Proofs.YthokpbpnecdgpaaGreatDoor
