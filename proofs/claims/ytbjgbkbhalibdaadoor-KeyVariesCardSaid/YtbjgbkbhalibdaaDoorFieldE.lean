/-
  Contracts of package field: Get.
-/
import Derived.Test.YtbjgbkbhalibdaaDoorFieldD
namespace Go.Proofs.YtbjgbkbhalibdaaDoor
open Go.RowKit Go.Pantry

theorem joinC_inter : ∀ l : List (List UInt8), Lib.join l [44, 32] = joinC l
  | [] => rfl
  | [a] => by simp [Lib.join, joinC]
  | a :: b :: r => by
    have h := joinC_inter (b :: r)
    unfold Lib.join at h ⊢
    show [44, 32].intercalate (a :: b :: r) = a ++ 44 :: 32 :: joinC (b :: r)
    rw [← h]
    simp [List.intercalate]
/-- strings.Join of a slice that the call made, with ", " -/
theorem join_made {B : Nat} {e : TypeId} (v : Value) (l : List (List UInt8)) (w : World) (ho : w.ownsRow B e 1 v l.length (l.map strV)) (hl : l.length ≤ 140737488355328) (hj : (joinC l).length ≤ 140737488355328) :
    Calls Tryd.prog 23 #[v, .string ⟨#[44, 32]⟩] w fun e w' => e = .returned (strV (joinC l)) ∧ Below w.heap.size w w' := by
  rcases ho.2 with ⟨rfl, hn⟩ | ⟨g, cap, cur, rfl, hb, hg, hnc, hcm, hcs, htake⟩
  · have : l = [] := List.eq_nil_of_length_eq_zero hn
    subst this
    refine (Tryd.strings_Join_none none 0 ⟨#[44, 32]⟩ w).mono ?_
    rintro e w' ⟨rfl, rfl⟩
    exact ⟨rfl, Below.refl _ _⟩
  · have hx : (l.map fun x => (⟨x.toArray⟩ : ByteArray)).map (·.data.toList) = l := by rw [List.map_map]; exact List.map_id' _
    have hxl : (l.map fun x => (⟨x.toArray⟩ : ByteArray)).length = l.length := by simp
    have c := Tryd.strings_Join g 0 cap (l.map fun x => (⟨x.toArray⟩ : ByteArray)) ⟨#[44, 32]⟩ w (fun j x hx => by
        have h1 := ho.row.cell j (.string x) (by
          rw [List.getElem?_map, Option.map_eq_some_iff] at hx
          obtain ⟨y, hy, rfl⟩ := hx
          rw [List.getElem?_map, hy]; rfl)
        rw [Nat.zero_add]; exact h1) (Array.getElem?_eq_some_iff.1 hg).1 (by omega) (by omega) (by
        rw [hx]
        show (Lib.join l [44, 32]).length ≤ _
        rw [joinC_inter]; exact hj)
    rw [hx, hxl] at c
    refine c.mono ?_
    rintro e w' ⟨rfl, hb'⟩
    refine ⟨?_, hb'⟩
    show Ending.returned (strV (Lib.join l [44, 32])) = _
    rw [joinC_inter]

theorem lGet_any (v : Value) (L : List Fld) (n : ByteArray) (w : World) (hr : Reads2 w v L) (hk : okFs L) (hn : n.size ≤ 100000) :
    Calls Tryd.prog 31 #[v, .string n] w fun e w' => e = .returned (.tuple #[strV (getF L n.data.toList), .bool (!(allF L n.data.toList).isEmpty)]) ∧ Below w.heap.size w w' := by
  have c1 := fun W h => lAll_any v L n W h hk hn
  have hg : getF L n.data.toList = joinC (allF L n.data.toList) := rfl
  have hgl := getF_len (L := L) (n := n.data.toList) (fun f hf => (hk.2 f hf).2) hk.1
  have hal := allF_len L n.data.toList
  have hk1 := hk.1
  generalize allF L n.data.toList = T at c1 hg hal ⊢
  generalize getF L n.data.toList = G at hg hgl ⊢
  have hT : (!T.isEmpty) = decide (0 < T.length) := by cases T <;> simp
  rw [hT]
  subst hg
  have cj := fun W B v h => join_made (B := B) (e := 9) v T W h (by omega) (by omega)
  generalize joinC T = J at cj ⊢
  have C1 := hid c1
  have CJ := hid cj
  have HR := hid hr
  clear c1 cj hr hk hgl hT
  go_enter Tryd.func31, Tryd.ntmps31
  go_wp2_with fail
  refine (C1.out _ HR.out).mono ?_
  rintro e w1 ⟨⟨v', rfl, ho⟩, hb1⟩
  obtain ⟨ao, cap, rfl⟩ := Reads.strs ho.reads
  go_wp2_with fail
  refine (CJ.out _ _ _ ho).mono ?_
  rintro e w2 ⟨rfl, hb2⟩
  go_wp2_with fail
  go_ret2
  exact ⟨rfl, chain2 hb1 hb1.size hb2⟩
end Go.Proofs.YtbjgbkbhalibdaaDoor
