/-
  Package disk: Pending.
-/
import Derived.Test.YtgdeiokaicjkdaaDiskA
import Derived.Test.YtgdeiokaicjkdaaIterShelf
import Derived.Shelf.SlIterI.Nil
import Derived.Shelf.SortM.Plain
import Derived.Shelf.SortM.SortNone
set_option linter.unusedVariables false
set_option linter.unusedSimpArgs false
namespace Go.Proofs.Ytgdeiokaicjkdaa
open Go.RowKit Go.Pantry Go.Maps Go.Sort Go.Shelf

theorem sortsInI (m : Nat) : AnyZI.SortsIn Try.prog Try.sortedI_ren Fence.wide m :=
  ⟨fun blk off cap ss W hH hblk hsz => callsIn_wide.2 (AnyM.slices_Sort_int Try.sortI blk off cap ss W hH hblk hsz),
   fun p cap W => callsIn_wide.2 (AnyM.slices_Sort_int_none Try.sortI p cap W)⟩
theorem mapsKeysI_any (mb : Option Nat) (W : World) : Calls Try.prog 34 #[.map mb] W fun e w' => e = .returned (.func (.func 37) #[] #[.pointer (some ⟨W.heap.size, 0, none⟩)]) ∧ w' = W.alloc (.cells #[.map mb] 59) :=
  callsIn_wide.1 (AnyZI.keys_in Try.keysI Fence.wide 5 trivial rfl mb W)
set_option maxHeartbeats 1000000 in
/-- what was handed back by maps.Keys, sorted -/
theorem sortedKeysI_any {H : Type} (b nn : Nat) (D0 : DataW H) (R : Value → Option (DataW H × List MemPlace)) (w : World) (hown : w.ownsMap Try.prog 3 R b nn D0) (hmax : Maps.size D0 ≤ maxLen) (hbytes : Maps.size D0 * 8 ≤ 140737488355328) :
    Calls Try.prog 33 #[.func (.func 37) #[] #[.pointer (some ⟨w.heap.size, 0, none⟩)]] (w.alloc (.cells #[.map (some b)] 59)) fun e w' => ∃ (v : Value) (ss : List Int), e = .returned v ∧ ss.Perm (intKeys D0) ∧
      w'.ownsRow (w.alloc (.cells #[.map (some b)] 59)).heap.size 3 1 v ss.length ((ss.mergeSort (fun x y => decide (x ≤ y))).map encZ) ∧ (v = .slice none 0 0 ↔ ss = []) ∧ Below (w.alloc (.cells #[.map (some b)] 59)).heap.size (w.alloc (.cells #[.map (some b)] 59)) w' := by
  have hbl := hown.lt
  have hseq : SeqGives Fence.wide 2 Try.prog 37 #[.pointer (some ⟨w.heap.size, 0, none⟩)] encZ (fun ss => ss.Perm (intKeys D0)) (Maps.size D0) (w.alloc (.cells #[.map (some b)] 59)) :=
    AnyZI.keys_gives (ρ := Try.keysI_ren) { Try.keysI with } Fence.wide _ trivial rfl (by omega) w.heap.size b nn D0 _ (by simp) (by simp) (by
      obtain ⟨es, clock, hb, Ft, hs, hD⟩ := hown
      exact ⟨es, clock, (Below.heap_alloc _ _ b hbl).trans hb, Ft, hs, hD⟩)
  exact callsIn_wide.1 (AnyZI.sorted_in Try.sortedI Fence.wide 5 trivial trivial trivial trivial rfl (by omega) (sortsInI _) (enters_of Try.func36 (by kernel_rfl) rfl) 37 #[.pointer (some ⟨w.heap.size, 0, none⟩)] trivial (enters_of Try.func37 (by kernel_rfl) rfl) _ _ hmax hbytes _ hseq)
set_option maxRecDepth 8000 in
theorem lPending_any (g gs gm gb N : Nat) (left : Int) (D : DataW Value) (m : DiskM) (w : World) (h : LAt w g gs gm gb N left D m) :
    Calls Try.prog 27 #[.pointer (some ⟨g, 0, none⟩)] w fun e w' => Below w.heap.size w w' ∧ ∃ v, e = .returned v ∧ w'.ownsRow w.heap.size 3 1 v (pendDkL 0 m.pend).length ((pendDkL 0 m.pend).map (fun k : Nat => Value.int .i64 (k : Int))) := by
  have c1 := h.row.cell 1
  have f1 := h.row.free 1
  have hsz := h.size
  have C1 := hid (mapsKeysI_any (some gm) w)
  have C2 := hid (sortedKeysI_any gm _ D secElem w h.om (Nat.le_trans hsz (by decide)) (Nat.le_trans (Nat.mul_le_mul_right 8 hsz) (by decide)))
  have HP : Hid (∀ ss : List Int, ss.Perm (intKeys D) → ss.mergeSort leI = numsZ m.pend ∧ ss.length = (pendDkL 0 m.pend).length) := by
    obtain ⟨es, hD, hp, hk⟩ := h.om.entries lawI
    have hperm := h.pd.perm hD hp hk
    intro ss hss
    have h2 := hss.trans hperm.symm
    refine ⟨(mergeSort_of_perm_i h2).trans (numsZ_sorted _), ?_⟩
    rw [h2.length_eq]
    unfold numsZ
    rw [List.length_map]
  clear h hsz
  go_enter Try.func27, Try.ntmps27
  go_wp2_with fail
  refine C1.out.mono ?_
  rintro e w1 ⟨rfl, rfl⟩
  go_wp2_with fail
  refine C2.out.mono ?_
  rintro e w2 ⟨v, ss, rfl, hp, ho, -, hb⟩
  obtain ⟨e1, e2⟩ := HP.out ss hp
  have HO := hid (And.intro ho (And.intro hb (And.intro e1 e2)))
  clear ho hb e1 e2 hp
  go_wp2_with fail
  go_ret
  have e1 : (w.alloc (.cells #[.map (some gm)] 59)).heap.size = w.heap.size + 1 := by simp
  refine ⟨((Below.refl _ w).alloc (Nat.le_refl _) _).trans (HO.out.2.1.mono (by rw [e1]; omega)), v, rfl, ?_⟩
  have := HO.out.1
  rw [show (fun x y : Int => decide (x ≤ y)) = leI from rfl, HO.out.2.2.1, HO.out.2.2.2] at this
  unfold numsZ at this
  rw [List.map_map] at this
  exact ownsRow_base_a this (by rw [e1]; omega)
end Go.Proofs.Ytgdeiokaicjkdaa
