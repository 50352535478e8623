/-
  Contracts of package field: All.
-/
import Derived.Test.YtbjgbkbhalibdaaDoorFieldB
namespace Go.Proofs.YtbjgbkbhalibdaaDoor
open Go.RowKit Go.Pantry

set_option maxHeartbeats 1000000 in
theorem lAll_any (v : Value) (L : List Fld) (n : ByteArray) (w : World) (hr : Reads2 w v L) (hk : okFs L) (hn : n.size ≤ 100000) :
    Calls Tryd.prog 41 #[v, .string n] w fun e w' => MadeStrs 9 w.heap.size (allF L n.data.toList) e w' ∧ Below w.heap.size w w' := by
  obtain ⟨ao, cap, rfl⟩ := hr.form
  obtain ⟨N, rfl⟩ := as_list n
  rw [szL] at hn
  rw [dtL]
  obtain ⟨hl, hv⟩ := hk
  have HR := hid hr
  have HV := hid hv
  clear hr hv
  go_enter Tryd.func41, Tryd.ntmps41
  go_wp2
  go_loopw [5, 10] (fun v' i wr => ∃ (k m : Nat), k ≤ L.length ∧ m ≤ k ∧ m = (allF (L.take k) N).length ∧ i = .int .i64 k ∧ wr.ownsRow w.heap.size 9 1 v' m ((allF (L.take k) N).map strV) ∧ Below w.heap.size w wr) (fun _ i _ => L.length - (intOf i).toNat)
  case atStart => exact ⟨0, 0, Nat.zero_le _, Nat.le_refl _, rfl, rfl, World.ownsRow_nil _ _ _ _, Below.refl _ _⟩
  case round =>
    obtain ⟨k, m, hk, hm, hml, rfl, ho, hb⟩ := hrel
    have HML := hid hml
    clear hml
    by_cases hlt : k < L.length
    · obtain ⟨f, hf⟩ : ∃ f, L[k]? = some f := ⟨_, List.getElem?_eq_getElem hlt⟩
      obtain ⟨b, off, rfl, hc1, hc2⟩ := (HR.out.below hb).fld hf
      have hfl := (HV.out f (List.mem_of_getElem? hf)).1
      have HT := hid (take_fld hf)
      clear hf
      have hst := allF_snoc (L.take k) N f
      rw [← HT.out] at hst
      obtain ⟨q, hq⟩ : ∃ q, isF N f = q := ⟨_, rfl⟩
      have cI := fun W vn h => called_any f vn [N] W hfl h ⟨by simp, by simp; omega⟩
      simp only [any_one, hq] at cI
      rw [hq] at hst
      have CI := hid cI
      have HS := hid hst
      clear cI hst hq
      obtain ⟨W, hW, hbW, hsW, hx1, hx2⟩ := box2 wr f 41
      have hbw := chain2 hb hb.size hbW
      replace ho := ho.below hbW
      obtain ⟨X, hX⟩ : ∃ X, X = W.alloc (.cells #[strV N] 9) := ⟨_, rfl⟩
      have hbX : Below W.heap.size W X := by rw [hX]; exact below_alloc _ _
      have hrX : Reads X (.slice (some ⟨wr.heap.size + 1, 0, none⟩) 1 1) ([N].map strV) := by rw [← hsW, hX]; exact reads_one W N 9 1
      have hbx := chain2 hbw hbw.size hbX
      replace ho := ho.below hbX
      replace hx2 := kept hx2 hbX
      clear hbW hbw hbX hb hx1 hsW
      cases q
      · go_wp2_with fail
        rw [← hW, ← hX]
        clear hW hX
        refine (CI.out _ _ hrX).mono ?_
        rintro e w2 ⟨rfl, hb2⟩
        have hbn := chain2 hbx hbx.size hb2
        have ho2 := ho.below hb2
        clear hb2 hc1 hc2 hx2 ho hrX
        go_wp2_with fail
        go_roundw
        case rel => exact ⟨k + 1, m, hlt, by omega, by rw [HS.out, HML.out]; simp, by go_num, by rw [HS.out]; simpa using ho2, hbn⟩
        case measure => simp [intOf]; omega
      · go_wp2_with fail
        rw [← hW, ← hX]
        clear hW hX
        refine (CI.out _ _ hrX).mono ?_
        rintro e w2 ⟨rfl, hb2⟩
        have hbn := chain2 hbx hbx.size hb2
        have ho2 := ho.below hb2
        have hs2 := hbn.size
        have hd2 := kept hx2 hb2
        clear hb2 hc1 hc2 hx2 ho hrX
        go_wp2_with ((at_builtin; go_must (refine wpList_append_one _ rfl _ _ 22 rfl w.heap.size 9 Tryd.underlying22 infoStr rfl (by decide) rfl ho2 rfl (by first | rfl | simp) (by omega) hs2 ?_); intro v' w3 hown3 hg3 hb3))
        go_roundw
        case rel => exact ⟨k + 1, m + 1, hlt, by omega, by rw [HS.out, HML.out]; simp, by go_num, by rw [HS.out]; simpa using hown3, hbn.trans hb3⟩
        case measure => simp [intOf]; omega
    · have hk2 : L.take k = L := List.take_of_length_le (by omega)
      have HM2 : Hid (m = (allF L N).length) := by have h := HML.out; rw [hk2] at h; exact hid h
      rw [hk2] at ho
      clear hk2
      go_wp2
      go_ret
      exact ⟨⟨_, rfl, by rw [← HM2.out]; exact ho⟩, hb⟩
end Go.Proofs.YtbjgbkbhalibdaaDoor
