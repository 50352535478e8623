/-
  The walks of the statements of layer 3: the anchor.
-/
import Derived.Test.YtcipfbjneeafaaaDoorFieldE
import Derived.Test.YtcipfbjneeafaaaDoorFieldF
import Derived.Test.YtcipfbjneeafaaaDoorRefFieldG
import Derived.Test.YtcipfbjneeafaaaDoorRefFieldE
namespace Go.Proofs.YtcipfbjneeafaaaDoor
open Go.RowKit Go.Pantry

theorem small_ok {L : List Fld} (h : smallF L = true) : okFs L ∧ L.length ≤ 70 ∧ ∀ f ∈ L, f.1.length ≤ 200 ∧ f.2.length ≤ 1100 := by
  unfold smallF at h
  simp only [Bool.and_eq_true, decide_eq_true_eq, List.all_eq_true] at h
  exact ⟨⟨by omega, fun f hf => by have := h.1 f hf; omega⟩, h.2, h.1⟩
theorem reads2_new (w : World) (L : List Fld) (e : TypeId) (cap : Nat) (hc : L.length ≤ cap) : Reads2 (w.alloc (.cells (fldCells L).toArray e)) (.slice (some ⟨w.heap.size, 0, none⟩) L.length cap) L := by
  refine ⟨_, _, rfl, fun j p hj => ⟨w.heap.size, 0, rfl, ?_, ?_⟩, (fun e => by cases e), hc⟩
  · rw [World.cell?_alloc_at _ _ _ _ rfl]
    simpa using (fldCells_at L j p hj).1
  · rw [World.cell?_alloc_at _ _ _ _ rfl]
    simpa using (fldCells_at L j p hj).2
def exF : List Fld := [([65], [49]), ([98], [120]), ([97], [50])]
def exM : List Fld := [([97], [57])]
theorem exF_get : getF exF [97] = [49, 44, 32, 50] ∧ (allF exF [97]).isEmpty = false ∧ rightFs exF = true ∧ withsF exF exM = [([97], [57]), ([98], [120])] := by decide

set_option maxHeartbeats 4000000 in
theorem anchor_any (w : World) :
    Calls Tryd.prog 10 #[] w fun e w' => e = .returned (.bool true) ∧ Below w.heap.size w w' := by
  obtain ⟨x1, x2, x3, x4⟩ := exF_get
  have hk : okFs exF := by unfold okFs exF; decide
  have hkm : okFs exM := by unfold okFs exM; decide
  have c1 := fun W h => lGet_any (.slice (some ⟨w.heap.size, 0, none⟩) exF.length 3) exF ⟨#[97]⟩ W h hk (by decide)
  rw [show (⟨#[97]⟩ : ByteArray).data.toList = [97] from rfl, x1, x2] at c1
  have c2 := fun W vm h hm => lWith_any (.slice (some ⟨w.heap.size, 0, none⟩) exF.length 3) vm exF exM W h hk hm hkm
  rw [x4] at c2
  have c3 := fun W h => lRight_any (.slice (some ⟨w.heap.size, 0, none⟩) exF.length 3) exF W h hk
  rw [x3] at c3
  have C1 := hid c1
  have C2 := hid c2
  have C3 := hid c3
  clear c1 c2 c3 x1 x2 x3 x4 hk hkm
  go_enter Tryd.func10, Tryd.ntmps10
  go_wp2_with fail
  have hr0 := reads2_new w exF 29 3 (by decide)
  refine (C1.out _ hr0).mono ?_
  rintro e w1 ⟨rfl, hb1⟩
  have hr1 := hr0.below hb1
  have HB := (below_alloc w (.cells (fldCells exF).toArray 29)).trans (hb1.mono (by simp))
  have HR1 := hid hr1
  clear hr0 hr1 hb1
  go_wp2_with fail
  have hm := reads2_new w1 exM 29 1 (by decide)
  have hr2 := HR1.out.below (below_alloc w1 (.cells (fldCells exM).toArray 29))
  refine (C2.out _ _ hr2 hm).mono ?_
  rintro e w2 ⟨⟨v', k, rfl, ho⟩, hb2⟩
  have hr3 := hr2.below hb2
  have HB2 := chain2 (HB.trans ((below_alloc w1 (.cells (fldCells exM).toArray 29)).mono HB.size)) (Nat.le_trans HB.size (by simp)) hb2
  obtain ⟨rfl, hro⟩ := ho.reads2
  obtain ⟨ao, cap, rfl⟩ := hro.form
  obtain ⟨b, off, rfl, -, hv0⟩ := hro.fld (j := 0) rfl
  obtain ⟨b', off', hbo, hn1, -⟩ := hro.fld (j := 1) rfl
  cases hbo
  have HR3 := hid hr3
  clear hm hr2 hb2 hro hr3 ho HB
  simp only [Nat.zero_mul, Nat.one_mul, Nat.add_zero, List.length_cons, List.length_nil, Nat.zero_add] at hv0 hn1 ⊢
  go_wp2_with fail
  refine (C3.out _ HR3.out).mono ?_
  rintro e w3 ⟨rfl, hb3⟩
  go_wp2_with fail
  go_ret
  exact ⟨rfl, chain2 HB2 HB2.size hb3⟩
end Go.Proofs.YtcipfbjneeafaaaDoor
