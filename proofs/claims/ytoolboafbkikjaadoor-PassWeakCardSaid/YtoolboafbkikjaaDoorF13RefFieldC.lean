/-
  Contracts of the document's answers of layer 3: With.
-/
import Derived.Test.YtoolboafbkikjaaDoorF1304
import Derived.Test.YtoolboafbkikjaaDoorF13RefFieldB
import Derived.Test.YtoolboafbkikjaaDoorPureAll1
import Derived.StillTailTactics
set_option linter.unusedVariables false
set_option linter.unusedSimpArgs false

namespace Go.Proofs.YtoolboafbkikjaaDoor
open Go.RowKit Go.Pantry

set_option maxRecDepth 8000 in
set_option maxHeartbeats 4000000 in
theorem refWith_any (v : Value) (L : List Fld) (f : Fld) (w : World) (hr : Reads2 w v L) (hL : ∀ f ∈ L, f.1.length < 4294967296) (hf1 : f.1.length < 4294967296) (hn : L.length < 1000000) :
    Calls Tryd.prog 49 #[v, fldV f] w fun e w' => MadeFlds 54 w.heap.size (withF L f) e w' ∧ Below w.heap.size w w' := by
  obtain ⟨ao, cap, rfl⟩ := hr.form
  obtain ⟨W, hW⟩ : ∃ W, W = w.alloc (.cells #[strV f.1, strV f.2] 54) := ⟨_, rfl⟩
  have hbW : Below w.heap.size w W := by rw [hW]; exact below_alloc _ _
  have hsW : W.heap.size = w.heap.size + 1 := by rw [hW]; simp
  have hx1 : W.cell? ⟨w.heap.size, 0, none⟩ = some (strV f.1) := by rw [hW, World.cell?_alloc_at _ _ _ _ rfl]; rfl
  have hx2 : W.cell? ⟨w.heap.size, 1, none⟩ = some (strV f.2) := by rw [hW, World.cell?_alloc_at _ _ _ _ rfl]; rfl
  have HR := hid (hr.below hbW)
  have HL := hid hL
  have HX1 := hid hx1
  have HX2 := hid hx2
  have HS := hid hsW
  clear hr hL hx1 hx2 hsW
  go_enter Tryd.func49, Tryd.ntmps49
  go_wp2_with fail
  rw [← hW]
  clear hW
  go_loopw [5, 6, 7] (fun v' d i wr => ∃ (k m : Nat), k ≤ L.length ∧ i = .int .i64 k ∧ d = .bool (runW f (L.take k)).2 ∧ m ≤ k ∧ wr.ownsRow W.heap.size 54 2 v' m (fldCells (runW f (L.take k)).1) ∧ Below W.heap.size W wr) (fun _ _ i _ => L.length - (intOf i).toNat)
  case atStart => exact ⟨0, 0, Nat.zero_le _, rfl, rfl, Nat.le_refl _, World.ownsRow_nil _ _ _ _, Below.refl _ _⟩
  case round =>
    obtain ⟨k, m, hk, rfl, rfl, hm, ho, hb⟩ := hrel
    have hs := hb.size
    have hsw : w.heap.size ≤ wr.heap.size := by have := HS.out; omega
    by_cases hlt : k < L.length
    · obtain ⟨g, hg⟩ : ∃ g, L[k]? = some g := ⟨_, List.getElem?_eq_getElem hlt⟩
      obtain ⟨b, off, rfl, hc1, hc2⟩ := (HR.out.below hb).fld hg
      have hgl := HL.out g (List.mem_of_getElem? hg)
      have HT := hid (take_fld hg)
      have hy1 := (hb.cell (p := ⟨w.heap.size, 0, none⟩) (World.block_lt_of_cell? W _ HX1.out)).trans HX1.out
      clear hg
      have hst := runW_snoc f (L.take k) g
      rw [← HT.out] at hst
      unfold stepW at hst
      have hpr : runW f (L.take k) = ((runW f (L.take k)).1, (runW f (L.take k)).2) := rfl
      rw [hpr] at hst
      clear hpr
      obtain ⟨d, hd⟩ : ∃ d, (runW f (L.take k)).2 = d := ⟨_, rfl⟩
      obtain ⟨M, hM⟩ : ∃ M, (runW f (L.take k)).1 = M := ⟨_, rfl⟩
      obtain ⟨q, hq⟩ : ∃ q, isF f.1 g = q := ⟨_, rfl⟩
      have cI := fun W => refIs_any g ⟨f.1.toArray⟩ W hgl (by rw [szL]; exact hf1)
      rw [dtL, hq] at cI
      simp only [hd, hM, hq] at hst
      rw [hd]
      rw [hM] at ho
      have CI := hid cI
      have HST := hid hst
      clear cI hst hd hM hq
      go_wp2_with fail
      refine wp_region_still_tail 6 (by kernel_rfl) (by kernel_rfl) ?_
      simp only [List.take_succ_cons, List.take_zero, List.drop_succ_cons, List.drop_zero]
      repeat still_step
      refine wpStill_nil ?_
      change wpList _ _ _ _ _ wr.drew
      have hbd : Below wr.heap.size wr wr.drew := (Below.refl _ _).drew
      have hod : wr.drew.ownsRow W.heap.size 54 2 u5 m (fldCells M) := ho
      generalize wr.drew = w2 at hbd hod ⊢
      go_wp2_with fail
      refine (CI.out _).mono ?_
      rintro e w3 ⟨rfl, hb3⟩
      have hbn := chain2 (chain2 hb hs hbd) (Nat.le_trans hs hbd.size) hb3
      have ho3 := hod.below hb3
      have hsn := hbn.size
      have x1 := (hbn.cell (p := ⟨w.heap.size, 0, none⟩) (World.block_lt_of_cell? W _ HX1.out)).trans HX1.out
      have x2 := (hbn.cell (p := ⟨w.heap.size, 1, none⟩) (World.block_lt_of_cell? W _ HX2.out)).trans HX2.out
      obtain ⟨b', off', hbo, hd1, hd2⟩ := (HR.out.below hbn).fld (j := k) (p := g) (fld_of_take hlt HT.out)
      cases hbo
      clear hb3 hbd hod hc1 hc2 hb hs ho hy1
      cases q
      · simp only [Bool.false_eq_true, if_false] at HST
        go_wp2_with ((at_builtin; go_must (refine wpList_append_fld _ rfl _ _ 31 rfl W.heap.size 54 Tryd.underlying31 infoFld3 rfl (by decide) rfl ho3 g rfl (by first | rfl | simp) (by omega) hsn ?_); intro v' w4 hown4 hb4))
        go_roundw
        case rel => exact ⟨k + 1, m + 1, hlt, by go_num, by rw [HST.out], by omega, by rw [HST.out]; exact hown4, hbn.trans hb4⟩
        case measure => simp [intOf]; omega
      · cases d
        · simp only [Bool.false_eq_true, if_false, if_true] at HST
          go_wp2_with ((at_builtin; go_must (refine wpList_append_fld _ rfl _ _ 31 rfl W.heap.size 54 Tryd.underlying31 infoFld3 rfl (by decide) rfl ho3 f rfl (by first | rfl | simp) (by omega) hsn ?_); intro v' w4 hown4 hb4))
          go_roundw
          case rel => exact ⟨k + 1, m + 1, hlt, by go_num, by rw [HST.out], by omega, by rw [HST.out]; exact hown4, hbn.trans hb4⟩
          case measure => simp [intOf]; omega
        · simp only [if_true] at HST
          go_wp2_with fail
          go_roundw
          case rel => exact ⟨k + 1, m, hlt, by go_num, by rw [HST.out], by omega, by rw [HST.out]; exact ho3, hbn⟩
          case measure => simp [intOf]; omega
    · have hke : L.take k = L := List.take_of_length_le (by omega)
      rw [hke] at ho ⊢
      clear hke
      have hwf : withF L f = if (runW f L).2 then (runW f L).1 else (runW f L).1 ++ [f] := rfl
      generalize runW f L = p at ho hwf ⊢
      obtain ⟨M, d⟩ := p
      simp only at ho hwf ⊢
      have HWF := hid hwf
      clear hwf
      have x1 := (hb.cell (p := ⟨w.heap.size, 0, none⟩) (World.block_lt_of_cell? W _ HX1.out)).trans HX1.out
      have x2 := (hb.cell (p := ⟨w.heap.size, 1, none⟩) (World.block_lt_of_cell? W _ HX2.out)).trans HX2.out
      have hbase : w.heap.size ≤ W.heap.size := hbW.size
      cases d
      · go_wp2_with ((at_builtin; go_must (refine wpList_append_fld _ rfl _ _ 31 rfl W.heap.size 54 Tryd.underlying31 infoFld3 rfl (by decide) rfl ho f rfl (by first | rfl | simp) (by omega) hs ?_); intro v' w4 hown4 hb4))
        go_wp2_with fail
        go_ret
        exact ⟨⟨_, _, rfl, by rw [HWF.out]; exact hown4.base hbase⟩, hbW.trans ((hb.trans hb4).mono hbase)⟩
      · go_wp2_with fail
        go_ret
        exact ⟨⟨_, _, rfl, by rw [HWF.out]; exact ho.base hbase⟩, hbW.trans (hb.mono hbase)⟩
end Go.Proofs.YtoolboafbkikjaaDoor
