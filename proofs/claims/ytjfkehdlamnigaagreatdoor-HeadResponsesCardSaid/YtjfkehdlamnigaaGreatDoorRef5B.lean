/-
  The document's answers of layer 5: the text of a request.
-/
import Derived.Test.YtjfkehdlamnigaaGreatDoorRef5A
import Derived.Test.YtjfkehdlamnigaaGreatDoorHeadS
import Derived.Deep.QuietTactic
import Derived.BigQuiet
namespace Go.Proofs.YtjfkehdlamnigaaGreatDoor
open Go.RowKit Go.Pantry

set_option maxRecDepth 100000 in
set_option maxHeartbeats 4000000 in
theorem refTextReq_any (m t : List UInt8) (st z : Int) (v : Value) (L : List Fld) (w : World) (hm : m.length ≤ 100) (ht : t.length ≤ 1100) (hz : 0 ≤ z) (hr : Reads2 w v L) (hk : okFs L) :
    Calls Tryz.prog 11 #[hdV m t st z v, .bool true] w fun e w' => e = .returned (strV (textH (reqLine ⟨m, t, 0, z.toNat, []⟩) L)) ∧ Below w.heap.size w w' := by
  obtain ⟨ao, cap, rfl⟩ := hr.form
  obtain ⟨hl, hv⟩ := hk
  have hvl : (verL z.toNat).length = 8 := by unfold verL; split <;> rfl
  obtain ⟨X1, e1, l1, s1⟩ := sum_lists (P := Tryz.prog) m [32] (by omega) (by decide)
  obtain ⟨X2, e2, l2, s2⟩ := sum_lists (P := Tryz.prog) X1 t (by rw [l1]; simp; omega) (by omega)
  obtain ⟨X3, e3, l3, s3⟩ := sum_lists (P := Tryz.prog) X2 [32] (by rw [l2, l1]; simp; omega) (by decide)
  obtain ⟨X4, e4, l4, s4⟩ := sum_lists (P := Tryz.prog) X3 (verL z.toNat) (by rw [l3, l2, l1]; simp; omega) (by omega)
  have hX : X4 = (reqLine ⟨m, t, 0, z.toNat, []⟩) := by rw [e4, e3, e2, e1]; simp [reqLine]
  have hXl : X4.length ≤ 90000 := by rw [l4, l3, l2, l1, hvl]; simp; omega
  clear e1 e2 e3 e4 l1 l2 l3 l4
  rw [← hX]
  obtain ⟨R, hRt⟩ : ∃ R, textH X4 L = R := ⟨_, rfl⟩
  rw [hRt]
  have HRT := hid hRt
  clear hRt
  obtain ⟨X5, e5, l5, s5⟩ := sum_lists (P := Tryz.prog) X4 [13, 10] (by omega) (by decide)
  have hX5 : X5 = linesT (X4 :: (L.take 0).map fldLine) := by rw [e5]; simp [linesT, crlf]
  have cv := fun W => refVersion_any z W hz
  have hLL := fun k h => lines_len X4 L k h (by omega) hv
  have CV := hid cv
  have HLL := hid hLL
  have HR := hid hr
  have HV := hid hv
  have H5 := hid hX5
  clear cv hr hv hLL hX hXl hvl hz e5 l5 hX5
  obtain ⟨W, hW⟩ : ∃ W, W = w.alloc (.cells #[strV m, strV t, .int .i64 st, .int .i64 z, .slice ao L.length cap] 33) := ⟨_, rfl⟩
  have hbW : Below w.heap.size w W := by rw [hW]; exact below_alloc _ _
  have hg : rowIs W w.heap.size #[strV m, strV t, .int .i64 st, .int .i64 z, .slice ao L.length cap] 33 := by rw [hW]; exact rowIs_new _ _ _
  go_enter Tryz.func11, Tryz.ntmps11
  go_wp2_with fail
  rw [← hW]
  clear hW
  refine wp_region_U [] (by kernel_rfl) (BoxS w w.heap.size w.heap.size #[strV m, strV t, .int .i64 st, .int .i64 z, .slice ao L.length cap] 33) (b := []) (by kernel_rfl) (BoxS.drew (W := W) ⟨hbW, hbW.size, hg⟩) ?_
  refine wpAnyU_take (i := 0) (v := ?_) (by decide) rfl (by kernel_rfl) (by kernel_rfl) (by kernel_rfl) (fun _ _ _ h => h) (Steady.plain (by kernel_rfl) ?_) ?_
  rotate_left
  · intro b W hS
    have h0 := hS.2.2.cell 0
    have h1 := hS.2.2.cell 1
    have h2 := hS.2.2.cell 2
    have h3 := hS.2.2.cell 3
    have h4 := hS.2.2.cell 4
    go_simp
    first | done | with_reducible rfl
  simp only [Act.put, List.getElem_toArray, List.getElem_cons_zero, List.setIfInBounds_toArray, List.set_cons_zero, List.set_cons_succ]
  refine wpAnyU_take (i := 1) (v := ?_) (by decide) rfl (by kernel_rfl) (by kernel_rfl) (by kernel_rfl) (fun _ _ _ h => h) (Steady.plain (by kernel_rfl) ?_) ?_
  rotate_left
  · intro b W hS
    have h0 := hS.2.2.cell 0
    have h1 := hS.2.2.cell 1
    have h2 := hS.2.2.cell 2
    have h3 := hS.2.2.cell 3
    have h4 := hS.2.2.cell 4
    go_simp
    first | done | with_reducible rfl
  simp only [Act.put, List.getElem_toArray, List.getElem_cons_succ, List.getElem_cons_zero, List.setIfInBounds_toArray, List.set_cons_zero, List.set_cons_succ]
  refine wpAnyU_take (i := 2) (v := ?_) (by decide) rfl (by kernel_rfl) (by kernel_rfl) (by kernel_rfl) (fun _ _ _ h => h) (Steady.plain (by kernel_rfl) ?_) ?_
  rotate_left
  · intro b W hS
    have h0 := hS.2.2.cell 0
    have h1 := hS.2.2.cell 1
    have h2 := hS.2.2.cell 2
    have h3 := hS.2.2.cell 3
    have h4 := hS.2.2.cell 4
    go_simp
    first | done | with_reducible rfl
  simp only [Act.put, List.getElem_toArray, List.getElem_cons_succ, List.getElem_cons_zero, List.setIfInBounds_toArray, List.set_cons_zero, List.set_cons_succ]
  refine wpAnyU_take (i := 3) (v := ?_) (by decide) rfl (by kernel_rfl) (by kernel_rfl) (by kernel_rfl) (fun _ _ _ h => h) (Steady.plain (by kernel_rfl) ?_) ?_
  rotate_left
  · intro b W hS
    have h0 := hS.2.2.cell 0
    have h1 := hS.2.2.cell 1
    have h2 := hS.2.2.cell 2
    have h3 := hS.2.2.cell 3
    have h4 := hS.2.2.cell 4
    go_simp
    first | done | with_reducible rfl
  simp only [Act.put, List.getElem_toArray, List.getElem_cons_succ, List.getElem_cons_zero, List.setIfInBounds_toArray, List.set_cons_zero, List.set_cons_succ]
  refine wpAnyU_take (i := 4) (v := ?_) (by decide) rfl (by kernel_rfl) (by kernel_rfl) (by kernel_rfl) (fun _ _ _ h => h) (Steady.plain (by kernel_rfl) ?_) ?_
  rotate_left
  · intro b W hS
    have h0 := hS.2.2.cell 0
    have h1 := hS.2.2.cell 1
    have h2 := hS.2.2.cell 2
    have h3 := hS.2.2.cell 3
    have h4 := hS.2.2.cell 4
    go_simp
    first | done | with_reducible rfl
  simp only [Act.put, List.getElem_toArray, List.getElem_cons_succ, List.getElem_cons_zero, List.setIfInBounds_toArray, List.set_cons_zero, List.set_cons_succ]
  refine wpAnyU_take (i := 5) (v := ?_) (by decide) rfl (by kernel_rfl) (by kernel_rfl) (by kernel_rfl) (fun _ _ _ h => h) (Steady.plain (by kernel_rfl) ?_) ?_
  rotate_left
  · intro b W hS
    have h0 := hS.2.2.cell 0
    have h1 := hS.2.2.cell 1
    have h2 := hS.2.2.cell 2
    have h3 := hS.2.2.cell 3
    have h4 := hS.2.2.cell 4
    go_simp
    first | done | with_reducible rfl
  simp only [Act.put, List.getElem_toArray, List.getElem_cons_succ, List.getElem_cons_zero, List.setIfInBounds_toArray, List.set_cons_zero, List.set_cons_succ]
  refine wpAnyU_take (i := 6) (v := ?_) (by decide) rfl (by kernel_rfl) (by kernel_rfl) (by kernel_rfl) (fun _ _ _ h => h) (Steady.plain (by kernel_rfl) ?_) ?_
  rotate_left
  · intro b W hS
    have h0 := hS.2.2.cell 0
    have h1 := hS.2.2.cell 1
    have h2 := hS.2.2.cell 2
    have h3 := hS.2.2.cell 3
    have h4 := hS.2.2.cell 4
    go_simp
    first | done | with_reducible rfl
  simp only [Act.put, List.getElem_toArray, List.getElem_cons_succ, List.getElem_cons_zero, List.setIfInBounds_toArray, List.set_cons_zero, List.set_cons_succ]
  refine wpAnyU_take (i := 7) (v := ?_) (by decide) rfl (by kernel_rfl) (by kernel_rfl) (by kernel_rfl) (fun _ _ _ h => h) (Steady.plain (by kernel_rfl) ?_) ?_
  rotate_left
  · intro b W hS
    have h0 := hS.2.2.cell 0
    have h1 := hS.2.2.cell 1
    have h2 := hS.2.2.cell 2
    have h3 := hS.2.2.cell 3
    have h4 := hS.2.2.cell 4
    go_simp
    first | done | with_reducible rfl
  simp only [Act.put, List.getElem_toArray, List.getElem_cons_succ, List.getElem_cons_zero, List.setIfInBounds_toArray, List.set_cons_zero, List.set_cons_succ]
  refine wpAnyU_take (i := 8) (v := ?_) (by decide) rfl (by kernel_rfl) (by kernel_rfl) (by kernel_rfl) (fun _ _ _ h => h) (Steady.plain (by kernel_rfl) ?_) ?_
  rotate_left
  · intro b W hS
    have h0 := hS.2.2.cell 0
    have h1 := hS.2.2.cell 1
    have h2 := hS.2.2.cell 2
    have h3 := hS.2.2.cell 3
    have h4 := hS.2.2.cell 4
    go_simp
    first | done | with_reducible rfl
  simp only [Act.put, List.getElem_toArray, List.getElem_cons_succ, List.getElem_cons_zero, List.setIfInBounds_toArray, List.set_cons_zero, List.set_cons_succ]
  refine wpAnyU_take (i := 9) (v := strV (verL z.toNat)) (by decide) rfl (by kernel_rfl) (by kernel_rfl) (by kernel_rfl) (fun _ _ _ h => h) (Steady.call (f := 31) (args := #[.int .i64 z]) (by kernel_rfl) (fun _ => by kernel_rfl) ?_) ?_
  · intro b W hS
    refine (CV.out W).mono ?_
    rintro e w' ⟨he, rfl⟩
    exact ⟨he, hS⟩
  simp only [Act.put, List.getElem_toArray, List.getElem_cons_succ, List.getElem_cons_zero, List.setIfInBounds_toArray, List.set_cons_zero, List.set_cons_succ]
  refine wpAnyU_take (i := 10) (v := ?_) (by decide) rfl (by kernel_rfl) (by kernel_rfl) (by kernel_rfl) (fun _ _ _ h => h) (Steady.plain (by kernel_rfl) ?_) ?_
  rotate_left
  · intro b W hS
    have h0 := hS.2.2.cell 0
    have h1 := hS.2.2.cell 1
    have h2 := hS.2.2.cell 2
    have h3 := hS.2.2.cell 3
    have h4 := hS.2.2.cell 4
    go_simp
    first | done | with_reducible rfl
  simp only [Act.put, List.getElem_toArray, List.getElem_cons_succ, List.getElem_cons_zero, List.setIfInBounds_toArray, List.set_cons_zero, List.set_cons_succ]
  refine wpAnyU_take (i := 11) (v := ?_) (by decide) rfl (by kernel_rfl) (by kernel_rfl) (by kernel_rfl) (fun _ _ _ h => h) (Steady.plain (by kernel_rfl) ?_) ?_
  rotate_left
  · intro b W hS
    have h0 := hS.2.2.cell 0
    have h1 := hS.2.2.cell 1
    have h2 := hS.2.2.cell 2
    have h3 := hS.2.2.cell 3
    have h4 := hS.2.2.cell 4
    go_simp
    first | done | with_reducible rfl
  simp only [Act.put, List.getElem_toArray, List.getElem_cons_succ, List.getElem_cons_zero, List.setIfInBounds_toArray, List.set_cons_zero, List.set_cons_succ]
  refine wpAnyU_done (b := []) (by kernel_rfl) (by kernel_rfl) ?_ _
  intro w1 hS
  obtain ⟨hbb, -, hg1⟩ := hS
  clear hg hbW s1 s2 s3 s4
  go_wp2_with fail
  rw [H5.out]
  clear s5
  go_loopw [5, 6] (fun x i wr => ∃ (k : Nat), k ≤ L.length ∧ i = .int .i64 k ∧ x = strV (linesT (X4 :: (L.take k).map fldLine)) ∧ Below w.heap.size w wr ∧ rowIs wr w.heap.size #[strV m, strV t, .int .i64 st, .int .i64 z, .slice ao L.length cap] 33) (fun _ i _ => L.length - (intOf i).toNat)
  case atStart => exact ⟨0, Nat.zero_le _, rfl, rfl, hbb, hg1⟩
  case round =>
    obtain ⟨k, hk, rfl, rfl, hb, hgw⟩ := hrel
    have gfl := hgw.cell 4
    have HG := hid hgw
    clear hgw
    by_cases hlt : k < L.length
    · obtain ⟨f, hf⟩ : ∃ f, L[k]? = some f := ⟨_, List.getElem?_eq_getElem hlt⟩
      obtain ⟨b, off, rfl, hc1, hc2⟩ := (HR.out.below hb).fld hf
      have hfv := HV.out f (List.mem_of_getElem? hf)
      have HT := hid (take_fld hf)
      clear hf
      obtain ⟨Y1, e1, l1, s1⟩ := sum_lists (P := Tryz.prog) f.1 [58, 32] (by omega) (by decide)
      obtain ⟨Y2, e2, l2, s2⟩ := sum_lists (P := Tryz.prog) Y1 f.2 (by rw [l1]; simp; omega) (by omega)
      obtain ⟨Y3, e3, l3, s3⟩ := sum_lists (P := Tryz.prog) Y2 [13, 10] (by rw [l2, l1]; simp; omega) (by decide)
      have hLk := HLL.out k (by omega)
      obtain ⟨Y4, e4, l4, s4⟩ := sum_lists (P := Tryz.prog) (linesT (X4 :: (L.take k).map fldLine)) Y3 (by omega) (by rw [l3, l2, l1]; simp; omega)
      have hY : Y4 = linesT (X4 :: (L.take (k + 1)).map fldLine) := by
        rw [HT.out, List.map_append, List.map_cons, List.map_nil, ← List.cons_append, linesT_snoc, e4, e3, e2, e1]
        simp [fldLine, crlf]
      have HY := hid hY
      clear e1 e2 e3 e4 l1 l2 l3 l4 hY hLk
      generalize linesT (X4 :: (L.take k).map fldLine) = acc at s4 ⊢
      have hI := (by omega : (k : Int) < (L.length : Int))
      go_wp2_with fail
      go_quiet (fail)
      go_wp2_with fail
      go_roundw
      case rel => exact ⟨k + 1, hlt, by go_num, by rw [← HY.out], chain2 hb hb.size (drewN_below2 _ _), HG.out.below (drewN_below2 _ _)⟩
      case measure => simp [intOf]; omega
    · have hke : L.take k = L := List.take_of_length_le (by omega)
      have hLk := HLL.out k (by omega)
      rw [hke] at hLk ⊢
      have htx : linesT (X4 :: L.map fldLine) ++ [13, 10] = textH X4 L := rfl
      obtain ⟨Y, e1, l1, s1⟩ := sum_lists (P := Tryz.prog) (linesT (X4 :: L.map fldLine)) [13, 10] (by omega) (by decide)
      have HRY := hid (show R = Y by rw [← HRT.out, ← htx, ← e1])
      clear htx e1 l1 hLk hke
      generalize linesT (X4 :: L.map fldLine) = acc at s1 ⊢
      go_wp2_with fail
      go_ret
      exact ⟨by rw [HRY.out]; rfl, hb⟩
end Go.Proofs.YtjfkehdlamnigaaGreatDoor
