/-
  Several texts in one: Ref5B, ResT.
-/
import Derived.Test.YtongceljdgmbdaaGreatDoorW7f13
import Derived.Test.YtongceljdgmbdaaGreatDoorW7f10
import Derived.Deep.QuietTactic
import Derived.BigQuiet
import Derived.Test.YtongceljdgmbdaaGreatDoorPureAll2
/-
  The document's answers of layer 5: the text of a request.
-/
namespace Go.Proofs.YtongceljdgmbdaaGreatDoor
open Go.RowKit Go.Pantry

set_option maxRecDepth 100000 in
set_option maxHeartbeats 4000000 in
theorem refTextReq_any (m t : List UInt8) (st z : Int) (v : Value) (L : List Fld) (w : World) (hm : m.length ≤ 100) (ht : t.length ≤ 1100) (hz : 0 ≤ z) (hr : Reads2 w v L) (hk : okFs L) :
    Calls Tryz.prog 49 #[hdV m t st z v, .bool true] w fun e w' => e = .returned (strV (textH (reqLine ⟨m, t, 0, z.toNat, []⟩) L)) ∧ Below w.heap.size w w' := by
  obtain ⟨ao, cap, rfl⟩ := hr.form
  obtain ⟨hl, hv⟩ := hk
  have hvl : (verL z.toNat).length = 8 := by unfold verL; split <;> rfl
  obtain ⟨X1, e1, l1, s1⟩ := sum_lists (P := Tryz.prog) m [32] (by omega) (by decide)
  obtain ⟨X2, e2, l2, s2⟩ := sum_lists (P := Tryz.prog) X1 t (by rw [l1]; simp; omega) (by omega)
  obtain ⟨X3, e3, l3, s3⟩ := sum_lists (P := Tryz.prog) X2 [32] (by rw [l2, l1]; simp; omega) (by decide)
  obtain ⟨X4, e4, l4, s4⟩ := sum_lists (P := Tryz.prog) X3 (verL z.toNat) (by rw [l3, l2, l1]; simp; omega) (by omega)
  have hX : X4 = (reqLine ⟨m, t, 0, z.toNat, []⟩) := by rw [e4, e3, e2, e1]; simp [reqLine]
  have hXl : X4.length ≤ 90000 := by rw [l4, l3, l2, l1, hvl]; simp; omega
  clear e1 e2 e3 e4 l1 l2 l3 l4
  rw [← hX]
  obtain ⟨R, hRt⟩ : ∃ R, textH X4 L = R := ⟨_, rfl⟩
  rw [hRt]
  have HRT := hid hRt
  clear hRt
  obtain ⟨X5, e5, l5, s5⟩ := sum_lists (P := Tryz.prog) X4 [13, 10] (by omega) (by decide)
  have hX5 : X5 = linesT (X4 :: (L.take 0).map fldLine) := by rw [e5]; simp [linesT, crlf]
  have cv := fun W => refVersion_any z W hz
  have hLL := fun k h => lines_len X4 L k h (by omega) hv
  have CV := hid cv
  have HLL := hid hLL
  have HR := hid hr
  have HV := hid hv
  have H5 := hid hX5
  clear cv hr hv hLL hX hXl hvl hz e5 l5 hX5
  obtain ⟨W, hW⟩ : ∃ W, W = w.alloc (.cells #[strV m, strV t, .int .i64 st, .int .i64 z, .slice ao L.length cap] 47) := ⟨_, rfl⟩
  have hbW : Below w.heap.size w W := by rw [hW]; exact below_alloc _ _
  have hg : rowIs W w.heap.size #[strV m, strV t, .int .i64 st, .int .i64 z, .slice ao L.length cap] 47 := by rw [hW]; exact rowIs_new _ _ _
  go_enter Tryz.func49, Tryz.ntmps49
  go_wp2_with fail
  rw [← hW]
  clear hW
  refine wp_region_U [] (by kernel_rfl) (BoxS w w.heap.size w.heap.size #[strV m, strV t, .int .i64 st, .int .i64 z, .slice ao L.length cap] 47) (b := []) (by kernel_rfl) (BoxS.drew (W := W) ⟨hbW, hbW.size, hg⟩) ?_
  refine wpAnyU_take (i := 0) (v := ?_) (by decide) rfl (by kernel_rfl) (by kernel_rfl) (by kernel_rfl) (fun _ _ _ h => h) (Steady.plain (by kernel_rfl) ?_) ?_
  rotate_left
  · intro b W hS
    have h0 := hS.2.2.cell 0
    have h1 := hS.2.2.cell 1
    have h2 := hS.2.2.cell 2
    have h3 := hS.2.2.cell 3
    have h4 := hS.2.2.cell 4
    go_simp
    first | done | with_reducible rfl
  simp only [Act.put, List.getElem_toArray, List.getElem_cons_zero, List.setIfInBounds_toArray, List.set_cons_zero, List.set_cons_succ]
  refine wpAnyU_take (i := 1) (v := ?_) (by decide) rfl (by kernel_rfl) (by kernel_rfl) (by kernel_rfl) (fun _ _ _ h => h) (Steady.plain (by kernel_rfl) ?_) ?_
  rotate_left
  · intro b W hS
    have h0 := hS.2.2.cell 0
    have h1 := hS.2.2.cell 1
    have h2 := hS.2.2.cell 2
    have h3 := hS.2.2.cell 3
    have h4 := hS.2.2.cell 4
    go_simp
    first | done | with_reducible rfl
  simp only [Act.put, List.getElem_toArray, List.getElem_cons_succ, List.getElem_cons_zero, List.setIfInBounds_toArray, List.set_cons_zero, List.set_cons_succ]
  refine wpAnyU_take (i := 2) (v := ?_) (by decide) rfl (by kernel_rfl) (by kernel_rfl) (by kernel_rfl) (fun _ _ _ h => h) (Steady.plain (by kernel_rfl) ?_) ?_
  rotate_left
  · intro b W hS
    have h0 := hS.2.2.cell 0
    have h1 := hS.2.2.cell 1
    have h2 := hS.2.2.cell 2
    have h3 := hS.2.2.cell 3
    have h4 := hS.2.2.cell 4
    go_simp
    first | done | with_reducible rfl
  simp only [Act.put, List.getElem_toArray, List.getElem_cons_succ, List.getElem_cons_zero, List.setIfInBounds_toArray, List.set_cons_zero, List.set_cons_succ]
  refine wpAnyU_take (i := 3) (v := ?_) (by decide) rfl (by kernel_rfl) (by kernel_rfl) (by kernel_rfl) (fun _ _ _ h => h) (Steady.plain (by kernel_rfl) ?_) ?_
  rotate_left
  · intro b W hS
    have h0 := hS.2.2.cell 0
    have h1 := hS.2.2.cell 1
    have h2 := hS.2.2.cell 2
    have h3 := hS.2.2.cell 3
    have h4 := hS.2.2.cell 4
    go_simp
    first | done | with_reducible rfl
  simp only [Act.put, List.getElem_toArray, List.getElem_cons_succ, List.getElem_cons_zero, List.setIfInBounds_toArray, List.set_cons_zero, List.set_cons_succ]
  refine wpAnyU_take (i := 4) (v := ?_) (by decide) rfl (by kernel_rfl) (by kernel_rfl) (by kernel_rfl) (fun _ _ _ h => h) (Steady.plain (by kernel_rfl) ?_) ?_
  rotate_left
  · intro b W hS
    have h0 := hS.2.2.cell 0
    have h1 := hS.2.2.cell 1
    have h2 := hS.2.2.cell 2
    have h3 := hS.2.2.cell 3
    have h4 := hS.2.2.cell 4
    go_simp
    first | done | with_reducible rfl
  simp only [Act.put, List.getElem_toArray, List.getElem_cons_succ, List.getElem_cons_zero, List.setIfInBounds_toArray, List.set_cons_zero, List.set_cons_succ]
  refine wpAnyU_take (i := 5) (v := ?_) (by decide) rfl (by kernel_rfl) (by kernel_rfl) (by kernel_rfl) (fun _ _ _ h => h) (Steady.plain (by kernel_rfl) ?_) ?_
  rotate_left
  · intro b W hS
    have h0 := hS.2.2.cell 0
    have h1 := hS.2.2.cell 1
    have h2 := hS.2.2.cell 2
    have h3 := hS.2.2.cell 3
    have h4 := hS.2.2.cell 4
    go_simp
    first | done | with_reducible rfl
  simp only [Act.put, List.getElem_toArray, List.getElem_cons_succ, List.getElem_cons_zero, List.setIfInBounds_toArray, List.set_cons_zero, List.set_cons_succ]
  refine wpAnyU_take (i := 6) (v := ?_) (by decide) rfl (by kernel_rfl) (by kernel_rfl) (by kernel_rfl) (fun _ _ _ h => h) (Steady.plain (by kernel_rfl) ?_) ?_
  rotate_left
  · intro b W hS
    have h0 := hS.2.2.cell 0
    have h1 := hS.2.2.cell 1
    have h2 := hS.2.2.cell 2
    have h3 := hS.2.2.cell 3
    have h4 := hS.2.2.cell 4
    go_simp
    first | done | with_reducible rfl
  simp only [Act.put, List.getElem_toArray, List.getElem_cons_succ, List.getElem_cons_zero, List.setIfInBounds_toArray, List.set_cons_zero, List.set_cons_succ]
  refine wpAnyU_take (i := 7) (v := ?_) (by decide) rfl (by kernel_rfl) (by kernel_rfl) (by kernel_rfl) (fun _ _ _ h => h) (Steady.plain (by kernel_rfl) ?_) ?_
  rotate_left
  · intro b W hS
    have h0 := hS.2.2.cell 0
    have h1 := hS.2.2.cell 1
    have h2 := hS.2.2.cell 2
    have h3 := hS.2.2.cell 3
    have h4 := hS.2.2.cell 4
    go_simp
    first | done | with_reducible rfl
  simp only [Act.put, List.getElem_toArray, List.getElem_cons_succ, List.getElem_cons_zero, List.setIfInBounds_toArray, List.set_cons_zero, List.set_cons_succ]
  refine wpAnyU_take (i := 8) (v := ?_) (by decide) rfl (by kernel_rfl) (by kernel_rfl) (by kernel_rfl) (fun _ _ _ h => h) (Steady.plain (by kernel_rfl) ?_) ?_
  rotate_left
  · intro b W hS
    have h0 := hS.2.2.cell 0
    have h1 := hS.2.2.cell 1
    have h2 := hS.2.2.cell 2
    have h3 := hS.2.2.cell 3
    have h4 := hS.2.2.cell 4
    go_simp
    first | done | with_reducible rfl
  simp only [Act.put, List.getElem_toArray, List.getElem_cons_succ, List.getElem_cons_zero, List.setIfInBounds_toArray, List.set_cons_zero, List.set_cons_succ]
  refine wpAnyU_take (i := 9) (v := strV (verL z.toNat)) (by decide) rfl (by kernel_rfl) (by kernel_rfl) (by kernel_rfl) (fun _ _ _ h => h) (Steady.call (f := 81) (args := #[.int .i64 z]) (by kernel_rfl) (fun _ => by kernel_rfl) ?_) ?_
  · intro b W hS
    refine (CV.out W).mono ?_
    rintro e w' ⟨he, rfl⟩
    exact ⟨he, hS⟩
  simp only [Act.put, List.getElem_toArray, List.getElem_cons_succ, List.getElem_cons_zero, List.setIfInBounds_toArray, List.set_cons_zero, List.set_cons_succ]
  refine wpAnyU_take (i := 10) (v := ?_) (by decide) rfl (by kernel_rfl) (by kernel_rfl) (by kernel_rfl) (fun _ _ _ h => h) (Steady.plain (by kernel_rfl) ?_) ?_
  rotate_left
  · intro b W hS
    have h0 := hS.2.2.cell 0
    have h1 := hS.2.2.cell 1
    have h2 := hS.2.2.cell 2
    have h3 := hS.2.2.cell 3
    have h4 := hS.2.2.cell 4
    go_simp
    first | done | with_reducible rfl
  simp only [Act.put, List.getElem_toArray, List.getElem_cons_succ, List.getElem_cons_zero, List.setIfInBounds_toArray, List.set_cons_zero, List.set_cons_succ]
  refine wpAnyU_take (i := 11) (v := ?_) (by decide) rfl (by kernel_rfl) (by kernel_rfl) (by kernel_rfl) (fun _ _ _ h => h) (Steady.plain (by kernel_rfl) ?_) ?_
  rotate_left
  · intro b W hS
    have h0 := hS.2.2.cell 0
    have h1 := hS.2.2.cell 1
    have h2 := hS.2.2.cell 2
    have h3 := hS.2.2.cell 3
    have h4 := hS.2.2.cell 4
    go_simp
    first | done | with_reducible rfl
  simp only [Act.put, List.getElem_toArray, List.getElem_cons_succ, List.getElem_cons_zero, List.setIfInBounds_toArray, List.set_cons_zero, List.set_cons_succ]
  refine wpAnyU_done (b := []) (by kernel_rfl) (by kernel_rfl) ?_ _
  intro w1 hS
  obtain ⟨hbb, -, hg1⟩ := hS
  clear hg hbW s1 s2 s3 s4
  go_wp2_with fail
  rw [H5.out]
  clear s5
  go_loopw [5, 6] (fun x i wr => ∃ (k : Nat), k ≤ L.length ∧ i = .int .i64 k ∧ x = strV (linesT (X4 :: (L.take k).map fldLine)) ∧ Below w.heap.size w wr ∧ rowIs wr w.heap.size #[strV m, strV t, .int .i64 st, .int .i64 z, .slice ao L.length cap] 47) (fun _ i _ => L.length - (intOf i).toNat)
  case atStart => exact ⟨0, Nat.zero_le _, rfl, rfl, hbb, hg1⟩
  case round =>
    obtain ⟨k, hk, rfl, rfl, hb, hgw⟩ := hrel
    have gfl := hgw.cell 4
    have HG := hid hgw
    clear hgw
    by_cases hlt : k < L.length
    · obtain ⟨f, hf⟩ : ∃ f, L[k]? = some f := ⟨_, List.getElem?_eq_getElem hlt⟩
      obtain ⟨b, off, rfl, hc1, hc2⟩ := (HR.out.below hb).fld hf
      have hfv := HV.out f (List.mem_of_getElem? hf)
      have HT := hid (take_fld hf)
      clear hf
      obtain ⟨Y1, e1, l1, s1⟩ := sum_lists (P := Tryz.prog) f.1 [58, 32] (by omega) (by decide)
      obtain ⟨Y2, e2, l2, s2⟩ := sum_lists (P := Tryz.prog) Y1 f.2 (by rw [l1]; simp; omega) (by omega)
      obtain ⟨Y3, e3, l3, s3⟩ := sum_lists (P := Tryz.prog) Y2 [13, 10] (by rw [l2, l1]; simp; omega) (by decide)
      have hLk := HLL.out k (by omega)
      obtain ⟨Y4, e4, l4, s4⟩ := sum_lists (P := Tryz.prog) (linesT (X4 :: (L.take k).map fldLine)) Y3 (by omega) (by rw [l3, l2, l1]; simp; omega)
      have hY : Y4 = linesT (X4 :: (L.take (k + 1)).map fldLine) := by
        rw [HT.out, List.map_append, List.map_cons, List.map_nil, ← List.cons_append, linesT_snoc, e4, e3, e2, e1]
        simp [fldLine, crlf]
      have HY := hid hY
      clear e1 e2 e3 e4 l1 l2 l3 l4 hY hLk
      generalize linesT (X4 :: (L.take k).map fldLine) = acc at s4 ⊢
      have hI := (by omega : (k : Int) < (L.length : Int))
      go_wp2_with fail
      go_quiet (fail)
      go_wp2_with fail
      go_roundw
      case rel => exact ⟨k + 1, hlt, by go_num, by rw [← HY.out], chain2 hb hb.size (drewN_below2 _ _), HG.out.below (drewN_below2 _ _)⟩
      case measure => simp [intOf]; omega
    · have hke : L.take k = L := List.take_of_length_le (by omega)
      have hLk := HLL.out k (by omega)
      rw [hke] at hLk ⊢
      have htx : linesT (X4 :: L.map fldLine) ++ [13, 10] = textH X4 L := rfl
      obtain ⟨Y, e1, l1, s1⟩ := sum_lists (P := Tryz.prog) (linesT (X4 :: L.map fldLine)) [13, 10] (by omega) (by decide)
      have HRY := hid (show R = Y by rw [← HRT.out, ← htx, ← e1])
      clear htx e1 l1 hLk hke
      generalize linesT (X4 :: L.map fldLine) = acc at s1 ⊢
      go_wp2_with fail
      go_ret
      exact ⟨by rw [HRY.out]; rfl, hb⟩
end Go.Proofs.YtongceljdgmbdaaGreatDoor
/-
  The document's answers of layer 5: the text of a response.
-/
namespace Go.Proofs.YtongceljdgmbdaaGreatDoor
open Go.RowKit Go.Pantry

theorem turn_build {P : Program} {o : Oper} {a : Act} {g : Nat} {cells : Array Value} {e : TypeId} {n : Nat} (hr : ∀ W, (execOp a.eval o).run P W = .ok (.value (.slice (some ⟨W.heap.size, 0, none⟩) n n)) (W.alloc (.cells cells e))) {R R' : World → Prop}
    (h : ∀ W, R W → W.heap.size = g ∧ R' (W.alloc (.cells cells e))) : ∀ W, R W → Gives P ((execOp a.eval o).run P W) (.slice (some ⟨g, 0, none⟩) n n) R' :=
  fun W hS => by
    obtain ⟨rfl, h2⟩ := h W hS
    rw [hr W]
    exact ⟨rfl, h2⟩
theorem conv_gives {P : Program} {o : Oper} {a : Act} {W : World} {v : Value} {R : World → Prop} {i : Sem Value} (h : i.run P W = .ok v W) (hR : R W) (ho : execOp a.eval o = (do let v ← i; pure (.value v))) : Gives P ((execOp a.eval o).run P W) v R := by
  rw [ho]
  simp only [Sem.run_bind, h, Result.andThen_ok]
  exact ⟨rfl, hR⟩
/-- from W1 on; a block is made -/
def TextS (W1 : World) (cells : Array Value) (e : TypeId) : List Bool → World → Prop := fun b W => Below W1.heap.size W1 W ∧ (match b with | [false] => W.heap.size = W1.heap.size | _ => rowIs W W1.heap.size cells e)
theorem dig3_cells (st d1 d2 d3 : Nat) (h : st ≤ 599) (e1 : d1 = st / 100) (e2 : d2 = st / 10 % 10) (e3 : d3 = st % 10) : (#[.int .u8 (48 + (d1 : Int)), .int .u8 (48 + (d2 : Int)), .int .u8 (48 + (d3 : Int))] : Array Value) = ((dig3 st).map byteV).toArray := by
  have k : ∀ n : Nat, n < 100 → byteV (48 + n).toUInt8 = .int .u8 (48 + (n : Int)) := fun n hn => by
    unfold byteV
    rw [show ((48 + n).toUInt8).toNat = 48 + n by simp [Nat.toUInt8]; omega]
    simp
  subst e1 e2 e3
  unfold dig3
  rw [List.map_cons, List.map_cons, List.map_cons, List.map_nil, k _ (by omega), k _ (by omega), k _ (by omega)]
theorem rowIs.bytes {W : World} {g : Nat} {t : TypeId} {l : List UInt8} {cs : Array Value} (h : rowIs W g cs t) (hc : cs = (l.map byteV).toArray) : Reads W (.slice (some ⟨g, 0, none⟩) l.length l.length) (l.map byteV) := by
  subst hc
  refine ⟨_, l.length, by rw [List.length_map], fun j u hj => ⟨g, 0, rfl, ?_⟩, fun e => by cases e⟩
  rw [Nat.zero_add, h.cell]
  simpa using hj
set_option maxRecDepth 100000 in
set_option maxHeartbeats 4000000 in
theorem refTextRes_any (m t : List UInt8) (st : Nat) (z : Int) (v : Value) (L : List Fld) (w : World) (hm : m.length ≤ 100) (hs1 : 100 ≤ st) (hs2 : st ≤ 599) (hz : 0 ≤ z) (hr : Reads2 w v L) (hk : okFs L) :
    Calls Tryz.prog 49 #[hdV m t (st : Int) z v, .bool false] w fun e w' => e = .returned (strV (textH (resLine ⟨m, [], st, z.toNat, []⟩) L)) ∧ Below w.heap.size w w' := by
  obtain ⟨ao, cap, rfl⟩ := hr.form
  obtain ⟨hl, hv⟩ := hk
  have hvl : (verL z.toNat).length = 8 := by unfold verL; split <;> rfl
  have hdl : (dig3 st).length = 3 := rfl
  obtain ⟨X1, e1, l1, s1⟩ := sum_lists (P := Tryz.prog) (verL z.toNat) [32] (by omega) (by decide)
  obtain ⟨X2, e2, l2, s2⟩ := sum_lists (P := Tryz.prog) X1 (dig3 st) (by rw [l1]; simp; omega) (by omega)
  obtain ⟨X3, e3, l3, s3⟩ := sum_lists (P := Tryz.prog) X2 [32] (by rw [l2, l1]; simp; omega) (by decide)
  obtain ⟨X4, e4, l4, s4⟩ := sum_lists (P := Tryz.prog) X3 m (by rw [l3, l2, l1]; simp; omega) (by omega)
  have hX : X4 = (resLine ⟨m, [], st, z.toNat, []⟩) := by rw [e4, e3, e2, e1]; simp [resLine]
  have hXl : X4.length ≤ 90000 := by rw [l4, l3, l2, l1, hvl, hdl]; simp; omega
  clear e1 e2 e3 e4 l1 l2 l3 l4
  rw [← hX]
  obtain ⟨R, hRt⟩ : ∃ R, textH X4 L = R := ⟨_, rfl⟩
  rw [hRt]
  have HRT := hid hRt
  clear hRt
  obtain ⟨X5, e5, l5, s5⟩ := sum_lists (P := Tryz.prog) X4 [13, 10] (by omega) (by decide)
  have hX5 : X5 = linesT (X4 :: (L.take 0).map fldLine) := by rw [e5]; simp [linesT, crlf]
  have cv := fun W => refVersion_any z W hz
  have hLL := fun k h => lines_len X4 L k h (by omega) hv
  have CV := hid cv
  have HLL := hid hLL
  have HR := hid hr
  have HV := hid hv
  have H5 := hid hX5
  obtain ⟨d1, ed1⟩ : ∃ d, d = st / 100 := ⟨_, rfl⟩
  obtain ⟨c2, ec2⟩ : ∃ d, d = st / 10 := ⟨_, rfl⟩
  obtain ⟨d2, ed2⟩ : ∃ d, d = c2 % 10 := ⟨_, rfl⟩
  obtain ⟨d3, ed3⟩ : ∃ d, d = st % 10 := ⟨_, rfl⟩
  have hcells := dig3_cells st d1 d2 d3 hs2 ed1 (by rw [ed2, ec2]) ed3
  have q1 : IntKind.i64.wrap ((st : Int) / 100) = (d1 : Int) := by rw [ed1]; exact (IntWalk.i64_in _ (by omega)).trans (by omega)
  have q2 : IntKind.i64.wrap ((st : Int) / 10) = (c2 : Int) := by rw [ec2]; exact (IntWalk.i64_in _ (by omega)).trans (by omega)
  have q3 : (c2 : Int).tmod 10 = (d2 : Int) := by rw [Int.tmod_eq_emod_of_nonneg (by omega), ed2]; omega
  have q4 : (st : Int).tmod 10 = (d3 : Int) := by rw [Int.tmod_eq_emod_of_nonneg (by omega), ed3]; omega
  have q3' : IntKind.i64.wrap ((c2 : Int).tmod 10) = (d2 : Int) := by rw [q3]; exact IntWalk.i64_in _ (by omega)
  have q4' : IntKind.i64.wrap ((st : Int).tmod 10) = (d3 : Int) := by rw [q4]; exact IntWalk.i64_in _ (by omega)
  have a1 : IntKind.i64.wrap (48 + (d1 : Int)) = 48 + (d1 : Int) := IntWalk.i64_in _ (by omega)
  have a2 : IntKind.i64.wrap (48 + (d2 : Int)) = 48 + (d2 : Int) := IntWalk.i64_in _ (by omega)
  have a3 : IntKind.i64.wrap (48 + (d3 : Int)) = 48 + (d3 : Int) := IntWalk.i64_in _ (by omega)
  have b1 : IntKind.u8.wrap (48 + (d1 : Int)) = 48 + (d1 : Int) := IntWalk.u8_in _ (by omega)
  have b2 : IntKind.u8.wrap (48 + (d2 : Int)) = 48 + (d2 : Int) := IntWalk.u8_in _ (by omega)
  have b3 : IntKind.u8.wrap (48 + (d3 : Int)) = 48 + (d3 : Int) := IntWalk.u8_in _ (by omega)
  clear cv hr hv hLL hX hXl hvl hdl hz e5 l5 hX5 hs1 hs2 ed1 ec2 ed2 ed3
  obtain ⟨D, hD⟩ : ∃ D, dig3 st = D := ⟨_, rfl⟩
  have hDl : D.length = 3 := by rw [← hD]; rfl
  rw [hD] at s2 hcells
  clear hD
  obtain ⟨W, hW⟩ : ∃ W, W = w.alloc (.cells #[strV m, strV t, .int .i64 (st : Int), .int .i64 z, .slice ao L.length cap] 47) := ⟨_, rfl⟩
  have hbW : Below w.heap.size w W := by rw [hW]; exact below_alloc _ _
  have hg : rowIs W w.heap.size #[strV m, strV t, .int .i64 (st : Int), .int .i64 z, .slice ao L.length cap] 47 := by rw [hW]; exact rowIs_new _ _ _
  have HG := hid hg
  have DD : ∀ W', TextS W #[.int .u8 (48 + (d1 : Int)), .int .u8 (48 + (d2 : Int)), .int .u8 (48 + (d3 : Int))] 5 [true] W' → (convert 27 9 (.slice (some ⟨W.heap.size, 0, none⟩) 3 3)).run Tryz.prog W' = .ok (strV D) W' := fun W' hS => by
    have h := reads_string (P := Tryz.prog) (rowIs.bytes hS.2 hcells) 27 9 5 Tryz.underlying27 Tryz.underlying5 Tryz.underlying9
    rw [hDl] at h
    exact h
  have DH := hid DD
  clear hg DD hDl hcells
  go_enter Tryz.func49, Tryz.ntmps49
  go_wp2_with fail
  rw [← hW]
  clear hW
  refine wp_region_U [20] (by kernel_rfl) (TextS W #[.int .u8 (48 + (d1 : Int)), .int .u8 (48 + (d2 : Int)), .int .u8 (48 + (d3 : Int))] 5) (b := [false]) (by kernel_rfl) ⟨(Below.refl _ _).drew, rfl⟩ ?_
  refine wpAnyU_take (i := 0) (v := ?_) (by decide) rfl (by kernel_rfl) (by kernel_rfl) (by kernel_rfl) (fun _ _ _ h => h) (Steady.plain (by kernel_rfl) ?_) ?_
  rotate_left
  · intro b W hS
    have h0 := (HG.out.below hS.1).cell 0
    have h2 := (HG.out.below hS.1).cell 2
    have h3 := (HG.out.below hS.1).cell 3
    go_simp
    first | done | with_reducible rfl
  simp only [Act.put, List.getElem_toArray, List.getElem_cons_zero, List.setIfInBounds_toArray, List.set_cons_zero, List.set_cons_succ]
  refine wpAnyU_take (i := 1) (v := ?_) (by decide) rfl (by kernel_rfl) (by kernel_rfl) (by kernel_rfl) (fun _ _ _ h => h) (Steady.plain (by kernel_rfl) ?_) ?_
  rotate_left
  · intro b W hS
    have h0 := (HG.out.below hS.1).cell 0
    have h2 := (HG.out.below hS.1).cell 2
    have h3 := (HG.out.below hS.1).cell 3
    go_simp
    first | done | with_reducible rfl
  simp only [Act.put, List.getElem_toArray, List.getElem_cons_succ, List.getElem_cons_zero, List.setIfInBounds_toArray, List.set_cons_zero, List.set_cons_succ]
  refine wpAnyU_take (i := 2) (v := strV (verL z.toNat)) (by decide) rfl (by kernel_rfl) (by kernel_rfl) (by kernel_rfl) (fun _ _ _ h => h) (Steady.call (f := 81) (args := #[.int .i64 z]) (by kernel_rfl) (fun _ => by kernel_rfl) ?_) ?_
  · intro b W hS
    refine (CV.out W).mono ?_
    rintro e w' ⟨he, rfl⟩
    exact ⟨he, hS⟩
  simp only [Act.put, List.getElem_toArray, List.getElem_cons_succ, List.getElem_cons_zero, List.setIfInBounds_toArray, List.set_cons_zero, List.set_cons_succ]
  refine wpAnyU_take (i := 3) (v := ?_) (by decide) rfl (by kernel_rfl) (by kernel_rfl) (by kernel_rfl) (fun _ _ _ h => h) (Steady.plain (by kernel_rfl) ?_) ?_
  rotate_left
  · intro b W hS
    have h0 := (HG.out.below hS.1).cell 0
    have h2 := (HG.out.below hS.1).cell 2
    have h3 := (HG.out.below hS.1).cell 3
    go_simp
    first | done | with_reducible rfl
  simp only [Act.put, List.getElem_toArray, List.getElem_cons_succ, List.getElem_cons_zero, List.setIfInBounds_toArray, List.set_cons_zero, List.set_cons_succ]
  refine wpAnyU_take (i := 4) (v := ?_) (by decide) rfl (by kernel_rfl) (by kernel_rfl) (by kernel_rfl) (fun _ _ _ h => h) (Steady.plain (by kernel_rfl) ?_) ?_
  rotate_left
  · intro b W hS
    have h0 := (HG.out.below hS.1).cell 0
    have h2 := (HG.out.below hS.1).cell 2
    have h3 := (HG.out.below hS.1).cell 3
    go_simp
    first | done | with_reducible rfl
  simp only [Act.put, List.getElem_toArray, List.getElem_cons_succ, List.getElem_cons_zero, List.setIfInBounds_toArray, List.set_cons_zero, List.set_cons_succ]
  refine wpAnyU_take (i := 5) (v := ?_) (by decide) rfl (by kernel_rfl) (by kernel_rfl) (by kernel_rfl) (fun _ _ _ h => h) (Steady.plain (by kernel_rfl) ?_) ?_
  rotate_left
  · intro b W hS
    have h0 := (HG.out.below hS.1).cell 0
    have h2 := (HG.out.below hS.1).cell 2
    have h3 := (HG.out.below hS.1).cell 3
    go_simp
    first | done | with_reducible rfl
  simp only [Act.put, List.getElem_toArray, List.getElem_cons_succ, List.getElem_cons_zero, List.setIfInBounds_toArray, List.set_cons_zero, List.set_cons_succ]
  refine wpAnyU_take (i := 6) (v := ?_) (by decide) rfl (by kernel_rfl) (by kernel_rfl) (by kernel_rfl) (fun _ _ _ h => h) (Steady.plain (by kernel_rfl) ?_) ?_
  rotate_left
  · intro b W hS
    have h0 := (HG.out.below hS.1).cell 0
    have h2 := (HG.out.below hS.1).cell 2
    have h3 := (HG.out.below hS.1).cell 3
    go_simp
    first | done | with_reducible rfl
  simp only [Act.put, List.getElem_toArray, List.getElem_cons_succ, List.getElem_cons_zero, List.setIfInBounds_toArray, List.set_cons_zero, List.set_cons_succ]
  refine wpAnyU_take (i := 7) (v := ?_) (by decide) rfl (by kernel_rfl) (by kernel_rfl) (by kernel_rfl) (fun _ _ _ h => h) (Steady.plain (by kernel_rfl) ?_) ?_
  rotate_left
  · intro b W hS
    have h0 := (HG.out.below hS.1).cell 0
    have h2 := (HG.out.below hS.1).cell 2
    have h3 := (HG.out.below hS.1).cell 3
    go_simp
    first | done | with_reducible rfl
  simp only [Act.put, List.getElem_toArray, List.getElem_cons_succ, List.getElem_cons_zero, List.setIfInBounds_toArray, List.set_cons_zero, List.set_cons_succ]
  refine wpAnyU_take (i := 8) (v := ?_) (by decide) rfl (by kernel_rfl) (by kernel_rfl) (by kernel_rfl) (fun _ _ _ h => h) (Steady.plain (by kernel_rfl) ?_) ?_
  rotate_left
  · intro b W hS
    have h0 := (HG.out.below hS.1).cell 0
    have h2 := (HG.out.below hS.1).cell 2
    have h3 := (HG.out.below hS.1).cell 3
    go_simp
    first | done | with_reducible rfl
  simp only [Act.put, List.getElem_toArray, List.getElem_cons_succ, List.getElem_cons_zero, List.setIfInBounds_toArray, List.set_cons_zero, List.set_cons_succ]
  refine wpAnyU_take (i := 9) (v := ?_) (by decide) rfl (by kernel_rfl) (by kernel_rfl) (by kernel_rfl) (fun _ _ _ h => h) (Steady.plain (by kernel_rfl) ?_) ?_
  rotate_left
  · intro b W hS
    have h0 := (HG.out.below hS.1).cell 0
    have h2 := (HG.out.below hS.1).cell 2
    have h3 := (HG.out.below hS.1).cell 3
    go_simp
    first | done | with_reducible rfl
  simp only [Act.put, List.getElem_toArray, List.getElem_cons_succ, List.getElem_cons_zero, List.setIfInBounds_toArray, List.set_cons_zero, List.set_cons_succ]
  refine wpAnyU_take (i := 10) (v := ?_) (by decide) rfl (by kernel_rfl) (by kernel_rfl) (by kernel_rfl) (fun _ _ _ h => h) (Steady.plain (by kernel_rfl) ?_) ?_
  rotate_left
  · intro b W hS
    have h0 := (HG.out.below hS.1).cell 0
    have h2 := (HG.out.below hS.1).cell 2
    have h3 := (HG.out.below hS.1).cell 3
    go_simp
    first | done | with_reducible rfl
  simp only [Act.put, List.getElem_toArray, List.getElem_cons_succ, List.getElem_cons_zero, List.setIfInBounds_toArray, List.set_cons_zero, List.set_cons_succ]
  refine wpAnyU_take (i := 11) (v := ?_) (by decide) rfl (by kernel_rfl) (by kernel_rfl) (by kernel_rfl) (fun _ _ _ h => h) (Steady.plain (by kernel_rfl) ?_) ?_
  rotate_left
  · intro b W hS
    have h0 := (HG.out.below hS.1).cell 0
    have h2 := (HG.out.below hS.1).cell 2
    have h3 := (HG.out.below hS.1).cell 3
    go_simp
    first | done | with_reducible rfl
  simp only [Act.put, List.getElem_toArray, List.getElem_cons_succ, List.getElem_cons_zero, List.setIfInBounds_toArray, List.set_cons_zero, List.set_cons_succ]
  refine wpAnyU_take (i := 12) (v := ?_) (by decide) rfl (by kernel_rfl) (by kernel_rfl) (by kernel_rfl) (fun _ _ _ h => h) (Steady.plain (by kernel_rfl) ?_) ?_
  rotate_left
  · intro b W hS
    have h0 := (HG.out.below hS.1).cell 0
    have h2 := (HG.out.below hS.1).cell 2
    have h3 := (HG.out.below hS.1).cell 3
    go_simp
    first | done | with_reducible rfl
  simp only [Act.put, List.getElem_toArray, List.getElem_cons_succ, List.getElem_cons_zero, List.setIfInBounds_toArray, List.set_cons_zero, List.set_cons_succ]
  refine wpAnyU_take (i := 13) (v := ?_) (by decide) rfl (by kernel_rfl) (by kernel_rfl) (by kernel_rfl) (fun _ _ _ h => h) (Steady.plain (by kernel_rfl) ?_) ?_
  rotate_left
  · intro b W hS
    have h0 := (HG.out.below hS.1).cell 0
    have h2 := (HG.out.below hS.1).cell 2
    have h3 := (HG.out.below hS.1).cell 3
    go_simp
    first | done | with_reducible rfl
  simp only [Act.put, List.getElem_toArray, List.getElem_cons_succ, List.getElem_cons_zero, List.setIfInBounds_toArray, List.set_cons_zero, List.set_cons_succ]
  refine wpAnyU_take (i := 14) (v := ?_) (by decide) rfl (by kernel_rfl) (by kernel_rfl) (by kernel_rfl) (fun _ _ _ h => h) (Steady.plain (by kernel_rfl) ?_) ?_
  rotate_left
  · intro b W hS
    have h0 := (HG.out.below hS.1).cell 0
    have h2 := (HG.out.below hS.1).cell 2
    have h3 := (HG.out.below hS.1).cell 3
    go_simp
    first | done | with_reducible rfl
  simp only [Act.put, List.getElem_toArray, List.getElem_cons_succ, List.getElem_cons_zero, List.setIfInBounds_toArray, List.set_cons_zero, List.set_cons_succ]
  refine wpAnyU_take (i := 15) (v := ?_) (by decide) rfl (by kernel_rfl) (by kernel_rfl) (by kernel_rfl) (fun _ _ _ h => h) (Steady.plain (by kernel_rfl) ?_) ?_
  rotate_left
  · intro b W hS
    have h0 := (HG.out.below hS.1).cell 0
    have h2 := (HG.out.below hS.1).cell 2
    have h3 := (HG.out.below hS.1).cell 3
    go_simp
    first | done | with_reducible rfl
  simp only [Act.put, List.getElem_toArray, List.getElem_cons_succ, List.getElem_cons_zero, List.setIfInBounds_toArray, List.set_cons_zero, List.set_cons_succ]
  refine wpAnyU_take (i := 16) (v := ?_) (by decide) rfl (by kernel_rfl) (by kernel_rfl) (by kernel_rfl) (fun _ _ _ h => h) (Steady.plain (by kernel_rfl) ?_) ?_
  rotate_left
  · intro b W hS
    have h0 := (HG.out.below hS.1).cell 0
    have h2 := (HG.out.below hS.1).cell 2
    have h3 := (HG.out.below hS.1).cell 3
    go_simp
    first | done | with_reducible rfl
  simp only [Act.put, List.getElem_toArray, List.getElem_cons_succ, List.getElem_cons_zero, List.setIfInBounds_toArray, List.set_cons_zero, List.set_cons_succ]
  refine wpAnyU_take (i := 17) (v := ?_) (by decide) rfl (by kernel_rfl) (by kernel_rfl) (by kernel_rfl) (fun _ _ _ h => h) (Steady.plain (by kernel_rfl) ?_) ?_
  rotate_left
  · intro b W hS
    have h0 := (HG.out.below hS.1).cell 0
    have h2 := (HG.out.below hS.1).cell 2
    have h3 := (HG.out.below hS.1).cell 3
    go_simp
    first | done | with_reducible rfl
  simp only [Act.put, List.getElem_toArray, List.getElem_cons_succ, List.getElem_cons_zero, List.setIfInBounds_toArray, List.set_cons_zero, List.set_cons_succ]
  refine wpAnyU_take (i := 18) (v := ?_) (by decide) rfl (by kernel_rfl) (by kernel_rfl) (by kernel_rfl) (fun _ _ _ h => h) (Steady.plain (by kernel_rfl) ?_) ?_
  rotate_left
  · intro b W hS
    have h0 := (HG.out.below hS.1).cell 0
    have h2 := (HG.out.below hS.1).cell 2
    have h3 := (HG.out.below hS.1).cell 3
    go_simp
    first | done | with_reducible rfl
  simp only [Act.put, List.getElem_toArray, List.getElem_cons_succ, List.getElem_cons_zero, List.setIfInBounds_toArray, List.set_cons_zero, List.set_cons_succ]
  refine wpAnyU_take (i := 19) (v := ?_) (by decide) rfl (by kernel_rfl) (by kernel_rfl) (by kernel_rfl) (fun _ _ _ h => h) (Steady.plain (by kernel_rfl) ?_) ?_
  rotate_left
  · intro b W hS
    have h0 := (HG.out.below hS.1).cell 0
    have h2 := (HG.out.below hS.1).cell 2
    have h3 := (HG.out.below hS.1).cell 3
    go_simp
    first | done | with_reducible rfl
  simp only [Act.put, List.getElem_toArray, List.getElem_cons_succ, List.getElem_cons_zero, List.setIfInBounds_toArray, List.set_cons_zero, List.set_cons_succ]
  refine wpAnyU_take (i := 24) (v := ?_) (by decide) rfl (by kernel_rfl) (by kernel_rfl) (by kernel_rfl) (fun _ _ _ h => h) (Steady.plain (by kernel_rfl) ?_) ?_
  rotate_left
  · intro b W hS
    have h0 := (HG.out.below hS.1).cell 0
    have h2 := (HG.out.below hS.1).cell 2
    have h3 := (HG.out.below hS.1).cell 3
    go_simp
    first | done | with_reducible rfl
  simp only [Act.put, List.getElem_toArray, List.getElem_cons_succ, List.getElem_cons_zero, List.setIfInBounds_toArray, List.set_cons_zero, List.set_cons_succ]
  refine wpAnyU_take (i := 25) (v := ?_) (by decide) rfl (by kernel_rfl) (by kernel_rfl) (by kernel_rfl) (fun _ _ _ h => h) (Steady.plain (by kernel_rfl) ?_) ?_
  rotate_left
  · intro b W hS
    have h0 := (HG.out.below hS.1).cell 0
    have h2 := (HG.out.below hS.1).cell 2
    have h3 := (HG.out.below hS.1).cell 3
    go_simp
    first | done | with_reducible rfl
  simp only [Act.put, List.getElem_toArray, List.getElem_cons_succ, List.getElem_cons_zero, List.setIfInBounds_toArray, List.set_cons_zero, List.set_cons_succ]
  refine wpAnyU_turn (i := 20) (v := .slice (some ⟨W.heap.size, 0, none⟩) 3 3) (b := [false]) (b' := [true]) rfl (by kernel_rfl) (by kernel_rfl) (by kernel_rfl) (by kernel_rfl) (turn_build (g := W.heap.size) (cells := #[.int .u8 (48 + (d1 : Int)), .int .u8 (48 + (d2 : Int)), .int .u8 (48 + (d3 : Int))]) (e := 5) (n := 3) (fun W => by go_simp; first | done | rfl) (fun W' hS => ⟨hS.2, hS.1.alloc (Nat.le_of_eq hS.2.symm) _, rowIs_new_at _ _ _ _ hS.2.symm⟩)) ?_
  simp only [Act.put, List.getElem_toArray, List.getElem_cons_succ, List.getElem_cons_zero, List.setIfInBounds_toArray, List.set_cons_zero, List.set_cons_succ]
  refine wpAnyU_turn (i := 21) (v := strV D) (b := [true]) (b' := [true]) rfl (by kernel_rfl) (by kernel_rfl) (by kernel_rfl) (by kernel_rfl) (fun W hS => conv_gives (DH.out W hS) hS rfl) ?_
  simp only [Act.put, List.getElem_toArray, List.getElem_cons_succ, List.getElem_cons_zero, List.setIfInBounds_toArray, List.set_cons_zero, List.set_cons_succ]
  refine wpAnyU_take (i := 22) (v := ?_) (by decide) rfl (by kernel_rfl) (by kernel_rfl) (by kernel_rfl) (fun _ _ _ h => h) (Steady.plain (by kernel_rfl) ?_) ?_
  rotate_left
  · intro b W hS
    have h0 := (HG.out.below hS.1).cell 0
    have h2 := (HG.out.below hS.1).cell 2
    have h3 := (HG.out.below hS.1).cell 3
    go_simp
    first | done | with_reducible rfl
  simp only [Act.put, List.getElem_toArray, List.getElem_cons_succ, List.getElem_cons_zero, List.setIfInBounds_toArray, List.set_cons_zero, List.set_cons_succ]
  refine wpAnyU_take (i := 23) (v := ?_) (by decide) rfl (by kernel_rfl) (by kernel_rfl) (by kernel_rfl) (fun _ _ _ h => h) (Steady.plain (by kernel_rfl) ?_) ?_
  rotate_left
  · intro b W hS
    have h0 := (HG.out.below hS.1).cell 0
    have h2 := (HG.out.below hS.1).cell 2
    have h3 := (HG.out.below hS.1).cell 3
    go_simp
    first | done | with_reducible rfl
  simp only [Act.put, List.getElem_toArray, List.getElem_cons_succ, List.getElem_cons_zero, List.setIfInBounds_toArray, List.set_cons_zero, List.set_cons_succ]
  refine wpAnyU_take (i := 26) (v := ?_) (by decide) rfl (by kernel_rfl) (by kernel_rfl) (by kernel_rfl) (fun _ _ _ h => h) (Steady.plain (by kernel_rfl) ?_) ?_
  rotate_left
  · intro b W hS
    have h0 := (HG.out.below hS.1).cell 0
    have h2 := (HG.out.below hS.1).cell 2
    have h3 := (HG.out.below hS.1).cell 3
    go_simp
    first | done | with_reducible rfl
  simp only [Act.put, List.getElem_toArray, List.getElem_cons_succ, List.getElem_cons_zero, List.setIfInBounds_toArray, List.set_cons_zero, List.set_cons_succ]
  refine wpAnyU_take (i := 27) (v := ?_) (by decide) rfl (by kernel_rfl) (by kernel_rfl) (by kernel_rfl) (fun _ _ _ h => h) (Steady.plain (by kernel_rfl) ?_) ?_
  rotate_left
  · intro b W hS
    have h0 := (HG.out.below hS.1).cell 0
    have h2 := (HG.out.below hS.1).cell 2
    have h3 := (HG.out.below hS.1).cell 3
    go_simp
    first | done | with_reducible rfl
  simp only [Act.put, List.getElem_toArray, List.getElem_cons_succ, List.getElem_cons_zero, List.setIfInBounds_toArray, List.set_cons_zero, List.set_cons_succ]
  refine wpAnyU_done (b := [true]) (by kernel_rfl) (by kernel_rfl) ?_ _
  intro w1 hS
  have hbb := chain2 hbW hbW.size hS.1
  have hg1 := HG.out.below hS.1
  clear HG hS hbW s1 s2 s3 s4 q1 q2 q3 q4 q3' q4' a1 a2 a3 b1 b2 b3 DH
  go_wp2_with fail
  rw [H5.out]
  clear s5
  go_loopw [5, 6] (fun x i wr => ∃ (k : Nat), k ≤ L.length ∧ i = .int .i64 k ∧ x = strV (linesT (X4 :: (L.take k).map fldLine)) ∧ Below w.heap.size w wr ∧ rowIs wr w.heap.size #[strV m, strV t, .int .i64 (st : Int), .int .i64 z, .slice ao L.length cap] 47) (fun _ i _ => L.length - (intOf i).toNat)
  case atStart => exact ⟨0, Nat.zero_le _, rfl, rfl, hbb, hg1⟩
  case round =>
    obtain ⟨k, hk, rfl, rfl, hb, hgw⟩ := hrel
    have gfl := hgw.cell 4
    have HG := hid hgw
    clear hgw
    by_cases hlt : k < L.length
    · obtain ⟨f, hf⟩ : ∃ f, L[k]? = some f := ⟨_, List.getElem?_eq_getElem hlt⟩
      obtain ⟨b, off, rfl, hc1, hc2⟩ := (HR.out.below hb).fld hf
      have hfv := HV.out f (List.mem_of_getElem? hf)
      have HT := hid (take_fld hf)
      clear hf
      obtain ⟨Y1, e1, l1, s1⟩ := sum_lists (P := Tryz.prog) f.1 [58, 32] (by omega) (by decide)
      obtain ⟨Y2, e2, l2, s2⟩ := sum_lists (P := Tryz.prog) Y1 f.2 (by rw [l1]; simp; omega) (by omega)
      obtain ⟨Y3, e3, l3, s3⟩ := sum_lists (P := Tryz.prog) Y2 [13, 10] (by rw [l2, l1]; simp; omega) (by decide)
      have hLk := HLL.out k (by omega)
      obtain ⟨Y4, e4, l4, s4⟩ := sum_lists (P := Tryz.prog) (linesT (X4 :: (L.take k).map fldLine)) Y3 (by omega) (by rw [l3, l2, l1]; simp; omega)
      have hY : Y4 = linesT (X4 :: (L.take (k + 1)).map fldLine) := by
        rw [HT.out, List.map_append, List.map_cons, List.map_nil, ← List.cons_append, linesT_snoc, e4, e3, e2, e1]
        simp [fldLine, crlf]
      have HY := hid hY
      clear e1 e2 e3 e4 l1 l2 l3 l4 hY hLk
      generalize linesT (X4 :: (L.take k).map fldLine) = acc at s4 ⊢
      have hI := (by omega : (k : Int) < (L.length : Int))
      go_wp2_with fail
      go_quiet (fail)
      go_wp2_with fail
      go_roundw
      case rel => exact ⟨k + 1, hlt, by go_num, by rw [← HY.out], chain2 hb hb.size (drewN_below2 _ _), HG.out.below (drewN_below2 _ _)⟩
      case measure => simp [intOf]; omega
    · have hke : L.take k = L := List.take_of_length_le (by omega)
      have hLk := HLL.out k (by omega)
      rw [hke] at hLk ⊢
      have htx : linesT (X4 :: L.map fldLine) ++ [13, 10] = textH X4 L := rfl
      obtain ⟨Y, e1, l1, s1⟩ := sum_lists (P := Tryz.prog) (linesT (X4 :: L.map fldLine)) [13, 10] (by omega) (by decide)
      have HRY := hid (show R = Y by rw [← HRT.out, ← htx, ← e1])
      clear htx e1 l1 hLk hke
      generalize linesT (X4 :: L.map fldLine) = acc at s1 ⊢
      go_wp2_with fail
      go_ret
      exact ⟨by rw [HRY.out]; rfl, hb⟩
end Go.Proofs.YtongceljdgmbdaaGreatDoor
