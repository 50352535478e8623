/-
  Several texts in one: HeadS, HeadSR.
-/
import Derived.Test.YtongceljdgmbdaaGreatDoorW7f04
import Derived.Test.YtongceljdgmbdaaGreatDoorPureAll2
import Derived.Lib.Builder
import Derived.Lib.OthersKept
/-
  Contracts of package head: show.
-/
namespace Go.Proofs.YtongceljdgmbdaaGreatDoor
open Go.RowKit Go.Pantry

theorem sumL (P : Program) (a b : List UInt8) (h : a.length + b.length ≤ 1000000000) : ∃ X, X = a ++ b ∧ X.length = a.length + b.length ∧ ∀ W, (Op.stringOp .add ⟨a.toArray⟩ ⟨b.toArray⟩).run P W = .ok (.string ⟨X.toArray⟩) W :=
  ⟨a ++ b, rfl, List.length_append, fun W => by rw [run_string_add_sum W _ _ (by rw [szL, szL]; omega), ByteArray.mk_append_mk]⟩
/-- a head's text, by its first line -/
def textH (first : List UInt8) (L : List Fld) : List UInt8 := linesT (first :: L.map fldLine) ++ crlf
theorem linesT_snoc (l : List (List UInt8)) (a : List UInt8) : linesT (l ++ [a]) = linesT l ++ (a ++ crlf) := by simp [linesT]
theorem isBuilder_alloc {T e : TypeId} {B b : Nat} {bs : List Value} {w : World} (h : Lib.IsBuilder T e B b bs w) (o : Obj) : Lib.IsBuilder T e B b bs (w.alloc o) := by
  have one : ∀ p, Lib.BuilderAt T e B b p bs w → Lib.BuilderAt T e B b p bs (w.alloc o) := fun p ⟨hB, v, hb, ho, hne⟩ => ⟨hB, v, (Lib.alloc_old w o b (Array.getElem?_eq_some_iff.1 hb).1).trans hb, ho.alloc o, hne⟩
  rcases h with h | h
  · exact .inl (one _ h)
  · exact .inr (one _ h)
theorem byteCells_str (l : List UInt8) : Lib.strCells ⟨l.toArray⟩ = Lib.byteCells l := by simp [Lib.strCells, Lib.byteCells]
theorem byteCells_app (a b : List UInt8) : Lib.byteCells (a ++ b) = Lib.byteCells a ++ Lib.byteCells b := by simp [Lib.byteCells]
theorem byteCells_len (a : List UInt8) : (Lib.byteCells a).length = a.length := by simp [Lib.byteCells]
/-- writing a text -/
theorem write_any (b : Nat) (acc s : List UInt8) (w : World) (h : Lib.IsBuilder 172 5 b b (Lib.byteCells acc) w) (hl : acc.length + s.length ≤ 1000000000) (hb : b ≤ w.heap.size) :
    Calls Tryz.prog 110 #[.pointer (some ⟨b, 0, none⟩), .string ⟨s.toArray⟩] w fun e w' => (∃ v, e = .returned v) ∧ Lib.IsBuilder 172 5 b b (Lib.byteCells (acc ++ s)) w' ∧ Below b w w' := by
  refine (Tryz.Builder_WriteString b b (Lib.byteCells acc) ⟨s.toArray⟩ w h (by rw [byteCells_len, szL]; omega) hb).mono ?_
  rintro e w' ⟨rfl, h2, h3⟩
  rw [byteCells_str] at h2
  exact ⟨⟨_, rfl⟩, by rw [byteCells_app]; exact h2, h3⟩
theorem lines_len0 (M : Nat) (first : List UInt8) (L : List Fld) (k : Nat) (hf : first.length + 2 ≤ M) (hv : ∀ f ∈ L, f.1.length + f.2.length + 4 ≤ M) : (linesT (first :: (L.take k).map fldLine)).length ≤ (k + 1) * M := by
  induction k with
  | zero =>
    rw [Nat.zero_add, Nat.one_mul]
    simp [linesT, crlf]
    omega
  | succ k ih =>
    have hk2 : (k + 1 + 1) * M = (k + 1) * M + M := by rw [Nat.add_mul (k + 1), Nat.one_mul]
    rw [hk2]
    generalize (k + 1) * M = q at ih ⊢
    by_cases hk : k < L.length
    · have e : L.take (k + 1) = L.take k ++ [L[k]] := List.take_succ_eq_append_getElem hk
      rw [e, List.map_append, List.map_cons, List.map_nil, ← List.cons_append, linesT_snoc, List.length_append, List.length_append]
      have h1 := hv L[k] (List.getElem_mem hk)
      have h3 : (fldLine L[k]).length = L[k].1.length + L[k].2.length + 2 := by simp [fldLine]; omega
      have h4 : crlf.length = 2 := rfl
      rw [h3, h4]
      generalize (linesT (first :: (L.take k).map fldLine)).length = x at ih ⊢
      generalize L[k].1.length = y at h1 ⊢
      generalize L[k].2.length = u at h1 ⊢
      clear h3 h4 e hv hf hk2
      omega
    · rw [List.take_of_length_le (show L.length ≤ k + 1 by omega)]
      rw [List.take_of_length_le (show L.length ≤ k by omega)] at ih
      omega
theorem lines_len (first : List UInt8) (L : List Fld) (k : Nat) (hk : k ≤ 1000) (hf : first.length ≤ 100000) (hv : ∀ f ∈ L, f.1.length ≤ 100000 ∧ f.2.length ≤ 100000) : (linesT (first :: (L.take k).map fldLine)).length ≤ 300000000 := by
  refine Nat.le_trans (lines_len0 200004 first L k (by omega) fun f hf => by have := hv f hf; omega) ?_
  exact Nat.le_trans (Nat.mul_le_mul_right 200004 (show k + 1 ≤ 1001 by omega)) (by decide)
set_option maxRecDepth 100000 in
set_option maxHeartbeats 4000000 in
theorem show_any (z : Int) (v : Value) (L : List Fld) (first : List UInt8) (w : World) (hr : Reads2 w v L) (hk : okFs L) (hf : first.length ≤ 100000) :
    Calls Tryz.prog 73 #[.agg #[.int .i64 z, v], strV first] w fun e w' => e = .returned (.tuple #[strV (if 4096 < (textH first L).length then [] else textH first L), .int .i64 (if 4096 < (textH first L).length then 22 else 0)]) ∧ Below w.heap.size w w' := by
  obtain ⟨ao, cap, rfl⟩ := hr.form
  obtain ⟨hl, hv⟩ := hk
  obtain ⟨R1, hR1⟩ : ∃ x, (if 4096 < (textH first L).length then ([] : List UInt8) else textH first L) = x := ⟨_, rfl⟩
  obtain ⟨R2, hR2⟩ : ∃ x, (if 4096 < (textH first L).length then (22 : Int) else 0) = x := ⟨_, rfl⟩
  rw [hR1, hR2]
  have HRR := hid (And.intro hR1 hR2)
  clear hR1 hR2
  have HR := hid hr
  have HV := hid hv
  have hLL := fun k h => lines_len first L k h hf hv
  have HLL := hid hLL
  obtain ⟨X0, e0, l0, s0⟩ := sum_lists (P := Tryz.prog) first [13, 10] (by omega) (by decide)
  have hX0 : X0 = linesT (first :: (L.take 0).map fldLine) := by rw [e0]; simp [linesT, crlf]
  have H0 := hid hX0
  have hX0l : X0.length ≤ 100002 := by rw [l0]; simp; omega
  clear hr hv hLL e0 hX0 l0
  obtain ⟨W, hW⟩ : ∃ W, W = (w.alloc (.cells #[.int .i64 z, .slice ao L.length cap] 38)).alloc (.cells #[.pointer none, .slice none 0 0] 172) := ⟨_, rfl⟩
  have hbW : Below w.heap.size w W := by rw [hW]; exact (below_alloc _ _).alloc (by simp) _
  have hsW : W.heap.size = w.heap.size + 2 := by rw [hW]; simp
  have hib : Lib.IsBuilder 172 5 (w.heap.size + 1) (w.heap.size + 1) (Lib.byteCells []) W := by
    rw [hW]
    have := Lib.fresh_isBuilder 172 5 (w.alloc (.cells #[.int .i64 z, .slice ao L.length cap] 38))
    rw [show (w.alloc (.cells #[.int .i64 z, .slice ao L.length cap] 38)).heap.size = w.heap.size + 1 by simp] at this
    exact this
  have hgh : rowIs W w.heap.size #[.int .i64 z, .slice ao L.length cap] 38 := by rw [hW]; exact (rowIs_new _ _ _).below (below_alloc _ _)
  go_enter Tryz.func73, Tryz.ntmps73
  go_wp2_with fail
  rw [← hW]
  clear hW
  refine (write_any (w.heap.size + 1) [] X0 W hib (by simp; omega) (by omega)).mono ?_
  rintro e w1 ⟨⟨vr, rfl⟩, hib1, hb1⟩
  rw [List.nil_append, H0.out] at hib1
  have hgr : w1.cell? ⟨w.heap.size, 1, none⟩ = some (.slice ao L.length cap) := by
    rw [hb1.cell (p := ⟨w.heap.size, 1, none⟩) (by show w.heap.size < w.heap.size + 1; omega)]
    exact hgh.cell 1
  have hs1 : w.heap.size + 1 < w1.heap.size := by have := hb1.size; omega
  have hbb : Below w.heap.size w w1 := hbW.trans (hb1.mono (by omega))
  clear hib hgh hb1 hbW hsW H0 s0 hX0l
  go_wp2_with fail
  clear hgr
  go_loopw [15] (fun i wr => ∃ (k : Nat), k ≤ L.length ∧ i = .int .i64 k ∧ Lib.IsBuilder 172 5 (w.heap.size + 1) (w.heap.size + 1) (Lib.byteCells (linesT (first :: (L.take k).map fldLine))) wr ∧ Below w.heap.size w wr ∧ w.heap.size + 1 < wr.heap.size) (fun i _ => L.length - (intOf i).toNat)
  case atStart => exact ⟨0, Nat.zero_le _, rfl, hib1, hbb, hs1⟩
  case round =>
    obtain ⟨k, hk, rfl, hI, hb, hs⟩ := hrel
    have HI := hid hI
    clear hI
    by_cases hlt : k < L.length
    · obtain ⟨f, hf⟩ : ∃ f, L[k]? = some f := ⟨_, List.getElem?_eq_getElem hlt⟩
      obtain ⟨b, off, rfl, hc1, hc2⟩ := (HR.out.below hb).fld hf
      have hfv := HV.out f (List.mem_of_getElem? hf)
      have HT := hid (take_fld hf)
      clear hf
      obtain ⟨X1, e1, l1, s1⟩ := sum_lists (P := Tryz.prog) f.1 [58, 32] (by omega) (by decide)
      obtain ⟨X2, e2, l2, s2⟩ := sum_lists (P := Tryz.prog) X1 f.2 (by rw [l1]; simp; omega) (by omega)
      obtain ⟨X3, e3, l3, s3⟩ := sum_lists (P := Tryz.prog) X2 [13, 10] (by rw [l2, l1]; simp; omega) (by decide)
      have hX3 : linesT (first :: (L.take k).map fldLine) ++ X3 = linesT (first :: (L.take (k + 1)).map fldLine) := by
        rw [HT.out, List.map_append, List.map_cons, List.map_nil, ← List.cons_append, linesT_snoc, e3, e2, e1]
        simp [fldLine, crlf]
      have hX3l : X3.length ≤ 200004 := by rw [l3, l2, l1]; simp; omega
      have H3 := hid hX3
      have hLk := HLL.out k (by omega)
      clear e1 e2 e3 l1 l2 l3 hX3
      have hI2 := isBuilder_alloc HI.out (.cells #[strV f.1, strV f.2] 104)
      have hbA := chain2 hb hb.size (below_alloc wr (.cells #[strV f.1, strV f.2] 104))
      go_wp2_with fail
      refine (write_any (w.heap.size + 1) _ X3 _ hI2 (by omega) (by simp; omega)).mono ?_
      rintro e w2 ⟨⟨vr2, rfl⟩, hI3, hb2⟩
      rw [H3.out] at hI3
      have hbn := hbA.trans (hb2.mono (by omega))
      have hsn : w.heap.size + 1 < w2.heap.size := by have := hb2.size; simp at this; omega
      clear hI2 hbA hb2 s1 s2 s3
      go_wp2_with fail
      go_roundw
      case rel => exact ⟨k + 1, hlt, by go_num, hI3, hbn, hsn⟩
      case measure => simp [intOf]; omega
    · have hke : L.take k = L := List.take_of_length_le (by omega)
      have hLk := HLL.out k (by omega)
      have hI := HI.out
      rw [hke] at hI hLk
      have hkl : k = L.length := by omega
      have htx : linesT (first :: L.map fldLine) ++ [13, 10] = textH first L := rfl
      have hlen : (textH first L).length = (linesT (first :: L.map fldLine)).length + 2 := by rw [← htx, List.length_append]; rfl
      have hRR := HRR.out
      generalize textH first L = T at htx hlen hRR
      generalize linesT (first :: L.map fldLine) = A at hI hLk htx hlen
      have HX := hid htx
      have HRQ := hid hRR
      clear hRR
      have HB := hid (And.intro hI hbb)
      clear hke htx HI hI
      go_wp2_with fail
      refine (write_any (w.heap.size + 1) A [13, 10] _ HB.out.1 (by simp; omega) (by omega)).mono ?_
      rintro e w2 ⟨⟨vr2, rfl⟩, hI3, hb2⟩
      rw [HX.out] at hI3
      have hbn := hb.trans (hb2.mono (by omega))
      have hsn : w.heap.size + 1 ≤ w2.heap.size := by have := hb2.size; omega
      clear HB hb2
      have cl := Tryz.Builder_Len (w.heap.size + 1) (w.heap.size + 1) (Lib.byteCells T) w2 hI3
      have cs := Tryz.Builder_String_any (w.heap.size + 1) (w.heap.size + 1) T w2 hI3 hsn
      rw [byteCells_len] at cl
      have CL := hid cl
      have CS := hid cs
      clear cl cs hI3
      have hRR := HRQ.out
      by_cases h4 : (4096 : Int) < (T.length : Int)
      · rw [if_pos (by omega), if_pos (by omega)] at hRR
        obtain ⟨rfl, rfl⟩ := hRR
        go_wp2_with fail
        refine CL.out.mono ?_
        rintro e w3 ⟨rfl, rfl⟩
        go_wp2_with fail
        go_ret2
        exact ⟨rfl, hbn⟩
      · rw [if_neg (by omega), if_neg (by omega)] at hRR
        obtain ⟨rfl, rfl⟩ := hRR
        have d4 : decide ((4096 : Int) < (T.length : Int)) = false := decide_eq_false h4
        go_wp2_with fail
        refine CL.out.mono ?_
        rintro e w3 ⟨rfl, rfl⟩
        go_wp2_with fail
        refine CS.out.mono ?_
        rintro e w4 ⟨rfl, hb4⟩
        go_wp2_with fail
        go_ret2
        exact ⟨rfl, hbn.trans (hb4.mono (by omega))⟩
end Go.Proofs.YtongceljdgmbdaaGreatDoor
/-
  Contracts of package head: ShowRequest.
-/
namespace Go.Proofs.YtongceljdgmbdaaGreatDoor
open Go.RowKit Go.Pantry

set_option maxRecDepth 100000 in
set_option maxHeartbeats 4000000 in
theorem ShowRequest_no (m t : List UInt8) (z : Int) (v : Value) (L : List Fld) (w : World) (hm : m.length ≤ 100) (ht : t.length ≤ 1100) (hr : Reads2 w v L) (hk : okFs L) (hq : rightQ m t z L = false) :
    Calls Tryz.prog 44 #[.agg #[strV m, strV t, .int .i64 z, v]] w fun e w' => e = .returned (.tuple #[strV [], .int .i64 10]) ∧ Below w.heap.size w w' := by
  obtain ⟨ao, cap, rfl⟩ := hr.form
  have cr := fun W h => qRight_any m t z (.slice ao L.length cap) L W (by omega) (by omega) h hk
  rw [hq] at cr
  have CR := hid cr
  have HR := hid hr
  clear cr hr hq
  go_enter Tryz.func44, Tryz.ntmps44
  go_wp2_with fail
  refine (CR.out _ (HR.out.below (below_alloc _ _))).mono ?_
  rintro e w1 ⟨rfl, hb1⟩
  go_wp2_with fail
  go_ret2
  exact ⟨rfl, (below_alloc _ _).trans (hb1.mono (by simp))⟩
set_option maxRecDepth 100000 in
set_option maxHeartbeats 4000000 in
theorem ShowRequest_yes (m t : List UInt8) (z : Int) (v : Value) (L : List Fld) (w : World) (hm : m.length ≤ 100) (ht : t.length ≤ 1100) (hr : Reads2 w v L) (hk : okFs L) (hz : 0 ≤ z) (hq : rightQ m t z L = true) :
    Calls Tryz.prog 44 #[.agg #[strV m, strV t, .int .i64 z, v]] w fun e w' => e = .returned (.tuple #[strV (if 4096 < (textH (reqLine ⟨m, t, 0, z.toNat, []⟩) L).length then [] else textH (reqLine ⟨m, t, 0, z.toNat, []⟩) L), .int .i64 (if 4096 < (textH (reqLine ⟨m, t, 0, z.toNat, []⟩) L).length then 22 else 0)]) ∧ Below w.heap.size w w' := by
  obtain ⟨ao, cap, rfl⟩ := hr.form
  have cr := fun W h => qRight_any m t z (.slice ao L.length cap) L W (by omega) (by omega) h hk
  rw [hq] at cr
  obtain ⟨X1, e1, l1, s1⟩ := sum_lists (P := Tryz.prog) m [32] (by omega) (by decide)
  obtain ⟨X2, e2, l2, s2⟩ := sum_lists (P := Tryz.prog) X1 t (by rw [l1]; simp; omega) (by omega)
  obtain ⟨X3, e3, l3, s3⟩ := sum_lists (P := Tryz.prog) X2 [32] (by rw [l2, l1]; simp; omega) (by decide)
  have hvl : (verL z.toNat).length = 8 := by unfold verL; split <;> rfl
  obtain ⟨X4, e4, l4, s4⟩ := sum_lists (P := Tryz.prog) X3 (verL z.toNat) (by rw [l3, l2, l1]; simp; omega) (by omega)
  have hX : X4 = (reqLine ⟨m, t, 0, z.toNat, []⟩) := by rw [e4, e3, e2, e1]; simp [reqLine]
  have hXl : X4.length ≤ 100000 := by rw [l4, l3, l2, l1, hvl]; simp; omega
  rw [← hX]
  have cs := fun W h => show_any z (.slice ao L.length cap) L X4 W h hk hXl
  have cv := fun W => version_any z ao L.length cap W hz
  obtain ⟨R1, hR1⟩ : ∃ x, (if 4096 < (textH X4 L).length then ([] : List UInt8) else textH X4 L) = x := ⟨_, rfl⟩
  obtain ⟨R2, hR2⟩ : ∃ x, (if 4096 < (textH X4 L).length then (22 : Int) else 0) = x := ⟨_, rfl⟩
  rw [hR1, hR2] at cs ⊢
  have CR := hid cr
  have CS := hid cs
  have CV := hid cv
  have HR := hid hr
  clear cr cs cv hr hq hR1 hR2 hX hXl e1 e2 e3 e4 l1 l2 l3 l4 hvl hz
  obtain ⟨W, hW⟩ : ∃ W, W = w.alloc (.cells #[strV m, strV t, .int .i64 z, .slice ao L.length cap] 40) := ⟨_, rfl⟩
  have hbW : Below w.heap.size w W := by rw [hW]; exact below_alloc _ _
  have hg : rowIs W w.heap.size #[strV m, strV t, .int .i64 z, .slice ao L.length cap] 40 := by rw [hW]; exact rowIs_new _ _ _
  go_enter Tryz.func44, Tryz.ntmps44
  go_wp2_with fail
  rw [← hW]
  clear hW
  refine (CR.out _ (HR.out.below hbW)).mono ?_
  rintro e w1 ⟨rfl, hb1⟩
  have hg1 := hg.below hb1
  have hbb := chain2 hbW hbW.size hb1
  clear hg hbW hb1 CR
  go_wp2_with fail
  refine wp_region_U [] (by kernel_rfl) (BoxS w w.heap.size w.heap.size #[strV m, strV t, .int .i64 z, .slice ao L.length cap] 40) (b := []) (by kernel_rfl) (BoxS.drew (W := w1) ⟨hbb, hbb.size, hg1⟩) ?_
  refine wpAnyU_take (i := 0) (v := ?_) (by decide) rfl (by kernel_rfl) (by kernel_rfl) (by kernel_rfl) (fun _ _ _ h => h) (Steady.plain (by kernel_rfl) ?_) ?_
  rotate_left
  · intro b W hS
    have h0 := hS.2.2.cell 0
    have h1 := hS.2.2.cell 1
    have h2 := hS.2.2.cell 2
    have h3 := hS.2.2.cell 3
    go_simp
    first | done | with_reducible rfl
  simp only [Act.put, List.getElem_toArray, List.getElem_cons_zero, List.setIfInBounds_toArray, List.set_cons_zero, List.set_cons_succ]
  refine wpAnyU_take (i := 1) (v := ?_) (by decide) rfl (by kernel_rfl) (by kernel_rfl) (by kernel_rfl) (fun _ _ _ h => h) (Steady.plain (by kernel_rfl) ?_) ?_
  rotate_left
  · intro b W hS
    have h0 := hS.2.2.cell 0
    have h1 := hS.2.2.cell 1
    have h2 := hS.2.2.cell 2
    have h3 := hS.2.2.cell 3
    go_simp
    first | done | with_reducible rfl
  simp only [Act.put, List.getElem_toArray, List.getElem_cons_succ, List.getElem_cons_zero, List.setIfInBounds_toArray, List.set_cons_zero, List.set_cons_succ]
  refine wpAnyU_take (i := 2) (v := ?_) (by decide) rfl (by kernel_rfl) (by kernel_rfl) (by kernel_rfl) (fun _ _ _ h => h) (Steady.plain (by kernel_rfl) ?_) ?_
  rotate_left
  · intro b W hS
    have h0 := hS.2.2.cell 0
    have h1 := hS.2.2.cell 1
    have h2 := hS.2.2.cell 2
    have h3 := hS.2.2.cell 3
    go_simp
    first | done | with_reducible rfl
  simp only [Act.put, List.getElem_toArray, List.getElem_cons_succ, List.getElem_cons_zero, List.setIfInBounds_toArray, List.set_cons_zero, List.set_cons_succ]
  refine wpAnyU_take (i := 3) (v := ?_) (by decide) rfl (by kernel_rfl) (by kernel_rfl) (by kernel_rfl) (fun _ _ _ h => h) (Steady.plain (by kernel_rfl) ?_) ?_
  rotate_left
  · intro b W hS
    have h0 := hS.2.2.cell 0
    have h1 := hS.2.2.cell 1
    have h2 := hS.2.2.cell 2
    have h3 := hS.2.2.cell 3
    go_simp
    first | done | with_reducible rfl
  simp only [Act.put, List.getElem_toArray, List.getElem_cons_succ, List.getElem_cons_zero, List.setIfInBounds_toArray, List.set_cons_zero, List.set_cons_succ]
  refine wpAnyU_take (i := 4) (v := ?_) (by decide) rfl (by kernel_rfl) (by kernel_rfl) (by kernel_rfl) (fun _ _ _ h => h) (Steady.plain (by kernel_rfl) ?_) ?_
  rotate_left
  · intro b W hS
    have h0 := hS.2.2.cell 0
    have h1 := hS.2.2.cell 1
    have h2 := hS.2.2.cell 2
    have h3 := hS.2.2.cell 3
    go_simp
    first | done | with_reducible rfl
  simp only [Act.put, List.getElem_toArray, List.getElem_cons_succ, List.getElem_cons_zero, List.setIfInBounds_toArray, List.set_cons_zero, List.set_cons_succ]
  refine wpAnyU_take (i := 5) (v := ?_) (by decide) rfl (by kernel_rfl) (by kernel_rfl) (by kernel_rfl) (fun _ _ _ h => h) (Steady.plain (by kernel_rfl) ?_) ?_
  rotate_left
  · intro b W hS
    have h0 := hS.2.2.cell 0
    have h1 := hS.2.2.cell 1
    have h2 := hS.2.2.cell 2
    have h3 := hS.2.2.cell 3
    go_simp
    first | done | with_reducible rfl
  simp only [Act.put, List.getElem_toArray, List.getElem_cons_succ, List.getElem_cons_zero, List.setIfInBounds_toArray, List.set_cons_zero, List.set_cons_succ]
  refine wpAnyU_take (i := 6) (v := ?_) (by decide) rfl (by kernel_rfl) (by kernel_rfl) (by kernel_rfl) (fun _ _ _ h => h) (Steady.plain (by kernel_rfl) ?_) ?_
  rotate_left
  · intro b W hS
    have h0 := hS.2.2.cell 0
    have h1 := hS.2.2.cell 1
    have h2 := hS.2.2.cell 2
    have h3 := hS.2.2.cell 3
    go_simp
    first | done | with_reducible rfl
  simp only [Act.put, List.getElem_toArray, List.getElem_cons_succ, List.getElem_cons_zero, List.setIfInBounds_toArray, List.set_cons_zero, List.set_cons_succ]
  refine wpAnyU_take (i := 7) (v := ?_) (by decide) rfl (by kernel_rfl) (by kernel_rfl) (by kernel_rfl) (fun _ _ _ h => h) (Steady.plain (by kernel_rfl) ?_) ?_
  rotate_left
  · intro b W hS
    have h0 := hS.2.2.cell 0
    have h1 := hS.2.2.cell 1
    have h2 := hS.2.2.cell 2
    have h3 := hS.2.2.cell 3
    go_simp
    first | done | with_reducible rfl
  simp only [Act.put, List.getElem_toArray, List.getElem_cons_succ, List.getElem_cons_zero, List.setIfInBounds_toArray, List.set_cons_zero, List.set_cons_succ]
  refine wpAnyU_take (i := 8) (v := ?_) (by decide) rfl (by kernel_rfl) (by kernel_rfl) (by kernel_rfl) (fun _ _ _ h => h) (Steady.plain (by kernel_rfl) ?_) ?_
  rotate_left
  · intro b W hS
    have h0 := hS.2.2.cell 0
    have h1 := hS.2.2.cell 1
    have h2 := hS.2.2.cell 2
    have h3 := hS.2.2.cell 3
    go_simp
    first | done | with_reducible rfl
  simp only [Act.put, List.getElem_toArray, List.getElem_cons_succ, List.getElem_cons_zero, List.setIfInBounds_toArray, List.set_cons_zero, List.set_cons_succ]
  refine wpAnyU_take (i := 9) (v := ?_) (by decide) rfl (by kernel_rfl) (by kernel_rfl) (by kernel_rfl) (fun _ _ _ h => h) (Steady.plain (by kernel_rfl) ?_) ?_
  rotate_left
  · intro b W hS
    have h0 := hS.2.2.cell 0
    have h1 := hS.2.2.cell 1
    have h2 := hS.2.2.cell 2
    have h3 := hS.2.2.cell 3
    go_simp
    first | done | with_reducible rfl
  simp only [Act.put, List.getElem_toArray, List.getElem_cons_succ, List.getElem_cons_zero, List.setIfInBounds_toArray, List.set_cons_zero, List.set_cons_succ]
  refine wpAnyU_take (i := 10) (v := ?_) (by decide) rfl (by kernel_rfl) (by kernel_rfl) (by kernel_rfl) (fun _ _ _ h => h) (Steady.plain (by kernel_rfl) ?_) ?_
  rotate_left
  · intro b W hS
    have h0 := hS.2.2.cell 0
    have h1 := hS.2.2.cell 1
    have h2 := hS.2.2.cell 2
    have h3 := hS.2.2.cell 3
    go_simp
    first | done | with_reducible rfl
  simp only [Act.put, List.getElem_toArray, List.getElem_cons_succ, List.getElem_cons_zero, List.setIfInBounds_toArray, List.set_cons_zero, List.set_cons_succ]
  refine wpAnyU_take (i := 11) (v := strV (verL z.toNat)) (by decide) rfl (by kernel_rfl) (by kernel_rfl) (by kernel_rfl) (fun _ _ _ h => h) (Steady.call (f := 74) (args := #[.agg #[.int .i64 z, .slice ao L.length cap]]) (by kernel_rfl) (fun _ => by kernel_rfl) ?_) ?_
  · intro b W hS
    refine (CV.out W).mono ?_
    rintro e w' ⟨he, hb⟩
    exact ⟨he, hS.below hb⟩
  simp only [Act.put, List.getElem_toArray, List.getElem_cons_succ, List.getElem_cons_zero, List.setIfInBounds_toArray, List.set_cons_zero, List.set_cons_succ]
  refine wpAnyU_take (i := 12) (v := ?_) (by decide) rfl (by kernel_rfl) (by kernel_rfl) (by kernel_rfl) (fun _ _ _ h => h) (Steady.plain (by kernel_rfl) ?_) ?_
  rotate_left
  · intro b W hS
    have h0 := hS.2.2.cell 0
    have h1 := hS.2.2.cell 1
    have h2 := hS.2.2.cell 2
    have h3 := hS.2.2.cell 3
    go_simp
    first | done | with_reducible rfl
  simp only [Act.put, List.getElem_toArray, List.getElem_cons_succ, List.getElem_cons_zero, List.setIfInBounds_toArray, List.set_cons_zero, List.set_cons_succ]
  refine wpAnyU_take (i := 13) (v := .tuple #[strV R1, .int .i64 R2]) (by decide) rfl (by kernel_rfl) (by kernel_rfl) (by kernel_rfl) (fun _ _ _ h => h) (Steady.call (f := 73) (args := #[.agg #[.int .i64 z, .slice ao L.length cap], strV X4]) (by kernel_rfl) (fun _ => by kernel_rfl) ?_) ?_
  · intro b W hS
    refine (CS.out W (HR.out.below hS.1)).mono ?_
    rintro e w' ⟨he, hb⟩
    exact ⟨he, hS.below hb⟩
  simp only [Act.put, List.getElem_toArray, List.getElem_cons_succ, List.getElem_cons_zero, List.setIfInBounds_toArray, List.set_cons_zero, List.set_cons_succ]
  refine wpAnyU_take (i := 14) (v := ?_) (by decide) rfl (by kernel_rfl) (by kernel_rfl) (by kernel_rfl) (fun _ _ _ h => h) (Steady.plain (by kernel_rfl) ?_) ?_
  rotate_left
  · intro b W hS
    have h0 := hS.2.2.cell 0
    have h1 := hS.2.2.cell 1
    have h2 := hS.2.2.cell 2
    have h3 := hS.2.2.cell 3
    go_simp
    first | done | with_reducible rfl
  simp only [Act.put, List.getElem_toArray, List.getElem_cons_succ, List.getElem_cons_zero, List.setIfInBounds_toArray, List.set_cons_zero, List.set_cons_succ]
  refine wpAnyU_take (i := 15) (v := ?_) (by decide) rfl (by kernel_rfl) (by kernel_rfl) (by kernel_rfl) (fun _ _ _ h => h) (Steady.plain (by kernel_rfl) ?_) ?_
  rotate_left
  · intro b W hS
    have h0 := hS.2.2.cell 0
    have h1 := hS.2.2.cell 1
    have h2 := hS.2.2.cell 2
    have h3 := hS.2.2.cell 3
    go_simp
    first | done | with_reducible rfl
  simp only [Act.put, List.getElem_toArray, List.getElem_cons_succ, List.getElem_cons_zero, List.setIfInBounds_toArray, List.set_cons_zero, List.set_cons_succ]
  refine wpAnyU_take (i := 16) (v := ?_) (by decide) rfl (by kernel_rfl) (by kernel_rfl) (by kernel_rfl) (fun _ _ _ h => h) (Steady.plain (by kernel_rfl) ?_) ?_
  rotate_left
  · intro b W hS
    have h0 := hS.2.2.cell 0
    have h1 := hS.2.2.cell 1
    have h2 := hS.2.2.cell 2
    have h3 := hS.2.2.cell 3
    go_simp
    first | done | with_reducible rfl
  simp only [Act.put, List.getElem_toArray, List.getElem_cons_succ, List.getElem_cons_zero, List.setIfInBounds_toArray, List.set_cons_zero, List.set_cons_succ]
  refine wpAnyU_take (i := 17) (v := ?_) (by decide) rfl (by kernel_rfl) (by kernel_rfl) (by kernel_rfl) (fun _ _ _ h => h) (Steady.plain (by kernel_rfl) ?_) ?_
  rotate_left
  · intro b W hS
    have h0 := hS.2.2.cell 0
    have h1 := hS.2.2.cell 1
    have h2 := hS.2.2.cell 2
    have h3 := hS.2.2.cell 3
    go_simp
    first | done | with_reducible rfl
  simp only [Act.put, List.getElem_toArray, List.getElem_cons_succ, List.getElem_cons_zero, List.setIfInBounds_toArray, List.set_cons_zero, List.set_cons_succ]
  refine wpAnyU_done (b := []) (by kernel_rfl) (by kernel_rfl) ?_ _
  intro w' hS
  go_wp2_with fail
  go_ret2
  exact ⟨rfl, hS.1⟩
end Go.Proofs.YtongceljdgmbdaaGreatDoor
