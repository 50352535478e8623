/-
  The walk of the statement BodySmuggles: way 3.
-/
import Derived.Test.YtefplhkjcclppaaDoorLaw06H
namespace Go.Proofs.YtefplhkjcclppaaDoor
open Go.RowKit Go.Pantry

set_option maxRecDepth 100000 in
set_option maxHeartbeats 32000000 in
theorem smug3_walk (ao : Option Addr) (cap : Nat) (L : List Fld) (a b : Nat) (w : World) (ht : Tab64 w) (hr : Reads2 w (.slice ao L.length cap) L) (hLl : L.length ≤ 4294967296) (hq : smallG L = true) (ha : a ≤ 2000) (hb : b ≤ 2000) :
    Calls Tryd.prog 3 #[.slice ao L.length cap, .int .i64 (a : Int), .int .i64 (b : Int), .int .i64 3] w fun e w' => e = .returned (.bool true) ∧ Below w.heap.size w w' := by
  have cs := fun W h => small_any (.slice ao L.length cap) L W h (by omega)
  rw [hq] at cs
  have CSM := hid cs
  have CA := hid (anchor_any w ht)
  have HR := hid hr
  clear hr ht cs
  obtain ⟨hk, hl30, hkf⟩ := smallG_ok hq
  have c3 := fun W vn h => lWithout_any (.slice ao L.length cap) vn L [clN, teN] W h hk
  have hM1 : allF (outsF L [clN, teN]) teN = [] := all_outs (by simp)
  have hM2 : allF (outsF L [clN, teN]) clN = [] := all_outs (by simp)
  have hMk := okFs_outs (ns := [clN, teN]) hk
  have hMl : (outsF L [clN, teN]).length ≤ 30 := Nat.le_trans (List.length_filter_le ..) hl30
  have cla := fun W => length_any a ha W
  have clb := fun W => length_any b hb W
  have cda : ∀ W, Calls Tryd.prog 8 #[.int .i64 (a : Int)] W fun e w' => e = .returned (strV (digF 5 a)) ∧ Below W.heap.size W w' := fun W => digits_any 4 a (a : Int) W rfl (by omega) (by decide)
  have cdb : ∀ W, Calls Tryd.prog 8 #[.int .i64 (b : Int)] W fun e w' => e = .returned (strV (digF 5 b)) ∧ Below W.heap.size W w' := fun W => digits_any 4 b (b : Int) W rfl (by omega) (by decide)
  have CLA := hid cla
  have CLB := hid clb
  have CDA := hid cda
  have CDB := hid cdb
  have C3 := hid c3
  have HMK := hid hMk
  have HM1 := hid hM1
  have HM2 := hid hM2
  have d1 : decide ((a : Int) < 0) = false := by rw [decide_eq_false_iff_not]; omega
  have d2 : decide ((2000 : Int) < (a : Int)) = false := by rw [decide_eq_false_iff_not]; omega
  have d3 : decide ((b : Int) < 0) = false := by rw [decide_eq_false_iff_not]; omega
  have d4 : decide ((2000 : Int) < (b : Int)) = false := by rw [decide_eq_false_iff_not]; omega
  clear c3 hq hk hkf hl30 hMk hM1 hM2 cla clb cda cdb
  go_enter Tryd.func3, Tryd.ntmps3
  go_wp2_with fail
  refine CA.out.mono ?_
  rintro e w1 ⟨rfl, hb1⟩
  go_wp2_with fail
  refine (CSM.out _ (HR.out.below hb1)).mono ?_
  rintro e w2 ⟨rfl, hb2⟩
  have hb3 := chain2 hb1 hb1.size hb2
  clear hb1 hb2 CA CSM
  obtain ⟨W3, hW3⟩ : ∃ W, W = w2.alloc (.cells #[strV clN, strV teN] 9) := ⟨_, rfl⟩
  have hbW3 : Below w2.heap.size w2 W3 := by rw [hW3]; exact below_alloc _ _
  have hb4 := chain2 hb3 hb3.size hbW3
  have hrn : Reads W3 (.slice (some ⟨w2.heap.size, 0, none⟩) 2 2) ([clN, teN].map strV) := by rw [hW3]; exact reads_new w2 _ _ 2
  have HN := hid hrn
  clear hb3 hbW3 hrn
  unfold clN teN at hW3
  go_wp2_with fail
  rw [← hW3]
  clear hW3
  refine (C3.out _ _ (HR.out.below hb4) HN.out ⟨by decide, by decide⟩).mono ?_
  rintro e w4 ⟨⟨v3, kk, rfl, ho3⟩, hb5⟩
  have hb6 := chain2 hb4 hb4.size hb5
  have hB0 : w.heap.size ≤ W3.heap.size := hb4.size
  have hB34 : W3.heap.size ≤ w4.heap.size := hb5.size
  clear HN C3 hb4 hb5
  generalize outsF L [clN, teN] = M at *
  obtain rfl : kk = M.length := ho3.reads2.1
  obtain ⟨ao3, cp3, rfl⟩ := ownsRow_form2 ho3
  generalize W3.heap.size = B3 at *
  have hwG : w.heap.size ≤ w4.heap.size := hb6.size
  obtain ⟨W4, hW4⟩ : ∃ W, W = w4.alloc (.cells #[strV teM, strV chW] 28) := ⟨_, rfl⟩
  have hs4 : W4.heap.size = w4.heap.size + 1 := by rw [hW4]; simp
  have hbA : Below w4.heap.size w4 W4 := by rw [hW4]; exact below_alloc _ _
  have hg10 : rowIs W4 w4.heap.size #[strV teM, strV chW] 28 := by rw [hW4]; exact rowIs_new _ _ _
  obtain ⟨W5, hW5⟩ : ∃ W, W = W4.alloc (.cells #[.string ⟨#[]⟩, .string ⟨#[]⟩, .int .i64 0, .slice none 0 0] 34) := ⟨_, rfl⟩
  have hg11 : rowIs W5 (w4.heap.size + 1) #[.string ⟨#[]⟩, .string ⟨#[]⟩, .int .i64 0, .slice none 0 0] 34 := by rw [hW5, ← hs4]; exact rowIs_new _ _ _
  obtain ⟨W6, hW6⟩ : ∃ W, W = W4.alloc (.cells #[.string ⟨#[]⟩, .string ⟨#[]⟩, .int .i64 1, .slice none 0 0] 34) := ⟨_, rfl⟩
  have R11 : rowIs W6 (w4.heap.size + 1) #[.string ⟨#[]⟩, .string ⟨#[]⟩, .int .i64 1, .slice none 0 0] 34 := by rw [hW6, ← hs4]; exact rowIs_new _ _ _
  have R10 : rowIs W6 w4.heap.size #[strV teM, strV chW] 28 := by rw [hW6]; exact hg10.below (below_alloc W4 _)
  have hbC : Below w4.heap.size w4 W6 := by rw [hW6]; exact hbA.trans ((below_alloc W4 _).mono (by omega))
  have ho6 := ho3.below hbC
  have hb7 := chain2 hb6 hb6.size hbC
  have c11 := hg11.cell 2
  have f11 := hg11.free 2
  rw [hW5, hW4] at c11 f11
  rw [hW4] at hW6
  clear hb6 hbA hg10 hg11 hbC ho3 hs4 hW5 hW4
  unfold teM chW at hW6 c11 f11
  go_upto_if 62 with fail
  rw [← hW6]
  clear hW6 c11 f11 W4 W5
  have hs6 : w4.heap.size + 1 < W6.heap.size := R11.lt
  have hg11w : w.heap.size ≤ w4.heap.size + 1 := by omega
  have hB36 : B3 ≤ W6.heap.size := by have := hB34; omega
  generalize w4.heap.size + 1 = g11 at *
  generalize w4.heap.size = g10 at *
  have HOW6 := ho6
  have R11W6 := R11
  have HBW6 := hb7
  have hB3 : B3 ≤ W6.heap.size := hB36
  have hlit0 := World.ownsRow_lit (base := W6.heap.size) (e := 28) (size := 2) W6 #[strV teN, strV gzV] 1 (Nat.le_refl _) (by unfold maxLen; omega) rfl
  have hlit : (W6.alloc (.cells #[strV teN, strV gzV] 28)).ownsRow W6.heap.size 28 2 (.slice (some ⟨W6.heap.size, 0, none⟩) 1 1) 1 (fldCells [gzF]) := hlit0
  have hrX := hlit.reads2.2
  have hbX := below_alloc W6 (.cells #[strV teN, strV gzV] 28)
  have hox := HOW6.below hbX
  have R11x := R11W6.below hbX
  have hbx := HBW6.trans (hbX.mono HBW6.size)
  by_cases hab : a = b
  · have CF : Hid (∀ W v, Reads2 W v (M ++ [gzF]) → Calls Tryd.prog 9 #[.agg #[.string ⟨#[]⟩, .string ⟨#[]⟩, .int .i64 1, v]] W fun e w' => e = .returned (.tuple #[.agg #[.int .i64 0, .int .i64 0], .int .i64 24]) ∧ Below W.heap.size W w') := hid (fun W v h => (OfRequest_any [] [] 1 v (M ++ [gzF]) W h (okFs_add HMK.out ok_gz (by simp; omega))).mono fun e w' hh => ⟨by
      have h1 := hh.1
      rw [smug3 HM1.out 1 0] at h1
      skip
      exact h1, hh.2⟩)
    have qa : ((a : Int) == (b : Int)) = true := by rw [hab]; simp
    clear hab
    go_wp2_with (first
      | (at_builtin; refine wpList_append_fldsg (W6.alloc (.cells #[strV teN, strV gzV] 28)) (by exact rfl) _ _ 23 (by exact rfl) B3 28 Tryd.underlying23 infoFld6 rfl (by exact rfl) hox hrX (by exact rfl) (by unfold maxLen; simp; omega) (by simp; omega) (Nat.le_trans hB3 hbX.size) ?_; intro v9 w9 ho9 hgr; obtain ⟨ao9, cp9, rfl⟩ := ownsRow_form2 ho9; have R11b := row_grown R11x hgr (own_ne hox R11x (by decide)); have c3 := R11b.cell 3; have f3 := R11b.free 3; have HBx := hbx.trans (grown_any hgr (fun k hk => Nat.le_trans hB0 (own_ge hox k hk)) hbx.size); obtain ⟨o1, o2, o3⟩ := req_set ho9 R11b (by decide) HBx hg11w 3 (.slice ao9 (M.length + 1) cp9); have rd9 := o1.reads2.2; have j0 := o2.cell 0; have j1 := o2.cell 1; have j2 := o2.cell 2; have j3 := o2.cell 3; clear o1 o2 ho9 R11b)
      | (go_at_call 9; refine (CF.out _ _ rd9).mono ?_; rintro e w10 ⟨rfl, hb13⟩; replace o3 := o3.trans (hb13.mono o3.size)))
    go_ret
    exact ⟨rfl, o3.trans ((below_alloc _ _).mono o3.size)⟩
  · have CF : Hid (∀ W v, Reads2 W v (M ++ [gzF]) → Calls Tryd.prog 9 #[.agg #[.string ⟨#[]⟩, .string ⟨#[]⟩, .int .i64 1, v]] W fun e w' => e = .returned (.tuple #[.agg #[.int .i64 0, .int .i64 0], .int .i64 24]) ∧ Below W.heap.size W w') := hid (fun W v h => (OfRequest_any [] [] 1 v (M ++ [gzF]) W h (okFs_add HMK.out ok_gz (by simp; omega))).mono fun e w' hh => ⟨by
      have h1 := hh.1
      rw [smug3 HM1.out 1 0] at h1
      skip
      exact h1, hh.2⟩)
    have qa : ((a : Int) == (b : Int)) = false := by rw [beq_eq_false_iff_ne]; omega
    clear hab
    go_wp2_with (first
      | (at_builtin; refine wpList_append_fldsg (W6.alloc (.cells #[strV teN, strV gzV] 28)) (by exact rfl) _ _ 23 (by exact rfl) B3 28 Tryd.underlying23 infoFld6 rfl (by exact rfl) hox hrX (by exact rfl) (by unfold maxLen; simp; omega) (by simp; omega) (Nat.le_trans hB3 hbX.size) ?_; intro v9 w9 ho9 hgr; obtain ⟨ao9, cp9, rfl⟩ := ownsRow_form2 ho9; have R11b := row_grown R11x hgr (own_ne hox R11x (by decide)); have c3 := R11b.cell 3; have f3 := R11b.free 3; have HBx := hbx.trans (grown_any hgr (fun k hk => Nat.le_trans hB0 (own_ge hox k hk)) hbx.size); obtain ⟨o1, o2, o3⟩ := req_set ho9 R11b (by decide) HBx hg11w 3 (.slice ao9 (M.length + 1) cp9); have rd9 := o1.reads2.2; have j0 := o2.cell 0; have j1 := o2.cell 1; have j2 := o2.cell 2; have j3 := o2.cell 3; clear o1 o2 ho9 R11b)
      | (go_at_call 9; refine (CF.out _ _ rd9).mono ?_; rintro e w10 ⟨rfl, hb13⟩; replace o3 := o3.trans (hb13.mono o3.size)))
    go_ret
    exact ⟨rfl, o3.trans ((below_alloc _ _).mono o3.size)⟩
end Go.Proofs.YtefplhkjcclppaaDoor
