/-
  Contracts of package entry: Same.
-/
import Derived.Test.YtdkhkeffheleeaaDoorF1409
import Derived.Test.YtdkhkeffheleeaaDoorF1407

set_option linter.unusedVariables false
set_option linter.unusedSimpArgs false
namespace Go.Proofs.YtdkhkeffheleeaaDoor
open Go.RowKit Go.Pantry

set_option maxRecDepth 8000 in
set_option maxHeartbeats 8000000 in
theorem entSame_any (a b : EntP) (pnv pfv pbv qnv qfv qbv : Value) (w : World) (hsa : SmallE a) (ha : EntAt w pnv pfv pbv a) (hb : EntAt w qnv qfv qbv b) :
    Calls Tryd.prog 23 #[.agg (rowE pnv pfv pbv a), .agg (rowE qnv qfv qbv b)] w fun x w' => x = .returned (.bool (decide (a = b))) ∧ Below w.heap.size w w' := by
  obtain ⟨pno, pnc, rfl⟩ := ha.names.strs
  obtain ⟨pfo, pfc, rfl⟩ := ha.flds.form
  obtain ⟨pbo, pbc, phbv⟩ : ∃ ao cap, pbv = .slice ao a.body.length cap := by
    obtain ⟨ao, cap, h, -⟩ := ha.body
    exact ⟨ao, cap, by rw [h, List.length_map]⟩
  subst phbv
  obtain ⟨qno, qnc, rfl⟩ := hb.names.strs
  obtain ⟨qfo, qfc, rfl⟩ := hb.flds.form
  obtain ⟨qbo, qbc, qhbv⟩ : ∃ ao cap, qbv = .slice ao b.body.length cap := by
    obtain ⟨ao, cap, h, -⟩ := hb.body
    exact ⟨ao, cap, by rw [h, List.length_map]⟩
  subst qhbv
  obtain ⟨W, hW⟩ : ∃ W, (w.alloc (.cells (rowE (.slice pno a.names.length pnc) (.slice pfo a.fields.length pfc) (.slice pbo a.body.length pbc) a) 27)).alloc (.cells (rowE (.slice qno b.names.length qnc) (.slice qfo b.fields.length qfc) (.slice qbo b.body.length qbc) b) 27) = W := ⟨_, rfl⟩
  have hbW : Below w.heap.size w W := by rw [← hW]; exact chain2 (below_alloc _ _) (below_alloc _ _).size (below_alloc _ _)
  have q1 : rowIs W w.heap.size (rowE (.slice pno a.names.length pnc) (.slice pfo a.fields.length pfc) (.slice pbo a.body.length pbc) a) 27 := by rw [← hW]; exact (rowIs_new _ _ _).below (below_alloc _ _)
  have q2 : rowIs W (w.heap.size + 1) (rowE (.slice qno b.names.length qnc) (.slice qfo b.fields.length qfc) (.slice qbo b.body.length qbc) b) 27 := by rw [← hW]; exact rowIs_new_at _ _ _ _ (by simp)
  have HQ1 := hid q1
  have HQ2 := hid q2
  have HW := hid hbW
  have CN := hid (fun (W' : World) (h : Below w.heap.size w W') => eqNames_any (.slice pno a.names.length pnc) (.slice qno b.names.length qnc) a.names b.names W' (ha.names.below h) (hb.names.below h) (by have := hsa.names; omega))
  have CF := hid (fun (W' : World) (h : Below w.heap.size w W') => eqFields_any (.slice pfo a.fields.length pfc) (.slice qfo b.fields.length qfc) a.fields b.fields W' (ha.flds.below h) (hb.flds.below h) (by have := hsa.flds; omega))
  have CB := hid (fun (W' : World) (h : Below w.heap.size w W') => eqBytes_any (.slice pbo a.body.length pbc) (.slice qbo b.body.length qbc) a.body b.body W' (ha.body.below h) (hb.body.below h))
  clear q1 q2 hbW ha hb
  have x0 : W.cell? ⟨w.heap.size, 0, none⟩ = some (strV a.key) := HQ1.out.cell 0
  have y0 : W.cell? ⟨w.heap.size + 1, 0, none⟩ = some (strV b.key) := HQ2.out.cell 0
  have x1 : W.cell? ⟨w.heap.size, 1, none⟩ = some (strV a.second) := HQ1.out.cell 1
  have y1 : W.cell? ⟨w.heap.size + 1, 1, none⟩ = some (strV b.second) := HQ2.out.cell 1
  have x2 : W.cell? ⟨w.heap.size, 2, none⟩ = some (.slice pno a.names.length pnc) := HQ1.out.cell 2
  have y2 : W.cell? ⟨w.heap.size + 1, 2, none⟩ = some (.slice qno b.names.length qnc) := HQ2.out.cell 2
  obtain ⟨R, hR⟩ : ∃ R, decide (a = b) = R := ⟨_, rfl⟩
  have HEQ := hid (fun h1 h2 h3 h4 h5 h6 h7 h8 => ent_eq (a := a) (b := b) h1 h2 h3 h4 h5 h6 h7 h8)
  have HNE := hid (fun (h : ¬ a = b) => (hR.symm.trans (decide_eq_false h) : R = false))
  rw [hR] at HEQ ⊢
  clear hR
  go_enter Tryd.func23, Tryd.ntmps23
  by_cases ek : a.key = b.key
  rotate_left
  · have fk : (a.key == b.key) = false := by simpa using ek
    obtain ⟨gk, ik⟩ := bool3 fk
    have hr := HNE.out (fun h => ek (by rw [h]))
    subst hr
    clear HNE HEQ
    go_wp2_with fail
    go_ret
    exact ⟨rfl, HW.out⟩
  have fk : (a.key == b.key) = true := by rw [ek]; exact beq_self_eq_true _
  obtain ⟨gk, ik⟩ := bool3 fk
  simp only [Bool.not_true] at gk ik
  have Ek := hid ek
  clear ek
  by_cases es : a.second = b.second
  rotate_left
  · have fs : (a.second == b.second) = false := by simpa using es
    obtain ⟨gs, is⟩ := bool3 fs
    have hr := HNE.out (fun h => es (by rw [h]))
    subst hr
    clear HNE HEQ
    go_wp2_with fail
    go_ret
    exact ⟨rfl, HW.out⟩
  have fs : (a.second == b.second) = true := by rw [es]; exact beq_self_eq_true _
  obtain ⟨gs, is⟩ := bool3 fs
  simp only [Bool.not_true] at gs is
  have Es := hid es
  clear es
  go_wp2_with fail
  try rw [hW]
  refine (CN.out W HW.out).mono ?_
  rintro x w1 ⟨rfl, hb1⟩
  have HB1 := hid (chain2 HW.out HW.out.size hb1)
  have HQ11 := hid (HQ1.out.below hb1)
  have HQ21 := hid (HQ2.out.below hb1)
  clear x0 y0 x1 y1 x2 y2 hb1 CN hW
  have x3 : w1.cell? ⟨w.heap.size, 3, none⟩ = some (.int .i64 a.asked) := HQ11.out.cell 3
  have y3 : w1.cell? ⟨w.heap.size + 1, 3, none⟩ = some (.int .i64 b.asked) := HQ21.out.cell 3
  have x4 : w1.cell? ⟨w.heap.size, 4, none⟩ = some (.int .i64 a.came) := HQ11.out.cell 4
  have y4 : w1.cell? ⟨w.heap.size + 1, 4, none⟩ = some (.int .i64 b.came) := HQ21.out.cell 4
  have x5 : w1.cell? ⟨w.heap.size, 5, none⟩ = some (.int .i64 a.status) := HQ11.out.cell 5
  have y5 : w1.cell? ⟨w.heap.size + 1, 5, none⟩ = some (.int .i64 b.status) := HQ21.out.cell 5
  have x6 : w1.cell? ⟨w.heap.size, 6, none⟩ = some (.slice pfo a.fields.length pfc) := HQ11.out.cell 6
  have y6 : w1.cell? ⟨w.heap.size + 1, 6, none⟩ = some (.slice qfo b.fields.length qfc) := HQ21.out.cell 6
  by_cases en : a.names = b.names
  rotate_left
  · have dn : decide (a.names = b.names) = false := decide_eq_false en
    have hr := HNE.out (fun h => en (by rw [h]))
    subst hr
    rw [dn]
    clear HNE HEQ en
    go_wp2_with fail
    go_ret
    exact ⟨rfl, HB1.out⟩
  rw [decide_eq_true en]
  have En := hid en
  clear en
  by_cases ex : a.asked = b.asked
  rotate_left
  · have fx : (a.asked == b.asked) = false := by simpa using ex
    obtain ⟨gx, ix⟩ := bool3 fx
    have hr := HNE.out (fun h => ex (by rw [h]))
    subst hr
    clear HNE HEQ
    go_wp2_with fail
    go_ret
    exact ⟨rfl, HB1.out⟩
  have fx : (a.asked == b.asked) = true := by rw [ex]; exact beq_self_eq_true _
  obtain ⟨gx, ix⟩ := bool3 fx
  simp only [Bool.not_true] at gx ix
  have Ex := hid ex
  clear ex
  by_cases ec : a.came = b.came
  rotate_left
  · have fc : (a.came == b.came) = false := by simpa using ec
    obtain ⟨gc, ic⟩ := bool3 fc
    have hr := HNE.out (fun h => ec (by rw [h]))
    subst hr
    clear HNE HEQ
    go_wp2_with fail
    go_ret
    exact ⟨rfl, HB1.out⟩
  have fc : (a.came == b.came) = true := by rw [ec]; exact beq_self_eq_true _
  obtain ⟨gc, ic⟩ := bool3 fc
  simp only [Bool.not_true] at gc ic
  have Ec := hid ec
  clear ec
  by_cases et : a.status = b.status
  rotate_left
  · have ft : (a.status == b.status) = false := by simpa using et
    obtain ⟨gt, it⟩ := bool3 ft
    have hr := HNE.out (fun h => et (by rw [h]))
    subst hr
    clear HNE HEQ
    go_wp2_with fail
    go_ret
    exact ⟨rfl, HB1.out⟩
  have ft : (a.status == b.status) = true := by rw [et]; exact beq_self_eq_true _
  obtain ⟨gt, it⟩ := bool3 ft
  simp only [Bool.not_true] at gt it
  have Et := hid et
  clear et
  go_wp2_with fail
  skip
  refine (CF.out w1 HB1.out).mono ?_
  rintro x w2 ⟨rfl, hb2⟩
  have HB2 := hid (chain2 HB1.out HB1.out.size hb2)
  have HQ12 := hid (HQ11.out.below hb2)
  have HQ22 := hid (HQ21.out.below hb2)
  clear x3 y3 x4 y4 x5 y5 x6 y6 hb2 CF
  have x7 : w2.cell? ⟨w.heap.size, 7, none⟩ = some (.slice pbo a.body.length pbc) := HQ12.out.cell 7
  have y7 : w2.cell? ⟨w.heap.size + 1, 7, none⟩ = some (.slice qbo b.body.length qbc) := HQ22.out.cell 7
  have x8 : w2.cell? ⟨w.heap.size, 8, none⟩ = some (.int .i64 a.gen) := HQ12.out.cell 8
  have y8 : w2.cell? ⟨w.heap.size + 1, 8, none⟩ = some (.int .i64 b.gen) := HQ22.out.cell 8
  by_cases ef : a.fields = b.fields
  rotate_left
  · have dn : decide (a.fields = b.fields) = false := decide_eq_false ef
    have hr := HNE.out (fun h => ef (by rw [h]))
    subst hr
    rw [dn]
    clear HNE HEQ ef
    go_wp2_with fail
    go_ret
    exact ⟨rfl, HB2.out⟩
  rw [decide_eq_true ef]
  have Ef := hid ef
  clear ef
  go_wp2_with fail
  skip
  refine (CB.out w2 HB2.out).mono ?_
  rintro x w3 ⟨rfl, hb3⟩
  have HB3 := hid (chain2 HB2.out HB2.out.size hb3)
  have HQ13 := hid (HQ12.out.below hb3)
  have HQ23 := hid (HQ22.out.below hb3)
  clear x7 y7 x8 y8 hb3 CB
  have x8 : w3.cell? ⟨w.heap.size, 8, none⟩ = some (.int .i64 a.gen) := HQ13.out.cell 8
  have y8 : w3.cell? ⟨w.heap.size + 1, 8, none⟩ = some (.int .i64 b.gen) := HQ23.out.cell 8
  by_cases ed : a.body = b.body
  rotate_left
  · have dn : decide (a.body = b.body) = false := decide_eq_false ed
    have hr := HNE.out (fun h => ed (by rw [h]))
    subst hr
    rw [dn]
    clear HNE HEQ ed
    go_wp2_with fail
    go_ret
    exact ⟨rfl, HB3.out⟩
  rw [decide_eq_true ed]
  have Ed := hid ed
  clear ed
  by_cases eg : a.gen = b.gen
  rotate_left
  · have fg : (a.gen == b.gen) = false := by simpa using eg
    obtain ⟨gg, ig⟩ := bool3 fg
    have hr := HNE.out (fun h => eg (by rw [h]))
    subst hr
    clear HNE HEQ
    go_wp2_with fail
    go_ret
    exact ⟨rfl, HB3.out⟩
  have fg : (a.gen == b.gen) = true := by rw [eg]; exact beq_self_eq_true _
  obtain ⟨gg, ig⟩ := bool3 fg
  simp only [Bool.not_true] at gg ig
  have Eg := hid eg
  clear eg
  have hr : R = true := by rw [HEQ.out Ek.out Es.out En.out Ex.out Ec.out Et.out Ed.out Eg.out]; exact decide_eq_true Ef.out
  subst hr
  clear HNE HEQ
  go_wp2_with fail
  go_ret
  exact ⟨rfl, HB3.out⟩
end Go.Proofs.YtdkhkeffheleeaaDoor
