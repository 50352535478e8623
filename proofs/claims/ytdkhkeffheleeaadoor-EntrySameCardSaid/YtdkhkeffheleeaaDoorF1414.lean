/-
  Several texts in one: Law14M, Law14YM.
-/
import Derived.Test.YtdkhkeffheleeaaDoorF14Law14A
import Derived.Test.YtdkhkeffheleeaaDoorF1409
import Derived.Test.YtdkhkeffheleeaaDoorF1412
/-
  The walk of EntrySame.
-/
set_option linter.unusedVariables false
set_option linter.unusedSimpArgs false
namespace Go.Proofs.YtdkhkeffheleeaaDoor
open Go.RowKit Go.Pantry

set_option maxRecDepth 8000 in
set_option maxHeartbeats 8000000 in
theorem entrySame_over {Ok : World → Prop} (K : Entries Ok) (anv afv abv : Value) (a : EntP) (bnv bfv bbv : Value) (b : EntP) (w : World) (ok : Ok w) (ha : EntAt w anv afv abv a ∧ a.names.length ≤ 9223372036854775807 ∧ a.fields.length ≤ 9223372036854775807) (hb : EntAt w bnv bfv bbv b ∧ b.names.length ≤ 9223372036854775807 ∧ b.fields.length ≤ 9223372036854775807) :
    Calls Tryd.prog 6 #[.agg (rowE anv afv abv a), .agg (rowE bnv bfv bbv b)] w fun x w' => x = .returned (.bool true) ∧ Below w.heap.size w w' := by
  have OK := hid (fun (W : World) (h : Below w.heap.size w W) => K.keep w W ok h)
  have cA := hid (fun (W : World) (h : Below w.heap.size w W) => anchor14_any K W (OK.out W h))
  have HaA := hid ha.1
  have HaL := hid ha.2
  obtain ⟨ano, anc, han⟩ := HaA.out.names.strs
  obtain ⟨afo, afc, haf⟩ := HaA.out.flds.form
  obtain ⟨abo, abc, hab⟩ : ∃ q c, abv = .slice q a.body.length c := by
    obtain ⟨q, c, h, -⟩ := HaA.out.body
    exact ⟨q, c, by rw [h, List.length_map]⟩
  obtain ⟨ann, hann⟩ : ∃ k, a.names.length = k := ⟨_, rfl⟩
  obtain ⟨afn, hafn⟩ : ∃ k, a.fields.length = k := ⟨_, rfl⟩
  obtain ⟨abn, habn⟩ : ∃ k, a.body.length = k := ⟨_, rfl⟩
  rw [hann] at han
  rw [hafn] at haf
  rw [habn] at hab
  subst han haf hab
  clear hann hafn habn
  have cSa := hid (fun (W : World) (h : Below w.heap.size w W) => smallE_any a (.slice ano ann anc) (.slice afo afn afc) (.slice abo abn abc) W (HaA.out.below h) HaL.out.1 HaL.out.2)
  have HbA := hid hb.1
  have HbL := hid hb.2
  obtain ⟨bno, bnc, hbn⟩ := HbA.out.names.strs
  obtain ⟨bfo, bfc, hbf⟩ := HbA.out.flds.form
  obtain ⟨bbo, bbc, hbb⟩ : ∃ q c, bbv = .slice q b.body.length c := by
    obtain ⟨q, c, h, -⟩ := HbA.out.body
    exact ⟨q, c, by rw [h, List.length_map]⟩
  obtain ⟨bnn, hbnn⟩ : ∃ k, b.names.length = k := ⟨_, rfl⟩
  obtain ⟨bfn, hbfn⟩ : ∃ k, b.fields.length = k := ⟨_, rfl⟩
  obtain ⟨bbn, hbbn⟩ : ∃ k, b.body.length = k := ⟨_, rfl⟩
  rw [hbnn] at hbn
  rw [hbfn] at hbf
  rw [hbbn] at hbb
  subst hbn hbf hbb
  clear hbnn hbfn hbbn
  have cSb := hid (fun (W : World) (h : Below w.heap.size w W) => smallE_any b (.slice bno bnn bnc) (.slice bfo bfn bfc) (.slice bbo bbn bbc) W (HbA.out.below h) HbL.out.1 HbL.out.2)
  obtain ⟨w0, hw0⟩ : ∃ W, ((w.alloc (.cells (rowE (.slice ano ann anc) (.slice afo afn afc) (.slice abo abn abc) a) 27)).alloc (.cells (rowE (.slice bno bnn bnc) (.slice bfo bfn bfc) (.slice bbo bbn bbc) b) 27)) = W := ⟨_, rfl⟩
  have HB0 := hid (show Below w.heap.size w w0 by rw [← hw0]; exact chain2 (below_alloc _ _) (below_alloc _ _).size (below_alloc _ _))
  have Qa0 := hid (show rowIs w0 w.heap.size (rowE (.slice ano ann anc) (.slice afo afn afc) (.slice abo abn abc) a) 27 by rw [← hw0]; exact (rowIs_new _ _ _).below (below_alloc _ _))
  have Qb0 := hid (show rowIs w0 (w.heap.size + 1) (rowE (.slice bno bnn bnc) (.slice bfo bfn bfc) (.slice bbo bbn bbc) b) 27 by rw [← hw0]; exact rowIs_new_at _ _ _ _ (by simp))
  clear ok ha hb
  go_enter Tryd.func6, Tryd.ntmps6
  go_wp2_with fail
  refine (cA.out _ HB0.out).mono ?_
  rintro x1 w1 ⟨rfl, hb⟩
  have HB1 := hid (chain2 HB0.out HB0.out.size hb)
  have Qa1 := hid (Qa0.out.below hb)
  have Qb1 := hid (Qb0.out.below hb)
  clear hb
  clear HB0 Qa0 Qb0
  try clear hw0
  clear cA
  have ya0 : w1.cell? ⟨w.heap.size, 0, none⟩ = some (strV a.key) := Qa1.out.cell 0
  have ya1 : w1.cell? ⟨w.heap.size, 1, none⟩ = some (strV a.second) := Qa1.out.cell 1
  have ya2 : w1.cell? ⟨w.heap.size, 2, none⟩ = some ((.slice ano ann anc)) := Qa1.out.cell 2
  have ya3 : w1.cell? ⟨w.heap.size, 3, none⟩ = some (.int .i64 a.asked) := Qa1.out.cell 3
  have ya4 : w1.cell? ⟨w.heap.size, 4, none⟩ = some (.int .i64 a.came) := Qa1.out.cell 4
  have ya5 : w1.cell? ⟨w.heap.size, 5, none⟩ = some (.int .i64 a.status) := Qa1.out.cell 5
  have ya6 : w1.cell? ⟨w.heap.size, 6, none⟩ = some ((.slice afo afn afc)) := Qa1.out.cell 6
  have ya7 : w1.cell? ⟨w.heap.size, 7, none⟩ = some ((.slice abo abn abc)) := Qa1.out.cell 7
  have ya8 : w1.cell? ⟨w.heap.size, 8, none⟩ = some (.int .i64 a.gen) := Qa1.out.cell 8
  go_wp2_with fail
  refine (cSa.out _ HB1.out).mono ?_
  rintro x2 w2 ⟨rfl, hb⟩
  have HB2 := hid (chain2 HB1.out HB1.out.size hb)
  have Qa2 := hid (Qa1.out.below hb)
  have Qb2 := hid (Qb1.out.below hb)
  clear ya0 ya1 ya2 ya3 ya4 ya5 ya6 ya7 ya8
  clear hb
  clear HB1 Qa1 Qb1
  cases hsa : smallE a with
  | false =>
    go_wp2_with fail
    go_ret
    exact ⟨rfl, HB2.out⟩
  | true =>
  have HSa := hid (smallE_ok hsa)
  clear hsa cSa
  have yb0 : w2.cell? ⟨w.heap.size + 1, 0, none⟩ = some (strV b.key) := Qb2.out.cell 0
  have yb1 : w2.cell? ⟨w.heap.size + 1, 1, none⟩ = some (strV b.second) := Qb2.out.cell 1
  have yb2 : w2.cell? ⟨w.heap.size + 1, 2, none⟩ = some ((.slice bno bnn bnc)) := Qb2.out.cell 2
  have yb3 : w2.cell? ⟨w.heap.size + 1, 3, none⟩ = some (.int .i64 b.asked) := Qb2.out.cell 3
  have yb4 : w2.cell? ⟨w.heap.size + 1, 4, none⟩ = some (.int .i64 b.came) := Qb2.out.cell 4
  have yb5 : w2.cell? ⟨w.heap.size + 1, 5, none⟩ = some (.int .i64 b.status) := Qb2.out.cell 5
  have yb6 : w2.cell? ⟨w.heap.size + 1, 6, none⟩ = some ((.slice bfo bfn bfc)) := Qb2.out.cell 6
  have yb7 : w2.cell? ⟨w.heap.size + 1, 7, none⟩ = some ((.slice bbo bbn bbc)) := Qb2.out.cell 7
  have yb8 : w2.cell? ⟨w.heap.size + 1, 8, none⟩ = some (.int .i64 b.gen) := Qb2.out.cell 8
  go_wp2_with fail
  refine (cSb.out _ HB2.out).mono ?_
  rintro x3 w3 ⟨rfl, hb⟩
  have HB3 := hid (chain2 HB2.out HB2.out.size hb)
  have Qa3 := hid (Qa2.out.below hb)
  have Qb3 := hid (Qb2.out.below hb)
  clear yb0 yb1 yb2 yb3 yb4 yb5 yb6 yb7 yb8
  clear hb
  clear HB2 Qa2 Qb2
  cases hsb : smallE b with
  | false =>
    go_wp2_with fail
    go_ret
    exact ⟨rfl, HB3.out⟩
  | true =>
  have HSb := hid (smallE_ok hsb)
  clear hsb cSb
  obtain ⟨s, hs⟩ : ∃ s, decide (a = b) = s := ⟨_, rfl⟩
  have cK := hid (fun (W : World) (h : Below w.heap.size w W) => K.same a b (.slice ano ann anc) (.slice afo afn afc) (.slice abo abn abc) (.slice bno bnn bnc) (.slice bfo bfn bfc) (.slice bbo bbn bbc) W (OK.out W h) HSa.out HSb.out (HaA.out.below h) (HbA.out.below h))
  have cMa := hid (fun (W : World) (h : Below w.heap.size w W) => madeEnt_any a (.slice ano ann anc) (.slice afo afn afc) (.slice abo abn abc) W (HaA.out.below h) (by have := HSa.out.flds; omega) ⟨_, _, _, rfl⟩ ⟨_, _, _, rfl⟩)
  have cMb := hid (fun (W : World) (h : Below w.heap.size w W) => madeEnt_any b (.slice bno bnn bnc) (.slice bfo bfn bfc) (.slice bbo bbn bbc) W (HbA.out.below h) (by have := HSb.out.flds; omega) ⟨_, _, _, rfl⟩ ⟨_, _, _, rfl⟩)
  have cR := hid (fun (W : World) (pn pf pb qn qf qb : Value) (ha : EntAt W pn pf pb a) (hb : EntAt W qn qf qb b) => r14Same_any a b pn pf pb qn qf qb W ha hb (by have := HSa.out.names; omega) (by have := HSa.out.flds; omega))
  rw [hs] at cK cR
  have HS := hid hs
  clear hs
  have sn : (s != s) = false := by cases s <;> rfl
  have sn2 : (s == s) = true := by cases s <;> rfl
  have ya0 : w3.cell? ⟨w.heap.size, 0, none⟩ = some (strV a.key) := Qa3.out.cell 0
  have ya1 : w3.cell? ⟨w.heap.size, 1, none⟩ = some (strV a.second) := Qa3.out.cell 1
  have ya2 : w3.cell? ⟨w.heap.size, 2, none⟩ = some ((.slice ano ann anc)) := Qa3.out.cell 2
  have ya3 : w3.cell? ⟨w.heap.size, 3, none⟩ = some (.int .i64 a.asked) := Qa3.out.cell 3
  have ya4 : w3.cell? ⟨w.heap.size, 4, none⟩ = some (.int .i64 a.came) := Qa3.out.cell 4
  have ya5 : w3.cell? ⟨w.heap.size, 5, none⟩ = some (.int .i64 a.status) := Qa3.out.cell 5
  have ya6 : w3.cell? ⟨w.heap.size, 6, none⟩ = some ((.slice afo afn afc)) := Qa3.out.cell 6
  have ya7 : w3.cell? ⟨w.heap.size, 7, none⟩ = some ((.slice abo abn abc)) := Qa3.out.cell 7
  have ya8 : w3.cell? ⟨w.heap.size, 8, none⟩ = some (.int .i64 a.gen) := Qa3.out.cell 8
  have yb0 : w3.cell? ⟨w.heap.size + 1, 0, none⟩ = some (strV b.key) := Qb3.out.cell 0
  have yb1 : w3.cell? ⟨w.heap.size + 1, 1, none⟩ = some (strV b.second) := Qb3.out.cell 1
  have yb2 : w3.cell? ⟨w.heap.size + 1, 2, none⟩ = some ((.slice bno bnn bnc)) := Qb3.out.cell 2
  have yb3 : w3.cell? ⟨w.heap.size + 1, 3, none⟩ = some (.int .i64 b.asked) := Qb3.out.cell 3
  have yb4 : w3.cell? ⟨w.heap.size + 1, 4, none⟩ = some (.int .i64 b.came) := Qb3.out.cell 4
  have yb5 : w3.cell? ⟨w.heap.size + 1, 5, none⟩ = some (.int .i64 b.status) := Qb3.out.cell 5
  have yb6 : w3.cell? ⟨w.heap.size + 1, 6, none⟩ = some ((.slice bfo bfn bfc)) := Qb3.out.cell 6
  have yb7 : w3.cell? ⟨w.heap.size + 1, 7, none⟩ = some ((.slice bbo bbn bbc)) := Qb3.out.cell 7
  have yb8 : w3.cell? ⟨w.heap.size + 1, 8, none⟩ = some (.int .i64 b.gen) := Qb3.out.cell 8
  go_wp2_with fail
  refine (cK.out _ HB3.out).mono ?_
  rintro x4 w4 ⟨rfl, hb⟩
  have HB4 := hid (chain2 HB3.out HB3.out.size hb)
  have Qa4 := hid (Qa3.out.below hb)
  have Qb4 := hid (Qb3.out.below hb)
  clear ya0 ya1 ya2 ya3 ya4 ya5 ya6 ya7 ya8 yb0 yb1 yb2 yb3 yb4 yb5 yb6 yb7 yb8
  clear hb
  clear HB3 Qa3 Qb3
  have ya0 : w4.cell? ⟨w.heap.size, 0, none⟩ = some (strV a.key) := Qa4.out.cell 0
  have ya1 : w4.cell? ⟨w.heap.size, 1, none⟩ = some (strV a.second) := Qa4.out.cell 1
  have ya2 : w4.cell? ⟨w.heap.size, 2, none⟩ = some ((.slice ano ann anc)) := Qa4.out.cell 2
  have ya3 : w4.cell? ⟨w.heap.size, 3, none⟩ = some (.int .i64 a.asked) := Qa4.out.cell 3
  have ya4 : w4.cell? ⟨w.heap.size, 4, none⟩ = some (.int .i64 a.came) := Qa4.out.cell 4
  have ya5 : w4.cell? ⟨w.heap.size, 5, none⟩ = some (.int .i64 a.status) := Qa4.out.cell 5
  have ya6 : w4.cell? ⟨w.heap.size, 6, none⟩ = some ((.slice afo afn afc)) := Qa4.out.cell 6
  have ya7 : w4.cell? ⟨w.heap.size, 7, none⟩ = some ((.slice abo abn abc)) := Qa4.out.cell 7
  have ya8 : w4.cell? ⟨w.heap.size, 8, none⟩ = some (.int .i64 a.gen) := Qa4.out.cell 8
  have yb0 : w4.cell? ⟨w.heap.size + 1, 0, none⟩ = some (strV b.key) := Qb4.out.cell 0
  have yb1 : w4.cell? ⟨w.heap.size + 1, 1, none⟩ = some (strV b.second) := Qb4.out.cell 1
  have yb2 : w4.cell? ⟨w.heap.size + 1, 2, none⟩ = some ((.slice bno bnn bnc)) := Qb4.out.cell 2
  have yb3 : w4.cell? ⟨w.heap.size + 1, 3, none⟩ = some (.int .i64 b.asked) := Qb4.out.cell 3
  have yb4 : w4.cell? ⟨w.heap.size + 1, 4, none⟩ = some (.int .i64 b.came) := Qb4.out.cell 4
  have yb5 : w4.cell? ⟨w.heap.size + 1, 5, none⟩ = some (.int .i64 b.status) := Qb4.out.cell 5
  have yb6 : w4.cell? ⟨w.heap.size + 1, 6, none⟩ = some ((.slice bfo bfn bfc)) := Qb4.out.cell 6
  have yb7 : w4.cell? ⟨w.heap.size + 1, 7, none⟩ = some ((.slice bbo bbn bbc)) := Qb4.out.cell 7
  have yb8 : w4.cell? ⟨w.heap.size + 1, 8, none⟩ = some (.int .i64 b.gen) := Qb4.out.cell 8
  go_wp2_with fail
  clear ya0 ya1 ya2 ya3 ya4 ya5 ya6 ya7 ya8 yb0 yb1 yb2 yb3 yb4 yb5 yb6 yb7 yb8
  have HQa := Qa4
  have HQb := Qb4
  refine wp_region_held_drew (S := fun W' => Below w4.heap.size w4 W') (by kernel_rfl) (Below.refl _ _).drew (fun hH => ?_)
  refine wpAnyH_take (i := 0) (v := ?_) rfl (by kernel_rfl) (by kernel_rfl) (by kernel_rfl) (fun _ _ _ h => h) (Or.inl ⟨by kernel_rfl, ?_⟩) hH ?_
  rotate_left
  · intro W hS
    go_simp
    first | done | with_reducible rfl
  simp only [Act.put, List.getElem_toArray, List.getElem_cons_succ, List.getElem_cons_zero, List.setIfInBounds_toArray, List.set_cons_zero, List.set_cons_succ]
  refine wpAnyH_take (i := 1) (v := .agg (rowE (.slice ano ann anc) (.slice afo afn afc) (.slice abo abn abc) a)) rfl (by kernel_rfl) (by kernel_rfl) (by kernel_rfl) (fun _ _ _ h => h) (Or.inl ⟨by kernel_rfl, ?_⟩) hH ?_
  · intro W hS
    exact load_gives (x := .tmp 2) (by kernel_rfl) w.heap.size (by kernel_rfl) (HQa.out.below hS) Tryd.underlying27 rfl infoEntP
  simp only [Act.put, List.getElem_toArray, List.getElem_cons_succ, List.getElem_cons_zero, List.setIfInBounds_toArray, List.set_cons_zero, List.set_cons_succ]
  refine wpAnyH_take (i := 3) (v := .agg (rowE (.slice bno bnn bnc) (.slice bfo bfn bfc) (.slice bbo bbn bbc) b)) rfl (by kernel_rfl) (by kernel_rfl) (by kernel_rfl) (fun _ _ _ h => h) (Or.inl ⟨by kernel_rfl, ?_⟩) hH ?_
  · intro W hS
    exact load_gives (x := .tmp 3) (by kernel_rfl) (w.heap.size + 1) (by kernel_rfl) (HQb.out.below hS) Tryd.underlying27 rfl infoEntP
  simp only [Act.put, List.getElem_toArray, List.getElem_cons_succ, List.getElem_cons_zero, List.setIfInBounds_toArray, List.set_cons_zero, List.set_cons_succ]
  refine wpAnyH_ready (rs := [2]) (by kernel_rfl) (by simp) ?_
  refine AllReadyH.cons rfl (fun K hK => ?_) AllReadyH.nil
  go_simp
  refine (cMa.out _ (chain2 HB4.out HB4.out.size hH)).mono ?_
  rintro xA wA ⟨⟨Afv, rfl, hatA⟩, hbA⟩
  refine hK.out _ _ (chain2 hH hH.size hbA) (fun hH => ?_)
  clear hK K
  try simp only [Act.put, List.getElem_toArray, List.getElem_cons_succ, List.getElem_cons_zero, List.setIfInBounds_toArray, List.set_cons_zero, List.set_cons_succ]
  refine wpAnyH_ready (rs := [4]) (by kernel_rfl) (by simp) ?_
  refine AllReadyH.cons rfl (fun K hK => ?_) AllReadyH.nil
  go_simp
  refine (cMb.out _ (chain2 HB4.out HB4.out.size hH)).mono ?_
  rintro xB wB ⟨⟨Bfv, rfl, hatB⟩, hbB⟩
  refine hK.out _ _ (chain2 hH hH.size hbB) (fun hH => ?_)
  clear hK K
  try simp only [Act.put, List.getElem_toArray, List.getElem_cons_succ, List.getElem_cons_zero, List.setIfInBounds_toArray, List.set_cons_zero, List.set_cons_succ]
  refine wpAnyH_ready (rs := [5]) (by kernel_rfl) (by simp) ?_
  refine AllReadyH.cons rfl (fun K hK => ?_) AllReadyH.nil
  go_simp
  refine (cR.out _ _ _ _ _ _ _ (hatA.below hbB) hatB).mono ?_
  rintro xC wC ⟨rfl, hbC⟩
  refine hK.out _ _ (chain2 hH hH.size hbC) (fun hH => ?_)
  clear hbC
  clear hK K
  try simp only [Act.put, List.getElem_toArray, List.getElem_cons_succ, List.getElem_cons_zero, List.setIfInBounds_toArray, List.set_cons_zero, List.set_cons_succ]
  refine wpAnyH_take (i := 6) (v := ?_) rfl (by kernel_rfl) (by kernel_rfl) (by kernel_rfl) (fun _ _ _ h => h) (Or.inl ⟨by kernel_rfl, ?_⟩) hH ?_
  rotate_left
  · intro W hS
    go_simp
    first | done | with_reducible rfl
  simp only [Act.put, List.getElem_toArray, List.getElem_cons_succ, List.getElem_cons_zero, List.setIfInBounds_toArray, List.set_cons_zero, List.set_cons_succ]
  refine wpAnyH_done (by kernel_rfl) ?_ _
  rename World => w5
  have hHH := hH
  have HB5 := hid (chain2 HB4.out HB4.out.size hHH)
  have Qa5 := hid (Qa4.out.below hHH)
  have Qb5 := hid (Qb4.out.below hHH)
  clear hHH hH
  clear HB4 Qa4 Qb4
  clear cMa cMb cR HQa HQb hatA hatB sn
  have cEa := hid (fun (W : World) (h : Below w.heap.size w W) => K.encode 3 a (.slice ano ann anc) (.slice afo afn afc) (.slice abo abn abc) W (OK.out W h) (by decide) HSa.out (HaA.out.below h))
  have cEb := hid (fun (W : World) (h : Below w.heap.size w W) => K.encode 3 b (.slice bno bnn bnc) (.slice bfo bfn bfc) (.slice bbo bbn bbc) W (OK.out W h) (by decide) HSb.out (HbA.out.below h))
  have HREC := hid (fun (h1 : encC 3 a = 0) (h2 : encC 3 b = 0) => same_rec h1 h2)
  generalize encC 3 a = ca at cEa HREC
  generalize encC 3 b = cb at cEb HREC
  generalize encB 3 a = Da at cEa HREC
  generalize encB 3 b = Db at cEb HREC
  have ya0 : w5.cell? ⟨w.heap.size, 0, none⟩ = some (strV a.key) := Qa5.out.cell 0
  have ya1 : w5.cell? ⟨w.heap.size, 1, none⟩ = some (strV a.second) := Qa5.out.cell 1
  have ya2 : w5.cell? ⟨w.heap.size, 2, none⟩ = some ((.slice ano ann anc)) := Qa5.out.cell 2
  have ya3 : w5.cell? ⟨w.heap.size, 3, none⟩ = some (.int .i64 a.asked) := Qa5.out.cell 3
  have ya4 : w5.cell? ⟨w.heap.size, 4, none⟩ = some (.int .i64 a.came) := Qa5.out.cell 4
  have ya5 : w5.cell? ⟨w.heap.size, 5, none⟩ = some (.int .i64 a.status) := Qa5.out.cell 5
  have ya6 : w5.cell? ⟨w.heap.size, 6, none⟩ = some ((.slice afo afn afc)) := Qa5.out.cell 6
  have ya7 : w5.cell? ⟨w.heap.size, 7, none⟩ = some ((.slice abo abn abc)) := Qa5.out.cell 7
  have ya8 : w5.cell? ⟨w.heap.size, 8, none⟩ = some (.int .i64 a.gen) := Qa5.out.cell 8
  have yb0 : w5.cell? ⟨w.heap.size + 1, 0, none⟩ = some (strV b.key) := Qb5.out.cell 0
  have yb1 : w5.cell? ⟨w.heap.size + 1, 1, none⟩ = some (strV b.second) := Qb5.out.cell 1
  have yb2 : w5.cell? ⟨w.heap.size + 1, 2, none⟩ = some ((.slice bno bnn bnc)) := Qb5.out.cell 2
  have yb3 : w5.cell? ⟨w.heap.size + 1, 3, none⟩ = some (.int .i64 b.asked) := Qb5.out.cell 3
  have yb4 : w5.cell? ⟨w.heap.size + 1, 4, none⟩ = some (.int .i64 b.came) := Qb5.out.cell 4
  have yb5 : w5.cell? ⟨w.heap.size + 1, 5, none⟩ = some (.int .i64 b.status) := Qb5.out.cell 5
  have yb6 : w5.cell? ⟨w.heap.size + 1, 6, none⟩ = some ((.slice bfo bfn bfc)) := Qb5.out.cell 6
  have yb7 : w5.cell? ⟨w.heap.size + 1, 7, none⟩ = some ((.slice bbo bbn bbc)) := Qb5.out.cell 7
  have yb8 : w5.cell? ⟨w.heap.size + 1, 8, none⟩ = some (.int .i64 b.gen) := Qb5.out.cell 8
  go_wp2_with fail
  refine (cEa.out _ HB5.out).mono ?_
  rintro x6 w6 ⟨⟨ra, rfl, hor⟩, hb⟩
  obtain ⟨rga, rca, hra⟩ := own_form14 hor
  obtain ⟨na, hna⟩ : ∃ n, Da.length = n := ⟨_, rfl⟩
  rw [hna] at hra
  subst hra
  have hRa := hor.reads
  clear hor hna
  have HB6 := hid (chain2 HB5.out HB5.out.size hb)
  have Qa6 := hid (Qa5.out.below hb)
  have Qb6 := hid (Qb5.out.below hb)
  have Ra6 := hid (hRa)
  clear hRa
  clear ya0 ya1 ya2 ya3 ya4 ya5 ya6 ya7 ya8 yb0 yb1 yb2 yb3 yb4 yb5 yb6 yb7 yb8
  clear hb
  clear HB5 Qa5 Qb5
  have ya0 : w6.cell? ⟨w.heap.size, 0, none⟩ = some (strV a.key) := Qa6.out.cell 0
  have ya1 : w6.cell? ⟨w.heap.size, 1, none⟩ = some (strV a.second) := Qa6.out.cell 1
  have ya2 : w6.cell? ⟨w.heap.size, 2, none⟩ = some ((.slice ano ann anc)) := Qa6.out.cell 2
  have ya3 : w6.cell? ⟨w.heap.size, 3, none⟩ = some (.int .i64 a.asked) := Qa6.out.cell 3
  have ya4 : w6.cell? ⟨w.heap.size, 4, none⟩ = some (.int .i64 a.came) := Qa6.out.cell 4
  have ya5 : w6.cell? ⟨w.heap.size, 5, none⟩ = some (.int .i64 a.status) := Qa6.out.cell 5
  have ya6 : w6.cell? ⟨w.heap.size, 6, none⟩ = some ((.slice afo afn afc)) := Qa6.out.cell 6
  have ya7 : w6.cell? ⟨w.heap.size, 7, none⟩ = some ((.slice abo abn abc)) := Qa6.out.cell 7
  have ya8 : w6.cell? ⟨w.heap.size, 8, none⟩ = some (.int .i64 a.gen) := Qa6.out.cell 8
  have yb0 : w6.cell? ⟨w.heap.size + 1, 0, none⟩ = some (strV b.key) := Qb6.out.cell 0
  have yb1 : w6.cell? ⟨w.heap.size + 1, 1, none⟩ = some (strV b.second) := Qb6.out.cell 1
  have yb2 : w6.cell? ⟨w.heap.size + 1, 2, none⟩ = some ((.slice bno bnn bnc)) := Qb6.out.cell 2
  have yb3 : w6.cell? ⟨w.heap.size + 1, 3, none⟩ = some (.int .i64 b.asked) := Qb6.out.cell 3
  have yb4 : w6.cell? ⟨w.heap.size + 1, 4, none⟩ = some (.int .i64 b.came) := Qb6.out.cell 4
  have yb5 : w6.cell? ⟨w.heap.size + 1, 5, none⟩ = some (.int .i64 b.status) := Qb6.out.cell 5
  have yb6 : w6.cell? ⟨w.heap.size + 1, 6, none⟩ = some ((.slice bfo bfn bfc)) := Qb6.out.cell 6
  have yb7 : w6.cell? ⟨w.heap.size + 1, 7, none⟩ = some ((.slice bbo bbn bbc)) := Qb6.out.cell 7
  have yb8 : w6.cell? ⟨w.heap.size + 1, 8, none⟩ = some (.int .i64 b.gen) := Qb6.out.cell 8
  go_wp2_with fail
  refine (cEb.out _ HB6.out).mono ?_
  rintro x7 w7 ⟨⟨rb, rfl, hor⟩, hb⟩
  obtain ⟨rgb, rcb, hrb⟩ := own_form14 hor
  obtain ⟨nb, hnb⟩ : ∃ n, Db.length = n := ⟨_, rfl⟩
  rw [hnb] at hrb
  subst hrb
  have hRb := hor.reads
  clear hor hnb
  have HB7 := hid (chain2 HB6.out HB6.out.size hb)
  have Ra7 := hid (Ra6.out.below hb)
  have Qa7 := hid (Qa6.out.below hb)
  have Qb7 := hid (Qb6.out.below hb)
  have Rb7 := hid (hRb)
  clear hRb
  clear ya0 ya1 ya2 ya3 ya4 ya5 ya6 ya7 ya8 yb0 yb1 yb2 yb3 yb4 yb5 yb6 yb7 yb8
  clear hb
  clear HB6 Ra6 Qa6 Qb6
  have hva := reads_string (P := Tryd.prog) Ra7.out 25 9 5 Tryd.underlying25 Tryd.underlying5 Tryd.underlying9
  have hvb := reads_string (P := Tryd.prog) Rb7.out 25 9 5 Tryd.underlying25 Tryd.underlying5 Tryd.underlying9
  have zz : ∀ z : Int, (z != 0) = !(z == 0) := fun z => rfl
  by_cases h1 : ca = 0
  rotate_left
  · have z1 : (ca == 0) = false := by rw [beq_eq_false_iff_ne]; exact h1
    have z2 : (ca != 0) = true := by rw [bne, z1]; rfl
    clear h1
    go_wp2_with fail
    go_ret
    exact ⟨rfl, HB7.out⟩
  subst h1
  by_cases h2 : cb = 0
  rotate_left
  · have z1 : (cb == 0) = false := by rw [beq_eq_false_iff_ne]; exact h2
    have z2 : (cb != 0) = true := by rw [bne, z1]; rfl
    clear h2
    go_wp2_with fail
    go_ret
    exact ⟨rfl, HB7.out⟩
  subst h2
  have hab := HREC.out rfl rfl
  rw [HS.out] at hab
  have z0 : ((0 : Int) != 0) = false := rfl
  go_wp2_with fail
  go_ret
  exact ⟨rfl, HB7.out⟩
end Go.Proofs.YtdkhkeffheleeaaDoor
/-
  EntrySame over package entry as it is.
-/
set_option linter.unusedVariables false
set_option linter.unusedSimpArgs false
namespace Go.Proofs.YtdkhkeffheleeaaDoor
open Go.RowKit Go.Pantry

theorem entrySame_walk (anv afv abv : Value) (a : EntP) (bnv bfv bbv : Value) (b : EntP) (w : World) (ha : EntAt w anv afv abv a ∧ a.names.length ≤ maxLen ∧ a.fields.length ≤ maxLen) (hb : EntAt w bnv bfv bbv b ∧ b.names.length ≤ maxLen ∧ b.fields.length ≤ maxLen) :
    Calls Tryd.prog 6 #[.agg (rowE anv afv abv a), .agg (rowE bnv bfv bbv b)] w fun x w' => x = .returned (.bool true) ∧ Below w.heap.size w w' := by
  have h := entrySame_over entries_ok anv afv abv a bnv bfv bbv b w trivial ha hb
  exact h
end Go.Proofs.YtdkhkeffheleeaaDoor
