/-
  Several texts in one: Law14D, Law14YD.
-/
import Derived.Test.YtdkhkeffheleeaaDoorF14Law14A
import Derived.Test.YtdkhkeffheleeaaDoorF1409
import Derived.Test.YtdkhkeffheleeaaDoorF1412
/-
  The walk of EntryDecodes.
-/
set_option linter.unusedVariables false
set_option linter.unusedSimpArgs false
namespace Go.Proofs.YtdkhkeffheleeaaDoor
open Go.RowKit Go.Pantry

set_option maxRecDepth 8000 in
set_option maxHeartbeats 8000000 in
theorem entryDecodes_over {Ok : World → Prop} (K : Entries Ok) (bv : Value) (D : List UInt8) (w : World) (ok : Ok w) (hb : Bytes w bv D ∧ D.length ≤ 9223372036854775807) :
    Calls Tryd.prog 4 #[bv] w fun x w' => x = .returned (.bool true) ∧ Below w.heap.size w w' := by
  have OK := hid (fun (W : World) (h : Below w.heap.size w W) => K.keep w W ok h)
  have cA := hid (fun (W : World) (h : Below w.heap.size w W) => anchor14_any K W (OK.out W h))
  obtain ⟨bo, bc, hbv, hbc⟩ := bytes_form hb.1
  subst hbv
  obtain ⟨n, hn⟩ : ∃ n, D.length = n := ⟨_, rfl⟩
  have HN := hid hn
  rw [hn] at hb hbc ⊢
  have HBD := hid hb.1
  have hn9 := hb.2
  have hr0 := bytesRead hb.1
  have HB0 := hid (Below.refl w.heap.size w)
  have R0 := hid hr0
  clear ok hb hbc hn hr0
  go_enter Tryd.func4, Tryd.ntmps4
  go_wp2_with fail
  refine (cA.out _ HB0.out).mono ?_
  rintro x1 w1 ⟨rfl, hb⟩
  have HB1 := hid (chain2 HB0.out HB0.out.size hb)
  have R1 := hid (R0.out.below hb)
  clear hb
  clear HB0 R0
  clear cA
  by_cases h5 : 5000 < n
  · have d5 : decide ((5000 : Int) < (n : Int)) = true := decide_eq_true (by omega)
    have d5I : (5000 : Int) < (n : Int) := by omega
    go_wp2_with fail
    go_ret
    exact ⟨rfl, HB1.out⟩
  have d5 : decide ((5000 : Int) < (n : Int)) = false := decide_eq_false (by omega)
  have d5I : ¬ (5000 : Int) < (n : Int) := by omega
  obtain ⟨cd, hcd⟩ : ∃ c, (decD D).1 = c := ⟨_, rfl⟩
  obtain ⟨E, hE⟩ : ∃ c, (decD D).2.1 = c := ⟨_, rfl⟩
  obtain ⟨ver, hver⟩ : ∃ c, (decD D).2.2 = c := ⟨_, rfl⟩
  have hsm := dec_small D
  rw [hE] at hsm
  have HSM := hid hsm
  have cD := hid (fun (W : World) (h : Below w.heap.size w W) => (show Calls Tryd.prog 19 #[.slice bo n bc] W fun x w' => ∃ nv fv dv, x = .returned (.tuple #[.agg (rowE nv fv dv E), .int .i64 (ver : Int), .int .i64 cd]) ∧ EntAt w' nv fv dv E ∧ Below W.heap.size W w' by
    have c := K.decode (.slice bo n bc) D W (OK.out W h) (bytes_below HBD.out h) (by rw [HN.out]; omega)
    refine c.mono ?_
    rintro x w' ⟨nv, fv, dv, h1, h2, -, -, -, h3⟩
    rw [hcd, hE, hver] at h1
    rw [hE] at h2
    exact ⟨nv, fv, dv, h1, h2, h3⟩))
  have cX := hid (fun (W : World) (h : Below w.heap.size w W) => (show Calls Tryd.prog 21 #[.slice bo n bc] W fun x w' => ∃ nv fv dv, x = .returned (.tuple #[.agg (rowE nv fv dv E), .int .i64 (ver : Int), .int .i64 cd]) ∧ EntAt w' nv fv dv E ∧ Below W.heap.size W w' by
    have c := r14Decode_any (.slice bo n bc) D W (bytes_below HBD.out h) (by rw [HN.out]; omega)
    refine c.mono ?_
    rintro x w' ⟨nv, fv, dv, h1, h2, -, -, -, h3⟩
    rw [hcd, hE, hver] at h1
    rw [hE] at h2
    exact ⟨nv, fv, dv, h1, h2, h3⟩))
  have HDD := hid (show decD D = (cd, E, ver) by rw [← hcd, ← hE, ← hver])
  clear hcd hE hver hsm
  go_wp2_with fail
  refine (cD.out _ HB1.out).mono ?_
  rintro x2 w2 ⟨pnv, pfv, pbv, rfl, hat, hb⟩
  obtain ⟨pno, pnc, hpn⟩ := hat.names.strs
  obtain ⟨pfo, pfc, hpf⟩ := hat.flds.form
  obtain ⟨pbo, pbc, hpb⟩ : ∃ q c, pbv = .slice q E.body.length c := by
    obtain ⟨q, c, h, -⟩ := hat.body
    exact ⟨q, c, by rw [h, List.length_map]⟩
  obtain ⟨pnn, hpnn⟩ : ∃ k, E.names.length = k := ⟨_, rfl⟩
  obtain ⟨pfn, hpfn⟩ : ∃ k, E.fields.length = k := ⟨_, rfl⟩
  obtain ⟨pbn, hpbn⟩ : ∃ k, E.body.length = k := ⟨_, rfl⟩
  rw [hpnn] at hpn
  rw [hpfn] at hpf
  rw [hpbn] at hpb
  subst hpn hpf hpb
  clear hpnn hpfn hpbn
  have HB2 := hid (chain2 HB1.out HB1.out.size hb)
  have R2 := hid (R1.out.below hb)
  have PA2 := hid (hat)
  clear hat d5 d5I
  clear hb
  clear HB1 R1
  have hzp : rowIs (w2.alloc (.cells #[.string ⟨#[]⟩, .string ⟨#[]⟩, .slice none 0 0, .int .i64 0, .int .i64 0, .int .i64 0, .slice none 0 0, .slice none 0 0, .int .i64 0] 27)) w2.heap.size #[.string ⟨#[]⟩, .string ⟨#[]⟩, .slice none 0 0, .int .i64 0, .int .i64 0, .int .i64 0, .slice none 0 0, .slice none 0 0, .int .i64 0] 27 := rowIs_new _ _ _
  obtain ⟨w3, hwp⟩ : ∃ W, (w2.alloc (.cells #[.string ⟨#[]⟩, .string ⟨#[]⟩, .slice none 0 0, .int .i64 0, .int .i64 0, .int .i64 0, .slice none 0 0, .slice none 0 0, .int .i64 0] 27)).setRow w2.heap.size (rowE (.slice pno pnn pnc) (.slice pfo pfn pfc) (.slice pbo pbn pbc) E) = W := ⟨_, rfl⟩
  have hbx : Below w2.heap.size w2 w3 := by rw [← hwp]; exact below_setRow (below_alloc _ _) (Nat.le_refl _) _
  have HB3 := hid (chain2 HB2.out HB2.out.size hbx)
  have R3 := hid (R2.out.below hbx)
  have PA3 := hid (PA2.out.below hbx)
  have Qp3 := hid (show rowIs w3 w2.heap.size (rowE (.slice pno pnn pnc) (.slice pfo pfn pfc) (.slice pbo pbn pbc) E) 27 by rw [← hwp]; exact hzp.setRow _)
  clear hbx
  clear HB2 R2 PA2
  have yp0 : w3.cell? ⟨w2.heap.size, 0, none⟩ = some (strV E.key) := Qp3.out.cell 0
  have yp1 : w3.cell? ⟨w2.heap.size, 1, none⟩ = some (strV E.second) := Qp3.out.cell 1
  have yp2 : w3.cell? ⟨w2.heap.size, 2, none⟩ = some ((.slice pno pnn pnc)) := Qp3.out.cell 2
  have yp3 : w3.cell? ⟨w2.heap.size, 3, none⟩ = some (.int .i64 E.asked) := Qp3.out.cell 3
  have yp4 : w3.cell? ⟨w2.heap.size, 4, none⟩ = some (.int .i64 E.came) := Qp3.out.cell 4
  have yp5 : w3.cell? ⟨w2.heap.size, 5, none⟩ = some (.int .i64 E.status) := Qp3.out.cell 5
  have yp6 : w3.cell? ⟨w2.heap.size, 6, none⟩ = some ((.slice pfo pfn pfc)) := Qp3.out.cell 6
  have yp7 : w3.cell? ⟨w2.heap.size, 7, none⟩ = some ((.slice pbo pbn pbc)) := Qp3.out.cell 7
  have yp8 : w3.cell? ⟨w2.heap.size, 8, none⟩ = some (.int .i64 E.gen) := Qp3.out.cell 8
  go_wp2_with (refine wpList_store_row rfl 27 _ _ rfl w2.heap.size _ rfl rfl 27 #[.string ⟨#[]⟩, .string ⟨#[]⟩, .slice none 0 0, .int .i64 0, .int .i64 0, .int .i64 0, .slice none 0 0, .slice none 0 0, .int .i64 0] hzp infoEntP rfl (oneEntS _ _ _ _ _ _ _ _ _ _ _ _ _ _ _) ?_)
  clear hwp hzp
  refine (cX.out _ HB3.out).mono ?_
  rintro x4 w4 ⟨qnv, qfv, qbv, rfl, hat, hb⟩
  obtain ⟨qno, qnc, hqn⟩ := hat.names.strs
  obtain ⟨qfo, qfc, hqf⟩ := hat.flds.form
  obtain ⟨qbo, qbc, hqb⟩ : ∃ q c, qbv = .slice q E.body.length c := by
    obtain ⟨q, c, h, -⟩ := hat.body
    exact ⟨q, c, by rw [h, List.length_map]⟩
  obtain ⟨qnn, hqnn⟩ : ∃ k, E.names.length = k := ⟨_, rfl⟩
  obtain ⟨qfn, hqfn⟩ : ∃ k, E.fields.length = k := ⟨_, rfl⟩
  obtain ⟨qbn, hqbn⟩ : ∃ k, E.body.length = k := ⟨_, rfl⟩
  rw [hqnn] at hqn
  rw [hqfn] at hqf
  rw [hqbn] at hqb
  subst hqn hqf hqb
  clear hqnn hqfn hqbn
  have HB4 := hid (chain2 HB3.out HB3.out.size hb)
  have R4 := hid (R3.out.below hb)
  have PA4 := hid (PA3.out.below hb)
  have Qp4 := hid (Qp3.out.below hb)
  have QA4 := hid (hat)
  clear hat
  clear yp0 yp1 yp2 yp3 yp4 yp5 yp6 yp7 yp8
  clear hb
  clear HB3 R3 PA3 Qp3
  have hzq : rowIs (w4.alloc (.cells #[.string ⟨#[]⟩, .string ⟨#[]⟩, .slice none 0 0, .int .i64 0, .int .i64 0, .int .i64 0, .slice none 0 0, .slice none 0 0, .int .i64 0] 32)) w4.heap.size #[.string ⟨#[]⟩, .string ⟨#[]⟩, .slice none 0 0, .int .i64 0, .int .i64 0, .int .i64 0, .slice none 0 0, .slice none 0 0, .int .i64 0] 32 := rowIs_new _ _ _
  obtain ⟨w5, hwq⟩ : ∃ W, (w4.alloc (.cells #[.string ⟨#[]⟩, .string ⟨#[]⟩, .slice none 0 0, .int .i64 0, .int .i64 0, .int .i64 0, .slice none 0 0, .slice none 0 0, .int .i64 0] 32)).setRow w4.heap.size (rowE (.slice qno qnn qnc) (.slice qfo qfn qfc) (.slice qbo qbn qbc) E) = W := ⟨_, rfl⟩
  have hbx : Below w4.heap.size w4 w5 := by rw [← hwq]; exact below_setRow (below_alloc _ _) (Nat.le_refl _) _
  have HB5 := hid (chain2 HB4.out HB4.out.size hbx)
  have R5 := hid (R4.out.below hbx)
  have PA5 := hid (PA4.out.below hbx)
  have QA5 := hid (QA4.out.below hbx)
  have Qp5 := hid (Qp4.out.below hbx)
  have Qq5 := hid (show rowIs w5 w4.heap.size (rowE (.slice qno qnn qnc) (.slice qfo qfn qfc) (.slice qbo qbn qbc) E) 32 by rw [← hwq]; exact hzq.setRow _)
  clear hbx
  clear HB4 R4 PA4 QA4 Qp4
  have e1 : (cd == cd) = true := beq_self_eq_true cd
  have e2 : (cd != cd) = false := by rw [bne, e1]; rfl
  have e3 : ((ver : Int) == (ver : Int)) = true := beq_self_eq_true _
  have e4 : ((ver : Int) != (ver : Int)) = false := by rw [bne, e3]; rfl
  have cM := hid (fun (W : World) (h : Below w5.heap.size w5 W) => madeEnt_any E (.slice pno pnn pnc) (.slice pfo pfn pfc) (.slice pbo pbn pbc) W (PA5.out.below h) (by have := HSM.out.flds; omega) ⟨_, _, _, rfl⟩ ⟨_, _, _, rfl⟩)
  have cR := hid (fun (W : World) (pn pf pb : Value) (ha : EntAt W pn pf pb E) (h : Below w5.heap.size w5 W) => r14Same_any E E pn pf pb (.slice qno qnn qnc) (.slice qfo qfn qfc) (.slice qbo qbn qbc) W ha (QA5.out.below h) (by have := HSM.out.names; omega) (by have := HSM.out.flds; omega))
  rw [decide_eq_true rfl] at cR
  have HQp := Qp5
  have HQq := Qq5
  go_wp2_with (refine wpList_store_row rfl 32 _ _ rfl w4.heap.size _ rfl rfl 32 #[.string ⟨#[]⟩, .string ⟨#[]⟩, .slice none 0 0, .int .i64 0, .int .i64 0, .int .i64 0, .slice none 0 0, .slice none 0 0, .int .i64 0] hzq infoEntD rfl (oneEntS _ _ _ _ _ _ _ _ _ _ _ _ _ _ _) ?_)
  clear hwq hzq
  refine wp_region_held_drew (S := fun W' => Below w5.heap.size w5 W') (by kernel_rfl) (Below.refl _ _).drew (fun hH => ?_)
  refine wpAnyH_take (i := 0) (v := ?_) rfl (by kernel_rfl) (by kernel_rfl) (by kernel_rfl) (fun _ _ _ h => h) (Or.inl ⟨by kernel_rfl, ?_⟩) hH ?_
  rotate_left
  · intro W hS
    go_simp
    first | done | with_reducible rfl
  simp only [Act.put, List.getElem_toArray, List.getElem_cons_succ, List.getElem_cons_zero, List.setIfInBounds_toArray, List.set_cons_zero, List.set_cons_succ]
  refine wpAnyH_take (i := 1) (v := ?_) rfl (by kernel_rfl) (by kernel_rfl) (by kernel_rfl) (fun _ _ _ h => h) (Or.inl ⟨by kernel_rfl, ?_⟩) hH ?_
  rotate_left
  · intro W hS
    go_simp
    first | done | with_reducible rfl
  simp only [Act.put, List.getElem_toArray, List.getElem_cons_succ, List.getElem_cons_zero, List.setIfInBounds_toArray, List.set_cons_zero, List.set_cons_succ]
  refine wpAnyH_take (i := 2) (v := ?_) rfl (by kernel_rfl) (by kernel_rfl) (by kernel_rfl) (fun _ _ _ h => h) (Or.inl ⟨by kernel_rfl, ?_⟩) hH ?_
  rotate_left
  · intro W hS
    go_simp
    first | done | with_reducible rfl
  simp only [Act.put, List.getElem_toArray, List.getElem_cons_succ, List.getElem_cons_zero, List.setIfInBounds_toArray, List.set_cons_zero, List.set_cons_succ]
  refine wpAnyH_take (i := 3) (v := ?_) rfl (by kernel_rfl) (by kernel_rfl) (by kernel_rfl) (fun _ _ _ h => h) (Or.inl ⟨by kernel_rfl, ?_⟩) hH ?_
  rotate_left
  · intro W hS
    go_simp
    first | done | with_reducible rfl
  simp only [Act.put, List.getElem_toArray, List.getElem_cons_succ, List.getElem_cons_zero, List.setIfInBounds_toArray, List.set_cons_zero, List.set_cons_succ]
  refine wpAnyH_take (i := 4) (v := ?_) rfl (by kernel_rfl) (by kernel_rfl) (by kernel_rfl) (fun _ _ _ h => h) (Or.inl ⟨by kernel_rfl, ?_⟩) hH ?_
  rotate_left
  · intro W hS
    go_simp
    first | done | with_reducible rfl
  simp only [Act.put, List.getElem_toArray, List.getElem_cons_succ, List.getElem_cons_zero, List.setIfInBounds_toArray, List.set_cons_zero, List.set_cons_succ]
  refine wpAnyH_take (i := 5) (v := ?_) rfl (by kernel_rfl) (by kernel_rfl) (by kernel_rfl) (fun _ _ _ h => h) (Or.inl ⟨by kernel_rfl, ?_⟩) hH ?_
  rotate_left
  · intro W hS
    go_simp
    first | done | with_reducible rfl
  simp only [Act.put, List.getElem_toArray, List.getElem_cons_succ, List.getElem_cons_zero, List.setIfInBounds_toArray, List.set_cons_zero, List.set_cons_succ]
  refine wpAnyH_take (i := 6) (v := ?_) rfl (by kernel_rfl) (by kernel_rfl) (by kernel_rfl) (fun _ _ _ h => h) (Or.inl ⟨by kernel_rfl, ?_⟩) hH ?_
  rotate_left
  · intro W hS
    go_simp
    first | done | with_reducible rfl
  simp only [Act.put, List.getElem_toArray, List.getElem_cons_succ, List.getElem_cons_zero, List.setIfInBounds_toArray, List.set_cons_zero, List.set_cons_succ]
  refine wpAnyH_take (i := 7) (v := ?_) rfl (by kernel_rfl) (by kernel_rfl) (by kernel_rfl) (fun _ _ _ h => h) (Or.inl ⟨by kernel_rfl, ?_⟩) hH ?_
  rotate_left
  · intro W hS
    go_simp
    first | done | with_reducible rfl
  simp only [Act.put, List.getElem_toArray, List.getElem_cons_succ, List.getElem_cons_zero, List.setIfInBounds_toArray, List.set_cons_zero, List.set_cons_succ]
  refine wpAnyH_take (i := 8) (v := ?_) rfl (by kernel_rfl) (by kernel_rfl) (by kernel_rfl) (fun _ _ _ h => h) (Or.inl ⟨by kernel_rfl, ?_⟩) hH ?_
  rotate_left
  · intro W hS
    go_simp
    first | done | with_reducible rfl
  simp only [Act.put, List.getElem_toArray, List.getElem_cons_succ, List.getElem_cons_zero, List.setIfInBounds_toArray, List.set_cons_zero, List.set_cons_succ]
  refine wpAnyH_take (i := 9) (v := .agg (rowE (.slice pno pnn pnc) (.slice pfo pfn pfc) (.slice pbo pbn pbc) E)) rfl (by kernel_rfl) (by kernel_rfl) (by kernel_rfl) (fun _ _ _ h => h) (Or.inl ⟨by kernel_rfl, ?_⟩) hH ?_
  · intro W hS
    exact load_gives (x := .tmp 3) (by kernel_rfl) w2.heap.size (by kernel_rfl) (HQp.out.below hS) Tryd.underlying27 rfl infoEntP
  simp only [Act.put, List.getElem_toArray, List.getElem_cons_succ, List.getElem_cons_zero, List.setIfInBounds_toArray, List.set_cons_zero, List.set_cons_succ]
  refine wpAnyH_take (i := 11) (v := .agg (rowE (.slice qno qnn qnc) (.slice qfo qfn qfc) (.slice qbo qbn qbc) E)) rfl (by kernel_rfl) (by kernel_rfl) (by kernel_rfl) (fun _ _ _ h => h) (Or.inl ⟨by kernel_rfl, ?_⟩) hH ?_
  · intro W hS
    exact load_gives (x := .tmp 6) (by kernel_rfl) w4.heap.size (by kernel_rfl) (HQq.out.below hS) Tryd.underlying32 rfl infoEntD
  simp only [Act.put, List.getElem_toArray, List.getElem_cons_succ, List.getElem_cons_zero, List.setIfInBounds_toArray, List.set_cons_zero, List.set_cons_succ]
  refine wpAnyH_ready (rs := [10]) (by kernel_rfl) (by simp) ?_
  refine AllReadyH.cons rfl (fun K hK => ?_) AllReadyH.nil
  go_simp
  refine (cM.out _ hH).mono ?_
  rintro xA wA ⟨⟨Afv, rfl, hatA⟩, hbA⟩
  refine hK.out _ _ (chain2 hH hH.size hbA) (fun hH => ?_)
  clear hK K
  try simp only [Act.put, List.getElem_toArray, List.getElem_cons_succ, List.getElem_cons_zero, List.setIfInBounds_toArray, List.set_cons_zero, List.set_cons_succ]
  refine wpAnyH_ready (rs := [12]) (by kernel_rfl) (by simp) ?_
  refine AllReadyH.cons rfl (fun K hK => ?_) AllReadyH.nil
  go_simp
  refine (cR.out _ _ _ _ hatA hH).mono ?_
  rintro xC wC ⟨rfl, hbC⟩
  refine hK.out _ _ (chain2 hH hH.size hbC) (fun hH => ?_)
  clear hbC
  clear hK K
  try simp only [Act.put, List.getElem_toArray, List.getElem_cons_succ, List.getElem_cons_zero, List.setIfInBounds_toArray, List.set_cons_zero, List.set_cons_succ]
  refine wpAnyH_take (i := 13) (v := ?_) rfl (by kernel_rfl) (by kernel_rfl) (by kernel_rfl) (fun _ _ _ h => h) (Or.inl ⟨by kernel_rfl, ?_⟩) hH ?_
  rotate_left
  · intro W hS
    go_simp
    first | done | with_reducible rfl
  simp only [Act.put, List.getElem_toArray, List.getElem_cons_succ, List.getElem_cons_zero, List.setIfInBounds_toArray, List.set_cons_zero, List.set_cons_succ]
  refine wpAnyH_take (i := 14) (v := ?_) rfl (by kernel_rfl) (by kernel_rfl) (by kernel_rfl) (fun _ _ _ h => h) (Or.inl ⟨by kernel_rfl, ?_⟩) hH ?_
  rotate_left
  · intro W hS
    go_simp
    first | done | with_reducible rfl
  simp only [Act.put, List.getElem_toArray, List.getElem_cons_succ, List.getElem_cons_zero, List.setIfInBounds_toArray, List.set_cons_zero, List.set_cons_succ]
  refine wpAnyH_done (by kernel_rfl) ?_ _
  rename World => w6
  have hHH := hH
  have HB6 := hid (chain2 HB5.out HB5.out.size hHH)
  have R6 := hid (R5.out.below hHH)
  have PA6 := hid (PA5.out.below hHH)
  have QA6 := hid (QA5.out.below hHH)
  have Qp6 := hid (Qp5.out.below hHH)
  have Qq6 := hid (Qq5.out.below hHH)
  clear hHH hH
  clear HB5 R5 PA5 QA5 Qp5 Qq5
  clear cM cR HQp HQq hatA e1 e2 e3 e4
  by_cases h0 : cd = 0
  rotate_left
  · have z1 : (cd == 0) = false := by rw [beq_eq_false_iff_ne]; exact h0
    have z2 : (cd != 0) = true := by rw [bne, z1]; rfl
    go_wp2_with fail
    go_ret
    exact ⟨rfl, HB6.out⟩
  subst h0
  have hed := enc_of_dec HDD.out
  have hvr : 1 ≤ ver ∧ ver ≤ 3 := dec_ver HDD.out
  have cE := hid (fun (W : World) (h : Below w.heap.size w W) (ha : EntAt W (.slice pno pnn pnc) (.slice pfo pfn pfc) (.slice pbo pbn pbc) E) => K.encode (ver : Int) E (.slice pno pnn pnc) (.slice pfo pfn pfc) (.slice pbo pbn pbc) W (OK.out W h) ⟨by omega, by omega⟩ HSM.out ha)
  rw [hed.1, hed.2] at cE
  have z0 : ((0 : Int) != 0) = false := rfl
  clear hed hvr
  have yp0 : w6.cell? ⟨w2.heap.size, 0, none⟩ = some (strV E.key) := Qp6.out.cell 0
  have yp1 : w6.cell? ⟨w2.heap.size, 1, none⟩ = some (strV E.second) := Qp6.out.cell 1
  have yp2 : w6.cell? ⟨w2.heap.size, 2, none⟩ = some ((.slice pno pnn pnc)) := Qp6.out.cell 2
  have yp3 : w6.cell? ⟨w2.heap.size, 3, none⟩ = some (.int .i64 E.asked) := Qp6.out.cell 3
  have yp4 : w6.cell? ⟨w2.heap.size, 4, none⟩ = some (.int .i64 E.came) := Qp6.out.cell 4
  have yp5 : w6.cell? ⟨w2.heap.size, 5, none⟩ = some (.int .i64 E.status) := Qp6.out.cell 5
  have yp6 : w6.cell? ⟨w2.heap.size, 6, none⟩ = some ((.slice pfo pfn pfc)) := Qp6.out.cell 6
  have yp7 : w6.cell? ⟨w2.heap.size, 7, none⟩ = some ((.slice pbo pbn pbc)) := Qp6.out.cell 7
  have yp8 : w6.cell? ⟨w2.heap.size, 8, none⟩ = some (.int .i64 E.gen) := Qp6.out.cell 8
  have yq0 : w6.cell? ⟨w4.heap.size, 0, none⟩ = some (strV E.key) := Qq6.out.cell 0
  have yq1 : w6.cell? ⟨w4.heap.size, 1, none⟩ = some (strV E.second) := Qq6.out.cell 1
  have yq2 : w6.cell? ⟨w4.heap.size, 2, none⟩ = some ((.slice qno qnn qnc)) := Qq6.out.cell 2
  have yq3 : w6.cell? ⟨w4.heap.size, 3, none⟩ = some (.int .i64 E.asked) := Qq6.out.cell 3
  have yq4 : w6.cell? ⟨w4.heap.size, 4, none⟩ = some (.int .i64 E.came) := Qq6.out.cell 4
  have yq5 : w6.cell? ⟨w4.heap.size, 5, none⟩ = some (.int .i64 E.status) := Qq6.out.cell 5
  have yq6 : w6.cell? ⟨w4.heap.size, 6, none⟩ = some ((.slice qfo qfn qfc)) := Qq6.out.cell 6
  have yq7 : w6.cell? ⟨w4.heap.size, 7, none⟩ = some ((.slice qbo qbn qbc)) := Qq6.out.cell 7
  have yq8 : w6.cell? ⟨w4.heap.size, 8, none⟩ = some (.int .i64 E.gen) := Qq6.out.cell 8
  go_wp2_with fail
  refine (cE.out _ HB6.out PA6.out).mono ?_
  rintro x7 w7 ⟨⟨r, rfl, hor⟩, hb⟩
  obtain ⟨rg, rc, hra⟩ := own_form14 hor
  rw [HN.out] at hra
  subst hra
  have hrd := hor.reads
  clear hor
  have HB7 := hid (chain2 HB6.out HB6.out.size hb)
  have R7 := hid (R6.out.below hb)
  have PA7 := hid (PA6.out.below hb)
  have QA7 := hid (QA6.out.below hb)
  have Qp7 := hid (Qp6.out.below hb)
  have Qq7 := hid (Qq6.out.below hb)
  have C7 := hid (hrd)
  clear hrd z0
  clear yp0 yp1 yp2 yp3 yp4 yp5 yp6 yp7 yp8 yq0 yq1 yq2 yq3 yq4 yq5 yq6 yq7 yq8
  clear hb
  clear HB6 R6 PA6 QA6 Qp6 Qq6
  have hva := reads_string (P := Tryd.prog) C7.out 25 9 5 Tryd.underlying25 Tryd.underlying5 Tryd.underlying9
  have hvb := reads_string (P := Tryd.prog) R7.out 25 9 5 Tryd.underlying25 Tryd.underlying5 Tryd.underlying9
  have hdd : (D == D) = true := beq_self_eq_true D
  go_wp2_with fail
  go_ret
  exact ⟨rfl, HB7.out⟩
end Go.Proofs.YtdkhkeffheleeaaDoor
/-
  EntryDecodes over package entry as it is.
-/
set_option linter.unusedVariables false
set_option linter.unusedSimpArgs false
namespace Go.Proofs.YtdkhkeffheleeaaDoor
open Go.RowKit Go.Pantry

theorem entryDecodes_walk (bv : Value) (D : List UInt8) (w : World) (hD : Reads w bv (D.map byteV) ∧ (∀ ao n cap, bv = .slice ao n cap → n ≤ cap) ∧ D.length ≤ maxLen) :
    Calls Tryd.prog 4 #[bv] w fun x w' => x = .returned (.bool true) ∧ Below w.heap.size w w' := by
  have h := entryDecodes_over entries_ok bv D w trivial ⟨bytes_room hD.1 hD.2.1, hD.2.2⟩
  exact h
end Go.Proofs.YtdkhkeffheleeaaDoor
