/-
  The walk of EntryCuts.
-/
import Derived.Test.YtdkhkeffheleeaaDoorF14Law14A

set_option linter.unusedVariables false
set_option linter.unusedSimpArgs false
namespace Go.Proofs.YtdkhkeffheleeaaDoor
open Go.RowKit Go.Pantry

set_option maxRecDepth 8000 in
set_option maxHeartbeats 8000000 in
theorem entryCuts_over {Ok : World → Prop} (K : Entries Ok) (env efv ebv : Value) (e : EntP) (z cu : Int) (mv : Value) (M : List UInt8) (w : World) (ok : Ok w) (he : EntAt w env efv ebv e ∧ e.names.length ≤ 9223372036854775807 ∧ e.fields.length ≤ 9223372036854775807) (hz : In14 z) (hcu : In14 cu) (hm : Reads w mv (M.map byteV) ∧ M.length ≤ 9223372036854775807) :
    Calls Tryd.prog 9 #[.agg (rowE env efv ebv e), .int .i64 z, .int .i64 cu, mv] w fun x w' => x = .returned (.bool true) ∧ Below w.heap.size w w' := by
  obtain ⟨mo, mc, hmv⟩ : ∃ a c, mv = .slice a M.length c := by
    obtain ⟨q, c, h, -⟩ := hm.1
    exact ⟨q, c, by rw [h, List.length_map]⟩
  obtain ⟨mn, hmn⟩ : ∃ k, M.length = k := ⟨_, rfl⟩
  have HMN := hid hmn
  rw [hmn] at hmv
  subst hmv
  have HMR := hid hm.1
  have hm9 : mn ≤ 9223372036854775807 := by rw [← hmn]; exact hm.2
  clear hm hmn
  have OK := hid (fun (W : World) (h : Below w.heap.size w W) => K.keep w W ok h)
  have cA := hid (fun (W : World) (h : Below w.heap.size w W) => anchor14_any K W (OK.out W h))
  have HeA := hid he.1
  have HeL := hid he.2
  obtain ⟨eno, enc, hen⟩ := HeA.out.names.strs
  obtain ⟨efo, efc, hef⟩ := HeA.out.flds.form
  obtain ⟨ebo, ebc, heb⟩ : ∃ q c, ebv = .slice q e.body.length c := by
    obtain ⟨q, c, h, -⟩ := HeA.out.body
    exact ⟨q, c, by rw [h, List.length_map]⟩
  obtain ⟨enn, henn⟩ : ∃ k, e.names.length = k := ⟨_, rfl⟩
  obtain ⟨efn, hefn⟩ : ∃ k, e.fields.length = k := ⟨_, rfl⟩
  obtain ⟨ebn, hebn⟩ : ∃ k, e.body.length = k := ⟨_, rfl⟩
  rw [henn] at hen
  rw [hefn] at hef
  rw [hebn] at heb
  subst hen hef heb
  clear henn hefn hebn
  have cSe := hid (fun (W : World) (h : Below w.heap.size w W) => smallE_any e (.slice eno enn enc) (.slice efo efn efc) (.slice ebo ebn ebc) W (HeA.out.below h) HeL.out.1 HeL.out.2)
  obtain ⟨w0, hw0⟩ : ∃ W, w.alloc (.cells (rowE (.slice eno enn enc) (.slice efo efn efc) (.slice ebo ebn ebc) e) 27) = W := ⟨_, rfl⟩
  have HB0 := hid (show Below w.heap.size w w0 by rw [← hw0]; exact below_alloc _ _)
  have Qe0 := hid (show rowIs w0 w.heap.size (rowE (.slice eno enn enc) (.slice efo efn efc) (.slice ebo ebn ebc) e) 27 by rw [← hw0]; exact rowIs_new _ _ _)
  clear ok he
  go_enter Tryd.func9, Tryd.ntmps9
  go_wp2_with fail
  refine (cA.out _ HB0.out).mono ?_
  rintro x1 w1 ⟨rfl, hb⟩
  have HB1 := hid (chain2 HB0.out HB0.out.size hb)
  have Qe1 := hid (Qe0.out.below hb)
  clear hb
  clear HB0 Qe0
  try clear hw0
  clear cA
  have ye0 : w1.cell? ⟨w.heap.size, 0, none⟩ = some (strV e.key) := Qe1.out.cell 0
  have ye1 : w1.cell? ⟨w.heap.size, 1, none⟩ = some (strV e.second) := Qe1.out.cell 1
  have ye2 : w1.cell? ⟨w.heap.size, 2, none⟩ = some ((.slice eno enn enc)) := Qe1.out.cell 2
  have ye3 : w1.cell? ⟨w.heap.size, 3, none⟩ = some (.int .i64 e.asked) := Qe1.out.cell 3
  have ye4 : w1.cell? ⟨w.heap.size, 4, none⟩ = some (.int .i64 e.came) := Qe1.out.cell 4
  have ye5 : w1.cell? ⟨w.heap.size, 5, none⟩ = some (.int .i64 e.status) := Qe1.out.cell 5
  have ye6 : w1.cell? ⟨w.heap.size, 6, none⟩ = some ((.slice efo efn efc)) := Qe1.out.cell 6
  have ye7 : w1.cell? ⟨w.heap.size, 7, none⟩ = some ((.slice ebo ebn ebc)) := Qe1.out.cell 7
  have ye8 : w1.cell? ⟨w.heap.size, 8, none⟩ = some (.int .i64 e.gen) := Qe1.out.cell 8
  go_wp2_with fail
  refine (cSe.out _ HB1.out).mono ?_
  rintro x2 w2 ⟨rfl, hb⟩
  have HB2 := hid (chain2 HB1.out HB1.out.size hb)
  have Qe2 := hid (Qe1.out.below hb)
  clear ye0 ye1 ye2 ye3 ye4 ye5 ye6 ye7 ye8
  clear hb
  clear HB1 Qe1
  cases hse : smallE e with
  | false =>
    go_wp2_with fail
    go_ret
    exact ⟨rfl, HB2.out⟩
  | true =>
  have HSe := hid (smallE_ok hse)
  clear hse cSe
  by_cases ha0 : cu < 0
  · have da : decide (cu < 0) = true := decide_eq_true ha0
    go_wp2_with fail
    go_ret
    exact ⟨rfl, HB2.out⟩
  have da : decide (cu < 0) = false := decide_eq_false ha0
  by_cases hm1 : 100 < mn
  · have dm : decide ((100 : Int) < (mn : Int)) = true := decide_eq_true (by omega)
    have dmI : (100 : Int) < (mn : Int) := by omega
    go_wp2_with fail
    go_ret
    exact ⟨rfl, HB2.out⟩
  have dm : decide ((100 : Int) < (mn : Int)) = false := decide_eq_false (by omega)
  have dmI : ¬ (100 : Int) < (mn : Int) := by omega
  have cE := hid (fun (W : World) (h : Below w.heap.size w W) => K.encode z e (.slice eno enn enc) (.slice efo efn efc) (.slice ebo ebn ebc) W (OK.out W h) hz HSe.out (HeA.out.below h))
  obtain ⟨D, hD⟩ : ∃ D, encB z e = D := ⟨_, rfl⟩
  obtain ⟨cd, hcd⟩ : ∃ c, encC z e = c := ⟨_, rfl⟩
  rw [hD, hcd] at cE
  have HD := hid (And.intro hD hcd)
  clear hD hcd
  have ye0 : w2.cell? ⟨w.heap.size, 0, none⟩ = some (strV e.key) := Qe2.out.cell 0
  have ye1 : w2.cell? ⟨w.heap.size, 1, none⟩ = some (strV e.second) := Qe2.out.cell 1
  have ye2 : w2.cell? ⟨w.heap.size, 2, none⟩ = some ((.slice eno enn enc)) := Qe2.out.cell 2
  have ye3 : w2.cell? ⟨w.heap.size, 3, none⟩ = some (.int .i64 e.asked) := Qe2.out.cell 3
  have ye4 : w2.cell? ⟨w.heap.size, 4, none⟩ = some (.int .i64 e.came) := Qe2.out.cell 4
  have ye5 : w2.cell? ⟨w.heap.size, 5, none⟩ = some (.int .i64 e.status) := Qe2.out.cell 5
  have ye6 : w2.cell? ⟨w.heap.size, 6, none⟩ = some ((.slice efo efn efc)) := Qe2.out.cell 6
  have ye7 : w2.cell? ⟨w.heap.size, 7, none⟩ = some ((.slice ebo ebn ebc)) := Qe2.out.cell 7
  have ye8 : w2.cell? ⟨w.heap.size, 8, none⟩ = some (.int .i64 e.gen) := Qe2.out.cell 8
  go_wp2_with fail
  refine (cE.out _ HB2.out).mono ?_
  rintro x3 w3 ⟨⟨r, rfl, hor⟩, hb⟩
  have HB3 := hid (chain2 HB2.out HB2.out.size hb)
  have Qe3 := hid (Qe2.out.below hb)
  have O3 := hid (hor)
  clear hor da dm dmI
  clear ye0 ye1 ye2 ye3 ye4 ye5 ye6 ye7 ye8
  clear hb
  clear HB2 Qe2
  obtain ⟨ro, rc, hrf⟩ := own_form14 O3.out
  obtain ⟨n, hn⟩ : ∃ n, D.length = n := ⟨_, rfl⟩
  rw [hn] at hrf
  subst hrf
  have HN := hid hn
  by_cases h0 : cd = 0
  rotate_left
  · have z1 : (cd == 0) = false := by rw [beq_eq_false_iff_ne]; exact h0
    have z2 : (cd != 0) = true := by rw [bne, z1]; rfl
    clear hn
    go_wp2_with fail
    go_ret
    exact ⟨rfl, HB3.out⟩
  subst h0
  have hen := enc_heads HD.out.2
  rw [HD.out.1] at hen
  have hn8 : 8 ≤ n := by rw [← hn]; exact hen.2.2.2
  have hn4 : n ≤ 4000 := by rw [← hn, ← HD.out.1]; exact enc_len
  obtain ⟨cn, rfl⟩ := Int.eq_ofNat_of_zero_le (show 0 ≤ cu by omega)
  obtain ⟨q, hq⟩ : ∃ q, cn % n = q := ⟨_, rfl⟩
  have hqn : q < n := by rw [← hq]; exact Nat.mod_lt _ (by omega)
  have hrem : Int.tmod (cn : Int) (n : Int) = (q : Int) := by rw [← hq]; rfl
  have hwq : IntKind.i64.wrap (q : Int) = (q : Int) := IntWalk.i64_in _ (by omega)
  have hne : (n : Int) ≠ 0 := by omega
  have hby := ownsRow_bytes O3.out
  obtain ⟨ho, hc, hsl, hsb⟩ := bytes_high 25 Tryd.underlying25 (fun W => by rfl) hby q (by rw [hn]; omega)
  have hcut := dec_cut HD.out.2 (show q < (encB z e).length by rw [HD.out.1, hn]; exact hqn)
  rw [HD.out.1] at hcut
  have hmore := dec_more HD.out.2 M
  rw [HD.out.1] at hmore
  have HMO := hid hmore
  obtain ⟨e1, he1⟩ : ∃ x, (decD (D.take q)).2.1 = x := ⟨_, rfl⟩
  obtain ⟨v1, hv1⟩ : ∃ x, (decD (D.take q)).2.2 = x := ⟨_, rfl⟩
  have cD := hid (show Calls Tryd.prog 19 #[.slice ho q hc] w3 fun x w' => ∃ nv fv dv, x = .returned (.tuple #[.agg (rowE nv fv dv e1), .int .i64 (v1 : Int), .int .i64 10]) ∧ EntAt w' nv fv dv e1 ∧ Below w3.heap.size w3 w' by
    have h := K.decode _ _ w3 (OK.out _ HB3.out) hsb (by rw [List.length_take, hn]; omega)
    unfold DecPost at h
    rw [hcut, he1, hv1] at h
    refine h.mono ?_
    rintro x w' ⟨nv, fv, dv, h1, h2, -, -, -, h3⟩
    exact ⟨nv, fv, dv, h1, h2, h3⟩)
  have HRD := hid (bytesRead hby)
  have z0 : ((0 : Int) != 0) = false := rfl
  have R3 := hid (bytesRead hby)
  clear hen hn hq hcut hmore he1 hv1 hby hsb O3
  go_wp2_with (refine wpList_slice_high rfl 25 _ _ rfl rfl rfl Tryd.underlying25 (hsl _) ?_)
  refine (cD.out).mono ?_
  rintro x4 w4 ⟨pnv, pfv, pbv, rfl, hat, hb⟩
  obtain ⟨pno, pnc, hpn⟩ := hat.names.strs
  obtain ⟨pfo, pfc, hpf⟩ := hat.flds.form
  obtain ⟨pbo, pbc, hpb⟩ : ∃ q c, pbv = .slice q e1.body.length c := by
    obtain ⟨q, c, h, -⟩ := hat.body
    exact ⟨q, c, by rw [h, List.length_map]⟩
  obtain ⟨pnn, hpnn⟩ : ∃ k, e1.names.length = k := ⟨_, rfl⟩
  obtain ⟨pfn, hpfn⟩ : ∃ k, e1.fields.length = k := ⟨_, rfl⟩
  obtain ⟨pbn, hpbn⟩ : ∃ k, e1.body.length = k := ⟨_, rfl⟩
  rw [hpnn] at hpn
  rw [hpfn] at hpf
  rw [hpbn] at hpb
  subst hpn hpf hpb
  clear hpnn hpfn hpbn
  have HB4 := hid (chain2 HB3.out HB3.out.size hb)
  have R4 := hid (R3.out.below hb)
  clear hat HRD hsl cD hrem hwq hne z0
  clear hb
  clear HB3 R3
  have hzp : rowIs (w4.alloc (.cells #[.string ⟨#[]⟩, .string ⟨#[]⟩, .slice none 0 0, .int .i64 0, .int .i64 0, .int .i64 0, .slice none 0 0, .slice none 0 0, .int .i64 0] 27)) w4.heap.size #[.string ⟨#[]⟩, .string ⟨#[]⟩, .slice none 0 0, .int .i64 0, .int .i64 0, .int .i64 0, .slice none 0 0, .slice none 0 0, .int .i64 0] 27 := rowIs_new _ _ _
  obtain ⟨w5, hwp⟩ : ∃ W, (w4.alloc (.cells #[.string ⟨#[]⟩, .string ⟨#[]⟩, .slice none 0 0, .int .i64 0, .int .i64 0, .int .i64 0, .slice none 0 0, .slice none 0 0, .int .i64 0] 27)).setRow w4.heap.size (rowE (.slice pno pnn pnc) (.slice pfo pfn pfc) (.slice pbo pbn pbc) e1) = W := ⟨_, rfl⟩
  have hbx : Below w4.heap.size w4 w5 := by rw [← hwp]; exact below_setRow (below_alloc _ _) (Nat.le_refl _) _
  have HB5 := hid (chain2 HB4.out HB4.out.size hbx)
  have R5 := hid (R4.out.below hbx)
  have Qp5 := hid (show rowIs w5 w4.heap.size (rowE (.slice pno pnn pnc) (.slice pfo pfn pfc) (.slice pbo pbn pbc) e1) 27 by rw [← hwp]; exact hzp.setRow _)
  clear hbx
  clear HB4 R4
  have hbE : Below w5.heap.size w5 (w5.alloc (.cells #[] 5)) := below_alloc _ _
  have hoE : (w5.alloc (.cells #[] 5)).ownsRow w5.heap.size 5 1 (.slice (some ⟨w5.heap.size, 0, none⟩) 0 0) 0 (([] : List UInt8).map byteV) := World.ownsRow_made w5 #[] 0 (Nat.le_refl _) (by decide) rfl
  have hrE := R5.out.below hbE
  have hsE := hbE.size
  have hml : (M.map byteV).length = mn := by rw [List.length_map, HMN.out]
  have hdl : (D.map byteV).length = n := by rw [List.length_map, HN.out]
  go_wp2_with (first
    | (refine wpList_store_row rfl 27 _ _ rfl w4.heap.size _ rfl rfl 27 #[.string ⟨#[]⟩, .string ⟨#[]⟩, .slice none 0 0, .int .i64 0, .int .i64 0, .int .i64 0, .slice none 0 0, .slice none 0 0, .int .i64 0] hzp infoEntP rfl (oneEntS _ _ _ _ _ _ _ _ _ _ _ _ _ _ _) ?_)
    | (at_builtin; refine wpList_append_all _ rfl _ _ 25 rfl w5.heap.size 5 Tryd.underlying25 infoU8 rfl (by decide) rfl hoE hrE (oneCell_bytes _) rfl (by rw [hdl]; omega) hsE ?_; intro v3 w30 ho3 hg3 hb3; have hs3 : w5.heap.size ≤ w30.heap.size := Nat.le_trans hsE hb3.size; have hrm := HMR.out.below ((HB5.out.trans ((hbE.trans hb3).mono HB5.out.size))); rw [hdl] at ho3)
    | (at_builtin; refine wpList_append_all _ rfl _ _ 25 rfl w5.heap.size 5 Tryd.underlying25 infoU8 rfl (by decide) rfl ho3 hrm (oneCell_bytes _) rfl (by rw [hml]; omega) hs3 ?_; intro v4 w40 ho4 hg4 hb4))
  clear hwp hzp
  have hb40 : Below w5.heap.size w5 w40 := (hbE.trans hb3).trans hb4
  have HB40 := hid (HB5.out.trans (hb40.mono HB5.out.size))
  have hby4 : Bytes w40 v4 (D ++ M) := ownsRow_bytes (by rw [List.map_append]; simpa using ho4)
  obtain ⟨e2, he2⟩ : ∃ x, (decD (D ++ M)).2.1 = x := ⟨_, rfl⟩
  obtain ⟨v2, hv2⟩ : ∃ x, (decD (D ++ M)).2.2 = x := ⟨_, rfl⟩
  obtain ⟨c2, hc2⟩ : ∃ x, (if M = [] then (0 : Int) else 10) = x := ⟨_, rfl⟩
  have cD2 := hid (show Calls Tryd.prog 19 #[v4] w40 fun x w' => ∃ nv fv dv, x = .returned (.tuple #[.agg (rowE nv fv dv e2), .int .i64 (v2 : Int), .int .i64 c2]) ∧ EntAt w' nv fv dv e2 ∧ Below w40.heap.size w40 w' by
    have h := K.decode _ _ w40 (OK.out _ HB40.out) hby4 (by rw [List.length_append, HN.out, HMN.out]; omega)
    unfold DecPost at h
    rw [HMO.out, hc2, he2, hv2] at h
    refine h.mono ?_
    rintro x w' ⟨nv, fv, dv, h1, h2, -, -, -, h3⟩
    exact ⟨nv, fv, dv, h1, h2, h3⟩)
  have hways : (mn = 0 ∧ c2 = 0) ∨ (0 < mn ∧ c2 = 10) := by
    have h1 := HMN.out
    by_cases hM : M = []
    · rw [if_pos hM] at hc2
      rw [hM] at h1
      exact .inl ⟨h1.symm, hc2.symm⟩
    · rw [if_neg hM] at hc2
      have := List.length_pos_iff.2 hM
      exact .inr ⟨by omega, hc2.symm⟩
  clear hbE hoE hrE hsE ho3 hg3 hb3 hs3 hrm ho4 hg4 hb4 hb40 hby4 he2 hv2 hc2 hml hdl HB5 R5 Qp5
  refine (cD2.out).mono ?_
  rintro x41 w41 ⟨qnv, qfv, qbv, rfl, hat, hb⟩
  obtain ⟨qno, qnc, hqn⟩ := hat.names.strs
  obtain ⟨qfo, qfc, hqf⟩ := hat.flds.form
  obtain ⟨qbo, qbc, hqb⟩ : ∃ q c, qbv = .slice q e2.body.length c := by
    obtain ⟨q, c, h, -⟩ := hat.body
    exact ⟨q, c, by rw [h, List.length_map]⟩
  obtain ⟨qnn, hqnn⟩ : ∃ k, e2.names.length = k := ⟨_, rfl⟩
  obtain ⟨qfn, hqfn⟩ : ∃ k, e2.fields.length = k := ⟨_, rfl⟩
  obtain ⟨qbn, hqbn⟩ : ∃ k, e2.body.length = k := ⟨_, rfl⟩
  rw [hqnn] at hqn
  rw [hqfn] at hqf
  rw [hqbn] at hqb
  subst hqn hqf hqb
  clear hqnn hqfn hqbn
  have HB41 := hid (chain2 HB40.out HB40.out.size hb)
  clear hat cD2
  clear hb
  clear HB40
  have hzq : rowIs (w41.alloc (.cells #[.string ⟨#[]⟩, .string ⟨#[]⟩, .slice none 0 0, .int .i64 0, .int .i64 0, .int .i64 0, .slice none 0 0, .slice none 0 0, .int .i64 0] 27)) w41.heap.size #[.string ⟨#[]⟩, .string ⟨#[]⟩, .slice none 0 0, .int .i64 0, .int .i64 0, .int .i64 0, .slice none 0 0, .slice none 0 0, .int .i64 0] 27 := rowIs_new _ _ _
  obtain ⟨w42, hwq⟩ : ∃ W, (w41.alloc (.cells #[.string ⟨#[]⟩, .string ⟨#[]⟩, .slice none 0 0, .int .i64 0, .int .i64 0, .int .i64 0, .slice none 0 0, .slice none 0 0, .int .i64 0] 27)).setRow w41.heap.size (rowE (.slice qno qnn qnc) (.slice qfo qfn qfc) (.slice qbo qbn qbc) e2) = W := ⟨_, rfl⟩
  have hbx : Below w41.heap.size w41 w42 := by rw [← hwq]; exact below_setRow (below_alloc _ _) (Nat.le_refl _) _
  have HB42 := hid (chain2 HB41.out HB41.out.size hbx)
  have Qq42 := hid (show rowIs w42 w41.heap.size (rowE (.slice qno qnn qnc) (.slice qfo qfn qfc) (.slice qbo qbn qbc) e2) 27 by rw [← hwq]; exact hzq.setRow _)
  clear hbx
  clear HB41
  rcases hways with ⟨h1, h2⟩ | ⟨h1, h2⟩
  · subst h1 h2
    go_wp2_with (refine wpList_store_row rfl 27 _ _ rfl w41.heap.size _ rfl rfl 27 #[.string ⟨#[]⟩, .string ⟨#[]⟩, .slice none 0 0, .int .i64 0, .int .i64 0, .int .i64 0, .slice none 0 0, .slice none 0 0, .int .i64 0] hzq infoEntP rfl (oneEntS _ _ _ _ _ _ _ _ _ _ _ _ _ _ _) ?_)
    clear hwq hzq
    go_ret
    exact ⟨rfl, HB42.out⟩
  · subst h2
    have m1 : ((mn : Int) == 0) = false := by rw [beq_eq_false_iff_ne]; omega
    have m2 : ¬ (mn : Int) = 0 := by omega
    go_wp2_with (refine wpList_store_row rfl 27 _ _ rfl w41.heap.size _ rfl rfl 27 #[.string ⟨#[]⟩, .string ⟨#[]⟩, .slice none 0 0, .int .i64 0, .int .i64 0, .int .i64 0, .slice none 0 0, .slice none 0 0, .int .i64 0] hzq infoEntP rfl (oneEntS _ _ _ _ _ _ _ _ _ _ _ _ _ _ _) ?_)
    clear hwq hzq
    go_ret
    exact ⟨rfl, HB42.out⟩
end Go.Proofs.YtdkhkeffheleeaaDoor
