/-
  The walk of EntryTurns.
-/
import Derived.Test.YtdkhkeffheleeaaDoorF14Law14A

set_option linter.unusedVariables false
set_option linter.unusedSimpArgs false
namespace Go.Proofs.YtdkhkeffheleeaaDoor
open Go.RowKit Go.Pantry

set_option maxRecDepth 8000 in
set_option maxHeartbeats 8000000 in
theorem entryTurns_over {Ok : World → Prop} (K : Entries Ok) (env efv ebv : Value) (e : EntP) (z : Int) (mv : Value) (M : List Int) (w : World) (ok : Ok w) (he : EntAt w env efv ebv e ∧ e.names.length ≤ 9223372036854775807 ∧ e.fields.length ≤ 9223372036854775807) (hz : In14 z) (hm : Reads w mv (M.map (Value.int .i64)) ∧ (∀ y ∈ M, In14 y) ∧ M.length ≤ 9223372036854775807) :
    Calls Tryd.prog 5 #[.agg (rowE env efv ebv e), .int .i64 z, mv] w fun x w' => x = .returned (.bool true) ∧ Below w.heap.size w w' := by
  obtain ⟨mo, mc, hmv⟩ : ∃ a c, mv = .slice a M.length c := by
    obtain ⟨q, c, h, -⟩ := hm.1
    exact ⟨q, c, by rw [h, List.length_map]⟩
  obtain ⟨mn, hmn⟩ : ∃ k, M.length = k := ⟨_, rfl⟩
  have HMN := hid hmn
  rw [hmn] at hmv
  subst hmv
  have HMR := hid hm.1
  have HMI := hid hm.2.1
  have hm9 : mn ≤ 9223372036854775807 := by rw [← hmn]; exact hm.2.2
  clear hm hmn
  have OK := hid (fun (W : World) (h : Below w.heap.size w W) => K.keep w W ok h)
  have cA := hid (fun (W : World) (h : Below w.heap.size w W) => anchor14_any K W (OK.out W h))
  have HeA := hid he.1
  have HeL := hid he.2
  obtain ⟨eno, enc, hen⟩ := HeA.out.names.strs
  obtain ⟨efo, efc, hef⟩ := HeA.out.flds.form
  obtain ⟨ebo, ebc, heb⟩ : ∃ q c, ebv = .slice q e.body.length c := by
    obtain ⟨q, c, h, -⟩ := HeA.out.body
    exact ⟨q, c, by rw [h, List.length_map]⟩
  obtain ⟨enn, henn⟩ : ∃ k, e.names.length = k := ⟨_, rfl⟩
  obtain ⟨efn, hefn⟩ : ∃ k, e.fields.length = k := ⟨_, rfl⟩
  obtain ⟨ebn, hebn⟩ : ∃ k, e.body.length = k := ⟨_, rfl⟩
  rw [henn] at hen
  rw [hefn] at hef
  rw [hebn] at heb
  subst hen hef heb
  clear henn hefn hebn
  have cSe := hid (fun (W : World) (h : Below w.heap.size w W) => smallE_any e (.slice eno enn enc) (.slice efo efn efc) (.slice ebo ebn ebc) W (HeA.out.below h) HeL.out.1 HeL.out.2)
  obtain ⟨w0, hw0⟩ : ∃ W, w.alloc (.cells (rowE (.slice eno enn enc) (.slice efo efn efc) (.slice ebo ebn ebc) e) 27) = W := ⟨_, rfl⟩
  have HB0 := hid (show Below w.heap.size w w0 by rw [← hw0]; exact below_alloc _ _)
  have Qe0 := hid (show rowIs w0 w.heap.size (rowE (.slice eno enn enc) (.slice efo efn efc) (.slice ebo ebn ebc) e) 27 by rw [← hw0]; exact rowIs_new _ _ _)
  clear ok he
  go_enter Tryd.func5, Tryd.ntmps5
  go_wp2_with fail
  refine (cA.out _ HB0.out).mono ?_
  rintro x1 w1 ⟨rfl, hb⟩
  have HB1 := hid (chain2 HB0.out HB0.out.size hb)
  have Qe1 := hid (Qe0.out.below hb)
  clear hb
  clear HB0 Qe0
  try clear hw0
  clear cA
  have ye0 : w1.cell? ⟨w.heap.size, 0, none⟩ = some (strV e.key) := Qe1.out.cell 0
  have ye1 : w1.cell? ⟨w.heap.size, 1, none⟩ = some (strV e.second) := Qe1.out.cell 1
  have ye2 : w1.cell? ⟨w.heap.size, 2, none⟩ = some ((.slice eno enn enc)) := Qe1.out.cell 2
  have ye3 : w1.cell? ⟨w.heap.size, 3, none⟩ = some (.int .i64 e.asked) := Qe1.out.cell 3
  have ye4 : w1.cell? ⟨w.heap.size, 4, none⟩ = some (.int .i64 e.came) := Qe1.out.cell 4
  have ye5 : w1.cell? ⟨w.heap.size, 5, none⟩ = some (.int .i64 e.status) := Qe1.out.cell 5
  have ye6 : w1.cell? ⟨w.heap.size, 6, none⟩ = some ((.slice efo efn efc)) := Qe1.out.cell 6
  have ye7 : w1.cell? ⟨w.heap.size, 7, none⟩ = some ((.slice ebo ebn ebc)) := Qe1.out.cell 7
  have ye8 : w1.cell? ⟨w.heap.size, 8, none⟩ = some (.int .i64 e.gen) := Qe1.out.cell 8
  go_wp2_with fail
  refine (cSe.out _ HB1.out).mono ?_
  rintro x2 w2 ⟨rfl, hb⟩
  have HB2 := hid (chain2 HB1.out HB1.out.size hb)
  have Qe2 := hid (Qe1.out.below hb)
  clear ye0 ye1 ye2 ye3 ye4 ye5 ye6 ye7 ye8
  clear hb
  clear HB1 Qe1
  cases hse : smallE e with
  | false =>
    go_wp2_with fail
    go_ret
    exact ⟨rfl, HB2.out⟩
  | true =>
  have HSe := hid (smallE_ok hse)
  clear hse cSe
  by_cases hm1 : 20 < mn
  · have dm : decide ((20 : Int) < (mn : Int)) = true := decide_eq_true (by omega)
    have dmI : (20 : Int) < (mn : Int) := by omega
    go_wp2_with fail
    go_ret
    exact ⟨rfl, HB2.out⟩
  have dm : decide ((20 : Int) < (mn : Int)) = false := decide_eq_false (by omega)
  have dmI : ¬ (20 : Int) < (mn : Int) := by omega
  have hmn20 : mn ≤ 20 := by omega
  have cE := hid (fun (W : World) (h : Below w.heap.size w W) => K.encode z e (.slice eno enn enc) (.slice efo efn efc) (.slice ebo ebn ebc) W (OK.out W h) hz HSe.out (HeA.out.below h))
  have cF := hid (fun (y : Int) (W : World) (hy : In14 y) (h : Below w.heap.size w W) => K.fits e y (.slice eno enn enc) (.slice efo efn efc) (.slice ebo ebn ebc) W (OK.out W h) hy HSe.out (HeA.out.below h))
  have cT := hid (fun (y : Int) (r : Value) (X : List UInt8) (W : World) (hy : In14 y) (h : Below w.heap.size w W) (hb : Bytes W r X) (hl : X.length ≤ 90000) => K.turn r X y W (OK.out W h) hy hb hl)
  have cS := hid (fun (W : World) (pn pf pb : Value) (h : Below w.heap.size w W) (ha : EntAt W pn pf pb e) => (show Calls Tryd.prog 23 #[.agg (rowE pn pf pb e), .agg (rowE (.slice eno enn enc) (.slice efo efn efc) (.slice ebo ebn ebc) e)] W fun x w' => x = .returned (.bool true) ∧ Below W.heap.size W w' by
    have c := K.same e e pn pf pb (.slice eno enn enc) (.slice efo efn efc) (.slice ebo ebn ebc) W (OK.out W h) HSe.out HSe.out ha (HeA.out.below h)
    rw [decide_eq_true rfl] at c
    exact c))
  have cD := hid (fun (y : Int) (r : Value) (W : World) (hy : encC y e = 0) (h : Below w.heap.size w W) (hb : Bytes W r (encB y e)) => (show Calls Tryd.prog 19 #[r] W fun x w' => ∃ nv fv dv, x = .returned (.tuple #[.agg (rowE nv fv dv e), .int .i64 y, .int .i64 0]) ∧ EntAt w' nv fv dv e ∧ Below W.heap.size W w' by
    have c := K.decode r (encB y e) W (OK.out W h) hb (Nat.le_trans enc_len (by decide))
    unfold DecPost at c
    obtain ⟨h1, h2, h3⟩ := enc_rec hy
    rw [h2] at c
    simp only [h3] at c
    refine c.mono ?_
    rintro x w' ⟨nv, fv, dv, g1, g2, -, -, -, g3⟩
    exact ⟨nv, fv, dv, g1, g2, g3⟩))
  have ye0 : w2.cell? ⟨w.heap.size, 0, none⟩ = some (strV e.key) := Qe2.out.cell 0
  have ye1 : w2.cell? ⟨w.heap.size, 1, none⟩ = some (strV e.second) := Qe2.out.cell 1
  have ye2 : w2.cell? ⟨w.heap.size, 2, none⟩ = some ((.slice eno enn enc)) := Qe2.out.cell 2
  have ye3 : w2.cell? ⟨w.heap.size, 3, none⟩ = some (.int .i64 e.asked) := Qe2.out.cell 3
  have ye4 : w2.cell? ⟨w.heap.size, 4, none⟩ = some (.int .i64 e.came) := Qe2.out.cell 4
  have ye5 : w2.cell? ⟨w.heap.size, 5, none⟩ = some (.int .i64 e.status) := Qe2.out.cell 5
  have ye6 : w2.cell? ⟨w.heap.size, 6, none⟩ = some ((.slice efo efn efc)) := Qe2.out.cell 6
  have ye7 : w2.cell? ⟨w.heap.size, 7, none⟩ = some ((.slice ebo ebn ebc)) := Qe2.out.cell 7
  have ye8 : w2.cell? ⟨w.heap.size, 8, none⟩ = some (.int .i64 e.gen) := Qe2.out.cell 8
  go_wp2_with fail
  refine (cE.out _ HB2.out).mono ?_
  rintro x3 w3 ⟨⟨r, rfl, hor⟩, hb⟩
  obtain ⟨rg, rc, hra⟩ := own_form14 hor
  obtain ⟨n, hn⟩ : ∃ n, (encB z e).length = n := ⟨_, rfl⟩
  rw [hn] at hra
  subst hra
  clear hn
  have HB3 := hid (chain2 HB2.out HB2.out.size hb)
  have Qe3 := hid (Qe2.out.below hb)
  have B3 := hid (BytesH.mk (ownsRow_bytes hor))
  clear hor dm dmI cE
  clear ye0 ye1 ye2 ye3 ye4 ye5 ye6 ye7 ye8
  clear hb
  clear HB2 Qe2
  by_cases h0 : encC z e = 0
  rotate_left
  · have z1 : (encC z e == 0) = false := by rw [beq_eq_false_iff_ne]; exact h0
    have z2 : (encC z e != 0) = true := by rw [bne, z1]; rfl
    go_wp2_with fail
    go_ret
    exact ⟨rfl, HB3.out⟩
  have z1 : (encC z e == 0) = true := by rw [h0]; rfl
  have z2 : (encC z e != 0) = false := by rw [h0]; rfl
  have HZ0 := hid h0
  clear h0
  go_wp2_with fail
  clear z1 z2
  go_loopw [7, 36] (fun bv i wr => ∃ (k : Nat) (u : Int), i = .int .i64 (k : Int) ∧ k ≤ mn ∧ encC u e = 0 ∧ Bytes wr bv (encB u e) ∧ Below w3.heap.size w3 wr) (fun _ i _ => mn - (intOf i).toNat)
  case atStart => exact ⟨0, z, rfl, Nat.zero_le _, HZ0.out, B3.out.b, Below.refl _ _⟩
  case round =>
    obtain ⟨k, u, rfl, hk, hu0, hby, hbr⟩ := hrel
    rename World => w4
    have hHH := hbr
    have HB4 := hid (chain2 HB3.out HB3.out.size hHH)
    have Qe4 := hid (Qe3.out.below hHH)
    clear hHH
    have B4 := hid (BytesH.mk hby)
    have I4 := hid (Since.mk hbr)
    have HU := hid (And.intro hu0 (fun y : Int => turn_enc hu0 y))
    have HRT := hid (enc_right hu0)
    obtain ⟨bo, bc, hbf, hbl⟩ := bytes_form hby
    obtain ⟨bn, hbn⟩ : ∃ n, (encB u e).length = n := ⟨_, rfl⟩
    rw [hbn] at hbf
    subst hbf
    clear hbr hby hu0 hbl hbn
    by_cases hlt : ¬ k < mn
    · have hl : decide ((k : Int) < (mn : Int)) = false := decide_eq_false (by omega)
      have hlI : ¬ (k : Int) < (mn : Int) := by omega
      go_wp2_with fail
      go_ret
      exact ⟨rfl, HB4.out⟩
    have hlt2 : k < mn := by omega
    have hl : decide ((k : Int) < (mn : Int)) = true := decide_eq_true (by omega)
    have hlI : (k : Int) < (mn : Int) := by omega
    have hk0 : (0 : Int) ≤ (k : Int) := by omega
    have hkw : IntKind.i64.wrap ((k : Int) + 1) = (k : Int) + 1 := IntWalk.i64_in _ (by omega)
    obtain ⟨y, hy⟩ : ∃ y, M[k]? = some y := ⟨_, List.getElem?_eq_getElem (by rw [HMN.out]; exact hlt2)⟩
    have hyI := HMI.out y (List.mem_of_getElem? hy)
    obtain ⟨mo2, mc2, hmf, hcell, -⟩ := HMR.out.below HB4.out
    obtain ⟨mb, moff, hmo, xk⟩ := hcell k (.int .i64 y) (by rw [List.getElem?_map, hy]; rfl)
    have hmo2 : mo2 = mo := by injection hmf with q1 _ _; exact q1.symm
    rw [hmo2] at hmo
    subst hmo
    clear hlt hcell hmf hy hmo2
    go_wp2_with fail
    refine (cT.out y _ (encB u e) _ hyI HB4.out B4.out.b (Nat.le_trans enc_len (by decide))).mono ?_
    rintro x5 w5 ⟨⟨c, rfl, hby⟩, hb⟩
    rw [(HU.out.2 y).2] at hby
    rw [(HU.out.2 y).1]
    obtain ⟨cg, cc, hcf, hcc⟩ := bytes_form hby
    obtain ⟨cn, hcn⟩ : ∃ n, (encB y e).length = n := ⟨_, rfl⟩
    rw [hcn] at hcf
    subst hcf
    have HCN := hid hcn
    clear hcn hcc
    have HB5 := hid (chain2 HB4.out HB4.out.size hb)
    have B5 := hid (B4.out.below hb)
    have I5 := hid (I4.out.below hb)
    have Qe5 := hid (Qe4.out.below hb)
    have C5 := hid (BytesH.mk hby)
    clear hby hl hlI xk
    clear hb
    clear HB4 B4 I4 Qe4
    by_cases hver : y < 1 ∨ 3 < y
    · have hc50 := encC_version (e := e) hver
      rw [hc50]
      rcases hver with h1 | h1
      · have d1 : decide (y < 1) = true := decide_eq_true h1
        go_wp2_with fail
        go_roundw
        case rel => exact ⟨k + 1, u, by go_num, by omega, HU.out.1, B5.out.b, I5.out.b⟩
        case measure => simp [intOf]; omega
      · have d1 : decide (y < 1) = false := decide_eq_false (by omega)
        have d1I : ¬ y < 1 := by omega
        have d3 : decide (3 < y) = true := decide_eq_true h1
        go_wp2_with fail
        go_roundw
        case rel => exact ⟨k + 1, u, by go_num, by omega, HU.out.1, B5.out.b, I5.out.b⟩
        case measure => simp [intOf]; omega
    have d1 : decide (y < 1) = false := decide_eq_false (by omega)
    have d1I : ¬ y < 1 := by omega
    have d3 : decide (3 < y) = false := decide_eq_false (by omega)
    have d3I : ¬ 3 < y := by omega
    obtain ⟨code, hcode⟩ : ∃ c, encC y e = c := ⟨_, rfl⟩
    rw [hcode]
    obtain ⟨f, hf⟩ : ∃ f, fitsE y e = f := ⟨_, rfl⟩
    have cFy := hid (fun (W : World) (h : Below w.heap.size w W) => cF.out y W hyI h)
    rw [hf] at cFy
    have ye0 : w5.cell? ⟨w.heap.size, 0, none⟩ = some (strV e.key) := Qe5.out.cell 0
    have ye1 : w5.cell? ⟨w.heap.size, 1, none⟩ = some (strV e.second) := Qe5.out.cell 1
    have ye2 : w5.cell? ⟨w.heap.size, 2, none⟩ = some ((.slice eno enn enc)) := Qe5.out.cell 2
    have ye3 : w5.cell? ⟨w.heap.size, 3, none⟩ = some (.int .i64 e.asked) := Qe5.out.cell 3
    have ye4 : w5.cell? ⟨w.heap.size, 4, none⟩ = some (.int .i64 e.came) := Qe5.out.cell 4
    have ye5 : w5.cell? ⟨w.heap.size, 5, none⟩ = some (.int .i64 e.status) := Qe5.out.cell 5
    have ye6 : w5.cell? ⟨w.heap.size, 6, none⟩ = some ((.slice efo efn efc)) := Qe5.out.cell 6
    have ye7 : w5.cell? ⟨w.heap.size, 7, none⟩ = some ((.slice ebo ebn ebc)) := Qe5.out.cell 7
    have ye8 : w5.cell? ⟨w.heap.size, 8, none⟩ = some (.int .i64 e.gen) := Qe5.out.cell 8
    go_wp2_with fail
    refine (cFy.out _ HB5.out).mono ?_
    rintro x6 w6 ⟨rfl, hb⟩
    have HB6 := hid (chain2 HB5.out HB5.out.size hb)
    have B6 := hid (B5.out.below hb)
    have I6 := hid (I5.out.below hb)
    have C6 := hid (C5.out.below hb)
    have Qe6 := hid (Qe5.out.below hb)
    clear d1 d3 cFy
    clear ye0 ye1 ye2 ye3 ye4 ye5 ye6 ye7 ye8
    clear hb
    clear HB5 B5 I5 C5 Qe5
    cases f with
    | false =>
      have h51 := encC_lossy hver HRT.out hf
      rw [hcode] at h51
      subst h51
      have hnil := enc_none (show encC y e ≠ 0 by rw [hcode]; decide)
      have hcn0 : cn = 0 := by rw [← HCN.out, hnil]; rfl
      subst hcn0
      clear hcode hf hnil
      go_wp2_with fail
      go_roundw
      case rel => exact ⟨k + 1, u, by go_num, by omega, HU.out.1, B6.out.b, I6.out.b⟩
      case measure => simp [intOf]; omega
    | true =>
    have h023 := encC_rest hver hf
    rw [hcode] at h023
    rcases h023 with h0 | h0
    rotate_left
    · subst h0
      clear hcode hf
      go_wp2_with fail
      go_roundw
      case rel => exact ⟨k + 1, u, by go_num, by omega, HU.out.1, B6.out.b, I6.out.b⟩
      case measure => simp [intOf]; omega
    subst h0
    have HY := hid hcode
    clear hcode hf
    have ye0 : w6.cell? ⟨w.heap.size, 0, none⟩ = some (strV e.key) := Qe6.out.cell 0
    have ye1 : w6.cell? ⟨w.heap.size, 1, none⟩ = some (strV e.second) := Qe6.out.cell 1
    have ye2 : w6.cell? ⟨w.heap.size, 2, none⟩ = some ((.slice eno enn enc)) := Qe6.out.cell 2
    have ye3 : w6.cell? ⟨w.heap.size, 3, none⟩ = some (.int .i64 e.asked) := Qe6.out.cell 3
    have ye4 : w6.cell? ⟨w.heap.size, 4, none⟩ = some (.int .i64 e.came) := Qe6.out.cell 4
    have ye5 : w6.cell? ⟨w.heap.size, 5, none⟩ = some (.int .i64 e.status) := Qe6.out.cell 5
    have ye6 : w6.cell? ⟨w.heap.size, 6, none⟩ = some ((.slice efo efn efc)) := Qe6.out.cell 6
    have ye7 : w6.cell? ⟨w.heap.size, 7, none⟩ = some ((.slice ebo ebn ebc)) := Qe6.out.cell 7
    have ye8 : w6.cell? ⟨w.heap.size, 8, none⟩ = some (.int .i64 e.gen) := Qe6.out.cell 8
    go_wp2_with fail
    refine (cD.out y _ _ HY.out HB6.out C6.out.b).mono ?_
    rintro x7 w7 ⟨pnv, pfv, pbv, rfl, hat, hb⟩
    obtain ⟨pno, pnc, hpn⟩ := hat.names.strs
    obtain ⟨pfo, pfc, hpf⟩ := hat.flds.form
    obtain ⟨pbo, pbc, hpb⟩ : ∃ q c, pbv = .slice q e.body.length c := by
      obtain ⟨q, c, h, -⟩ := hat.body
      exact ⟨q, c, by rw [h, List.length_map]⟩
    obtain ⟨pnn, hpnn⟩ : ∃ k, e.names.length = k := ⟨_, rfl⟩
    obtain ⟨pfn, hpfn⟩ : ∃ k, e.fields.length = k := ⟨_, rfl⟩
    obtain ⟨pbn, hpbn⟩ : ∃ k, e.body.length = k := ⟨_, rfl⟩
    rw [hpnn] at hpn
    rw [hpfn] at hpf
    rw [hpbn] at hpb
    subst hpn hpf hpb
    clear hpnn hpfn hpbn
    have HB7 := hid (chain2 HB6.out HB6.out.size hb)
    have B7 := hid (B6.out.below hb)
    have I7 := hid (I6.out.below hb)
    have C7 := hid (C6.out.below hb)
    have Qe7 := hid (Qe6.out.below hb)
    have PA7 := hid (hat)
    clear hat
    clear ye0 ye1 ye2 ye3 ye4 ye5 ye6 ye7 ye8
    clear hb
    clear HB6 B6 I6 C6 Qe6
    have hzp : rowIs (w7.alloc (.cells #[.string ⟨#[]⟩, .string ⟨#[]⟩, .slice none 0 0, .int .i64 0, .int .i64 0, .int .i64 0, .slice none 0 0, .slice none 0 0, .int .i64 0] 27)) w7.heap.size #[.string ⟨#[]⟩, .string ⟨#[]⟩, .slice none 0 0, .int .i64 0, .int .i64 0, .int .i64 0, .slice none 0 0, .slice none 0 0, .int .i64 0] 27 := rowIs_new _ _ _
    obtain ⟨w8, hwp⟩ : ∃ W, (w7.alloc (.cells #[.string ⟨#[]⟩, .string ⟨#[]⟩, .slice none 0 0, .int .i64 0, .int .i64 0, .int .i64 0, .slice none 0 0, .slice none 0 0, .int .i64 0] 27)).setRow w7.heap.size (rowE (.slice pno pnn pnc) (.slice pfo pfn pfc) (.slice pbo pbn pbc) e) = W := ⟨_, rfl⟩
    have hbx : Below w7.heap.size w7 w8 := by rw [← hwp]; exact below_setRow (below_alloc _ _) (Nat.le_refl _) _
    have HB8 := hid (chain2 HB7.out HB7.out.size hbx)
    have B8 := hid (B7.out.below hbx)
    have I8 := hid (I7.out.below hbx)
    have C8 := hid (C7.out.below hbx)
    have PA8 := hid (PA7.out.below hbx)
    have Qe8 := hid (Qe7.out.below hbx)
    have Qp8 := hid (show rowIs w8 w7.heap.size (rowE (.slice pno pnn pnc) (.slice pfo pfn pfc) (.slice pbo pbn pbc) e) 27 by rw [← hwp]; exact hzp.setRow _)
    clear hbx
    clear HB7 B7 I7 C7 PA7 Qe7
    have yy : (y == y) = true := beq_self_eq_true y
    have yy2 : (y != y) = false := by rw [bne, yy]; rfl
    have ye0 : w8.cell? ⟨w.heap.size, 0, none⟩ = some (strV e.key) := Qe8.out.cell 0
    have ye1 : w8.cell? ⟨w.heap.size, 1, none⟩ = some (strV e.second) := Qe8.out.cell 1
    have ye2 : w8.cell? ⟨w.heap.size, 2, none⟩ = some ((.slice eno enn enc)) := Qe8.out.cell 2
    have ye3 : w8.cell? ⟨w.heap.size, 3, none⟩ = some (.int .i64 e.asked) := Qe8.out.cell 3
    have ye4 : w8.cell? ⟨w.heap.size, 4, none⟩ = some (.int .i64 e.came) := Qe8.out.cell 4
    have ye5 : w8.cell? ⟨w.heap.size, 5, none⟩ = some (.int .i64 e.status) := Qe8.out.cell 5
    have ye6 : w8.cell? ⟨w.heap.size, 6, none⟩ = some ((.slice efo efn efc)) := Qe8.out.cell 6
    have ye7 : w8.cell? ⟨w.heap.size, 7, none⟩ = some ((.slice ebo ebn ebc)) := Qe8.out.cell 7
    have ye8 : w8.cell? ⟨w.heap.size, 8, none⟩ = some (.int .i64 e.gen) := Qe8.out.cell 8
    have yp0 : w8.cell? ⟨w7.heap.size, 0, none⟩ = some (strV e.key) := Qp8.out.cell 0
    have yp1 : w8.cell? ⟨w7.heap.size, 1, none⟩ = some (strV e.second) := Qp8.out.cell 1
    have yp2 : w8.cell? ⟨w7.heap.size, 2, none⟩ = some ((.slice pno pnn pnc)) := Qp8.out.cell 2
    have yp3 : w8.cell? ⟨w7.heap.size, 3, none⟩ = some (.int .i64 e.asked) := Qp8.out.cell 3
    have yp4 : w8.cell? ⟨w7.heap.size, 4, none⟩ = some (.int .i64 e.came) := Qp8.out.cell 4
    have yp5 : w8.cell? ⟨w7.heap.size, 5, none⟩ = some (.int .i64 e.status) := Qp8.out.cell 5
    have yp6 : w8.cell? ⟨w7.heap.size, 6, none⟩ = some ((.slice pfo pfn pfc)) := Qp8.out.cell 6
    have yp7 : w8.cell? ⟨w7.heap.size, 7, none⟩ = some ((.slice pbo pbn pbc)) := Qp8.out.cell 7
    have yp8 : w8.cell? ⟨w7.heap.size, 8, none⟩ = some (.int .i64 e.gen) := Qp8.out.cell 8
    go_wp2_with (refine wpList_store_row rfl 27 _ _ rfl w7.heap.size _ rfl rfl 27 #[.string ⟨#[]⟩, .string ⟨#[]⟩, .slice none 0 0, .int .i64 0, .int .i64 0, .int .i64 0, .slice none 0 0, .slice none 0 0, .int .i64 0] hzp infoEntP rfl (oneEntS _ _ _ _ _ _ _ _ _ _ _ _ _ _ _) ?_)
    clear hwp hzp
    refine (cS.out _ _ _ _ HB8.out PA8.out).mono ?_
    rintro x9 w9 ⟨rfl, hb⟩
    have HB9 := hid (chain2 HB8.out HB8.out.size hb)
    have B9 := hid (B8.out.below hb)
    have I9 := hid (I8.out.below hb)
    have C9 := hid (C8.out.below hb)
    have PA9 := hid (PA8.out.below hb)
    have Qe9 := hid (Qe8.out.below hb)
    have Qp9 := hid (Qp8.out.below hb)
    clear yy yy2
    clear ye0 ye1 ye2 ye3 ye4 ye5 ye6 ye7 ye8 yp0 yp1 yp2 yp3 yp4 yp5 yp6 yp7 yp8
    clear hb
    clear HB8 B8 I8 C8 PA8 Qe8 Qp8
    go_wp2_with fail
    go_roundw
    case rel => exact ⟨k + 1, y, by go_num, by omega, HY.out, C9.out.b, I9.out.b⟩
    case measure => simp [intOf]; omega
end Go.Proofs.YtdkhkeffheleeaaDoor
