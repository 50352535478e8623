/-
  The walk of EntryTurned.
-/
import Derived.Test.YtdkhkeffheleeaaDoorF14Law14A

set_option linter.unusedVariables false
set_option linter.unusedSimpArgs false
namespace Go.Proofs.YtdkhkeffheleeaaDoor
open Go.RowKit Go.Pantry

set_option maxRecDepth 8000 in
set_option maxHeartbeats 8000000 in
theorem entryTurned_over {Ok : World → Prop} (K : Entries Ok) (env efv ebv : Value) (e : EntP) (z a x : Int) (w : World) (ok : Ok w) (he : EntAt w env efv ebv e ∧ e.names.length ≤ 9223372036854775807 ∧ e.fields.length ≤ 9223372036854775807) (hz : In14 z) (ha : In14 a) (hx : In14 x) :
    Calls Tryd.prog 7 #[.agg (rowE env efv ebv e), .int .i64 z, .int .i64 a, .int .i64 x] w fun x w' => x = .returned (.bool true) ∧ Below w.heap.size w w' := by
  have OK := hid (fun (W : World) (h : Below w.heap.size w W) => K.keep w W ok h)
  have cA := hid (fun (W : World) (h : Below w.heap.size w W) => anchor14_any K W (OK.out W h))
  have HeA := hid he.1
  have HeL := hid he.2
  obtain ⟨eno, enc, hen⟩ := HeA.out.names.strs
  obtain ⟨efo, efc, hef⟩ := HeA.out.flds.form
  obtain ⟨ebo, ebc, heb⟩ : ∃ q c, ebv = .slice q e.body.length c := by
    obtain ⟨q, c, h, -⟩ := HeA.out.body
    exact ⟨q, c, by rw [h, List.length_map]⟩
  obtain ⟨enn, henn⟩ : ∃ k, e.names.length = k := ⟨_, rfl⟩
  obtain ⟨efn, hefn⟩ : ∃ k, e.fields.length = k := ⟨_, rfl⟩
  obtain ⟨ebn, hebn⟩ : ∃ k, e.body.length = k := ⟨_, rfl⟩
  rw [henn] at hen
  rw [hefn] at hef
  rw [hebn] at heb
  subst hen hef heb
  clear henn hefn hebn
  have cSe := hid (fun (W : World) (h : Below w.heap.size w W) => smallE_any e (.slice eno enn enc) (.slice efo efn efc) (.slice ebo ebn ebc) W (HeA.out.below h) HeL.out.1 HeL.out.2)
  obtain ⟨w0, hw0⟩ : ∃ W, w.alloc (.cells (rowE (.slice eno enn enc) (.slice efo efn efc) (.slice ebo ebn ebc) e) 27) = W := ⟨_, rfl⟩
  have HB0 := hid (show Below w.heap.size w w0 by rw [← hw0]; exact below_alloc _ _)
  have Qe0 := hid (show rowIs w0 w.heap.size (rowE (.slice eno enn enc) (.slice efo efn efc) (.slice ebo ebn ebc) e) 27 by rw [← hw0]; exact rowIs_new _ _ _)
  clear ok he
  go_enter Tryd.func7, Tryd.ntmps7
  go_wp2_with fail
  refine (cA.out _ HB0.out).mono ?_
  rintro x1 w1 ⟨rfl, hb⟩
  have HB1 := hid (chain2 HB0.out HB0.out.size hb)
  have Qe1 := hid (Qe0.out.below hb)
  clear hb
  clear HB0 Qe0
  try clear hw0
  clear cA
  have ye0 : w1.cell? ⟨w.heap.size, 0, none⟩ = some (strV e.key) := Qe1.out.cell 0
  have ye1 : w1.cell? ⟨w.heap.size, 1, none⟩ = some (strV e.second) := Qe1.out.cell 1
  have ye2 : w1.cell? ⟨w.heap.size, 2, none⟩ = some ((.slice eno enn enc)) := Qe1.out.cell 2
  have ye3 : w1.cell? ⟨w.heap.size, 3, none⟩ = some (.int .i64 e.asked) := Qe1.out.cell 3
  have ye4 : w1.cell? ⟨w.heap.size, 4, none⟩ = some (.int .i64 e.came) := Qe1.out.cell 4
  have ye5 : w1.cell? ⟨w.heap.size, 5, none⟩ = some (.int .i64 e.status) := Qe1.out.cell 5
  have ye6 : w1.cell? ⟨w.heap.size, 6, none⟩ = some ((.slice efo efn efc)) := Qe1.out.cell 6
  have ye7 : w1.cell? ⟨w.heap.size, 7, none⟩ = some ((.slice ebo ebn ebc)) := Qe1.out.cell 7
  have ye8 : w1.cell? ⟨w.heap.size, 8, none⟩ = some (.int .i64 e.gen) := Qe1.out.cell 8
  go_wp2_with fail
  refine (cSe.out _ HB1.out).mono ?_
  rintro x2 w2 ⟨rfl, hb⟩
  have HB2 := hid (chain2 HB1.out HB1.out.size hb)
  have Qe2 := hid (Qe1.out.below hb)
  clear ye0 ye1 ye2 ye3 ye4 ye5 ye6 ye7 ye8
  clear hb
  clear HB1 Qe1
  cases hse : smallE e with
  | false =>
    go_wp2_with fail
    go_ret
    exact ⟨rfl, HB2.out⟩
  | true =>
  have HSe := hid (smallE_ok hse)
  clear hse cSe
  by_cases ha0 : a < 0
  · have da : decide (a < 0) = true := decide_eq_true ha0
    go_wp2_with fail
    go_ret
    exact ⟨rfl, HB2.out⟩
  have da : decide (a < 0) = false := decide_eq_false ha0
  by_cases hx1 : x < 1
  · have dx : decide (x < 1) = true := decide_eq_true hx1
    go_wp2_with fail
    go_ret
    exact ⟨rfl, HB2.out⟩
  have dx : decide (x < 1) = false := decide_eq_false hx1
  by_cases hx2 : 255 < x
  · have dx2 : decide (255 < x) = true := decide_eq_true hx2
    go_wp2_with fail
    go_ret
    exact ⟨rfl, HB2.out⟩
  have dx2 : decide (255 < x) = false := decide_eq_false hx2
  have cE := hid (fun (W : World) (h : Below w.heap.size w W) => K.encode z e (.slice eno enn enc) (.slice efo efn efc) (.slice ebo ebn ebc) W (OK.out W h) hz HSe.out (HeA.out.below h))
  obtain ⟨D, hD⟩ : ∃ D, encB z e = D := ⟨_, rfl⟩
  obtain ⟨cd, hcd⟩ : ∃ c, encC z e = c := ⟨_, rfl⟩
  rw [hD, hcd] at cE
  have HD := hid (And.intro hD hcd)
  clear hD hcd
  have ye0 : w2.cell? ⟨w.heap.size, 0, none⟩ = some (strV e.key) := Qe2.out.cell 0
  have ye1 : w2.cell? ⟨w.heap.size, 1, none⟩ = some (strV e.second) := Qe2.out.cell 1
  have ye2 : w2.cell? ⟨w.heap.size, 2, none⟩ = some ((.slice eno enn enc)) := Qe2.out.cell 2
  have ye3 : w2.cell? ⟨w.heap.size, 3, none⟩ = some (.int .i64 e.asked) := Qe2.out.cell 3
  have ye4 : w2.cell? ⟨w.heap.size, 4, none⟩ = some (.int .i64 e.came) := Qe2.out.cell 4
  have ye5 : w2.cell? ⟨w.heap.size, 5, none⟩ = some (.int .i64 e.status) := Qe2.out.cell 5
  have ye6 : w2.cell? ⟨w.heap.size, 6, none⟩ = some ((.slice efo efn efc)) := Qe2.out.cell 6
  have ye7 : w2.cell? ⟨w.heap.size, 7, none⟩ = some ((.slice ebo ebn ebc)) := Qe2.out.cell 7
  have ye8 : w2.cell? ⟨w.heap.size, 8, none⟩ = some (.int .i64 e.gen) := Qe2.out.cell 8
  go_wp2_with fail
  refine (cE.out _ HB2.out).mono ?_
  rintro x3 w3 ⟨⟨r, rfl, hor⟩, hb⟩
  have HBZ := hid HB2.out.size
  have HB3 := hid (chain2 HB2.out HB2.out.size hb)
  have Qe3 := hid (Qe2.out.below hb)
  have O3 := hid (hor)
  clear hor da dx dx2
  clear ye0 ye1 ye2 ye3 ye4 ye5 ye6 ye7 ye8
  clear hb
  clear HB2 Qe2
  by_cases h0 : cd = 0
  rotate_left
  · obtain ⟨ro, rc, hrf⟩ := own_form14 O3.out
    obtain ⟨rn, hrn⟩ : ∃ n, D.length = n := ⟨_, rfl⟩
    rw [hrn] at hrf
    subst hrf
    have z1 : (cd == 0) = false := by rw [beq_eq_false_iff_ne]; exact h0
    have z2 : (cd != 0) = true := by rw [bne, z1]; rfl
    clear hrn
    go_wp2_with fail
    go_ret
    exact ⟨rfl, HB3.out⟩
  subst h0
  have hen := enc_heads HD.out.2
  rw [HD.out.1] at hen
  obtain ⟨rg, rc, hrf⟩ := own_slice O3.out (fun h => by rw [h] at hen; have := hen.2.2.2; simp at this)
  obtain ⟨n, hn⟩ : ∃ n, D.length = n := ⟨_, rfl⟩
  have hn8 : 8 ≤ n := by rw [← hn]; exact hen.2.2.2
  have hn4 : n ≤ 4000 := by rw [← hn, ← HD.out.1]; exact enc_len
  rw [hn] at hrf
  subst hrf
  have hor : w3.ownsRow w2.heap.size 5 1 (.slice (some ⟨rg, 0, none⟩) n rc) n (D.map byteV) := by have h := O3.out; unfold OwnB at h; rw [hn] at h; exact h
  obtain ⟨an, rfl⟩ := Int.eq_ofNat_of_zero_le (show 0 ≤ a by omega)
  obtain ⟨xn, rfl⟩ := Int.eq_ofNat_of_zero_le (show 0 ≤ x by omega)
  obtain ⟨q, hq⟩ : ∃ q, an % (n - 4) = q := ⟨_, rfl⟩
  have hqn : q < n - 4 := by rw [← hq]; exact Nat.mod_lt _ (by omega)
  have hrem : Int.tmod (an : Int) ((n : Int) - 4) = (q : Int) := by
    rw [show (n : Int) - 4 = ((n - 4 : Nat) : Int) by omega, ← hq]
    rfl
  obtain ⟨i, hi⟩ : ∃ i, 4 + q = i := ⟨_, rfl⟩
  obtain ⟨c, hc⟩ : ∃ c, D[i]? = some c := ⟨_, List.getElem?_eq_getElem (by omega)⟩
  have hxn : xn ≤ 255 := by omega
  have hcl := c.toNat_lt
  have hxor := u8_xor_nat c.toNat xn (by omega) (by omega)
  obtain ⟨d, hd⟩ : ∃ d, UInt8.ofNat (c.toNat ^^^ xn) = d := ⟨_, rfl⟩
  have hxl : c.toNat ^^^ xn < 2 ^ 8 := Nat.xor_lt_two_pow (by omega) (by omega)
  have hdn : d.toNat = c.toNat ^^^ xn := by rw [← hd, UInt8.toNat_ofNat']; omega
  have hdc : d ≠ c := by
    intro e1
    rw [e1] at hdn
    have h2 : c.toNat ^^^ (c.toNat ^^^ xn) = c.toNat ^^^ c.toNat := by rw [← hdn]
    rw [← Nat.xor_assoc, Nat.xor_self, Nat.zero_xor] at h2
    omega
  rw [← hdn] at hxor
  have hbad := dec_turned HD.out.2 (show 4 ≤ i by omega) (by rw [HD.out.1]; exact hc) hdc
  rw [HD.out.1] at hbad
  have hu8 : IntKind.u8.wrap (xn : Int) = (xn : Int) := by simp [IntKind.wrap, IntKind.signed, IntKind.bits] <;> omega
  have hw4 : IntKind.i64.wrap ((n : Int) - 4) = (n : Int) - 4 := IntWalk.i64_in _ (by omega)
  have hwq : IntKind.i64.wrap (q : Int) = (q : Int) := IntWalk.i64_in _ (by omega)
  have hwi : IntKind.i64.wrap (4 + (q : Int)) = ((i : Nat) : Int) := by rw [IntWalk.i64_in _ (by omega)]; omega
  have hi0 : (0 : Int) ≤ (i : Int) := by omega
  have hin : (i : Int) < (n : Int) := by omega
  have hne4 : ((n : Int) - 4) ≠ 0 := by omega
  have x1 : w3.cell? ⟨rg, i, none⟩ = some (.int .u8 (c.toNat : Int)) := own_cell hor (by rw [List.getElem?_map, hc]; rfl)
  have f1 : w3.frozen? ⟨rg, i, none⟩ = false := own_free hor i
  obtain ⟨w4, hw4⟩ : ∃ W, w3.setCell ⟨rg, i, none⟩ (.int .u8 (d.toNat : Int)) = W := ⟨_, rfl⟩
  have hbt : Bytes w4 (.slice (some ⟨rg, 0, none⟩) n rc) (D.set i d) := by
    have h := ownsRow_set14 hor i (by omega) (.int .u8 (d.toNat : Int))
    rw [hw4] at h
    have e1 : (D.map byteV).set i (.int .u8 (d.toNat : Int)) = (D.set i d).map byteV := by rw [List.map_set]
    rw [e1] at h
    have h2 : w4.ownsRow w2.heap.size 5 1 (.slice (some ⟨rg, 0, none⟩) n rc) n ((D.set i d).map byteV) := h
    exact ownsRow_bytes h2
  have hgl := (hor.lt rg rfl).1
  have hszl := HBZ.out
  have HB4 := hid (show Below w.heap.size w w4 by
    rw [← hw4]
    exact HB3.out.trans (((Kept.refl (fun j => j = rg) w3).setCell (i := i) (.inl rfl) _).below (fun j e _ => by omega) (HB3.out.size)))
  have cD := hid (K.decode _ _ w4 (OK.out _ HB4.out) hbt (by rw [List.length_set]; omega))
  have cD2 := hid (show Calls Tryd.prog 19 #[.slice (some ⟨rg, 0, none⟩) n rc] w4 fun x w' => ∃ nv fv dv, x = .returned (.tuple #[.agg (rowE nv fv dv zeroE), .int .i64 0, .int .i64 44]) ∧ EntAt w' nv fv dv zeroE ∧ Below w4.heap.size w4 w' by
    have h := cD.out
    unfold DecPost at h
    rw [hbad] at h
    refine h.mono ?_
    rintro x w' ⟨nv, fv, dv, h1, h2, -, -, -, h3⟩
    exact ⟨nv, fv, dv, h1, h2, h3⟩)
  have z0 : ((0 : Int) != 0) = false := rfl
  clear hen hn hor hq hqn hc hcl hd hxl hdn hdc hbad hbt hgl hszl cD hi HB3 O3 Qe3
  go_wp2_with fail
  refine (cD2.out).mono ?_
  rintro x5 w5 ⟨pnv, pfv, pbv, rfl, hat, hb⟩
  obtain ⟨pno, pnc, hpn⟩ := hat.names.strs
  obtain ⟨pfo, pfc, hpf⟩ := hat.flds.form
  obtain ⟨pbo, pbc, hpb⟩ : ∃ q c, pbv = .slice q zeroE.body.length c := by
    obtain ⟨q, c, h, -⟩ := hat.body
    exact ⟨q, c, by rw [h, List.length_map]⟩
  obtain ⟨pnn, hpnn⟩ : ∃ k, zeroE.names.length = k := ⟨_, rfl⟩
  obtain ⟨pfn, hpfn⟩ : ∃ k, zeroE.fields.length = k := ⟨_, rfl⟩
  obtain ⟨pbn, hpbn⟩ : ∃ k, zeroE.body.length = k := ⟨_, rfl⟩
  rw [hpnn] at hpn
  rw [hpfn] at hpf
  rw [hpbn] at hpb
  subst hpn hpf hpb
  clear hpnn hpfn hpbn
  have HB5 := hid (chain2 HB4.out HB4.out.size hb)
  clear hat
  clear hb
  clear HB4
  have hzp : rowIs (w5.alloc (.cells #[.string ⟨#[]⟩, .string ⟨#[]⟩, .slice none 0 0, .int .i64 0, .int .i64 0, .int .i64 0, .slice none 0 0, .slice none 0 0, .int .i64 0] 27)) w5.heap.size #[.string ⟨#[]⟩, .string ⟨#[]⟩, .slice none 0 0, .int .i64 0, .int .i64 0, .int .i64 0, .slice none 0 0, .slice none 0 0, .int .i64 0] 27 := rowIs_new _ _ _
  obtain ⟨w6, hwp⟩ : ∃ W, (w5.alloc (.cells #[.string ⟨#[]⟩, .string ⟨#[]⟩, .slice none 0 0, .int .i64 0, .int .i64 0, .int .i64 0, .slice none 0 0, .slice none 0 0, .int .i64 0] 27)).setRow w5.heap.size (rowE (.slice pno pnn pnc) (.slice pfo pfn pfc) (.slice pbo pbn pbc) zeroE) = W := ⟨_, rfl⟩
  have hbx : Below w5.heap.size w5 w6 := by rw [← hwp]; exact below_setRow (below_alloc _ _) (Nat.le_refl _) _
  have HB6 := hid (chain2 HB5.out HB5.out.size hbx)
  have Qp6 := hid (show rowIs w6 w5.heap.size (rowE (.slice pno pnn pnc) (.slice pfo pfn pfc) (.slice pbo pbn pbc) zeroE) 27 by rw [← hwp]; exact hzp.setRow _)
  clear hbx
  clear HB5
  have kk1 : (zeroE.key == []) = true := rfl
  have kk2 : zeroE.key = [] := rfl
  have yp0 : w6.cell? ⟨w5.heap.size, 0, none⟩ = some (strV zeroE.key) := Qp6.out.cell 0
  have yp1 : w6.cell? ⟨w5.heap.size, 1, none⟩ = some (strV zeroE.second) := Qp6.out.cell 1
  have yp2 : w6.cell? ⟨w5.heap.size, 2, none⟩ = some ((.slice pno pnn pnc)) := Qp6.out.cell 2
  have yp3 : w6.cell? ⟨w5.heap.size, 3, none⟩ = some (.int .i64 zeroE.asked) := Qp6.out.cell 3
  have yp4 : w6.cell? ⟨w5.heap.size, 4, none⟩ = some (.int .i64 zeroE.came) := Qp6.out.cell 4
  have yp5 : w6.cell? ⟨w5.heap.size, 5, none⟩ = some (.int .i64 zeroE.status) := Qp6.out.cell 5
  have yp6 : w6.cell? ⟨w5.heap.size, 6, none⟩ = some ((.slice pfo pfn pfc)) := Qp6.out.cell 6
  have yp7 : w6.cell? ⟨w5.heap.size, 7, none⟩ = some ((.slice pbo pbn pbc)) := Qp6.out.cell 7
  have yp8 : w6.cell? ⟨w5.heap.size, 8, none⟩ = some (.int .i64 zeroE.gen) := Qp6.out.cell 8
  go_wp2_with (refine wpList_store_row rfl 27 _ _ rfl w5.heap.size _ rfl rfl 27 #[.string ⟨#[]⟩, .string ⟨#[]⟩, .slice none 0 0, .int .i64 0, .int .i64 0, .int .i64 0, .slice none 0 0, .slice none 0 0, .int .i64 0] hzp infoEntP rfl (oneEntS _ _ _ _ _ _ _ _ _ _ _ _ _ _ _) ?_)
  clear hwp hzp
  go_ret
  exact ⟨rfl, HB6.out⟩
end Go.Proofs.YtdkhkeffheleeaaDoor
