/-
  Several texts in one: Law14E, Law14YE.
-/
import Derived.Test.YtdkhkeffheleeaaDoorF14Law14A
import Derived.Test.YtdkhkeffheleeaaDoorF14Ref14F
import Derived.Test.YtdkhkeffheleeaaDoorF1409
import Derived.Test.YtdkhkeffheleeaaDoorF1412
/-
  The walk of EntryEncodes.
-/
set_option linter.unusedVariables false
set_option linter.unusedSimpArgs false
namespace Go.Proofs.YtdkhkeffheleeaaDoor
open Go.RowKit Go.Pantry

set_option maxRecDepth 8000 in
set_option maxHeartbeats 8000000 in
theorem entryEncodes_over {Ok : World → Prop} (K : Entries Ok) (env efv ebv : Value) (e : EntP) (z : Int) (w : World) (ok : Ok w) (he : EntAt w env efv ebv e ∧ e.names.length ≤ 9223372036854775807 ∧ e.fields.length ≤ 9223372036854775807) (hz : In14 z) :
    Calls Tryd.prog 3 #[.agg (rowE env efv ebv e), .int .i64 z] w fun x w' => x = .returned (.bool true) ∧ Below w.heap.size w w' := by
  have OK := hid (fun (W : World) (h : Below w.heap.size w W) => K.keep w W ok h)
  have cA := hid (fun (W : World) (h : Below w.heap.size w W) => anchor14_any K W (OK.out W h))
  have HeA := hid he.1
  have HeL := hid he.2
  obtain ⟨eno, enc, hen⟩ := HeA.out.names.strs
  obtain ⟨efo, efc, hef⟩ := HeA.out.flds.form
  obtain ⟨ebo, ebc, heb⟩ : ∃ q c, ebv = .slice q e.body.length c := by
    obtain ⟨q, c, h, -⟩ := HeA.out.body
    exact ⟨q, c, by rw [h, List.length_map]⟩
  obtain ⟨enn, henn⟩ : ∃ k, e.names.length = k := ⟨_, rfl⟩
  obtain ⟨efn, hefn⟩ : ∃ k, e.fields.length = k := ⟨_, rfl⟩
  obtain ⟨ebn, hebn⟩ : ∃ k, e.body.length = k := ⟨_, rfl⟩
  rw [henn] at hen
  rw [hefn] at hef
  rw [hebn] at heb
  subst hen hef heb
  clear henn hefn hebn
  have cSe := hid (fun (W : World) (h : Below w.heap.size w W) => smallE_any e (.slice eno enn enc) (.slice efo efn efc) (.slice ebo ebn ebc) W (HeA.out.below h) HeL.out.1 HeL.out.2)
  obtain ⟨w0, hw0⟩ : ∃ W, w.alloc (.cells (rowE (.slice eno enn enc) (.slice efo efn efc) (.slice ebo ebn ebc) e) 27) = W := ⟨_, rfl⟩
  have HB0 := hid (show Below w.heap.size w w0 by rw [← hw0]; exact below_alloc _ _)
  have Qe0 := hid (show rowIs w0 w.heap.size (rowE (.slice eno enn enc) (.slice efo efn efc) (.slice ebo ebn ebc) e) 27 by rw [← hw0]; exact rowIs_new _ _ _)
  clear ok he
  go_enter Tryd.func3, Tryd.ntmps3
  go_wp2_with fail
  refine (cA.out _ HB0.out).mono ?_
  rintro x1 w1 ⟨rfl, hb⟩
  have HB1 := hid (chain2 HB0.out HB0.out.size hb)
  have Qe1 := hid (Qe0.out.below hb)
  clear hb
  clear HB0 Qe0
  try clear hw0
  clear cA
  have ye0 : w1.cell? ⟨w.heap.size, 0, none⟩ = some (strV e.key) := Qe1.out.cell 0
  have ye1 : w1.cell? ⟨w.heap.size, 1, none⟩ = some (strV e.second) := Qe1.out.cell 1
  have ye2 : w1.cell? ⟨w.heap.size, 2, none⟩ = some ((.slice eno enn enc)) := Qe1.out.cell 2
  have ye3 : w1.cell? ⟨w.heap.size, 3, none⟩ = some (.int .i64 e.asked) := Qe1.out.cell 3
  have ye4 : w1.cell? ⟨w.heap.size, 4, none⟩ = some (.int .i64 e.came) := Qe1.out.cell 4
  have ye5 : w1.cell? ⟨w.heap.size, 5, none⟩ = some (.int .i64 e.status) := Qe1.out.cell 5
  have ye6 : w1.cell? ⟨w.heap.size, 6, none⟩ = some ((.slice efo efn efc)) := Qe1.out.cell 6
  have ye7 : w1.cell? ⟨w.heap.size, 7, none⟩ = some ((.slice ebo ebn ebc)) := Qe1.out.cell 7
  have ye8 : w1.cell? ⟨w.heap.size, 8, none⟩ = some (.int .i64 e.gen) := Qe1.out.cell 8
  go_wp2_with fail
  refine (cSe.out _ HB1.out).mono ?_
  rintro x2 w2 ⟨rfl, hb⟩
  have HB2 := hid (chain2 HB1.out HB1.out.size hb)
  have Qe2 := hid (Qe1.out.below hb)
  clear ye0 ye1 ye2 ye3 ye4 ye5 ye6 ye7 ye8
  clear hb
  clear HB1 Qe1
  cases hse : smallE e with
  | false =>
    go_wp2_with fail
    go_ret
    exact ⟨rfl, HB2.out⟩
  | true =>
  have HSe := hid (smallE_ok hse)
  clear hse cSe
  have cM := hid (fun (W : World) (h : Below w.heap.size w W) => madeEnt_any e (.slice eno enn enc) (.slice efo efn efc) (.slice ebo ebn ebc) W (HeA.out.below h) (by have := HSe.out.flds; omega) ⟨_, _, _, rfl⟩ ⟨_, _, _, rfl⟩)
  have ye0 : w2.cell? ⟨w.heap.size, 0, none⟩ = some (strV e.key) := Qe2.out.cell 0
  have ye1 : w2.cell? ⟨w.heap.size, 1, none⟩ = some (strV e.second) := Qe2.out.cell 1
  have ye2 : w2.cell? ⟨w.heap.size, 2, none⟩ = some ((.slice eno enn enc)) := Qe2.out.cell 2
  have ye3 : w2.cell? ⟨w.heap.size, 3, none⟩ = some (.int .i64 e.asked) := Qe2.out.cell 3
  have ye4 : w2.cell? ⟨w.heap.size, 4, none⟩ = some (.int .i64 e.came) := Qe2.out.cell 4
  have ye5 : w2.cell? ⟨w.heap.size, 5, none⟩ = some (.int .i64 e.status) := Qe2.out.cell 5
  have ye6 : w2.cell? ⟨w.heap.size, 6, none⟩ = some ((.slice efo efn efc)) := Qe2.out.cell 6
  have ye7 : w2.cell? ⟨w.heap.size, 7, none⟩ = some ((.slice ebo ebn ebc)) := Qe2.out.cell 7
  have ye8 : w2.cell? ⟨w.heap.size, 8, none⟩ = some (.int .i64 e.gen) := Qe2.out.cell 8
  go_wp2_with fail
  refine (cM.out _ HB2.out).mono ?_
  rintro x3 w3 ⟨⟨xfv, rfl, hat⟩, hb⟩
  obtain ⟨xfo, xfc, hxf⟩ := hat.flds.form
  obtain ⟨xfn, hxfn⟩ : ∃ k, e.fields.length = k := ⟨_, rfl⟩
  rw [hxfn] at hxf
  subst hxf
  clear hxfn
  have HB3 := hid (chain2 HB2.out HB2.out.size hb)
  have Qe3 := hid (Qe2.out.below hb)
  have XA3 := hid (hat)
  clear hat cM
  clear ye0 ye1 ye2 ye3 ye4 ye5 ye6 ye7 ye8
  clear hb
  clear HB2 Qe2
  have hzx : rowIs (w3.alloc (.cells #[.string ⟨#[]⟩, .string ⟨#[]⟩, .slice none 0 0, .int .i64 0, .int .i64 0, .int .i64 0, .slice none 0 0, .slice none 0 0, .int .i64 0] 32)) w3.heap.size #[.string ⟨#[]⟩, .string ⟨#[]⟩, .slice none 0 0, .int .i64 0, .int .i64 0, .int .i64 0, .slice none 0 0, .slice none 0 0, .int .i64 0] 32 := rowIs_new _ _ _
  obtain ⟨w4, hwx⟩ : ∃ W, (w3.alloc (.cells #[.string ⟨#[]⟩, .string ⟨#[]⟩, .slice none 0 0, .int .i64 0, .int .i64 0, .int .i64 0, .slice none 0 0, .slice none 0 0, .int .i64 0] 32)).setRow w3.heap.size (rowE (.slice eno enn enc) (.slice xfo xfn xfc) (.slice ebo ebn ebc) e) = W := ⟨_, rfl⟩
  have hbx : Below w3.heap.size w3 w4 := by rw [← hwx]; exact below_setRow (below_alloc _ _) (Nat.le_refl _) _
  have HB4 := hid (chain2 HB3.out HB3.out.size hbx)
  have XA4 := hid (XA3.out.below hbx)
  have Qe4 := hid (Qe3.out.below hbx)
  have Qx4 := hid (show rowIs w4 w3.heap.size (rowE (.slice eno enn enc) (.slice xfo xfn xfc) (.slice ebo ebn ebc) e) 32 by rw [← hwx]; exact hzx.setRow _)
  clear hbx
  clear HB3 XA3 Qe3
  have cE := hid (fun (W : World) (h : Below w.heap.size w W) => K.encode z e (.slice eno enn enc) (.slice efo efn efc) (.slice ebo ebn ebc) W (OK.out W h) hz HSe.out (HeA.out.below h))
  obtain ⟨D, hD⟩ : ∃ D, encB z e = D := ⟨_, rfl⟩
  obtain ⟨cd, hcd⟩ : ∃ c, encC z e = c := ⟨_, rfl⟩
  rw [hD, hcd] at cE
  have HD := hid (And.intro hD hcd)
  clear hD hcd
  have ye0 : w4.cell? ⟨w.heap.size, 0, none⟩ = some (strV e.key) := Qe4.out.cell 0
  have ye1 : w4.cell? ⟨w.heap.size, 1, none⟩ = some (strV e.second) := Qe4.out.cell 1
  have ye2 : w4.cell? ⟨w.heap.size, 2, none⟩ = some ((.slice eno enn enc)) := Qe4.out.cell 2
  have ye3 : w4.cell? ⟨w.heap.size, 3, none⟩ = some (.int .i64 e.asked) := Qe4.out.cell 3
  have ye4 : w4.cell? ⟨w.heap.size, 4, none⟩ = some (.int .i64 e.came) := Qe4.out.cell 4
  have ye5 : w4.cell? ⟨w.heap.size, 5, none⟩ = some (.int .i64 e.status) := Qe4.out.cell 5
  have ye6 : w4.cell? ⟨w.heap.size, 6, none⟩ = some ((.slice efo efn efc)) := Qe4.out.cell 6
  have ye7 : w4.cell? ⟨w.heap.size, 7, none⟩ = some ((.slice ebo ebn ebc)) := Qe4.out.cell 7
  have ye8 : w4.cell? ⟨w.heap.size, 8, none⟩ = some (.int .i64 e.gen) := Qe4.out.cell 8
  have yx0 : w4.cell? ⟨w3.heap.size, 0, none⟩ = some (strV e.key) := Qx4.out.cell 0
  have yx1 : w4.cell? ⟨w3.heap.size, 1, none⟩ = some (strV e.second) := Qx4.out.cell 1
  have yx2 : w4.cell? ⟨w3.heap.size, 2, none⟩ = some ((.slice eno enn enc)) := Qx4.out.cell 2
  have yx3 : w4.cell? ⟨w3.heap.size, 3, none⟩ = some (.int .i64 e.asked) := Qx4.out.cell 3
  have yx4 : w4.cell? ⟨w3.heap.size, 4, none⟩ = some (.int .i64 e.came) := Qx4.out.cell 4
  have yx5 : w4.cell? ⟨w3.heap.size, 5, none⟩ = some (.int .i64 e.status) := Qx4.out.cell 5
  have yx6 : w4.cell? ⟨w3.heap.size, 6, none⟩ = some ((.slice xfo xfn xfc)) := Qx4.out.cell 6
  have yx7 : w4.cell? ⟨w3.heap.size, 7, none⟩ = some ((.slice ebo ebn ebc)) := Qx4.out.cell 7
  have yx8 : w4.cell? ⟨w3.heap.size, 8, none⟩ = some (.int .i64 e.gen) := Qx4.out.cell 8
  go_wp2_with (refine wpList_store_row rfl 32 _ _ rfl w3.heap.size _ rfl rfl 32 #[.string ⟨#[]⟩, .string ⟨#[]⟩, .slice none 0 0, .int .i64 0, .int .i64 0, .int .i64 0, .slice none 0 0, .slice none 0 0, .int .i64 0] hzx infoEntD rfl (oneEntS _ _ _ _ _ _ _ _ _ _ _ _ _ _ _) ?_)
  clear hwx hzx
  refine (cE.out _ HB4.out).mono ?_
  rintro x5 w5 ⟨⟨r, rfl, hor⟩, hb⟩
  obtain ⟨ro, rc, hrf⟩ := own_form14 hor
  obtain ⟨rn, hrn⟩ : ∃ n, D.length = n := ⟨_, rfl⟩
  rw [hrn] at hrf
  subst hrf
  have HRN := hid hrn
  clear hrn
  have HB5 := hid (chain2 HB4.out HB4.out.size hb)
  have XA5 := hid (XA4.out.below hb)
  have Qe5 := hid (Qe4.out.below hb)
  have Qx5 := hid (Qx4.out.below hb)
  have R5 := hid (BytesH.mk (ownsRow_bytes hor))
  clear hor cE
  clear ye0 ye1 ye2 ye3 ye4 ye5 ye6 ye7 ye8 yx0 yx1 yx2 yx3 yx4 yx5 yx6 yx7 yx8
  clear hb
  clear HB4 XA4 Qe4 Qx4
  obtain ⟨R, hR⟩ : ∃ x, rightE e = x := ⟨_, rfl⟩
  obtain ⟨f, hf⟩ : ∃ x, fitsE z e = x := ⟨_, rfl⟩
  have cP1 := hid (fun (W : World) (h : Below w5.heap.size w5 W) => K.right e (.slice eno enn enc) (.slice efo efn efc) (.slice ebo ebn ebc) W (OK.out W (chain2 HB5.out HB5.out.size h)) HSe.out (HeA.out.below (chain2 HB5.out HB5.out.size h)))
  have cP2 := hid (fun (W : World) (h : Below w5.heap.size w5 W) => K.fits e z (.slice eno enn enc) (.slice efo efn efc) (.slice ebo ebn ebc) W (OK.out W (chain2 HB5.out HB5.out.size h)) hz HSe.out (HeA.out.below (chain2 HB5.out HB5.out.size h)))
  have cD1 := hid (fun (W : World) (h : Below w5.heap.size w5 W) => r14Right_any r14Names_any e (.slice eno enn enc) (.slice xfo xfn xfc) (.slice ebo ebn ebc) W HSe.out (XA5.out.below h))
  have cD2 := hid (fun (W : World) (h : Below w5.heap.size w5 W) => r14Fits_any r14Names_any e z (.slice eno enn enc) (.slice xfo xfn xfc) (.slice ebo ebn ebc) W HSe.out (XA5.out.below h))
  rw [hR] at cP1 cD1
  rw [hf] at cP2 cD2
  have HRf := hid (And.intro hR hf)
  have rr : (R != R) = false := by cases R <;> rfl
  have ff : (f != f) = false := by cases f <;> rfl
  have HQe := Qe5
  have HQx := Qx5
  have SB := hid (Below.refl w5.heap.size w5)
  clear hR hf
  have XAZ := XA5
  have SBX5 := hid (Since.self w5)
  go_wp2_with fail
  refine wp_region_held_drew (S := fun W' => Below w5.heap.size w5 W') (by kernel_rfl) (Below.refl _ _).drew (fun hH => ?_)
  refine wpAnyH_take (i := 0) (v := .agg (rowE (.slice eno enn enc) (.slice efo efn efc) (.slice ebo ebn ebc) e)) rfl (by kernel_rfl) (by kernel_rfl) (by kernel_rfl) (fun _ _ _ h => h) (Or.inl ⟨by kernel_rfl, ?_⟩) hH ?_
  · intro W hS
    exact load_gives (x := .tmp 2) (by kernel_rfl) w.heap.size (by kernel_rfl) (HQe.out.below hS) Tryd.underlying27 rfl infoEntP
  simp only [Act.put, List.getElem_toArray, List.getElem_cons_succ, List.getElem_cons_zero, List.setIfInBounds_toArray, List.set_cons_zero, List.set_cons_succ]
  refine wpAnyH_take (i := 2) (v := .agg (rowE (.slice eno enn enc) (.slice xfo xfn xfc) (.slice ebo ebn ebc) e)) rfl (by kernel_rfl) (by kernel_rfl) (by kernel_rfl) (fun _ _ _ h => h) (Or.inl ⟨by kernel_rfl, ?_⟩) hH ?_
  · intro W hS
    exact load_gives (x := .tmp 5) (by kernel_rfl) w3.heap.size (by kernel_rfl) (HQx.out.below hS) Tryd.underlying32 rfl infoEntD
  simp only [Act.put, List.getElem_toArray, List.getElem_cons_succ, List.getElem_cons_zero, List.setIfInBounds_toArray, List.set_cons_zero, List.set_cons_succ]
  refine wpAnyH_ready (rs := [1]) (by kernel_rfl) (by simp) ?_
  refine AllReadyH.cons rfl (fun K hK => ?_) AllReadyH.nil
  go_simp
  refine (cP1.out _ hH).mono ?_
  rintro xA wA ⟨rfl, hbA⟩
  refine hK.out _ _ (chain2 hH hH.size hbA) (fun hH => ?_)
  clear hbA
  clear hK K
  try simp only [Act.put, List.getElem_toArray, List.getElem_cons_succ, List.getElem_cons_zero, List.setIfInBounds_toArray, List.set_cons_zero, List.set_cons_succ]
  refine wpAnyH_ready (rs := [3]) (by kernel_rfl) (by simp) ?_
  refine AllReadyH.cons rfl (fun K hK => ?_) AllReadyH.nil
  go_simp
  refine (cD1.out _ hH).mono ?_
  rintro xB wB ⟨rfl, hbB⟩
  refine hK.out _ _ (chain2 hH hH.size hbB) (fun hH => ?_)
  clear hbB
  clear hK K
  try simp only [Act.put, List.getElem_toArray, List.getElem_cons_succ, List.getElem_cons_zero, List.setIfInBounds_toArray, List.set_cons_zero, List.set_cons_succ]
  refine wpAnyH_take (i := 4) (v := ?_) rfl (by kernel_rfl) (by kernel_rfl) (by kernel_rfl) (fun _ _ _ h => h) (Or.inl ⟨by kernel_rfl, ?_⟩) hH ?_
  rotate_left
  · intro W hS
    go_simp
    first | done | with_reducible rfl
  simp only [Act.put, List.getElem_toArray, List.getElem_cons_succ, List.getElem_cons_zero, List.setIfInBounds_toArray, List.set_cons_zero, List.set_cons_succ]
  refine wpAnyH_take (i := 5) (v := ?_) rfl (by kernel_rfl) (by kernel_rfl) (by kernel_rfl) (fun _ _ _ h => h) (Or.inl ⟨by kernel_rfl, ?_⟩) hH ?_
  rotate_left
  · intro W hS
    go_simp
    first | done | with_reducible rfl
  simp only [Act.put, List.getElem_toArray, List.getElem_cons_succ, List.getElem_cons_zero, List.setIfInBounds_toArray, List.set_cons_zero, List.set_cons_succ]
  refine wpAnyH_take (i := 6) (v := .agg (rowE (.slice eno enn enc) (.slice efo efn efc) (.slice ebo ebn ebc) e)) rfl (by kernel_rfl) (by kernel_rfl) (by kernel_rfl) (fun _ _ _ h => h) (Or.inl ⟨by kernel_rfl, ?_⟩) hH ?_
  · intro W hS
    exact load_gives (x := .tmp 2) (by kernel_rfl) w.heap.size (by kernel_rfl) (HQe.out.below hS) Tryd.underlying27 rfl infoEntP
  simp only [Act.put, List.getElem_toArray, List.getElem_cons_succ, List.getElem_cons_zero, List.setIfInBounds_toArray, List.set_cons_zero, List.set_cons_succ]
  refine wpAnyH_take (i := 7) (v := ?_) rfl (by kernel_rfl) (by kernel_rfl) (by kernel_rfl) (fun _ _ _ h => h) (Or.inl ⟨by kernel_rfl, ?_⟩) hH ?_
  rotate_left
  · intro W hS
    go_simp
    first | done | with_reducible rfl
  simp only [Act.put, List.getElem_toArray, List.getElem_cons_succ, List.getElem_cons_zero, List.setIfInBounds_toArray, List.set_cons_zero, List.set_cons_succ]
  refine wpAnyH_take (i := 9) (v := .agg (rowE (.slice eno enn enc) (.slice xfo xfn xfc) (.slice ebo ebn ebc) e)) rfl (by kernel_rfl) (by kernel_rfl) (by kernel_rfl) (fun _ _ _ h => h) (Or.inl ⟨by kernel_rfl, ?_⟩) hH ?_
  · intro W hS
    exact load_gives (x := .tmp 5) (by kernel_rfl) w3.heap.size (by kernel_rfl) (HQx.out.below hS) Tryd.underlying32 rfl infoEntD
  simp only [Act.put, List.getElem_toArray, List.getElem_cons_succ, List.getElem_cons_zero, List.setIfInBounds_toArray, List.set_cons_zero, List.set_cons_succ]
  refine wpAnyH_take (i := 10) (v := ?_) rfl (by kernel_rfl) (by kernel_rfl) (by kernel_rfl) (fun _ _ _ h => h) (Or.inl ⟨by kernel_rfl, ?_⟩) hH ?_
  rotate_left
  · intro W hS
    go_simp
    first | done | with_reducible rfl
  simp only [Act.put, List.getElem_toArray, List.getElem_cons_succ, List.getElem_cons_zero, List.setIfInBounds_toArray, List.set_cons_zero, List.set_cons_succ]
  refine wpAnyH_ready (rs := [8]) (by kernel_rfl) (by simp) ?_
  refine AllReadyH.cons rfl (fun K hK => ?_) AllReadyH.nil
  go_simp
  refine (cP2.out _ hH).mono ?_
  rintro xC wC ⟨rfl, hbC⟩
  refine hK.out _ _ (chain2 hH hH.size hbC) (fun hH => ?_)
  clear hbC
  clear hK K
  try simp only [Act.put, List.getElem_toArray, List.getElem_cons_succ, List.getElem_cons_zero, List.setIfInBounds_toArray, List.set_cons_zero, List.set_cons_succ]
  refine wpAnyH_ready (rs := [11]) (by kernel_rfl) (by simp) ?_
  refine AllReadyH.cons rfl (fun K hK => ?_) AllReadyH.nil
  go_simp
  refine (cD2.out _ hH).mono ?_
  rintro xD wD ⟨rfl, hbD⟩
  refine hK.out _ _ (chain2 hH hH.size hbD) (fun hH => ?_)
  clear hbD
  clear hK K
  try simp only [Act.put, List.getElem_toArray, List.getElem_cons_succ, List.getElem_cons_zero, List.setIfInBounds_toArray, List.set_cons_zero, List.set_cons_succ]
  refine wpAnyH_take (i := 12) (v := ?_) rfl (by kernel_rfl) (by kernel_rfl) (by kernel_rfl) (fun _ _ _ h => h) (Or.inl ⟨by kernel_rfl, ?_⟩) hH ?_
  rotate_left
  · intro W hS
    go_simp
    first | done | with_reducible rfl
  simp only [Act.put, List.getElem_toArray, List.getElem_cons_succ, List.getElem_cons_zero, List.setIfInBounds_toArray, List.set_cons_zero, List.set_cons_succ]
  refine wpAnyH_take (i := 13) (v := ?_) rfl (by kernel_rfl) (by kernel_rfl) (by kernel_rfl) (fun _ _ _ h => h) (Or.inl ⟨by kernel_rfl, ?_⟩) hH ?_
  rotate_left
  · intro W hS
    go_simp
    first | done | with_reducible rfl
  simp only [Act.put, List.getElem_toArray, List.getElem_cons_succ, List.getElem_cons_zero, List.setIfInBounds_toArray, List.set_cons_zero, List.set_cons_succ]
  refine wpAnyH_done (by kernel_rfl) ?_ _
  rename World => w6
  have hHH := hH
  have HB6 := hid (chain2 HB5.out HB5.out.size hHH)
  have XA6 := hid (XA5.out.below hHH)
  have R6 := hid (R5.out.below hHH)
  have SBX6 := hid (SBX5.out.below hHH)
  have Qe6 := hid (Qe5.out.below hHH)
  have Qx6 := hid (Qx5.out.below hHH)
  clear hHH hH
  clear HB5 XA5 R5 SBX5 Qe5 Qx5
  clear cP1 cP2 rr ff HQe HQx SB
  by_cases hver : z < 1 ∨ 3 < z
  · have hcode := encC_version (e := e) hver
    rcases hver with h1 | h1
    · have d1 : decide (z < 1) = true := decide_eq_true h1
      skip
      have hnil : D = [] := by rw [← HD.out.1]; exact enc_none (show encC z e ≠ 0 by rw [hcode]; decide)
      have hrn0 : rn = 0 := by rw [← HRN.out, hnil]; rfl
      rw [HD.out.2] at hcode
      subst hcode hrn0
      clear hnil
      have zc : (((50 : Int)) != 0) = true := rfl
      go_wp2_with fail
      go_ret
      exact ⟨rfl, HB6.out⟩
    · have d1 : decide (z < 1) = false := decide_eq_false (by omega)
      have d1I : ¬ z < 1 := by omega
      have d3 : decide (3 < z) = true := decide_eq_true h1
      skip
      have hnil : D = [] := by rw [← HD.out.1]; exact enc_none (show encC z e ≠ 0 by rw [hcode]; decide)
      have hrn0 : rn = 0 := by rw [← HRN.out, hnil]; rfl
      rw [HD.out.2] at hcode
      subst hcode hrn0
      clear hnil
      have zc : (((50 : Int)) != 0) = true := rfl
      go_wp2_with fail
      go_ret
      exact ⟨rfl, HB6.out⟩
  have d1 : decide (z < 1) = false := decide_eq_false (by omega)
  have d1I : ¬ z < 1 := by omega
  have d3 : decide (3 < z) = false := decide_eq_false (by omega)
  have d3I : ¬ 3 < z := by omega
  have yx0 : w6.cell? ⟨w3.heap.size, 0, none⟩ = some (strV e.key) := Qx6.out.cell 0
  have yx1 : w6.cell? ⟨w3.heap.size, 1, none⟩ = some (strV e.second) := Qx6.out.cell 1
  have yx2 : w6.cell? ⟨w3.heap.size, 2, none⟩ = some ((.slice eno enn enc)) := Qx6.out.cell 2
  have yx3 : w6.cell? ⟨w3.heap.size, 3, none⟩ = some (.int .i64 e.asked) := Qx6.out.cell 3
  have yx4 : w6.cell? ⟨w3.heap.size, 4, none⟩ = some (.int .i64 e.came) := Qx6.out.cell 4
  have yx5 : w6.cell? ⟨w3.heap.size, 5, none⟩ = some (.int .i64 e.status) := Qx6.out.cell 5
  have yx6 : w6.cell? ⟨w3.heap.size, 6, none⟩ = some ((.slice xfo xfn xfc)) := Qx6.out.cell 6
  have yx7 : w6.cell? ⟨w3.heap.size, 7, none⟩ = some ((.slice ebo ebn ebc)) := Qx6.out.cell 7
  have yx8 : w6.cell? ⟨w3.heap.size, 8, none⟩ = some (.int .i64 e.gen) := Qx6.out.cell 8
  go_wp2_with fail
  refine (cD1.out _ SBX6.out.b).mono ?_
  rintro x7 w7 ⟨rfl, hb⟩
  have HB7 := hid (chain2 HB6.out HB6.out.size hb)
  have XA7 := hid (XA6.out.below hb)
  have R7 := hid (R6.out.below hb)
  have SBX7 := hid (SBX6.out.below hb)
  have Qe7 := hid (Qe6.out.below hb)
  have Qx7 := hid (Qx6.out.below hb)
  clear d1 d3
  clear yx0 yx1 yx2 yx3 yx4 yx5 yx6 yx7 yx8
  clear hb
  clear HB6 XA6 R6 SBX6 Qe6 Qx6
  cases R with
  | false =>
    have hcode : encC z e = 10 := by unfold encC; rw [if_neg hver, if_pos HRf.out.1]
    skip
    have hnil : D = [] := by rw [← HD.out.1]; exact enc_none (show encC z e ≠ 0 by rw [hcode]; decide)
    have hrn0 : rn = 0 := by rw [← HRN.out, hnil]; rfl
    rw [HD.out.2] at hcode
    subst hcode hrn0
    clear hnil
    have zc : (((10 : Int)) != 0) = true := rfl
    go_wp2_with fail
    go_ret
    exact ⟨rfl, HB7.out⟩
  | true =>
  have yx0 : w7.cell? ⟨w3.heap.size, 0, none⟩ = some (strV e.key) := Qx7.out.cell 0
  have yx1 : w7.cell? ⟨w3.heap.size, 1, none⟩ = some (strV e.second) := Qx7.out.cell 1
  have yx2 : w7.cell? ⟨w3.heap.size, 2, none⟩ = some ((.slice eno enn enc)) := Qx7.out.cell 2
  have yx3 : w7.cell? ⟨w3.heap.size, 3, none⟩ = some (.int .i64 e.asked) := Qx7.out.cell 3
  have yx4 : w7.cell? ⟨w3.heap.size, 4, none⟩ = some (.int .i64 e.came) := Qx7.out.cell 4
  have yx5 : w7.cell? ⟨w3.heap.size, 5, none⟩ = some (.int .i64 e.status) := Qx7.out.cell 5
  have yx6 : w7.cell? ⟨w3.heap.size, 6, none⟩ = some ((.slice xfo xfn xfc)) := Qx7.out.cell 6
  have yx7 : w7.cell? ⟨w3.heap.size, 7, none⟩ = some ((.slice ebo ebn ebc)) := Qx7.out.cell 7
  have yx8 : w7.cell? ⟨w3.heap.size, 8, none⟩ = some (.int .i64 e.gen) := Qx7.out.cell 8
  go_wp2_with fail
  refine (cD2.out _ SBX7.out.b).mono ?_
  rintro x8 w8 ⟨rfl, hb⟩
  have HB8 := hid (chain2 HB7.out HB7.out.size hb)
  have XA8 := hid (XA7.out.below hb)
  have R8 := hid (R7.out.below hb)
  have SBX8 := hid (SBX7.out.below hb)
  have Qe8 := hid (Qe7.out.below hb)
  have Qx8 := hid (Qx7.out.below hb)
  clear yx0 yx1 yx2 yx3 yx4 yx5 yx6 yx7 yx8
  clear hb
  clear HB7 XA7 R7 SBX7 Qe7 Qx7
  cases f with
  | false =>
    have hcode : encC z e = 51 := encC_lossy hver HRf.out.1 HRf.out.2
    skip
    have hnil : D = [] := by rw [← HD.out.1]; exact enc_none (show encC z e ≠ 0 by rw [hcode]; decide)
    have hrn0 : rn = 0 := by rw [← HRN.out, hnil]; rfl
    rw [HD.out.2] at hcode
    subst hcode hrn0
    clear hnil
    have zc : (((51 : Int)) != 0) = true := rfl
    go_wp2_with fail
    go_ret
    exact ⟨rfl, HB8.out⟩
  | true =>
  obtain ⟨zn, rfl⟩ := Int.eq_ofNat_of_zero_le (show 0 ≤ z by omega)
  have hp := fits_parts HRf.out.2
  have hzn : 1 ≤ zn ∧ zn ≤ 3 := by omega
  have cB := hid (fun (W : World) (h : Since w5 W) => r14Bytes_any zn hzn e (.slice eno enn enc) (.slice xfo xfn xfc) (.slice ebo ebn ebc) W (rightE_parts HRf.out.1) (hp.2.2.1.imp (fun h => by omega) id) (XAZ.out.below h.b))
  have h023 := encC_rest hver HRf.out.2
  clear cD1 cD2 hp d1I d3I hver
  have yx0 : w8.cell? ⟨w3.heap.size, 0, none⟩ = some (strV e.key) := Qx8.out.cell 0
  have yx1 : w8.cell? ⟨w3.heap.size, 1, none⟩ = some (strV e.second) := Qx8.out.cell 1
  have yx2 : w8.cell? ⟨w3.heap.size, 2, none⟩ = some ((.slice eno enn enc)) := Qx8.out.cell 2
  have yx3 : w8.cell? ⟨w3.heap.size, 3, none⟩ = some (.int .i64 e.asked) := Qx8.out.cell 3
  have yx4 : w8.cell? ⟨w3.heap.size, 4, none⟩ = some (.int .i64 e.came) := Qx8.out.cell 4
  have yx5 : w8.cell? ⟨w3.heap.size, 5, none⟩ = some (.int .i64 e.status) := Qx8.out.cell 5
  have yx6 : w8.cell? ⟨w3.heap.size, 6, none⟩ = some ((.slice xfo xfn xfc)) := Qx8.out.cell 6
  have yx7 : w8.cell? ⟨w3.heap.size, 7, none⟩ = some ((.slice ebo ebn ebc)) := Qx8.out.cell 7
  have yx8 : w8.cell? ⟨w3.heap.size, 8, none⟩ = some (.int .i64 e.gen) := Qx8.out.cell 8
  go_wp2_with fail
  refine (cB.out _ SBX8.out).mono ?_
  rintro x9 w9 ⟨⟨rb, rfl, hrb⟩, hb⟩
  obtain ⟨rbo, rbc, hbf⟩ := own_form14 hrb
  obtain ⟨rbn, hrbn⟩ : ∃ n, (recB zn e).length = n := ⟨_, rfl⟩
  rw [hrbn] at hbf
  subst hbf
  have HRBN := hid hrbn
  clear hrbn hrb
  have HB9 := hid (chain2 HB8.out HB8.out.size hb)
  have XA9 := hid (XA8.out.below hb)
  have R9 := hid (R8.out.below hb)
  have SBX9 := hid (SBX8.out.below hb)
  have Qe9 := hid (Qe8.out.below hb)
  have Qx9 := hid (Qx8.out.below hb)
  clear yx0 yx1 yx2 yx3 yx4 yx5 yx6 yx7 yx8
  clear hb
  clear HB8 XA8 R8 SBX8 Qe8 Qx8
  rcases h023 with hcode | hcode
  rotate_left
  · have hbig : 4000 < rbn := by
      rw [← HRBN.out]
      have h := hcode
      unfold encC at h
      split at h
      · cases h
      · split at h
        · cases h
        · split at h
          · cases h
          · split at h
            · rename_i h4
              rw [Int.toNat_natCast] at h4
              exact h4
            · cases h
    have db : decide ((4000 : Int) < (rbn : Int)) = true := decide_eq_true (by omega)
    have dbI : (4000 : Int) < (rbn : Int) := by omega
    skip
    have hnil : D = [] := by rw [← HD.out.1]; exact enc_none (show encC (zn : Int) e ≠ 0 by rw [hcode]; decide)
    have hrn0 : rn = 0 := by rw [← HRN.out, hnil]; rfl
    rw [HD.out.2] at hcode
    subst hcode hrn0
    clear hnil
    have zc : (((23 : Int)) != 0) = true := rfl
    go_wp2_with fail
    go_ret
    exact ⟨rfl, HB9.out⟩
  have henr := enc_rec hcode
  rw [Int.toNat_natCast] at henr
  have hlen := (enc_ok hcode).2.2
  rw [Int.toNat_natCast, HRBN.out] at hlen
  have db : decide ((4000 : Int) < (rbn : Int)) = false := decide_eq_false (by omega)
  have dbI : ¬ (4000 : Int) < (rbn : Int) := by omega
  have hcd0 : cd = 0 := by rw [← HD.out.2]; exact hcode
  subst hcd0
  rw [HD.out.1] at henr
  have HEN := hid henr
  have cD := hid (fun (W : World) (h : Below w.heap.size w W) (hb : Bytes W (.slice ro rn rc) D) => (show Calls Tryd.prog 19 #[.slice ro rn rc] W fun x w' => ∃ nv fv dv, x = .returned (.tuple #[.agg (rowE nv fv dv e), .int .i64 (zn : Int), .int .i64 0]) ∧ EntAt w' nv fv dv e ∧ Below W.heap.size W w' by
    have c := K.decode _ D W (OK.out W h) hb (by rw [← HD.out.1]; exact Nat.le_trans enc_len (by decide))
    unfold DecPost at c
    rw [henr.2.1] at c
    refine c.mono ?_
    rintro x w' ⟨nv, fv, dv, g1, g2, -, -, -, g3⟩
    exact ⟨nv, fv, dv, g1, g2, g3⟩))
  have z0 : ((0 : Int) != 0) = false := rfl
  have zzz : ((0 : Int) == 0) = true := rfl
  clear hcode henr hlen
  go_wp2_with fail
  refine (cD.out _ HB9.out R9.out.b).mono ?_
  rintro x10 w10 ⟨pnv, pfv, pbv, rfl, hat, hb⟩
  obtain ⟨pno, pnc, hpn⟩ := hat.names.strs
  obtain ⟨pfo, pfc, hpf⟩ := hat.flds.form
  obtain ⟨pbo, pbc, hpb⟩ : ∃ q c, pbv = .slice q e.body.length c := by
    obtain ⟨q, c, h, -⟩ := hat.body
    exact ⟨q, c, by rw [h, List.length_map]⟩
  obtain ⟨pnn, hpnn⟩ : ∃ k, e.names.length = k := ⟨_, rfl⟩
  obtain ⟨pfn, hpfn⟩ : ∃ k, e.fields.length = k := ⟨_, rfl⟩
  obtain ⟨pbn, hpbn⟩ : ∃ k, e.body.length = k := ⟨_, rfl⟩
  rw [hpnn] at hpn
  rw [hpfn] at hpf
  rw [hpbn] at hpb
  subst hpn hpf hpb
  clear hpnn hpfn hpbn
  have HB10 := hid (chain2 HB9.out HB9.out.size hb)
  have XA10 := hid (XA9.out.below hb)
  have R10 := hid (R9.out.below hb)
  have SBX10 := hid (SBX9.out.below hb)
  have Qe10 := hid (Qe9.out.below hb)
  have Qx10 := hid (Qx9.out.below hb)
  have PA10 := hid (hat)
  clear hat db dbI cD
  clear hb
  clear HB9 XA9 R9 SBX9 Qe9 Qx9
  have hzp : rowIs (w10.alloc (.cells #[.string ⟨#[]⟩, .string ⟨#[]⟩, .slice none 0 0, .int .i64 0, .int .i64 0, .int .i64 0, .slice none 0 0, .slice none 0 0, .int .i64 0] 27)) w10.heap.size #[.string ⟨#[]⟩, .string ⟨#[]⟩, .slice none 0 0, .int .i64 0, .int .i64 0, .int .i64 0, .slice none 0 0, .slice none 0 0, .int .i64 0] 27 := rowIs_new _ _ _
  obtain ⟨w11, hwp⟩ : ∃ W, (w10.alloc (.cells #[.string ⟨#[]⟩, .string ⟨#[]⟩, .slice none 0 0, .int .i64 0, .int .i64 0, .int .i64 0, .slice none 0 0, .slice none 0 0, .int .i64 0] 27)).setRow w10.heap.size (rowE (.slice pno pnn pnc) (.slice pfo pfn pfc) (.slice pbo pbn pbc) e) = W := ⟨_, rfl⟩
  have hbx : Below w10.heap.size w10 w11 := by rw [← hwp]; exact below_setRow (below_alloc _ _) (Nat.le_refl _) _
  have HB11 := hid (chain2 HB10.out HB10.out.size hbx)
  have XA11 := hid (XA10.out.below hbx)
  have R11 := hid (R10.out.below hbx)
  have SBX11 := hid (SBX10.out.below hbx)
  have PA11 := hid (PA10.out.below hbx)
  have Qe11 := hid (Qe10.out.below hbx)
  have Qx11 := hid (Qx10.out.below hbx)
  have Qp11 := hid (show rowIs w11 w10.heap.size (rowE (.slice pno pnn pnc) (.slice pfo pfn pfc) (.slice pbo pbn pbc) e) 27 by rw [← hwp]; exact hzp.setRow _)
  clear hbx
  clear HB10 XA10 R10 SBX10 PA10 Qe10 Qx10
  have zq : ((zn : Int) == (zn : Int)) = true := beq_self_eq_true _
  have cM := hid (fun (W : World) (h : Below w11.heap.size w11 W) => madeEnt_any e (.slice pno pnn pnc) (.slice pfo pfn pfc) (.slice pbo pbn pbc) W (PA11.out.below h) (by have := HSe.out.flds; omega) ⟨_, _, _, rfl⟩ ⟨_, _, _, rfl⟩)
  have cR := hid (fun (W : World) (pn pf pb : Value) (ha : EntAt W pn pf pb e) (h : Below w11.heap.size w11 W) => r14Same_any e e pn pf pb (.slice eno enn enc) (.slice xfo xfn xfc) (.slice ebo ebn ebc) W ha (XAZ.out.below (SBX11.out.below h).b) (by have := HSe.out.names; omega) (by have := HSe.out.flds; omega))
  rw [decide_eq_true rfl] at cR
  have cB2 := hid (fun (W : World) (h : Below w11.heap.size w11 W) => (show Calls Tryd.prog 18 #[.int .i64 (zn : Int), .agg (rowE (.slice eno enn enc) (.slice xfo xfn xfc) (.slice ebo ebn ebc) e)] W fun x w' => (∃ r2, x = .returned r2 ∧ Reads w' r2 (D.map byteV)) ∧ Below W.heap.size W w' by
    refine (cB.out W (SBX11.out.below h)).mono ?_
    rintro x w' ⟨⟨r2, rfl, hr2⟩, hb2⟩
    have h2 := hr2.reads
    rw [← HEN.out.1] at h2
    exact ⟨⟨r2, rfl, h2⟩, hb2⟩))
  have HRS := hid (fun (W : World) (h : Below w11.heap.size w11 W) => bytesRead (R11.out.below h).b)
  have dd : (D == D) = true := beq_self_eq_true D
  have HQx := Qx11
  have HQp := Qp11
  go_wp2_with (refine wpList_store_row rfl 27 _ _ rfl w10.heap.size _ rfl rfl 27 #[.string ⟨#[]⟩, .string ⟨#[]⟩, .slice none 0 0, .int .i64 0, .int .i64 0, .int .i64 0, .slice none 0 0, .slice none 0 0, .int .i64 0] hzp infoEntP rfl (oneEntS _ _ _ _ _ _ _ _ _ _ _ _ _ _ _) ?_)
  clear hwp hzp
  refine wp_region_held_drew (S := fun W' => Below w11.heap.size w11 W') (by kernel_rfl) (Below.refl _ _).drew (fun hH => ?_)
  refine wpAnyH_take (i := 0) (v := ?_) rfl (by kernel_rfl) (by kernel_rfl) (by kernel_rfl) (fun _ _ _ h => h) (Or.inl ⟨by kernel_rfl, ?_⟩) hH ?_
  rotate_left
  · intro W hS
    have hva := reads_string (P := Tryd.prog) (HRS.out W hS) 25 9 5 Tryd.underlying25 Tryd.underlying5 Tryd.underlying9
    go_simp
    first | done | with_reducible rfl
  simp only [Act.put, List.getElem_toArray, List.getElem_cons_succ, List.getElem_cons_zero, List.setIfInBounds_toArray, List.set_cons_zero, List.set_cons_succ]
  refine wpAnyH_take (i := 1) (v := ?_) rfl (by kernel_rfl) (by kernel_rfl) (by kernel_rfl) (fun _ _ _ h => h) (Or.inl ⟨by kernel_rfl, ?_⟩) hH ?_
  rotate_left
  · intro W hS
    have hva := reads_string (P := Tryd.prog) (HRS.out W hS) 25 9 5 Tryd.underlying25 Tryd.underlying5 Tryd.underlying9
    go_simp
    first | done | with_reducible rfl
  simp only [Act.put, List.getElem_toArray, List.getElem_cons_succ, List.getElem_cons_zero, List.setIfInBounds_toArray, List.set_cons_zero, List.set_cons_succ]
  refine wpAnyH_take (i := 2) (v := ?_) rfl (by kernel_rfl) (by kernel_rfl) (by kernel_rfl) (fun _ _ _ h => h) (Or.inl ⟨by kernel_rfl, ?_⟩) hH ?_
  rotate_left
  · intro W hS
    have hva := reads_string (P := Tryd.prog) (HRS.out W hS) 25 9 5 Tryd.underlying25 Tryd.underlying5 Tryd.underlying9
    go_simp
    first | done | with_reducible rfl
  simp only [Act.put, List.getElem_toArray, List.getElem_cons_succ, List.getElem_cons_zero, List.setIfInBounds_toArray, List.set_cons_zero, List.set_cons_succ]
  refine wpAnyH_take (i := 3) (v := ?_) rfl (by kernel_rfl) (by kernel_rfl) (by kernel_rfl) (fun _ _ _ h => h) (Or.inl ⟨by kernel_rfl, ?_⟩) hH ?_
  rotate_left
  · intro W hS
    have hva := reads_string (P := Tryd.prog) (HRS.out W hS) 25 9 5 Tryd.underlying25 Tryd.underlying5 Tryd.underlying9
    go_simp
    first | done | with_reducible rfl
  simp only [Act.put, List.getElem_toArray, List.getElem_cons_succ, List.getElem_cons_zero, List.setIfInBounds_toArray, List.set_cons_zero, List.set_cons_succ]
  refine wpAnyH_take (i := 4) (v := ?_) rfl (by kernel_rfl) (by kernel_rfl) (by kernel_rfl) (fun _ _ _ h => h) (Or.inl ⟨by kernel_rfl, ?_⟩) hH ?_
  rotate_left
  · intro W hS
    have hva := reads_string (P := Tryd.prog) (HRS.out W hS) 25 9 5 Tryd.underlying25 Tryd.underlying5 Tryd.underlying9
    go_simp
    first | done | with_reducible rfl
  simp only [Act.put, List.getElem_toArray, List.getElem_cons_succ, List.getElem_cons_zero, List.setIfInBounds_toArray, List.set_cons_zero, List.set_cons_succ]
  refine wpAnyH_take (i := 5) (v := ?_) rfl (by kernel_rfl) (by kernel_rfl) (by kernel_rfl) (fun _ _ _ h => h) (Or.inl ⟨by kernel_rfl, ?_⟩) hH ?_
  rotate_left
  · intro W hS
    have hva := reads_string (P := Tryd.prog) (HRS.out W hS) 25 9 5 Tryd.underlying25 Tryd.underlying5 Tryd.underlying9
    go_simp
    first | done | with_reducible rfl
  simp only [Act.put, List.getElem_toArray, List.getElem_cons_succ, List.getElem_cons_zero, List.setIfInBounds_toArray, List.set_cons_zero, List.set_cons_succ]
  refine wpAnyH_take (i := 6) (v := .agg (rowE (.slice eno enn enc) (.slice xfo xfn xfc) (.slice ebo ebn ebc) e)) rfl (by kernel_rfl) (by kernel_rfl) (by kernel_rfl) (fun _ _ _ h => h) (Or.inl ⟨by kernel_rfl, ?_⟩) hH ?_
  · intro W hS
    exact load_gives (x := .tmp 5) (by kernel_rfl) w3.heap.size (by kernel_rfl) (HQx.out.below hS) Tryd.underlying32 rfl infoEntD
  simp only [Act.put, List.getElem_toArray, List.getElem_cons_succ, List.getElem_cons_zero, List.setIfInBounds_toArray, List.set_cons_zero, List.set_cons_succ]
  refine wpAnyH_ready (rs := [7]) (by kernel_rfl) (by simp) ?_
  refine AllReadyH.cons rfl (fun K hK => ?_) AllReadyH.nil
  go_simp
  refine (cB2.out _ hH).mono ?_
  rintro xA wA ⟨⟨r2, rfl, hr2⟩, hbA⟩
  have hvb := reads_string (P := Tryd.prog) hr2 25 9 5 Tryd.underlying25 Tryd.underlying5 Tryd.underlying9
  refine hK.out _ _ (chain2 hH hH.size hbA) (fun hH => ?_)
  clear hK K
  try simp only [Act.put, List.getElem_toArray, List.getElem_cons_succ, List.getElem_cons_zero, List.setIfInBounds_toArray, List.set_cons_zero, List.set_cons_succ]
  refine wpAnyH_ready (rs := [8]) (by kernel_rfl) (by simp) ?_
  refine AllReadyH.cons rfl (fun K hK => ?_) AllReadyH.nil
  go_simp
  refine hK.out _ _ hH (fun hH => ?_)
  clear hK K
  try simp only [Act.put, List.getElem_toArray, List.getElem_cons_succ, List.getElem_cons_zero, List.setIfInBounds_toArray, List.set_cons_zero, List.set_cons_succ]
  refine wpAnyH_take (i := 9) (v := ?_) rfl (by kernel_rfl) (by kernel_rfl) (by kernel_rfl) (fun _ _ _ h => h) (Or.inl ⟨by kernel_rfl, ?_⟩) hH ?_
  rotate_left
  · intro W hS
    have hva := reads_string (P := Tryd.prog) (HRS.out W hS) 25 9 5 Tryd.underlying25 Tryd.underlying5 Tryd.underlying9
    go_simp
    first | done | with_reducible rfl
  simp only [Act.put, List.getElem_toArray, List.getElem_cons_succ, List.getElem_cons_zero, List.setIfInBounds_toArray, List.set_cons_zero, List.set_cons_succ]
  refine wpAnyH_take (i := 10) (v := ?_) rfl (by kernel_rfl) (by kernel_rfl) (by kernel_rfl) (fun _ _ _ h => h) (Or.inl ⟨by kernel_rfl, ?_⟩) hH ?_
  rotate_left
  · intro W hS
    have hva := reads_string (P := Tryd.prog) (HRS.out W hS) 25 9 5 Tryd.underlying25 Tryd.underlying5 Tryd.underlying9
    go_simp
    first | done | with_reducible rfl
  simp only [Act.put, List.getElem_toArray, List.getElem_cons_succ, List.getElem_cons_zero, List.setIfInBounds_toArray, List.set_cons_zero, List.set_cons_succ]
  refine wpAnyH_take (i := 11) (v := ?_) rfl (by kernel_rfl) (by kernel_rfl) (by kernel_rfl) (fun _ _ _ h => h) (Or.inl ⟨by kernel_rfl, ?_⟩) hH ?_
  rotate_left
  · intro W hS
    have hva := reads_string (P := Tryd.prog) (HRS.out W hS) 25 9 5 Tryd.underlying25 Tryd.underlying5 Tryd.underlying9
    go_simp
    first | done | with_reducible rfl
  simp only [Act.put, List.getElem_toArray, List.getElem_cons_succ, List.getElem_cons_zero, List.setIfInBounds_toArray, List.set_cons_zero, List.set_cons_succ]
  refine wpAnyH_take (i := 12) (v := ?_) rfl (by kernel_rfl) (by kernel_rfl) (by kernel_rfl) (fun _ _ _ h => h) (Or.inl ⟨by kernel_rfl, ?_⟩) hH ?_
  rotate_left
  · intro W hS
    have hva := reads_string (P := Tryd.prog) (HRS.out W hS) 25 9 5 Tryd.underlying25 Tryd.underlying5 Tryd.underlying9
    go_simp
    first | done | with_reducible rfl
  simp only [Act.put, List.getElem_toArray, List.getElem_cons_succ, List.getElem_cons_zero, List.setIfInBounds_toArray, List.set_cons_zero, List.set_cons_succ]
  refine wpAnyH_take (i := 13) (v := ?_) rfl (by kernel_rfl) (by kernel_rfl) (by kernel_rfl) (fun _ _ _ h => h) (Or.inl ⟨by kernel_rfl, ?_⟩) hH ?_
  rotate_left
  · intro W hS
    have hva := reads_string (P := Tryd.prog) (HRS.out W hS) 25 9 5 Tryd.underlying25 Tryd.underlying5 Tryd.underlying9
    go_simp
    first | done | with_reducible rfl
  simp only [Act.put, List.getElem_toArray, List.getElem_cons_succ, List.getElem_cons_zero, List.setIfInBounds_toArray, List.set_cons_zero, List.set_cons_succ]
  refine wpAnyH_take (i := 14) (v := ?_) rfl (by kernel_rfl) (by kernel_rfl) (by kernel_rfl) (fun _ _ _ h => h) (Or.inl ⟨by kernel_rfl, ?_⟩) hH ?_
  rotate_left
  · intro W hS
    have hva := reads_string (P := Tryd.prog) (HRS.out W hS) 25 9 5 Tryd.underlying25 Tryd.underlying5 Tryd.underlying9
    go_simp
    first | done | with_reducible rfl
  simp only [Act.put, List.getElem_toArray, List.getElem_cons_succ, List.getElem_cons_zero, List.setIfInBounds_toArray, List.set_cons_zero, List.set_cons_succ]
  refine wpAnyH_take (i := 15) (v := ?_) rfl (by kernel_rfl) (by kernel_rfl) (by kernel_rfl) (fun _ _ _ h => h) (Or.inl ⟨by kernel_rfl, ?_⟩) hH ?_
  rotate_left
  · intro W hS
    have hva := reads_string (P := Tryd.prog) (HRS.out W hS) 25 9 5 Tryd.underlying25 Tryd.underlying5 Tryd.underlying9
    go_simp
    first | done | with_reducible rfl
  simp only [Act.put, List.getElem_toArray, List.getElem_cons_succ, List.getElem_cons_zero, List.setIfInBounds_toArray, List.set_cons_zero, List.set_cons_succ]
  refine wpAnyH_take (i := 16) (v := ?_) rfl (by kernel_rfl) (by kernel_rfl) (by kernel_rfl) (fun _ _ _ h => h) (Or.inl ⟨by kernel_rfl, ?_⟩) hH ?_
  rotate_left
  · intro W hS
    have hva := reads_string (P := Tryd.prog) (HRS.out W hS) 25 9 5 Tryd.underlying25 Tryd.underlying5 Tryd.underlying9
    go_simp
    first | done | with_reducible rfl
  simp only [Act.put, List.getElem_toArray, List.getElem_cons_succ, List.getElem_cons_zero, List.setIfInBounds_toArray, List.set_cons_zero, List.set_cons_succ]
  refine wpAnyH_take (i := 17) (v := ?_) rfl (by kernel_rfl) (by kernel_rfl) (by kernel_rfl) (fun _ _ _ h => h) (Or.inl ⟨by kernel_rfl, ?_⟩) hH ?_
  rotate_left
  · intro W hS
    have hva := reads_string (P := Tryd.prog) (HRS.out W hS) 25 9 5 Tryd.underlying25 Tryd.underlying5 Tryd.underlying9
    go_simp
    first | done | with_reducible rfl
  simp only [Act.put, List.getElem_toArray, List.getElem_cons_succ, List.getElem_cons_zero, List.setIfInBounds_toArray, List.set_cons_zero, List.set_cons_succ]
  refine wpAnyH_take (i := 18) (v := ?_) rfl (by kernel_rfl) (by kernel_rfl) (by kernel_rfl) (fun _ _ _ h => h) (Or.inl ⟨by kernel_rfl, ?_⟩) hH ?_
  rotate_left
  · intro W hS
    have hva := reads_string (P := Tryd.prog) (HRS.out W hS) 25 9 5 Tryd.underlying25 Tryd.underlying5 Tryd.underlying9
    go_simp
    first | done | with_reducible rfl
  simp only [Act.put, List.getElem_toArray, List.getElem_cons_succ, List.getElem_cons_zero, List.setIfInBounds_toArray, List.set_cons_zero, List.set_cons_succ]
  refine wpAnyH_take (i := 19) (v := ?_) rfl (by kernel_rfl) (by kernel_rfl) (by kernel_rfl) (fun _ _ _ h => h) (Or.inl ⟨by kernel_rfl, ?_⟩) hH ?_
  rotate_left
  · intro W hS
    have hva := reads_string (P := Tryd.prog) (HRS.out W hS) 25 9 5 Tryd.underlying25 Tryd.underlying5 Tryd.underlying9
    go_simp
    first | done | with_reducible rfl
  simp only [Act.put, List.getElem_toArray, List.getElem_cons_succ, List.getElem_cons_zero, List.setIfInBounds_toArray, List.set_cons_zero, List.set_cons_succ]
  refine wpAnyH_take (i := 20) (v := ?_) rfl (by kernel_rfl) (by kernel_rfl) (by kernel_rfl) (fun _ _ _ h => h) (Or.inl ⟨by kernel_rfl, ?_⟩) hH ?_
  rotate_left
  · intro W hS
    have hva := reads_string (P := Tryd.prog) (HRS.out W hS) 25 9 5 Tryd.underlying25 Tryd.underlying5 Tryd.underlying9
    go_simp
    first | done | with_reducible rfl
  simp only [Act.put, List.getElem_toArray, List.getElem_cons_succ, List.getElem_cons_zero, List.setIfInBounds_toArray, List.set_cons_zero, List.set_cons_succ]
  refine wpAnyH_take (i := 21) (v := .agg (rowE (.slice pno pnn pnc) (.slice pfo pfn pfc) (.slice pbo pbn pbc) e)) rfl (by kernel_rfl) (by kernel_rfl) (by kernel_rfl) (fun _ _ _ h => h) (Or.inl ⟨by kernel_rfl, ?_⟩) hH ?_
  · intro W hS
    exact load_gives (x := .tmp 9) (by kernel_rfl) w10.heap.size (by kernel_rfl) (HQp.out.below hS) Tryd.underlying27 rfl infoEntP
  simp only [Act.put, List.getElem_toArray, List.getElem_cons_succ, List.getElem_cons_zero, List.setIfInBounds_toArray, List.set_cons_zero, List.set_cons_succ]
  refine wpAnyH_take (i := 23) (v := .agg (rowE (.slice eno enn enc) (.slice xfo xfn xfc) (.slice ebo ebn ebc) e)) rfl (by kernel_rfl) (by kernel_rfl) (by kernel_rfl) (fun _ _ _ h => h) (Or.inl ⟨by kernel_rfl, ?_⟩) hH ?_
  · intro W hS
    exact load_gives (x := .tmp 5) (by kernel_rfl) w3.heap.size (by kernel_rfl) (HQx.out.below hS) Tryd.underlying32 rfl infoEntD
  simp only [Act.put, List.getElem_toArray, List.getElem_cons_succ, List.getElem_cons_zero, List.setIfInBounds_toArray, List.set_cons_zero, List.set_cons_succ]
  refine wpAnyH_ready (rs := [22]) (by kernel_rfl) (by simp) ?_
  refine AllReadyH.cons rfl (fun K hK => ?_) AllReadyH.nil
  go_simp
  refine (cM.out _ hH).mono ?_
  rintro xB wB ⟨⟨Bfv, rfl, hatB⟩, hbB⟩
  refine hK.out _ _ (chain2 hH hH.size hbB) (fun hH => ?_)
  clear hK K
  try simp only [Act.put, List.getElem_toArray, List.getElem_cons_succ, List.getElem_cons_zero, List.setIfInBounds_toArray, List.set_cons_zero, List.set_cons_succ]
  refine wpAnyH_ready (rs := [24]) (by kernel_rfl) (by simp) ?_
  refine AllReadyH.cons rfl (fun K hK => ?_) AllReadyH.nil
  go_simp
  refine (cR.out _ _ _ _ hatB hH).mono ?_
  rintro xC wC ⟨rfl, hbC⟩
  refine hK.out _ _ (chain2 hH hH.size hbC) (fun hH => ?_)
  clear hbC
  clear hK K
  try simp only [Act.put, List.getElem_toArray, List.getElem_cons_succ, List.getElem_cons_zero, List.setIfInBounds_toArray, List.set_cons_zero, List.set_cons_succ]
  refine wpAnyH_take (i := 25) (v := ?_) rfl (by kernel_rfl) (by kernel_rfl) (by kernel_rfl) (fun _ _ _ h => h) (Or.inl ⟨by kernel_rfl, ?_⟩) hH ?_
  rotate_left
  · intro W hS
    have hva := reads_string (P := Tryd.prog) (HRS.out W hS) 25 9 5 Tryd.underlying25 Tryd.underlying5 Tryd.underlying9
    go_simp
    first | done | with_reducible rfl
  simp only [Act.put, List.getElem_toArray, List.getElem_cons_succ, List.getElem_cons_zero, List.setIfInBounds_toArray, List.set_cons_zero, List.set_cons_succ]
  refine wpAnyH_take (i := 26) (v := ?_) rfl (by kernel_rfl) (by kernel_rfl) (by kernel_rfl) (fun _ _ _ h => h) (Or.inl ⟨by kernel_rfl, ?_⟩) hH ?_
  rotate_left
  · intro W hS
    have hva := reads_string (P := Tryd.prog) (HRS.out W hS) 25 9 5 Tryd.underlying25 Tryd.underlying5 Tryd.underlying9
    go_simp
    first | done | with_reducible rfl
  simp only [Act.put, List.getElem_toArray, List.getElem_cons_succ, List.getElem_cons_zero, List.setIfInBounds_toArray, List.set_cons_zero, List.set_cons_succ]
  refine wpAnyH_done (by kernel_rfl) ?_ _
  rename World => w12
  have hHH := hH
  have HB12 := hid (chain2 HB11.out HB11.out.size hHH)
  have XA12 := hid (XA11.out.below hHH)
  have R12 := hid (R11.out.below hHH)
  have SBX12 := hid (SBX11.out.below hHH)
  have PA12 := hid (PA11.out.below hHH)
  have Qe12 := hid (Qe11.out.below hHH)
  have Qx12 := hid (Qx11.out.below hHH)
  have Qp12 := hid (Qp11.out.below hHH)
  clear hHH hH
  clear HB11 XA11 R11 SBX11 PA11 Qe11 Qx11 Qp11
  go_wp2_with fail
  go_ret
  exact ⟨rfl, HB12.out⟩
end Go.Proofs.YtdkhkeffheleeaaDoor
/-
  EntryEncodes over package entry as it is.
-/
set_option linter.unusedVariables false
set_option linter.unusedSimpArgs false
namespace Go.Proofs.YtdkhkeffheleeaaDoor
open Go.RowKit Go.Pantry

theorem entryEncodes_walk (anv afv abv : Value) (a : EntP) (z : Int) (w : World) (ha : EntAt w anv afv abv a ∧ a.names.length ≤ maxLen ∧ a.fields.length ≤ maxLen) (hz : (Lit.int .i64 z).wf = true) :
    Calls Tryd.prog 3 #[.agg (rowE anv afv abv a), .int .i64 z] w fun x w' => x = .returned (.bool true) ∧ Below w.heap.size w w' := by
  have h := entryEncodes_over entries_ok anv afv abv a z w trivial ha (in14 hz)
  exact h
end Go.Proofs.YtdkhkeffheleeaaDoor
