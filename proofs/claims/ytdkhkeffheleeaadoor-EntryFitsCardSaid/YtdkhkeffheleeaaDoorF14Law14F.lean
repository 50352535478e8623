/-
  The walk of EntryFits.
-/
import Derived.Test.YtdkhkeffheleeaaDoorF14Law14A

set_option linter.unusedVariables false
set_option linter.unusedSimpArgs false
namespace Go.Proofs.YtdkhkeffheleeaaDoor
open Go.RowKit Go.Pantry

set_option maxRecDepth 8000 in
set_option maxHeartbeats 8000000 in
theorem entryFits_over {Ok : World → Prop} (K : Entries Ok) (env efv ebv : Value) (e : EntP) (w : World) (ok : Ok w) (he : EntAt w env efv ebv e ∧ e.names.length ≤ 9223372036854775807 ∧ e.fields.length ≤ 9223372036854775807) :
    Calls Tryd.prog 8 #[.agg (rowE env efv ebv e)] w fun x w' => x = .returned (.bool true) ∧ Below w.heap.size w w' := by
  have OK := hid (fun (W : World) (h : Below w.heap.size w W) => K.keep w W ok h)
  have cA := hid (fun (W : World) (h : Below w.heap.size w W) => anchor14_any K W (OK.out W h))
  have HeA := hid he.1
  have HeL := hid he.2
  obtain ⟨eno, enc, hen⟩ := HeA.out.names.strs
  obtain ⟨efo, efc, hef⟩ := HeA.out.flds.form
  obtain ⟨ebo, ebc, heb⟩ : ∃ q c, ebv = .slice q e.body.length c := by
    obtain ⟨q, c, h, -⟩ := HeA.out.body
    exact ⟨q, c, by rw [h, List.length_map]⟩
  obtain ⟨enn, henn⟩ : ∃ k, e.names.length = k := ⟨_, rfl⟩
  obtain ⟨efn, hefn⟩ : ∃ k, e.fields.length = k := ⟨_, rfl⟩
  obtain ⟨ebn, hebn⟩ : ∃ k, e.body.length = k := ⟨_, rfl⟩
  rw [henn] at hen
  rw [hefn] at hef
  rw [hebn] at heb
  subst hen hef heb
  clear henn hefn hebn
  have cSe := hid (fun (W : World) (h : Below w.heap.size w W) => smallE_any e (.slice eno enn enc) (.slice efo efn efc) (.slice ebo ebn ebc) W (HeA.out.below h) HeL.out.1 HeL.out.2)
  obtain ⟨w0, hw0⟩ : ∃ W, w.alloc (.cells (rowE (.slice eno enn enc) (.slice efo efn efc) (.slice ebo ebn ebc) e) 27) = W := ⟨_, rfl⟩
  have HB0 := hid (show Below w.heap.size w w0 by rw [← hw0]; exact below_alloc _ _)
  have Qe0 := hid (show rowIs w0 w.heap.size (rowE (.slice eno enn enc) (.slice efo efn efc) (.slice ebo ebn ebc) e) 27 by rw [← hw0]; exact rowIs_new _ _ _)
  clear ok he
  go_enter Tryd.func8, Tryd.ntmps8
  go_wp2_with fail
  refine (cA.out _ HB0.out).mono ?_
  rintro x1 w1 ⟨rfl, hb⟩
  have HB1 := hid (chain2 HB0.out HB0.out.size hb)
  have Qe1 := hid (Qe0.out.below hb)
  clear hb
  clear HB0 Qe0
  try clear hw0
  clear cA
  have ye0 : w1.cell? ⟨w.heap.size, 0, none⟩ = some (strV e.key) := Qe1.out.cell 0
  have ye1 : w1.cell? ⟨w.heap.size, 1, none⟩ = some (strV e.second) := Qe1.out.cell 1
  have ye2 : w1.cell? ⟨w.heap.size, 2, none⟩ = some ((.slice eno enn enc)) := Qe1.out.cell 2
  have ye3 : w1.cell? ⟨w.heap.size, 3, none⟩ = some (.int .i64 e.asked) := Qe1.out.cell 3
  have ye4 : w1.cell? ⟨w.heap.size, 4, none⟩ = some (.int .i64 e.came) := Qe1.out.cell 4
  have ye5 : w1.cell? ⟨w.heap.size, 5, none⟩ = some (.int .i64 e.status) := Qe1.out.cell 5
  have ye6 : w1.cell? ⟨w.heap.size, 6, none⟩ = some ((.slice efo efn efc)) := Qe1.out.cell 6
  have ye7 : w1.cell? ⟨w.heap.size, 7, none⟩ = some ((.slice ebo ebn ebc)) := Qe1.out.cell 7
  have ye8 : w1.cell? ⟨w.heap.size, 8, none⟩ = some (.int .i64 e.gen) := Qe1.out.cell 8
  go_wp2_with fail
  refine (cSe.out _ HB1.out).mono ?_
  rintro x2 w2 ⟨rfl, hb⟩
  have HB2 := hid (chain2 HB1.out HB1.out.size hb)
  have Qe2 := hid (Qe1.out.below hb)
  clear ye0 ye1 ye2 ye3 ye4 ye5 ye6 ye7 ye8
  clear hb
  clear HB1 Qe1
  cases hse : smallE e with
  | false =>
    go_wp2_with fail
    go_ret
    exact ⟨rfl, HB2.out⟩
  | true =>
  have HSe := hid (smallE_ok hse)
  clear hse cSe
  have cF := hid (fun (z : Int) (W : World) (hz : In14 z) (h : Below w.heap.size w W) => K.fits e z (.slice eno enn enc) (.slice efo efn efc) (.slice ebo ebn ebc) W (OK.out W h) hz HSe.out (HeA.out.below h))
  have cR := hid (fun (W : World) (h : Below w.heap.size w W) => K.right e (.slice eno enn enc) (.slice efo efn efc) (.slice ebo ebn ebc) W (OK.out W h) HSe.out (HeA.out.below h))
  have cE := hid (fun (z : Int) (W : World) (hz : In14 z) (h : Below w.heap.size w W) => K.encode z e (.slice eno enn enc) (.slice efo efn efc) (.slice ebo ebn ebc) W (OK.out W h) hz HSe.out (HeA.out.below h))
  have cT := hid (fun (z : Int) (r : Value) (D : List UInt8) (W : World) (hz : In14 z) (h : Below w.heap.size w W) (hb : Bytes W r D) (hl : D.length ≤ 90000) => K.turn r D z W (OK.out W h) hz hb hl)
  go_wp2_with fail
  go_loopw [3] (fun i wr => ∃ v : Nat, i = .int .i64 (v : Int) ∧ 1 ≤ v ∧ v ≤ 4 ∧ Below w2.heap.size w2 wr) (fun i _ => 4 - (intOf i).toNat)
  case atStart => exact ⟨1, rfl, by decide, by decide, Below.refl _ _⟩
  case round =>
    obtain ⟨v, rfl, hv1, hv4, hbr⟩ := hrel
    rename World => w3
    have hHH := hbr
    have HB3 := hid (chain2 HB2.out HB2.out.size hHH)
    have Qe3 := hid (Qe2.out.below hHH)
    clear hHH
    have LB3 := hid (Since.mk hbr)
    clear hbr
    have hvI : In14 (v : Int) := ⟨by omega, by omega⟩
    have hvI1 : In14 ((v : Int) + 1) := ⟨by omega, by omega⟩
    have hvw : IntKind.i64.wrap ((v : Int) + 1) = (v : Int) + 1 := IntWalk.i64_in _ (by omega)
    have hd1 : (v : Int) ≤ 3 ∨ ¬ (v : Int) ≤ 3 := by omega
    by_cases hlast : ¬ v ≤ 3
    · have hle : decide ((v : Int) ≤ 3) = false := decide_eq_false (by omega)
      have hle2 : ¬ (v : Int) ≤ 3 := by omega
      have cR := cR
      obtain ⟨R, hR⟩ : ∃ R, rightE e = R := ⟨_, rfl⟩
      have cR1 := hid (fun (W : World) (h : Below w3.heap.size w3 W) => cR.out W (chain2 HB3.out HB3.out.size h))
      have cF3 := hid (fun (W : World) (h : Below w3.heap.size w3 W) => cF.out 3 W (by decide) (chain2 HB3.out HB3.out.size h))
      have cF0 := hid (fun (W : World) (h : Below w3.heap.size w3 W) => cF.out 0 W (by decide) (chain2 HB3.out HB3.out.size h))
      have cF4 := hid (fun (W : World) (h : Below w3.heap.size w3 W) => cF.out 4 W (by decide) (chain2 HB3.out HB3.out.size h))
      rw [fits_three, hR] at cF3
      rw [fits_none (.inl (by decide))] at cF0
      rw [fits_none (.inr (by decide))] at cF4
      rw [hR] at cR1
      have sn2 : (R == R) = true := by cases R <;> rfl
      clear hd1 hlast hR
      have HQe := Qe3
      go_wp2_with fail
      refine wp_region_held_drew (S := fun W' => Below w3.heap.size w3 W') (by kernel_rfl) (Below.refl _ _).drew (fun hH => ?_)
      refine wpAnyH_take (i := 0) (v := .agg (rowE (.slice eno enn enc) (.slice efo efn efc) (.slice ebo ebn ebc) e)) rfl (by kernel_rfl) (by kernel_rfl) (by kernel_rfl) (fun _ _ _ h => h) (Or.inl ⟨by kernel_rfl, ?_⟩) hH ?_
      · intro W hS
        exact load_gives (x := .tmp 1) (by kernel_rfl) w.heap.size (by kernel_rfl) (HQe.out.below hS) Tryd.underlying27 rfl infoEntP
      simp only [Act.put, List.getElem_toArray, List.getElem_cons_succ, List.getElem_cons_zero, List.setIfInBounds_toArray, List.set_cons_zero, List.set_cons_succ]
      refine wpAnyH_take (i := 2) (v := .agg (rowE (.slice eno enn enc) (.slice efo efn efc) (.slice ebo ebn ebc) e)) rfl (by kernel_rfl) (by kernel_rfl) (by kernel_rfl) (fun _ _ _ h => h) (Or.inl ⟨by kernel_rfl, ?_⟩) hH ?_
      · intro W hS
        exact load_gives (x := .tmp 1) (by kernel_rfl) w.heap.size (by kernel_rfl) (HQe.out.below hS) Tryd.underlying27 rfl infoEntP
      simp only [Act.put, List.getElem_toArray, List.getElem_cons_succ, List.getElem_cons_zero, List.setIfInBounds_toArray, List.set_cons_zero, List.set_cons_succ]
      refine wpAnyH_ready (rs := [1]) (by kernel_rfl) (by simp) ?_
      refine AllReadyH.cons rfl (fun K hK => ?_) AllReadyH.nil
      go_simp
      refine (cR1.out _ hH).mono ?_
      rintro xA wA ⟨rfl, hbA⟩
      refine hK.out _ _ (chain2 hH hH.size hbA) (fun hH => ?_)
      clear hbA
      clear hK K
      try simp only [Act.put, List.getElem_toArray, List.getElem_cons_succ, List.getElem_cons_zero, List.setIfInBounds_toArray, List.set_cons_zero, List.set_cons_succ]
      refine wpAnyH_ready (rs := [3]) (by kernel_rfl) (by simp) ?_
      refine AllReadyH.cons rfl (fun K hK => ?_) AllReadyH.nil
      go_simp
      refine (cF3.out _ hH).mono ?_
      rintro xB wB ⟨rfl, hbB⟩
      refine hK.out _ _ (chain2 hH hH.size hbB) (fun hH => ?_)
      clear hbB
      clear hK K
      try simp only [Act.put, List.getElem_toArray, List.getElem_cons_succ, List.getElem_cons_zero, List.setIfInBounds_toArray, List.set_cons_zero, List.set_cons_succ]
      refine wpAnyH_take (i := 4) (v := ?_) rfl (by kernel_rfl) (by kernel_rfl) (by kernel_rfl) (fun _ _ _ h => h) (Or.inl ⟨by kernel_rfl, ?_⟩) hH ?_
      rotate_left
      · intro W hS
        go_simp
        first | done | with_reducible rfl
      simp only [Act.put, List.getElem_toArray, List.getElem_cons_succ, List.getElem_cons_zero, List.setIfInBounds_toArray, List.set_cons_zero, List.set_cons_succ]
      refine wpAnyH_take (i := 5) (v := ?_) rfl (by kernel_rfl) (by kernel_rfl) (by kernel_rfl) (fun _ _ _ h => h) (Or.inl ⟨by kernel_rfl, ?_⟩) hH ?_
      rotate_left
      · intro W hS
        go_simp
        first | done | with_reducible rfl
      simp only [Act.put, List.getElem_toArray, List.getElem_cons_succ, List.getElem_cons_zero, List.setIfInBounds_toArray, List.set_cons_zero, List.set_cons_succ]
      refine wpAnyH_take (i := 6) (v := .agg (rowE (.slice eno enn enc) (.slice efo efn efc) (.slice ebo ebn ebc) e)) rfl (by kernel_rfl) (by kernel_rfl) (by kernel_rfl) (fun _ _ _ h => h) (Or.inl ⟨by kernel_rfl, ?_⟩) hH ?_
      · intro W hS
        exact load_gives (x := .tmp 1) (by kernel_rfl) w.heap.size (by kernel_rfl) (HQe.out.below hS) Tryd.underlying27 rfl infoEntP
      simp only [Act.put, List.getElem_toArray, List.getElem_cons_succ, List.getElem_cons_zero, List.setIfInBounds_toArray, List.set_cons_zero, List.set_cons_succ]
      refine wpAnyH_ready (rs := [7]) (by kernel_rfl) (by simp) ?_
      refine AllReadyH.cons rfl (fun K hK => ?_) AllReadyH.nil
      go_simp
      refine (cF0.out _ hH).mono ?_
      rintro xC wC ⟨rfl, hbC⟩
      refine hK.out _ _ (chain2 hH hH.size hbC) (fun hH => ?_)
      clear hbC
      clear hK K
      try simp only [Act.put, List.getElem_toArray, List.getElem_cons_succ, List.getElem_cons_zero, List.setIfInBounds_toArray, List.set_cons_zero, List.set_cons_succ]
      refine wpAnyH_take (i := 8) (v := ?_) rfl (by kernel_rfl) (by kernel_rfl) (by kernel_rfl) (fun _ _ _ h => h) (Or.inl ⟨by kernel_rfl, ?_⟩) hH ?_
      rotate_left
      · intro W hS
        go_simp
        first | done | with_reducible rfl
      simp only [Act.put, List.getElem_toArray, List.getElem_cons_succ, List.getElem_cons_zero, List.setIfInBounds_toArray, List.set_cons_zero, List.set_cons_succ]
      refine wpAnyH_take (i := 9) (v := ?_) rfl (by kernel_rfl) (by kernel_rfl) (by kernel_rfl) (fun _ _ _ h => h) (Or.inl ⟨by kernel_rfl, ?_⟩) hH ?_
      rotate_left
      · intro W hS
        go_simp
        first | done | with_reducible rfl
      simp only [Act.put, List.getElem_toArray, List.getElem_cons_succ, List.getElem_cons_zero, List.setIfInBounds_toArray, List.set_cons_zero, List.set_cons_succ]
      refine wpAnyH_take (i := 10) (v := ?_) rfl (by kernel_rfl) (by kernel_rfl) (by kernel_rfl) (fun _ _ _ h => h) (Or.inl ⟨by kernel_rfl, ?_⟩) hH ?_
      rotate_left
      · intro W hS
        go_simp
        first | done | with_reducible rfl
      simp only [Act.put, List.getElem_toArray, List.getElem_cons_succ, List.getElem_cons_zero, List.setIfInBounds_toArray, List.set_cons_zero, List.set_cons_succ]
      refine wpAnyH_take (i := 11) (v := .agg (rowE (.slice eno enn enc) (.slice efo efn efc) (.slice ebo ebn ebc) e)) rfl (by kernel_rfl) (by kernel_rfl) (by kernel_rfl) (fun _ _ _ h => h) (Or.inl ⟨by kernel_rfl, ?_⟩) hH ?_
      · intro W hS
        exact load_gives (x := .tmp 1) (by kernel_rfl) w.heap.size (by kernel_rfl) (HQe.out.below hS) Tryd.underlying27 rfl infoEntP
      simp only [Act.put, List.getElem_toArray, List.getElem_cons_succ, List.getElem_cons_zero, List.setIfInBounds_toArray, List.set_cons_zero, List.set_cons_succ]
      refine wpAnyH_ready (rs := [12]) (by kernel_rfl) (by simp) ?_
      refine AllReadyH.cons rfl (fun K hK => ?_) AllReadyH.nil
      go_simp
      refine (cF4.out _ hH).mono ?_
      rintro xD wD ⟨rfl, hbD⟩
      refine hK.out _ _ (chain2 hH hH.size hbD) (fun hH => ?_)
      clear hbD
      clear hK K
      try simp only [Act.put, List.getElem_toArray, List.getElem_cons_succ, List.getElem_cons_zero, List.setIfInBounds_toArray, List.set_cons_zero, List.set_cons_succ]
      refine wpAnyH_take (i := 13) (v := ?_) rfl (by kernel_rfl) (by kernel_rfl) (by kernel_rfl) (fun _ _ _ h => h) (Or.inl ⟨by kernel_rfl, ?_⟩) hH ?_
      rotate_left
      · intro W hS
        go_simp
        first | done | with_reducible rfl
      simp only [Act.put, List.getElem_toArray, List.getElem_cons_succ, List.getElem_cons_zero, List.setIfInBounds_toArray, List.set_cons_zero, List.set_cons_succ]
      refine wpAnyH_take (i := 14) (v := ?_) rfl (by kernel_rfl) (by kernel_rfl) (by kernel_rfl) (fun _ _ _ h => h) (Or.inl ⟨by kernel_rfl, ?_⟩) hH ?_
      rotate_left
      · intro W hS
        go_simp
        first | done | with_reducible rfl
      simp only [Act.put, List.getElem_toArray, List.getElem_cons_succ, List.getElem_cons_zero, List.setIfInBounds_toArray, List.set_cons_zero, List.set_cons_succ]
      refine wpAnyH_take (i := 15) (v := ?_) rfl (by kernel_rfl) (by kernel_rfl) (by kernel_rfl) (fun _ _ _ h => h) (Or.inl ⟨by kernel_rfl, ?_⟩) hH ?_
      rotate_left
      · intro W hS
        go_simp
        first | done | with_reducible rfl
      simp only [Act.put, List.getElem_toArray, List.getElem_cons_succ, List.getElem_cons_zero, List.setIfInBounds_toArray, List.set_cons_zero, List.set_cons_succ]
      refine wpAnyH_done (by kernel_rfl) ?_ _
      rename World => w4
      have hHH := hH
      have HB4 := hid (chain2 HB3.out HB3.out.size hHH)
      have LB4 := hid (LB3.out.below hHH)
      have Qe4 := hid (Qe3.out.below hHH)
      clear hHH hH
      clear HB3 LB3 Qe3
      go_wp2_with fail
      go_ret
      exact ⟨rfl, HB4.out⟩
    have hv3 : v ≤ 3 := by omega
    clear hd1 hlast
    have hle : decide ((v : Int) ≤ 3) = true := decide_eq_true (by omega)
    have hle2 : (v : Int) ≤ 3 := by omega
    by_cases hlt : v < 3
    · have hltd : decide ((v : Int) < 3) = true := decide_eq_true (by omega)
      have hltI : (v : Int) < 3 := by omega
      cases hq : fitsE (v : Int) e with
      | false =>
        have cq := hid (fun (W : World) (h : Below w.heap.size w W) => cF.out (v : Int) W hvI h)
        rw [hq] at cq
        have ye0 : w3.cell? ⟨w.heap.size, 0, none⟩ = some (strV e.key) := Qe3.out.cell 0
        have ye1 : w3.cell? ⟨w.heap.size, 1, none⟩ = some (strV e.second) := Qe3.out.cell 1
        have ye2 : w3.cell? ⟨w.heap.size, 2, none⟩ = some ((.slice eno enn enc)) := Qe3.out.cell 2
        have ye3 : w3.cell? ⟨w.heap.size, 3, none⟩ = some (.int .i64 e.asked) := Qe3.out.cell 3
        have ye4 : w3.cell? ⟨w.heap.size, 4, none⟩ = some (.int .i64 e.came) := Qe3.out.cell 4
        have ye5 : w3.cell? ⟨w.heap.size, 5, none⟩ = some (.int .i64 e.status) := Qe3.out.cell 5
        have ye6 : w3.cell? ⟨w.heap.size, 6, none⟩ = some ((.slice efo efn efc)) := Qe3.out.cell 6
        have ye7 : w3.cell? ⟨w.heap.size, 7, none⟩ = some ((.slice ebo ebn ebc)) := Qe3.out.cell 7
        have ye8 : w3.cell? ⟨w.heap.size, 8, none⟩ = some (.int .i64 e.gen) := Qe3.out.cell 8
        go_wp2_with fail
        refine (cq.out _ HB3.out).mono ?_
        rintro x4 w4 ⟨rfl, hb⟩
        have HB4 := hid (chain2 HB3.out HB3.out.size hb)
        have LB4 := hid (LB3.out.below hb)
        have Qe4 := hid (Qe3.out.below hb)
        clear ye0 ye1 ye2 ye3 ye4 ye5 ye6 ye7 ye8
        clear hb
        clear HB3 LB3 Qe3
        clear cq hltd hltI hlt hq
        rename World => w50
        have HB50 := HB4
        have LB50 := LB4
        have Qe50 := Qe4
        clear HB4 LB4 Qe4
        have ye0 : w50.cell? ⟨w.heap.size, 0, none⟩ = some (strV e.key) := Qe50.out.cell 0
        have ye1 : w50.cell? ⟨w.heap.size, 1, none⟩ = some (strV e.second) := Qe50.out.cell 1
        have ye2 : w50.cell? ⟨w.heap.size, 2, none⟩ = some ((.slice eno enn enc)) := Qe50.out.cell 2
        have ye3 : w50.cell? ⟨w.heap.size, 3, none⟩ = some (.int .i64 e.asked) := Qe50.out.cell 3
        have ye4 : w50.cell? ⟨w.heap.size, 4, none⟩ = some (.int .i64 e.came) := Qe50.out.cell 4
        have ye5 : w50.cell? ⟨w.heap.size, 5, none⟩ = some (.int .i64 e.status) := Qe50.out.cell 5
        have ye6 : w50.cell? ⟨w.heap.size, 6, none⟩ = some ((.slice efo efn efc)) := Qe50.out.cell 6
        have ye7 : w50.cell? ⟨w.heap.size, 7, none⟩ = some ((.slice ebo ebn ebc)) := Qe50.out.cell 7
        have ye8 : w50.cell? ⟨w.heap.size, 8, none⟩ = some (.int .i64 e.gen) := Qe50.out.cell 8
        go_wp2_with fail
        refine (cE.out (v : Int) _ hvI HB50.out).mono ?_
        rintro x51 w51 ⟨⟨r, rfl, hor⟩, hb⟩
        obtain ⟨rg, rc, hra⟩ := own_form14 hor
        obtain ⟨n, hn⟩ : ∃ n, (encB (v : Int) e).length = n := ⟨_, rfl⟩
        rw [hn] at hra
        subst hra
        clear hn
        have HB51 := hid (chain2 HB50.out HB50.out.size hb)
        have LB51 := hid (LB50.out.below hb)
        have Qe51 := hid (Qe50.out.below hb)
        have O51 := hid (hor)
        clear hor
        clear ye0 ye1 ye2 ye3 ye4 ye5 ye6 ye7 ye8
        clear hb
        clear HB50 LB50 Qe50
        by_cases hz : encC (v : Int) e = 0
        rotate_left
        · have z1 : (encC (v : Int) e == 0) = false := by rw [beq_eq_false_iff_ne]; exact hz
          have z2 : (encC (v : Int) e != 0) = true := by rw [bne, z1]; rfl
          go_wp2_with fail
          go_roundw
          case rel => exact ⟨v + 1, by go_num, by omega, by omega, LB51.out.b⟩
          case measure => simp [intOf]; omega
        have HT := hid (fun z : Int => turn_enc hz z)
        have HZ := hid hz
        have z1 : (encC (v : Int) e == 0) = true := by rw [hz]; rfl
        have z2 : (encC (v : Int) e != 0) = false := by rw [hz]; rfl
        clear hz
        go_wp2_with fail
        go_loopw [6] (fun i wr => ∃ u : Nat, i = .int .i64 (u : Int) ∧ 1 ≤ u ∧ u ≤ 4 ∧ Below w51.heap.size w51 wr) (fun i _ => 4 - (intOf i).toNat)
        case atStart => exact ⟨1, rfl, by decide, by decide, Below.refl _ _⟩
        case round =>
          obtain ⟨u, rfl, hu1, hu4, hbr⟩ := hrel
          rename World => w52
          have hHH := hbr
          have HB52 := hid (chain2 HB51.out HB51.out.size hHH)
          have LB52 := hid (LB51.out.below hHH)
          have O52 := hid (O51.out.below hHH)
          have Qe52 := hid (Qe51.out.below hHH)
          clear hHH
          have IB52 := hid (Since.mk hbr)
          clear hbr z1 z2
          have huI : In14 (u : Int) := ⟨by omega, by omega⟩
          have huw : IntKind.i64.wrap ((u : Int) + 1) = (u : Int) + 1 := IntWalk.i64_in _ (by omega)
          by_cases hul : ¬ u ≤ 3
          · have hue : decide ((u : Int) ≤ 3) = false := decide_eq_false (by omega)
            have hue2 : ¬ (u : Int) ≤ 3 := by omega
            go_wp2_with fail
            go_roundw
            case rel => exact ⟨v + 1, by go_num, by omega, by omega, LB52.out.b⟩
            case measure => simp [intOf]; omega
          have hu3 : u ≤ 3 := by omega
          have hue : decide ((u : Int) ≤ 3) = true := decide_eq_true (by omega)
          have hue2 : (u : Int) ≤ 3 := by omega
          clear hul
          have ye0 : w52.cell? ⟨w.heap.size, 0, none⟩ = some (strV e.key) := Qe52.out.cell 0
          have ye1 : w52.cell? ⟨w.heap.size, 1, none⟩ = some (strV e.second) := Qe52.out.cell 1
          have ye2 : w52.cell? ⟨w.heap.size, 2, none⟩ = some ((.slice eno enn enc)) := Qe52.out.cell 2
          have ye3 : w52.cell? ⟨w.heap.size, 3, none⟩ = some (.int .i64 e.asked) := Qe52.out.cell 3
          have ye4 : w52.cell? ⟨w.heap.size, 4, none⟩ = some (.int .i64 e.came) := Qe52.out.cell 4
          have ye5 : w52.cell? ⟨w.heap.size, 5, none⟩ = some (.int .i64 e.status) := Qe52.out.cell 5
          have ye6 : w52.cell? ⟨w.heap.size, 6, none⟩ = some ((.slice efo efn efc)) := Qe52.out.cell 6
          have ye7 : w52.cell? ⟨w.heap.size, 7, none⟩ = some ((.slice ebo ebn ebc)) := Qe52.out.cell 7
          have ye8 : w52.cell? ⟨w.heap.size, 8, none⟩ = some (.int .i64 e.gen) := Qe52.out.cell 8
          go_wp2_with fail
          refine (cT.out (u : Int) _ (encB (v : Int) e) _ huI HB52.out (ownsRow_bytes O52.out) (Nat.le_trans enc_len (by decide))).mono ?_
          rintro x53 w53 ⟨⟨c, rfl, hby⟩, hb⟩
          rw [(HT.out (u : Int)).2] at hby
          rw [(HT.out (u : Int)).1]
          obtain ⟨cg, cc, hcf, hcc⟩ := bytes_form hby
          obtain ⟨cn, hcn⟩ : ∃ n, (encB (u : Int) e).length = n := ⟨_, rfl⟩
          rw [hcn] at hcf
          subst hcf
          have hrd := bytesRead hby
          clear hcn hcc
          have HB53 := hid (chain2 HB52.out HB52.out.size hb)
          have LB53 := hid (LB52.out.below hb)
          have O53 := hid (O52.out.below hb)
          have IB53 := hid (IB52.out.below hb)
          have Qe53 := hid (Qe52.out.below hb)
          have C53 := hid (hby)
          have CR53 := hid (hrd)
          clear hby hrd
          clear ye0 ye1 ye2 ye3 ye4 ye5 ye6 ye7 ye8
          clear hb
          clear HB52 LB52 O52 IB52 Qe52
          by_cases hg : encC (u : Int) e = 0
          rotate_left
          · have z1 : (encC (u : Int) e == 0) = false := by rw [beq_eq_false_iff_ne]; exact hg
            have z2 : (encC (u : Int) e != 0) = true := by rw [bne, z1]; rfl
            go_wp2_with fail
            go_roundw
            case rel => exact ⟨u + 1, by go_num, by omega, by omega, IB53.out.b⟩
            case measure => simp [intOf]; omega
          have z1 : (encC (u : Int) e == 0) = true := by rw [hg]; rfl
          have z2 : (encC (u : Int) e != 0) = false := by rw [hg]; rfl
          have HU := hid (turn_enc hg (v : Int))
          clear hg
          have ye0 : w53.cell? ⟨w.heap.size, 0, none⟩ = some (strV e.key) := Qe53.out.cell 0
          have ye1 : w53.cell? ⟨w.heap.size, 1, none⟩ = some (strV e.second) := Qe53.out.cell 1
          have ye2 : w53.cell? ⟨w.heap.size, 2, none⟩ = some ((.slice eno enn enc)) := Qe53.out.cell 2
          have ye3 : w53.cell? ⟨w.heap.size, 3, none⟩ = some (.int .i64 e.asked) := Qe53.out.cell 3
          have ye4 : w53.cell? ⟨w.heap.size, 4, none⟩ = some (.int .i64 e.came) := Qe53.out.cell 4
          have ye5 : w53.cell? ⟨w.heap.size, 5, none⟩ = some (.int .i64 e.status) := Qe53.out.cell 5
          have ye6 : w53.cell? ⟨w.heap.size, 6, none⟩ = some ((.slice efo efn efc)) := Qe53.out.cell 6
          have ye7 : w53.cell? ⟨w.heap.size, 7, none⟩ = some ((.slice ebo ebn ebc)) := Qe53.out.cell 7
          have ye8 : w53.cell? ⟨w.heap.size, 8, none⟩ = some (.int .i64 e.gen) := Qe53.out.cell 8
          go_wp2_with fail
          refine (cT.out (v : Int) _ (encB (u : Int) e) _ hvI HB53.out C53.out (Nat.le_trans enc_len (by decide))).mono ?_
          rintro x54 w54 ⟨⟨d, rfl, hby⟩, hb⟩
          rw [HU.out.2] at hby
          rw [HU.out.1]
          obtain ⟨dg, dc, hdf, hdc⟩ := bytes_form hby
          obtain ⟨dn, hdn⟩ : ∃ n, (encB (v : Int) e).length = n := ⟨_, rfl⟩
          rw [hdn] at hdf
          subst hdf
          have hrd := bytesRead hby
          clear hdn hdc hby
          have HB54 := hid (chain2 HB53.out HB53.out.size hb)
          have LB54 := hid (LB53.out.below hb)
          have O54 := hid (O53.out.below hb)
          have IB54 := hid (IB53.out.below hb)
          have CR54 := hid (CR53.out.below hb)
          have Qe54 := hid (Qe53.out.below hb)
          have DR54 := hid (hrd)
          clear hrd
          clear ye0 ye1 ye2 ye3 ye4 ye5 ye6 ye7 ye8
          clear hb
          clear HB53 LB53 O53 IB53 CR53 Qe53
          have hva := reads_string (P := Tryd.prog) DR54.out 25 9 5 Tryd.underlying25 Tryd.underlying5 Tryd.underlying9
          have hvb := reads_string (P := Tryd.prog) (ownsRow_bytes O54.out |> bytesRead) 25 9 5 Tryd.underlying25 Tryd.underlying5 Tryd.underlying9
          have z3 : (encC (v : Int) e == 0) = true := by rw [HZ.out]; rfl
          have z4 : (encC (v : Int) e != 0) = false := by rw [HZ.out]; rfl
          generalize encB (v : Int) e = DD at hva hvb
          have hdd : (DD == DD) = true := beq_self_eq_true DD
          have hdd2 : (DD != DD) = false := by rw [bne, hdd]; rfl
          go_wp2_with fail
          go_roundw
          case rel => exact ⟨u + 1, by go_num, by omega, by omega, IB54.out.b⟩
          case measure => simp [intOf]; omega
      | true =>
        have cq := hid (fun (W : World) (h : Below w.heap.size w W) => cF.out (v : Int) W hvI h)
        rw [hq] at cq
        have hq2 := fits_up hq (by omega)
        have cq2 := hid (fun (W : World) (h : Below w.heap.size w W) => cF.out ((v : Int) + 1) W hvI1 h)
        rw [hq2] at cq2
        have ye0 : w3.cell? ⟨w.heap.size, 0, none⟩ = some (strV e.key) := Qe3.out.cell 0
        have ye1 : w3.cell? ⟨w.heap.size, 1, none⟩ = some (strV e.second) := Qe3.out.cell 1
        have ye2 : w3.cell? ⟨w.heap.size, 2, none⟩ = some ((.slice eno enn enc)) := Qe3.out.cell 2
        have ye3 : w3.cell? ⟨w.heap.size, 3, none⟩ = some (.int .i64 e.asked) := Qe3.out.cell 3
        have ye4 : w3.cell? ⟨w.heap.size, 4, none⟩ = some (.int .i64 e.came) := Qe3.out.cell 4
        have ye5 : w3.cell? ⟨w.heap.size, 5, none⟩ = some (.int .i64 e.status) := Qe3.out.cell 5
        have ye6 : w3.cell? ⟨w.heap.size, 6, none⟩ = some ((.slice efo efn efc)) := Qe3.out.cell 6
        have ye7 : w3.cell? ⟨w.heap.size, 7, none⟩ = some ((.slice ebo ebn ebc)) := Qe3.out.cell 7
        have ye8 : w3.cell? ⟨w.heap.size, 8, none⟩ = some (.int .i64 e.gen) := Qe3.out.cell 8
        go_wp2_with fail
        refine (cq.out _ HB3.out).mono ?_
        rintro x4 w4 ⟨rfl, hb⟩
        have HB4 := hid (chain2 HB3.out HB3.out.size hb)
        have LB4 := hid (LB3.out.below hb)
        have Qe4 := hid (Qe3.out.below hb)
        clear ye0 ye1 ye2 ye3 ye4 ye5 ye6 ye7 ye8
        clear hb
        clear HB3 LB3 Qe3
        have ye0 : w4.cell? ⟨w.heap.size, 0, none⟩ = some (strV e.key) := Qe4.out.cell 0
        have ye1 : w4.cell? ⟨w.heap.size, 1, none⟩ = some (strV e.second) := Qe4.out.cell 1
        have ye2 : w4.cell? ⟨w.heap.size, 2, none⟩ = some ((.slice eno enn enc)) := Qe4.out.cell 2
        have ye3 : w4.cell? ⟨w.heap.size, 3, none⟩ = some (.int .i64 e.asked) := Qe4.out.cell 3
        have ye4 : w4.cell? ⟨w.heap.size, 4, none⟩ = some (.int .i64 e.came) := Qe4.out.cell 4
        have ye5 : w4.cell? ⟨w.heap.size, 5, none⟩ = some (.int .i64 e.status) := Qe4.out.cell 5
        have ye6 : w4.cell? ⟨w.heap.size, 6, none⟩ = some ((.slice efo efn efc)) := Qe4.out.cell 6
        have ye7 : w4.cell? ⟨w.heap.size, 7, none⟩ = some ((.slice ebo ebn ebc)) := Qe4.out.cell 7
        have ye8 : w4.cell? ⟨w.heap.size, 8, none⟩ = some (.int .i64 e.gen) := Qe4.out.cell 8
        go_wp2_with fail
        refine (cq2.out _ HB4.out).mono ?_
        rintro x5 w5 ⟨rfl, hb⟩
        have HB5 := hid (chain2 HB4.out HB4.out.size hb)
        have LB5 := hid (LB4.out.below hb)
        have Qe5 := hid (Qe4.out.below hb)
        clear ye0 ye1 ye2 ye3 ye4 ye5 ye6 ye7 ye8
        clear hb
        clear HB4 LB4 Qe4
        clear cq cq2 hltd hltI hlt hq hq2
        rename World => w50
        have HB50 := HB5
        have LB50 := LB5
        have Qe50 := Qe5
        clear HB5 LB5 Qe5
        have ye0 : w50.cell? ⟨w.heap.size, 0, none⟩ = some (strV e.key) := Qe50.out.cell 0
        have ye1 : w50.cell? ⟨w.heap.size, 1, none⟩ = some (strV e.second) := Qe50.out.cell 1
        have ye2 : w50.cell? ⟨w.heap.size, 2, none⟩ = some ((.slice eno enn enc)) := Qe50.out.cell 2
        have ye3 : w50.cell? ⟨w.heap.size, 3, none⟩ = some (.int .i64 e.asked) := Qe50.out.cell 3
        have ye4 : w50.cell? ⟨w.heap.size, 4, none⟩ = some (.int .i64 e.came) := Qe50.out.cell 4
        have ye5 : w50.cell? ⟨w.heap.size, 5, none⟩ = some (.int .i64 e.status) := Qe50.out.cell 5
        have ye6 : w50.cell? ⟨w.heap.size, 6, none⟩ = some ((.slice efo efn efc)) := Qe50.out.cell 6
        have ye7 : w50.cell? ⟨w.heap.size, 7, none⟩ = some ((.slice ebo ebn ebc)) := Qe50.out.cell 7
        have ye8 : w50.cell? ⟨w.heap.size, 8, none⟩ = some (.int .i64 e.gen) := Qe50.out.cell 8
        go_wp2_with fail
        refine (cE.out (v : Int) _ hvI HB50.out).mono ?_
        rintro x51 w51 ⟨⟨r, rfl, hor⟩, hb⟩
        obtain ⟨rg, rc, hra⟩ := own_form14 hor
        obtain ⟨n, hn⟩ : ∃ n, (encB (v : Int) e).length = n := ⟨_, rfl⟩
        rw [hn] at hra
        subst hra
        clear hn
        have HB51 := hid (chain2 HB50.out HB50.out.size hb)
        have LB51 := hid (LB50.out.below hb)
        have Qe51 := hid (Qe50.out.below hb)
        have O51 := hid (hor)
        clear hor
        clear ye0 ye1 ye2 ye3 ye4 ye5 ye6 ye7 ye8
        clear hb
        clear HB50 LB50 Qe50
        by_cases hz : encC (v : Int) e = 0
        rotate_left
        · have z1 : (encC (v : Int) e == 0) = false := by rw [beq_eq_false_iff_ne]; exact hz
          have z2 : (encC (v : Int) e != 0) = true := by rw [bne, z1]; rfl
          go_wp2_with fail
          go_roundw
          case rel => exact ⟨v + 1, by go_num, by omega, by omega, LB51.out.b⟩
          case measure => simp [intOf]; omega
        have HT := hid (fun z : Int => turn_enc hz z)
        have HZ := hid hz
        have z1 : (encC (v : Int) e == 0) = true := by rw [hz]; rfl
        have z2 : (encC (v : Int) e != 0) = false := by rw [hz]; rfl
        clear hz
        go_wp2_with fail
        go_loopw [6] (fun i wr => ∃ u : Nat, i = .int .i64 (u : Int) ∧ 1 ≤ u ∧ u ≤ 4 ∧ Below w51.heap.size w51 wr) (fun i _ => 4 - (intOf i).toNat)
        case atStart => exact ⟨1, rfl, by decide, by decide, Below.refl _ _⟩
        case round =>
          obtain ⟨u, rfl, hu1, hu4, hbr⟩ := hrel
          rename World => w52
          have hHH := hbr
          have HB52 := hid (chain2 HB51.out HB51.out.size hHH)
          have LB52 := hid (LB51.out.below hHH)
          have O52 := hid (O51.out.below hHH)
          have Qe52 := hid (Qe51.out.below hHH)
          clear hHH
          have IB52 := hid (Since.mk hbr)
          clear hbr z1 z2
          have huI : In14 (u : Int) := ⟨by omega, by omega⟩
          have huw : IntKind.i64.wrap ((u : Int) + 1) = (u : Int) + 1 := IntWalk.i64_in _ (by omega)
          by_cases hul : ¬ u ≤ 3
          · have hue : decide ((u : Int) ≤ 3) = false := decide_eq_false (by omega)
            have hue2 : ¬ (u : Int) ≤ 3 := by omega
            go_wp2_with fail
            go_roundw
            case rel => exact ⟨v + 1, by go_num, by omega, by omega, LB52.out.b⟩
            case measure => simp [intOf]; omega
          have hu3 : u ≤ 3 := by omega
          have hue : decide ((u : Int) ≤ 3) = true := decide_eq_true (by omega)
          have hue2 : (u : Int) ≤ 3 := by omega
          clear hul
          have ye0 : w52.cell? ⟨w.heap.size, 0, none⟩ = some (strV e.key) := Qe52.out.cell 0
          have ye1 : w52.cell? ⟨w.heap.size, 1, none⟩ = some (strV e.second) := Qe52.out.cell 1
          have ye2 : w52.cell? ⟨w.heap.size, 2, none⟩ = some ((.slice eno enn enc)) := Qe52.out.cell 2
          have ye3 : w52.cell? ⟨w.heap.size, 3, none⟩ = some (.int .i64 e.asked) := Qe52.out.cell 3
          have ye4 : w52.cell? ⟨w.heap.size, 4, none⟩ = some (.int .i64 e.came) := Qe52.out.cell 4
          have ye5 : w52.cell? ⟨w.heap.size, 5, none⟩ = some (.int .i64 e.status) := Qe52.out.cell 5
          have ye6 : w52.cell? ⟨w.heap.size, 6, none⟩ = some ((.slice efo efn efc)) := Qe52.out.cell 6
          have ye7 : w52.cell? ⟨w.heap.size, 7, none⟩ = some ((.slice ebo ebn ebc)) := Qe52.out.cell 7
          have ye8 : w52.cell? ⟨w.heap.size, 8, none⟩ = some (.int .i64 e.gen) := Qe52.out.cell 8
          go_wp2_with fail
          refine (cT.out (u : Int) _ (encB (v : Int) e) _ huI HB52.out (ownsRow_bytes O52.out) (Nat.le_trans enc_len (by decide))).mono ?_
          rintro x53 w53 ⟨⟨c, rfl, hby⟩, hb⟩
          rw [(HT.out (u : Int)).2] at hby
          rw [(HT.out (u : Int)).1]
          obtain ⟨cg, cc, hcf, hcc⟩ := bytes_form hby
          obtain ⟨cn, hcn⟩ : ∃ n, (encB (u : Int) e).length = n := ⟨_, rfl⟩
          rw [hcn] at hcf
          subst hcf
          have hrd := bytesRead hby
          clear hcn hcc
          have HB53 := hid (chain2 HB52.out HB52.out.size hb)
          have LB53 := hid (LB52.out.below hb)
          have O53 := hid (O52.out.below hb)
          have IB53 := hid (IB52.out.below hb)
          have Qe53 := hid (Qe52.out.below hb)
          have C53 := hid (hby)
          have CR53 := hid (hrd)
          clear hby hrd
          clear ye0 ye1 ye2 ye3 ye4 ye5 ye6 ye7 ye8
          clear hb
          clear HB52 LB52 O52 IB52 Qe52
          by_cases hg : encC (u : Int) e = 0
          rotate_left
          · have z1 : (encC (u : Int) e == 0) = false := by rw [beq_eq_false_iff_ne]; exact hg
            have z2 : (encC (u : Int) e != 0) = true := by rw [bne, z1]; rfl
            go_wp2_with fail
            go_roundw
            case rel => exact ⟨u + 1, by go_num, by omega, by omega, IB53.out.b⟩
            case measure => simp [intOf]; omega
          have z1 : (encC (u : Int) e == 0) = true := by rw [hg]; rfl
          have z2 : (encC (u : Int) e != 0) = false := by rw [hg]; rfl
          have HU := hid (turn_enc hg (v : Int))
          clear hg
          have ye0 : w53.cell? ⟨w.heap.size, 0, none⟩ = some (strV e.key) := Qe53.out.cell 0
          have ye1 : w53.cell? ⟨w.heap.size, 1, none⟩ = some (strV e.second) := Qe53.out.cell 1
          have ye2 : w53.cell? ⟨w.heap.size, 2, none⟩ = some ((.slice eno enn enc)) := Qe53.out.cell 2
          have ye3 : w53.cell? ⟨w.heap.size, 3, none⟩ = some (.int .i64 e.asked) := Qe53.out.cell 3
          have ye4 : w53.cell? ⟨w.heap.size, 4, none⟩ = some (.int .i64 e.came) := Qe53.out.cell 4
          have ye5 : w53.cell? ⟨w.heap.size, 5, none⟩ = some (.int .i64 e.status) := Qe53.out.cell 5
          have ye6 : w53.cell? ⟨w.heap.size, 6, none⟩ = some ((.slice efo efn efc)) := Qe53.out.cell 6
          have ye7 : w53.cell? ⟨w.heap.size, 7, none⟩ = some ((.slice ebo ebn ebc)) := Qe53.out.cell 7
          have ye8 : w53.cell? ⟨w.heap.size, 8, none⟩ = some (.int .i64 e.gen) := Qe53.out.cell 8
          go_wp2_with fail
          refine (cT.out (v : Int) _ (encB (u : Int) e) _ hvI HB53.out C53.out (Nat.le_trans enc_len (by decide))).mono ?_
          rintro x54 w54 ⟨⟨d, rfl, hby⟩, hb⟩
          rw [HU.out.2] at hby
          rw [HU.out.1]
          obtain ⟨dg, dc, hdf, hdc⟩ := bytes_form hby
          obtain ⟨dn, hdn⟩ : ∃ n, (encB (v : Int) e).length = n := ⟨_, rfl⟩
          rw [hdn] at hdf
          subst hdf
          have hrd := bytesRead hby
          clear hdn hdc hby
          have HB54 := hid (chain2 HB53.out HB53.out.size hb)
          have LB54 := hid (LB53.out.below hb)
          have O54 := hid (O53.out.below hb)
          have IB54 := hid (IB53.out.below hb)
          have CR54 := hid (CR53.out.below hb)
          have Qe54 := hid (Qe53.out.below hb)
          have DR54 := hid (hrd)
          clear hrd
          clear ye0 ye1 ye2 ye3 ye4 ye5 ye6 ye7 ye8
          clear hb
          clear HB53 LB53 O53 IB53 CR53 Qe53
          have hva := reads_string (P := Tryd.prog) DR54.out 25 9 5 Tryd.underlying25 Tryd.underlying5 Tryd.underlying9
          have hvb := reads_string (P := Tryd.prog) (ownsRow_bytes O54.out |> bytesRead) 25 9 5 Tryd.underlying25 Tryd.underlying5 Tryd.underlying9
          have z3 : (encC (v : Int) e == 0) = true := by rw [HZ.out]; rfl
          have z4 : (encC (v : Int) e != 0) = false := by rw [HZ.out]; rfl
          generalize encB (v : Int) e = DD at hva hvb
          have hdd : (DD == DD) = true := beq_self_eq_true DD
          have hdd2 : (DD != DD) = false := by rw [bne, hdd]; rfl
          go_wp2_with fail
          go_roundw
          case rel => exact ⟨u + 1, by go_num, by omega, by omega, IB54.out.b⟩
          case measure => simp [intOf]; omega
    · have hltd : decide ((v : Int) < 3) = false := decide_eq_false (by omega)
      have hltI : ¬ (v : Int) < 3 := by omega
      clear hlt
      rename World => w50
      have HB50 := HB3
      have LB50 := LB3
      have Qe50 := Qe3
      clear HB3 LB3 Qe3
      have ye0 : w50.cell? ⟨w.heap.size, 0, none⟩ = some (strV e.key) := Qe50.out.cell 0
      have ye1 : w50.cell? ⟨w.heap.size, 1, none⟩ = some (strV e.second) := Qe50.out.cell 1
      have ye2 : w50.cell? ⟨w.heap.size, 2, none⟩ = some ((.slice eno enn enc)) := Qe50.out.cell 2
      have ye3 : w50.cell? ⟨w.heap.size, 3, none⟩ = some (.int .i64 e.asked) := Qe50.out.cell 3
      have ye4 : w50.cell? ⟨w.heap.size, 4, none⟩ = some (.int .i64 e.came) := Qe50.out.cell 4
      have ye5 : w50.cell? ⟨w.heap.size, 5, none⟩ = some (.int .i64 e.status) := Qe50.out.cell 5
      have ye6 : w50.cell? ⟨w.heap.size, 6, none⟩ = some ((.slice efo efn efc)) := Qe50.out.cell 6
      have ye7 : w50.cell? ⟨w.heap.size, 7, none⟩ = some ((.slice ebo ebn ebc)) := Qe50.out.cell 7
      have ye8 : w50.cell? ⟨w.heap.size, 8, none⟩ = some (.int .i64 e.gen) := Qe50.out.cell 8
      go_wp2_with fail
      refine (cE.out (v : Int) _ hvI HB50.out).mono ?_
      rintro x51 w51 ⟨⟨r, rfl, hor⟩, hb⟩
      obtain ⟨rg, rc, hra⟩ := own_form14 hor
      obtain ⟨n, hn⟩ : ∃ n, (encB (v : Int) e).length = n := ⟨_, rfl⟩
      rw [hn] at hra
      subst hra
      clear hn
      have HB51 := hid (chain2 HB50.out HB50.out.size hb)
      have LB51 := hid (LB50.out.below hb)
      have Qe51 := hid (Qe50.out.below hb)
      have O51 := hid (hor)
      clear hor
      clear ye0 ye1 ye2 ye3 ye4 ye5 ye6 ye7 ye8
      clear hb
      clear HB50 LB50 Qe50
      by_cases hz : encC (v : Int) e = 0
      rotate_left
      · have z1 : (encC (v : Int) e == 0) = false := by rw [beq_eq_false_iff_ne]; exact hz
        have z2 : (encC (v : Int) e != 0) = true := by rw [bne, z1]; rfl
        go_wp2_with fail
        go_roundw
        case rel => exact ⟨v + 1, by go_num, by omega, by omega, LB51.out.b⟩
        case measure => simp [intOf]; omega
      have HT := hid (fun z : Int => turn_enc hz z)
      have HZ := hid hz
      have z1 : (encC (v : Int) e == 0) = true := by rw [hz]; rfl
      have z2 : (encC (v : Int) e != 0) = false := by rw [hz]; rfl
      clear hz
      go_wp2_with fail
      go_loopw [6] (fun i wr => ∃ u : Nat, i = .int .i64 (u : Int) ∧ 1 ≤ u ∧ u ≤ 4 ∧ Below w51.heap.size w51 wr) (fun i _ => 4 - (intOf i).toNat)
      case atStart => exact ⟨1, rfl, by decide, by decide, Below.refl _ _⟩
      case round =>
        obtain ⟨u, rfl, hu1, hu4, hbr⟩ := hrel
        rename World => w52
        have hHH := hbr
        have HB52 := hid (chain2 HB51.out HB51.out.size hHH)
        have LB52 := hid (LB51.out.below hHH)
        have O52 := hid (O51.out.below hHH)
        have Qe52 := hid (Qe51.out.below hHH)
        clear hHH
        have IB52 := hid (Since.mk hbr)
        clear hbr z1 z2
        have huI : In14 (u : Int) := ⟨by omega, by omega⟩
        have huw : IntKind.i64.wrap ((u : Int) + 1) = (u : Int) + 1 := IntWalk.i64_in _ (by omega)
        by_cases hul : ¬ u ≤ 3
        · have hue : decide ((u : Int) ≤ 3) = false := decide_eq_false (by omega)
          have hue2 : ¬ (u : Int) ≤ 3 := by omega
          go_wp2_with fail
          go_roundw
          case rel => exact ⟨v + 1, by go_num, by omega, by omega, LB52.out.b⟩
          case measure => simp [intOf]; omega
        have hu3 : u ≤ 3 := by omega
        have hue : decide ((u : Int) ≤ 3) = true := decide_eq_true (by omega)
        have hue2 : (u : Int) ≤ 3 := by omega
        clear hul
        have ye0 : w52.cell? ⟨w.heap.size, 0, none⟩ = some (strV e.key) := Qe52.out.cell 0
        have ye1 : w52.cell? ⟨w.heap.size, 1, none⟩ = some (strV e.second) := Qe52.out.cell 1
        have ye2 : w52.cell? ⟨w.heap.size, 2, none⟩ = some ((.slice eno enn enc)) := Qe52.out.cell 2
        have ye3 : w52.cell? ⟨w.heap.size, 3, none⟩ = some (.int .i64 e.asked) := Qe52.out.cell 3
        have ye4 : w52.cell? ⟨w.heap.size, 4, none⟩ = some (.int .i64 e.came) := Qe52.out.cell 4
        have ye5 : w52.cell? ⟨w.heap.size, 5, none⟩ = some (.int .i64 e.status) := Qe52.out.cell 5
        have ye6 : w52.cell? ⟨w.heap.size, 6, none⟩ = some ((.slice efo efn efc)) := Qe52.out.cell 6
        have ye7 : w52.cell? ⟨w.heap.size, 7, none⟩ = some ((.slice ebo ebn ebc)) := Qe52.out.cell 7
        have ye8 : w52.cell? ⟨w.heap.size, 8, none⟩ = some (.int .i64 e.gen) := Qe52.out.cell 8
        go_wp2_with fail
        refine (cT.out (u : Int) _ (encB (v : Int) e) _ huI HB52.out (ownsRow_bytes O52.out) (Nat.le_trans enc_len (by decide))).mono ?_
        rintro x53 w53 ⟨⟨c, rfl, hby⟩, hb⟩
        rw [(HT.out (u : Int)).2] at hby
        rw [(HT.out (u : Int)).1]
        obtain ⟨cg, cc, hcf, hcc⟩ := bytes_form hby
        obtain ⟨cn, hcn⟩ : ∃ n, (encB (u : Int) e).length = n := ⟨_, rfl⟩
        rw [hcn] at hcf
        subst hcf
        have hrd := bytesRead hby
        clear hcn hcc
        have HB53 := hid (chain2 HB52.out HB52.out.size hb)
        have LB53 := hid (LB52.out.below hb)
        have O53 := hid (O52.out.below hb)
        have IB53 := hid (IB52.out.below hb)
        have Qe53 := hid (Qe52.out.below hb)
        have C53 := hid (hby)
        have CR53 := hid (hrd)
        clear hby hrd
        clear ye0 ye1 ye2 ye3 ye4 ye5 ye6 ye7 ye8
        clear hb
        clear HB52 LB52 O52 IB52 Qe52
        by_cases hg : encC (u : Int) e = 0
        rotate_left
        · have z1 : (encC (u : Int) e == 0) = false := by rw [beq_eq_false_iff_ne]; exact hg
          have z2 : (encC (u : Int) e != 0) = true := by rw [bne, z1]; rfl
          go_wp2_with fail
          go_roundw
          case rel => exact ⟨u + 1, by go_num, by omega, by omega, IB53.out.b⟩
          case measure => simp [intOf]; omega
        have z1 : (encC (u : Int) e == 0) = true := by rw [hg]; rfl
        have z2 : (encC (u : Int) e != 0) = false := by rw [hg]; rfl
        have HU := hid (turn_enc hg (v : Int))
        clear hg
        have ye0 : w53.cell? ⟨w.heap.size, 0, none⟩ = some (strV e.key) := Qe53.out.cell 0
        have ye1 : w53.cell? ⟨w.heap.size, 1, none⟩ = some (strV e.second) := Qe53.out.cell 1
        have ye2 : w53.cell? ⟨w.heap.size, 2, none⟩ = some ((.slice eno enn enc)) := Qe53.out.cell 2
        have ye3 : w53.cell? ⟨w.heap.size, 3, none⟩ = some (.int .i64 e.asked) := Qe53.out.cell 3
        have ye4 : w53.cell? ⟨w.heap.size, 4, none⟩ = some (.int .i64 e.came) := Qe53.out.cell 4
        have ye5 : w53.cell? ⟨w.heap.size, 5, none⟩ = some (.int .i64 e.status) := Qe53.out.cell 5
        have ye6 : w53.cell? ⟨w.heap.size, 6, none⟩ = some ((.slice efo efn efc)) := Qe53.out.cell 6
        have ye7 : w53.cell? ⟨w.heap.size, 7, none⟩ = some ((.slice ebo ebn ebc)) := Qe53.out.cell 7
        have ye8 : w53.cell? ⟨w.heap.size, 8, none⟩ = some (.int .i64 e.gen) := Qe53.out.cell 8
        go_wp2_with fail
        refine (cT.out (v : Int) _ (encB (u : Int) e) _ hvI HB53.out C53.out (Nat.le_trans enc_len (by decide))).mono ?_
        rintro x54 w54 ⟨⟨d, rfl, hby⟩, hb⟩
        rw [HU.out.2] at hby
        rw [HU.out.1]
        obtain ⟨dg, dc, hdf, hdc⟩ := bytes_form hby
        obtain ⟨dn, hdn⟩ : ∃ n, (encB (v : Int) e).length = n := ⟨_, rfl⟩
        rw [hdn] at hdf
        subst hdf
        have hrd := bytesRead hby
        clear hdn hdc hby
        have HB54 := hid (chain2 HB53.out HB53.out.size hb)
        have LB54 := hid (LB53.out.below hb)
        have O54 := hid (O53.out.below hb)
        have IB54 := hid (IB53.out.below hb)
        have CR54 := hid (CR53.out.below hb)
        have Qe54 := hid (Qe53.out.below hb)
        have DR54 := hid (hrd)
        clear hrd
        clear ye0 ye1 ye2 ye3 ye4 ye5 ye6 ye7 ye8
        clear hb
        clear HB53 LB53 O53 IB53 CR53 Qe53
        have hva := reads_string (P := Tryd.prog) DR54.out 25 9 5 Tryd.underlying25 Tryd.underlying5 Tryd.underlying9
        have hvb := reads_string (P := Tryd.prog) (ownsRow_bytes O54.out |> bytesRead) 25 9 5 Tryd.underlying25 Tryd.underlying5 Tryd.underlying9
        have z3 : (encC (v : Int) e == 0) = true := by rw [HZ.out]; rfl
        have z4 : (encC (v : Int) e != 0) = false := by rw [HZ.out]; rfl
        generalize encB (v : Int) e = DD at hva hvb
        have hdd : (DD == DD) = true := beq_self_eq_true DD
        have hdd2 : (DD != DD) = false := by rw [bne, hdd]; rfl
        go_wp2_with fail
        go_roundw
        case rel => exact ⟨u + 1, by go_num, by omega, by omega, IB54.out.b⟩
        case measure => simp [intOf]; omega
end Go.Proofs.YtdkhkeffheleeaaDoor
