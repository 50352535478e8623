/-
  Several texts in one: Ref12C, Ref12D, Ref12D2, Ref12E.
-/
import Derived.Test.YtejdlplgkmelkaaGreatDoorF12Ref12B
import Derived.Test.YtejdlplgkmelkaaGreatDoorF1212
import Derived.Test.YtejdlplgkmelkaaGreatDoorF1211
import Derived.Test.YtejdlplgkmelkaaGreatDoorF1203
set_option linter.unusedVariables false
set_option linter.unusedSimpArgs false
/-
  The document's answers of layer 12: told.
-/
namespace Go.Proofs.YtejdlplgkmelkaaGreatDoor
open Go.RowKit Go.Pantry

theorem refOfS_any (v : Value) (l : List Fld) (w : World) (hr : Reads2 w v l) (hs : SmallF l) :
    Calls Tryz.prog 33 #[v] w fun e w' => e = .returned (ctlV (ctlF l)) ∧ Below w.heap.size w w' :=
  refOf_any v l w hr (fun f hf => ⟨Nat.le_trans (hs.name f hf) (by decide), Nat.le_trans (hs.val f hf) (by decide)⟩) (Nat.le_trans hs.len (by decide))
theorem refGetS_any (v : Value) (l : List Fld) (u : List UInt8) (W : World) (h : Reads2 W v l) (hs : SmallF l) (hu : u.length ≤ 100000) :
    Calls Tryz.prog 34 #[v, strV u] W fun e w' => e = .returned (.tuple #[strV (getF l u), .int .i64 ((allF l u).length : Int)]) ∧ Below W.heap.size W w' := by
  have c := refGet_any v l ⟨u.toArray⟩ W h (fun f hf => Nat.lt_of_le_of_lt (hs.name f hf) (by decide)) (fun f hf => Nat.le_trans (hs.val f hf) (by decide)) (Nat.le_trans hs.len (by decide)) (by rw [szL]; omega)
  rw [dtL] at c
  exact c
theorem intO_le {o : Option Nat} (h : ∀ n, o = some n → n ≤ 2147483648) : intO o ≤ 2147483648 := by
  cases o with
  | none => simp [intO]
  | some n => have := h n rfl; simp [intO]; omega
set_option maxRecDepth 8000 in
set_option maxHeartbeats 4000000 in
theorem r12Told_any (v : Value) (l : List Fld) (z : Int) (w : World) (hr : Reads2 w v l) (hs : SmallF l) (hz0 : 0 ≤ z) (hz1 : z ≤ 253402300799) :
    Calls Tryz.prog 38 #[v, .int .i64 z] w fun e w' => e = .returned (.int .i64 (toldF l z)) ∧ Below w.heap.size w w' := by
  have c1 := refOfS_any v l w hr hs
  have C2 := hid (fun (W : World) (h : Below w.heap.size w W) => refDated_any v l nDate W (hr.below h) hs (by decide))
  have C3 := hid (fun (W : World) (h : Below w.heap.size w W) => refGetS_any v l nExpires W (hr.below h) hs (by decide))
  have C4 := hid (fun (W : World) (h : Below w.heap.size w W) => refDated_any v l nExpires W (hr.below h) hs (by decide))
  have C5 := hid (fun (W : World) (h : Below w.heap.size w W) => refDated_any v l nLast W (hr.below h) hs (by decide))
  have hdy := dayF_bd l (isT_of hz0 hz1)
  have hda : dayF l z = (datedF l nDate).getD z := rfl
  have bE : ∀ t, datedF l nExpires = some t → 0 ≤ t ∧ t ≤ 253402300799 := fun t h => readDL_bd h
  have bL : ∀ t, datedF l nLast = some t → 0 ≤ t ∧ t ≤ 253402300799 := fun t h => readDL_bd h
  have hto : toldF l z = if 0 ≤ intO (ctlF l).shared then intO (ctlF l).shared
    else if 0 ≤ intO (ctlF l).maxAge then intO (ctlF l).maxAge
    else if allF l nExpires = [] then
      (match datedF l nLast with
        | some t => if dayF l z < t then 0 else (dayF l z - t) / 10
        | none => 0)
    else
      (match datedF l nExpires with
        | some t => if t < dayF l z then 0 else t - dayF l z
        | none => 0) := rfl
  generalize toldF l z = T at hto ⊢
  generalize datedF l nExpires = dE at C4 bE hto
  generalize datedF l nLast = dL at C5 bL hto
  generalize allF l nExpires = aE at C3 hto
  generalize getF l nExpires = gE at C3
  generalize dayF l z = dd at hdy hda hto
  generalize datedF l nDate = dD at C2 hda
  have e1 : ctlV (ctlF l) = .agg #[.bool (ctlF l).noStore, .bool (ctlF l).noCache, .bool (ctlF l).priv, .bool (ctlF l).pub, .bool (ctlF l).must, .bool (ctlF l).only, .int .i64 (intO (ctlF l).maxAge), .int .i64 (intO (ctlF l).shared), .int .i64 (intO (ctlF l).minFresh), .int .i64 (intO (ctlF l).maxStale)] := rfl
  rw [e1] at c1
  generalize (ctlF l).noStore = k0 at c1
  generalize (ctlF l).noCache = k1 at c1
  generalize (ctlF l).priv = k2 at c1
  generalize (ctlF l).pub = k3 at c1
  generalize (ctlF l).must = k4 at c1
  generalize (ctlF l).only = k5 at c1
  generalize intO (ctlF l).maxAge = i6 at c1 hto
  generalize intO (ctlF l).shared = i7 at c1 hto
  generalize intO (ctlF l).minFresh = i8 at c1
  generalize intO (ctlF l).maxStale = i9 at c1
  have C1 := hid c1
  have HTO := hid hto
  clear c1 hto e1 hr hs
  go_enter Tryz.func38, Tryz.ntmps38
  go_wp2_with fail
  refine C1.out.mono ?_
  rintro e w1 ⟨rfl, hb1⟩
  have HB1 := hid (chain2 hb1 hb1.size (below_alloc w1 (.cells #[.bool k0, .bool k1, .bool k2, .bool k3, .bool k4, .bool k5, .int .i64 i6, .int .i64 i7, .int .i64 i8, .int .i64 i9] 65)))
  clear hb1
  by_cases h7 : 0 ≤ i7
  · have d7 : decide (0 ≤ i7) = true := decide_eq_true h7
    have HT := hid (show T = i7 by rw [HTO.out, if_pos h7])
    go_wp2_with fail
    go_ret
    exact ⟨ret_int HT.out.symm, HB1.out⟩
  have d7 : decide (0 ≤ i7) = false := decide_eq_false h7
  by_cases h6 : 0 ≤ i6
  · have d6 : decide (0 ≤ i6) = true := decide_eq_true h6
    have HT := hid (show T = i6 by rw [HTO.out, if_neg h7, if_pos h6])
    go_wp2_with fail
    go_ret
    exact ⟨ret_int HT.out.symm, HB1.out⟩
  have d6 : decide (0 ≤ i6) = false := decide_eq_false h6
  have HT2 := HTO.out
  rw [if_neg h7, if_neg h6] at HT2
  have HT := hid HT2
  clear HT2 HTO h6 h7
  go_wp2_with fail
  refine (C2.out _ HB1.out).mono ?_
  rintro e w2 ⟨rfl, hb2⟩
  have HB2 := hid (chain2 HB1.out HB1.out.size hb2)
  clear hb2 d6 d7
  cases dD with
  | none =>
    have hz : dd = z := hda
    subst hz
    unfold timeV
    clear hda
    go_wp2_with fail
    refine (C3.out _ HB2.out).mono ?_
    rintro e w3 ⟨rfl, hb3⟩
    have HB3 := hid (chain2 HB2.out HB2.out.size hb3)
    clear hb3
    by_cases hae : aE = []
    · have HT2 := HT.out
      rw [if_pos hae] at HT2
      have HTB := hid HT2
      clear HT2 HT
      rw [hae]
      clear hae
      cases dL with
      | none =>
        go_wp2_with fail
        refine (C5.out _ HB3.out).mono ?_
        rintro e w4 ⟨rfl, hb4⟩
        have HB4 := hid (chain2 HB3.out HB3.out.size hb4)
        unfold timeV
        clear hb4
        go_wp2_with fail
        go_ret
        exact ⟨ret_int HTB.out.symm, HB4.out⟩
      | some tl =>
        have hb := bL tl rfl
        by_cases hlt : dd < tl
        · have dlt : decide (dd < tl) = true := decide_eq_true hlt
          have HR := hid (show T = 0 by have h := HTB.out; simp only at h; rw [h, if_pos hlt])
          go_wp2_with fail
          refine (C5.out _ HB3.out).mono ?_
          rintro e w4 ⟨rfl, hb4⟩
          have HB4 := hid (chain2 HB3.out HB3.out.size hb4)
          unfold timeV
          clear hb4
          go_wp2_with fail
          go_ret
          exact ⟨ret_int HR.out.symm, HB4.out⟩
        · have dlt : decide (dd < tl) = false := decide_eq_false hlt
          have HR := hid (show T = (dd - tl) / 10 by have h := HTB.out; simp only at h; rw [h, if_neg hlt])
          have k1 : IntKind.i64.wrap (dd - tl) = dd - tl := IntWalk.i64_in _ (by omega)
          have k2 : IntKind.i64.wrap ((dd - tl).tdiv 10) = (dd - tl) / 10 := by rw [Int.tdiv_eq_ediv_of_nonneg (by omega)]; exact IntWalk.i64_in _ (by omega)
          go_wp2_with fail
          refine (C5.out _ HB3.out).mono ?_
          rintro e w4 ⟨rfl, hb4⟩
          have HB4 := hid (chain2 HB3.out HB3.out.size hb4)
          unfold timeV
          clear hb4
          go_wp2_with fail
          go_ret
          exact ⟨ret_int HR.out.symm, HB4.out⟩
    · have hal : 0 < aE.length := List.length_pos_iff.2 hae
      obtain ⟨q, hq⟩ : ∃ q, aE.length = q := ⟨_, rfl⟩
      have hqI : (0 : Int) < (q : Int) := by omega
      have hqd : decide ((0 : Int) < (q : Int)) = true := decide_eq_true hqI
      have hqn : decide (0 < q) = true := decide_eq_true (by omega)
      have HT2 := HT.out
      rw [if_neg hae] at HT2
      have HTB := hid HT2
      rw [hq]
      clear HT2 HT hae hal hq
      cases dE with
      | none =>
        go_wp2_with fail
        refine (C4.out _ HB3.out).mono ?_
        rintro e w4 ⟨rfl, hb4⟩
        have HB4 := hid (chain2 HB3.out HB3.out.size hb4)
        unfold timeV
        clear hb4
        go_wp2_with fail
        go_ret
        exact ⟨ret_int HTB.out.symm, HB4.out⟩
      | some te =>
        have hb := bE te rfl
        by_cases hlt : te < dd
        · have dlt : decide (te < dd) = true := decide_eq_true hlt
          have HR := hid (show T = 0 by have h := HTB.out; simp only at h; rw [h, if_pos hlt])
          go_wp2_with fail
          refine (C4.out _ HB3.out).mono ?_
          rintro e w4 ⟨rfl, hb4⟩
          have HB4 := hid (chain2 HB3.out HB3.out.size hb4)
          unfold timeV
          clear hb4
          go_wp2_with fail
          go_ret
          exact ⟨ret_int HR.out.symm, HB4.out⟩
        · have dlt : decide (te < dd) = false := decide_eq_false hlt
          have HR := hid (show T = te - dd by have h := HTB.out; simp only at h; rw [h, if_neg hlt])
          have k1 : IntKind.i64.wrap (te - dd) = te - dd := IntWalk.i64_in _ (by omega)
          go_wp2_with fail
          refine (C4.out _ HB3.out).mono ?_
          rintro e w4 ⟨rfl, hb4⟩
          have HB4 := hid (chain2 HB3.out HB3.out.size hb4)
          unfold timeV
          clear hb4
          go_wp2_with fail
          go_ret
          exact ⟨ret_int HR.out.symm, HB4.out⟩
  | some td =>
    have hz : dd = td := hda
    subst hz
    unfold timeV
    clear hda
    go_wp2_with fail
    refine (C3.out _ HB2.out).mono ?_
    rintro e w3 ⟨rfl, hb3⟩
    have HB3 := hid (chain2 HB2.out HB2.out.size hb3)
    clear hb3
    by_cases hae : aE = []
    · have HT2 := HT.out
      rw [if_pos hae] at HT2
      have HTB := hid HT2
      clear HT2 HT
      rw [hae]
      clear hae
      cases dL with
      | none =>
        go_wp2_with fail
        refine (C5.out _ HB3.out).mono ?_
        rintro e w4 ⟨rfl, hb4⟩
        have HB4 := hid (chain2 HB3.out HB3.out.size hb4)
        unfold timeV
        clear hb4
        go_wp2_with fail
        go_ret
        exact ⟨ret_int HTB.out.symm, HB4.out⟩
      | some tl =>
        have hb := bL tl rfl
        by_cases hlt : dd < tl
        · have dlt : decide (dd < tl) = true := decide_eq_true hlt
          have HR := hid (show T = 0 by have h := HTB.out; simp only at h; rw [h, if_pos hlt])
          go_wp2_with fail
          refine (C5.out _ HB3.out).mono ?_
          rintro e w4 ⟨rfl, hb4⟩
          have HB4 := hid (chain2 HB3.out HB3.out.size hb4)
          unfold timeV
          clear hb4
          go_wp2_with fail
          go_ret
          exact ⟨ret_int HR.out.symm, HB4.out⟩
        · have dlt : decide (dd < tl) = false := decide_eq_false hlt
          have HR := hid (show T = (dd - tl) / 10 by have h := HTB.out; simp only at h; rw [h, if_neg hlt])
          have k1 : IntKind.i64.wrap (dd - tl) = dd - tl := IntWalk.i64_in _ (by omega)
          have k2 : IntKind.i64.wrap ((dd - tl).tdiv 10) = (dd - tl) / 10 := by rw [Int.tdiv_eq_ediv_of_nonneg (by omega)]; exact IntWalk.i64_in _ (by omega)
          go_wp2_with fail
          refine (C5.out _ HB3.out).mono ?_
          rintro e w4 ⟨rfl, hb4⟩
          have HB4 := hid (chain2 HB3.out HB3.out.size hb4)
          unfold timeV
          clear hb4
          go_wp2_with fail
          go_ret
          exact ⟨ret_int HR.out.symm, HB4.out⟩
    · have hal : 0 < aE.length := List.length_pos_iff.2 hae
      obtain ⟨q, hq⟩ : ∃ q, aE.length = q := ⟨_, rfl⟩
      have hqI : (0 : Int) < (q : Int) := by omega
      have hqd : decide ((0 : Int) < (q : Int)) = true := decide_eq_true hqI
      have hqn : decide (0 < q) = true := decide_eq_true (by omega)
      have HT2 := HT.out
      rw [if_neg hae] at HT2
      have HTB := hid HT2
      rw [hq]
      clear HT2 HT hae hal hq
      cases dE with
      | none =>
        go_wp2_with fail
        refine (C4.out _ HB3.out).mono ?_
        rintro e w4 ⟨rfl, hb4⟩
        have HB4 := hid (chain2 HB3.out HB3.out.size hb4)
        unfold timeV
        clear hb4
        go_wp2_with fail
        go_ret
        exact ⟨ret_int HTB.out.symm, HB4.out⟩
      | some te =>
        have hb := bE te rfl
        by_cases hlt : te < dd
        · have dlt : decide (te < dd) = true := decide_eq_true hlt
          have HR := hid (show T = 0 by have h := HTB.out; simp only at h; rw [h, if_pos hlt])
          go_wp2_with fail
          refine (C4.out _ HB3.out).mono ?_
          rintro e w4 ⟨rfl, hb4⟩
          have HB4 := hid (chain2 HB3.out HB3.out.size hb4)
          unfold timeV
          clear hb4
          go_wp2_with fail
          go_ret
          exact ⟨ret_int HR.out.symm, HB4.out⟩
        · have dlt : decide (te < dd) = false := decide_eq_false hlt
          have HR := hid (show T = te - dd by have h := HTB.out; simp only at h; rw [h, if_neg hlt])
          have k1 : IntKind.i64.wrap (te - dd) = te - dd := IntWalk.i64_in _ (by omega)
          go_wp2_with fail
          refine (C4.out _ HB3.out).mono ?_
          rintro e w4 ⟨rfl, hb4⟩
          have HB4 := hid (chain2 HB3.out HB3.out.size hb4)
          unfold timeV
          clear hb4
          go_wp2_with fail
          go_ret
          exact ⟨ret_int HR.out.symm, HB4.out⟩
end Go.Proofs.YtejdlplgkmelkaaGreatDoor
/-
  The document's answers of layer 12: Life, Age.
-/
namespace Go.Proofs.YtejdlplgkmelkaaGreatDoor
open Go.RowKit Go.Pantry

set_option maxRecDepth 8000 in
theorem r12Life_any (no : Option Addr) (n nc : Nat) (s : SiteZ) (v : Value) (l : List Fld) (z : Int) (w : World) (hr : Reads2 w v l) (hs : SmallF l) :
    Calls Tryz.prog 18 #[.agg (rowZ (.slice no n nc) s), v, .int .i64 z] w fun e w' => e = .returned (.int .i64 (lifeF s.min s.max l z)) ∧ Below w.heap.size w w' := by
  obtain ⟨sh, so, lo, hi, sq, sk, heads⟩ := s
  obtain ⟨W, hW⟩ : ∃ W, w.alloc (.cells (rowZ (.slice no n nc) ⟨sh, so, lo, hi, sq, sk, heads⟩) 32) = W := ⟨_, rfl⟩
  have hbW : Below w.heap.size w W := by rw [← hW]; exact below_alloc _ _
  have q1 : rowIs W w.heap.size (rowZ (.slice no n nc) ⟨sh, so, lo, hi, sq, sk, heads⟩) 32 := by rw [← hW]; exact rowIs_new _ _ _
  have HQ := hid (And.intro q1 hbW)
  by_cases h0 : z < 0
  · have d0 : decide (z < 0) = true := decide_eq_true h0
    have HR := hid (show lifeF lo hi l z = 0 by unfold lifeF isT; rw [decide_eq_false (by omega)]; rfl)
    clear q1 hbW hr hs
    go_enter Tryz.func18, Tryz.ntmps18
    go_wp2_with fail
    go_ret
    exact ⟨ret_int HR.out.symm, HQ.out.2⟩
  have d0 : decide (z < 0) = false := decide_eq_false h0
  by_cases h1 : 253402300799 < z
  · have d1 : decide (253402300799 < z) = true := decide_eq_true h1
    have HR := hid (show lifeF lo hi l z = 0 by unfold lifeF isT; rw [show decide (z ≤ topT) = false from decide_eq_false (by show ¬ z ≤ 253402300799; omega), Bool.and_false]; rfl)
    clear q1 hbW hr hs
    go_enter Tryz.func18, Tryz.ntmps18
    go_wp2_with fail
    go_ret
    exact ⟨ret_int HR.out.symm, HQ.out.2⟩
  have d1 : decide (253402300799 < z) = false := decide_eq_false h1
  have HR := hid (show lifeF lo hi l z = clampI lo hi (toldF l z) by unfold lifeF; rw [if_pos (isT_of (by omega) (by omega))])
  have c1 := r12Told_any v l z W (hr.below hbW) hs (by omega) (by omega)
  generalize toldF l z = T at c1 HR
  have C1 := hid c1
  clear q1 hbW hr hs c1
  go_enter Tryz.func18, Tryz.ntmps18
  go_wp2_with fail
  refine C1.out.mono ?_
  rintro e w1 ⟨rfl, hb1⟩
  have y2 : w1.cell? ⟨w.heap.size, 2, none⟩ = some (.int .i64 lo) := (HQ.out.1.below hb1).cell 2
  have y3 : w1.cell? ⟨w.heap.size, 3, none⟩ = some (.int .i64 hi) := (HQ.out.1.below hb1).cell 3
  have HB1 := hid (chain2 HQ.out.2 HQ.out.2.size hb1)
  clear hb1 h0 h1 d0 d1 hW
  by_cases g1 : T < lo
  · have e1 : decide (T < lo) = true := decide_eq_true g1
    by_cases g2 : hi < lo
    · have e2 : decide (hi < lo) = true := decide_eq_true g2
      have HR2 := hid (show clampI lo hi T = hi by unfold clampI; rw [if_pos g1, if_pos g2])
      go_wp2_with fail
      go_ret
      exact ⟨ret_int (by rw [HR.out, HR2.out]), HB1.out⟩
    · have e2 : decide (hi < lo) = false := decide_eq_false g2
      have HR2 := hid (show clampI lo hi T = lo by unfold clampI; rw [if_pos g1, if_neg g2])
      go_wp2_with fail
      go_ret
      exact ⟨ret_int (by rw [HR.out, HR2.out]), HB1.out⟩
  · have e1 : decide (T < lo) = false := decide_eq_false g1
    by_cases g2 : hi < T
    · have e2 : decide (hi < T) = true := decide_eq_true g2
      have HR2 := hid (show clampI lo hi T = hi by unfold clampI; rw [if_neg g1, if_pos g2])
      go_wp2_with fail
      go_ret
      exact ⟨ret_int (by rw [HR.out, HR2.out]), HB1.out⟩
    · have e2 : decide (hi < T) = false := decide_eq_false g2
      have HR2 := hid (show clampI lo hi T = T by unfold clampI; rw [if_neg g1, if_neg g2])
      go_wp2_with fail
      go_ret
      exact ⟨ret_int (by rw [HR.out, HR2.out]), HB1.out⟩
end Go.Proofs.YtejdlplgkmelkaaGreatDoor
/-
  The document's answers of layer 12: Age.
-/
namespace Go.Proofs.YtejdlplgkmelkaaGreatDoor
open Go.RowKit Go.Pantry

theorem ageF_off {l : List Fld} {x y z : Int} (h : x < 0 ∨ y < 0 ∨ z < 0 ∨ 253402300799 < x ∨ 253402300799 < y ∨ 253402300799 < z) : ageF l x y z = 0 := by
  unfold ageF
  rw [if_neg]
  intro hh
  simp only [Bool.and_eq_true] at hh
  have a : 0 ≤ x ∧ x ≤ 253402300799 := isT_bd hh.1
  have b : 0 ≤ y ∧ y ≤ 253402300799 := isT_bd hh.2.1
  have c : 0 ≤ z ∧ z ≤ 253402300799 := isT_bd hh.2.2
  omega
theorem ageF_on {l : List Fld} {x y z : Int} (h0 : 0 ≤ x) (h1 : x ≤ 253402300799) (h2 : 0 ≤ y) (h3 : y ≤ 253402300799) (h4 : 0 ≤ z) (h5 : z ≤ 253402300799) : ageF l x y z = ageR l x y z := by
  unfold ageF
  rw [isT_of h0 h1, isT_of h2 h3, isT_of h4 h5, if_pos (by decide)]
set_option maxRecDepth 8000 in
set_option maxHeartbeats 4000000 in
theorem r12Age_any (v : Value) (l : List Fld) (x y z : Int) (w : World) (hr : Reads2 w v l) (hs : SmallF l) :
    Calls Tryz.prog 20 #[v, .int .i64 x, .int .i64 y, .int .i64 z] w fun e w' => e = .returned (.int .i64 (ageF l x y z)) ∧ Below w.heap.size w w' := by
  by_cases hx0 : x < 0
  · have dx0 : decide (x < 0) = true := decide_eq_true hx0
    have HR := hid (ageF_off (l := l) (x := x) (y := y) (z := z) (.inl hx0))
    clear hr hs
    go_enter Tryz.func20, Tryz.ntmps20
    go_wp2_with fail
    go_ret
    exact ⟨ret_int HR.out.symm, Below.refl _ _⟩
  have dx0 : decide (x < 0) = false := decide_eq_false hx0
  by_cases hy0 : y < 0
  · have dy0 : decide (y < 0) = true := decide_eq_true hy0
    have HR := hid (ageF_off (l := l) (x := x) (y := y) (z := z) (.inr (.inl hy0)))
    clear hr hs
    go_enter Tryz.func20, Tryz.ntmps20
    go_wp2_with fail
    go_ret
    exact ⟨ret_int HR.out.symm, Below.refl _ _⟩
  have dy0 : decide (y < 0) = false := decide_eq_false hy0
  by_cases hz0 : z < 0
  · have dz0 : decide (z < 0) = true := decide_eq_true hz0
    have HR := hid (ageF_off (l := l) (x := x) (y := y) (z := z) (.inr (.inr (.inl hz0))))
    clear hr hs
    go_enter Tryz.func20, Tryz.ntmps20
    go_wp2_with fail
    go_ret
    exact ⟨ret_int HR.out.symm, Below.refl _ _⟩
  have dz0 : decide (z < 0) = false := decide_eq_false hz0
  by_cases hx1 : 253402300799 < x
  · have dx1 : decide (253402300799 < x) = true := decide_eq_true hx1
    have HR := hid (ageF_off (l := l) (x := x) (y := y) (z := z) (.inr (.inr (.inr (.inl hx1)))))
    clear hr hs
    go_enter Tryz.func20, Tryz.ntmps20
    go_wp2_with fail
    go_ret
    exact ⟨ret_int HR.out.symm, Below.refl _ _⟩
  have dx1 : decide (253402300799 < x) = false := decide_eq_false hx1
  by_cases hy1 : 253402300799 < y
  · have dy1 : decide (253402300799 < y) = true := decide_eq_true hy1
    have HR := hid (ageF_off (l := l) (x := x) (y := y) (z := z) (.inr (.inr (.inr (.inr (.inl hy1))))))
    clear hr hs
    go_enter Tryz.func20, Tryz.ntmps20
    go_wp2_with fail
    go_ret
    exact ⟨ret_int HR.out.symm, Below.refl _ _⟩
  have dy1 : decide (253402300799 < y) = false := decide_eq_false hy1
  by_cases hz1 : 253402300799 < z
  · have dz1 : decide (253402300799 < z) = true := decide_eq_true hz1
    have HR := hid (ageF_off (l := l) (x := x) (y := y) (z := z) (.inr (.inr (.inr (.inr (.inr (hz1)))))))
    clear hr hs
    go_enter Tryz.func20, Tryz.ntmps20
    go_wp2_with fail
    go_ret
    exact ⟨ret_int HR.out.symm, Below.refl _ _⟩
  have dz1 : decide (253402300799 < z) = false := decide_eq_false hz1
  have HA := hid (ageF_on (l := l) (x := x) (y := y) (z := z) (by omega) (by omega) (by omega) (by omega) (by omega) (by omega))
  have C2 := hid (fun (W : World) (h : Below w.heap.size w W) => refDated_any v l nDate W (hr.below h) hs (by decide))
  have c3 := fun (W : World) (h : Below w.heap.size w W) => refGetS_any v l nAge W (hr.below h) hs (by decide)
  have hg := hs.get nAge
  have c4 := fun (W : World) => refNumber_any ⟨(getF l nAge).toArray⟩ W (by rw [szL]; omega)
  simp only [dtL] at c4
  have hnb := numF_bd l nAge
  have hnf : (((numberL (getF l nAge)).getD 0 : Nat) : Int) = numF l nAge := rfl
  simp only [hnf] at c4
  have hdy := dayF_bd l (isT_of (show 0 ≤ y by omega) (by omega))
  have hda : dayF l y = (datedF l nDate).getD y := rfl
  have hag : ageR l x y z = max (max 0 (y - dayF l y)) (numF l nAge + max 0 (y - x)) + max 0 (z - y) := rfl
  have hdb : ∀ t, datedF l nDate = some t → 0 ≤ t ∧ t ≤ 253402300799 := fun t h => readDL_bd h
  rw [hag] at HA
  generalize numberL (getF l nAge) = nb at c4
  generalize nb.isSome = nsome at c4
  generalize getF l nAge = G at c3 c4
  generalize numF l nAge = N at c4 hnb HA
  generalize dayF l y = dd at hdy hda HA
  generalize datedF l nDate = dD at C2 hda hdb
  generalize ageF l x y z = AG at HA ⊢
  have C3 := hid c3
  have C4 := hid c4
  clear c3 c4 hg hnf hag hr hs
  go_enter Tryz.func20, Tryz.ntmps20
  go_wp2_with fail
  refine (C2.out _ (Below.refl _ _)).mono ?_
  rintro e w1 ⟨rfl, hb1⟩
  have HB1 := hid hb1
  clear hb1
  clear dx0
  clear dy0
  clear dz0
  clear dx1
  clear dy1
  clear dz1
  cases dD with
  | none =>
    have hz : dd = y := hda
    have HA2 := hid (show AG = max 0 (N + max 0 (y - x)) + max 0 (z - y) by rw [HA.out, hz]; congr 2; omega)
    unfold timeV
    clear HA hda hdb hdy
    go_wp2_with fail
    refine (C3.out _ HB1.out).mono ?_
    rintro e w2 ⟨rfl, hb2⟩
    have HB2 := hid (chain2 HB1.out HB1.out.size hb2)
    clear hb2
    go_wp2_with fail
    refine (C4.out _).mono ?_
    rintro e w3 ⟨rfl, rfl⟩
    by_cases hxy : x < y
    · have dxy : decide (x < y) = true := decide_eq_true hxy
      have k1 : IntKind.i64.wrap (y - x) = y - x := IntWalk.i64_in _ (by omega)
      have k2 : IntKind.i64.wrap (N + (y - x)) = N + (y - x) := IntWalk.i64_in _ (by omega)
      have HA3 := hid (show AG = max (0) (N + (y - x)) + max 0 (z - y) by rw [HA2.out]; congr 2; omega)
      by_cases hab : 0 < N + (y - x)
      · have dab : decide (0 < N + (y - x)) = true := decide_eq_true hab
        by_cases hzy : y < z
        · have dzy : decide (y < z) = true := decide_eq_true hzy
          have k3 : IntKind.i64.wrap (z - y) = z - y := IntWalk.i64_in _ (by omega)
          have k4 : IntKind.i64.wrap (N + (y - x) + (z - y)) = N + (y - x) + (z - y) := IntWalk.i64_in _ (by omega)
          have HF := hid (show AG = N + (y - x) + (z - y) by rw [HA3.out]; omega)
          go_wp2_with fail
          go_ret
          exact ⟨ret_int (by have := HF.out; omega), HB2.out⟩
        · have dzy : decide (y < z) = false := decide_eq_false hzy
          have HF := hid (show AG = N + (y - x) by rw [HA3.out]; omega)
          go_wp2_with fail
          go_ret
          exact ⟨ret_int (by have := HF.out; omega), HB2.out⟩
      · have dab : decide (0 < N + (y - x)) = false := decide_eq_false hab
        by_cases hzy : y < z
        · have dzy : decide (y < z) = true := decide_eq_true hzy
          have k3 : IntKind.i64.wrap (z - y) = z - y := IntWalk.i64_in _ (by omega)
          have k4 : IntKind.i64.wrap (0 + (z - y)) = 0 + (z - y) := IntWalk.i64_in _ (by omega)
          have HF := hid (show AG = 0 + (z - y) by rw [HA3.out]; omega)
          go_wp2_with fail
          go_ret
          exact ⟨ret_int (by have := HF.out; omega), HB2.out⟩
        · have dzy : decide (y < z) = false := decide_eq_false hzy
          have HF := hid (show AG = 0 by rw [HA3.out]; omega)
          go_wp2_with fail
          go_ret
          exact ⟨ret_int (by have := HF.out; omega), HB2.out⟩
    · have dxy : decide (x < y) = false := decide_eq_false hxy
      have HA3 := hid (show AG = max (0) (N) + max 0 (z - y) by rw [HA2.out]; congr 2; omega)
      by_cases hab : 0 < N
      · have dab : decide (0 < N) = true := decide_eq_true hab
        by_cases hzy : y < z
        · have dzy : decide (y < z) = true := decide_eq_true hzy
          have k3 : IntKind.i64.wrap (z - y) = z - y := IntWalk.i64_in _ (by omega)
          have k4 : IntKind.i64.wrap (N + (z - y)) = N + (z - y) := IntWalk.i64_in _ (by omega)
          have HF := hid (show AG = N + (z - y) by rw [HA3.out]; omega)
          go_wp2_with fail
          go_ret
          exact ⟨ret_int (by have := HF.out; omega), HB2.out⟩
        · have dzy : decide (y < z) = false := decide_eq_false hzy
          have HF := hid (show AG = N by rw [HA3.out]; omega)
          go_wp2_with fail
          go_ret
          exact ⟨ret_int (by have := HF.out; omega), HB2.out⟩
      · have dab : decide (0 < N) = false := decide_eq_false hab
        by_cases hzy : y < z
        · have dzy : decide (y < z) = true := decide_eq_true hzy
          have k3 : IntKind.i64.wrap (z - y) = z - y := IntWalk.i64_in _ (by omega)
          have k4 : IntKind.i64.wrap (0 + (z - y)) = 0 + (z - y) := IntWalk.i64_in _ (by omega)
          have HF := hid (show AG = 0 + (z - y) by rw [HA3.out]; omega)
          go_wp2_with fail
          go_ret
          exact ⟨ret_int (by have := HF.out; omega), HB2.out⟩
        · have dzy : decide (y < z) = false := decide_eq_false hzy
          have HF := hid (show AG = 0 by rw [HA3.out]; omega)
          go_wp2_with fail
          go_ret
          exact ⟨ret_int (by have := HF.out; omega), HB2.out⟩
  | some td =>
    have hz : dd = td := hda
    have hb := hdb td rfl
    subst hz
    unfold timeV
    by_cases hty : dd < y
    · have dty : decide (dd < y) = true := decide_eq_true hty
      have k0 : IntKind.i64.wrap (y - dd) = y - dd := IntWalk.i64_in _ (by omega)
      have HA2 := hid (show AG = max (y - dd) (N + max 0 (y - x)) + max 0 (z - y) by rw [HA.out]; congr 2; omega)
      clear HA hda hdb
      go_wp2_with fail
      refine (C3.out _ HB1.out).mono ?_
      rintro e w2 ⟨rfl, hb2⟩
      have HB2 := hid (chain2 HB1.out HB1.out.size hb2)
      clear hb2
      go_wp2_with fail
      refine (C4.out _).mono ?_
      rintro e w3 ⟨rfl, rfl⟩
      by_cases hxy : x < y
      · have dxy : decide (x < y) = true := decide_eq_true hxy
        have k1 : IntKind.i64.wrap (y - x) = y - x := IntWalk.i64_in _ (by omega)
        have k2 : IntKind.i64.wrap (N + (y - x)) = N + (y - x) := IntWalk.i64_in _ (by omega)
        have HA3 := hid (show AG = max (y - dd) (N + (y - x)) + max 0 (z - y) by rw [HA2.out]; congr 2; omega)
        by_cases hab : y - dd < N + (y - x)
        · have dab : decide (y - dd < N + (y - x)) = true := decide_eq_true hab
          by_cases hzy : y < z
          · have dzy : decide (y < z) = true := decide_eq_true hzy
            have k3 : IntKind.i64.wrap (z - y) = z - y := IntWalk.i64_in _ (by omega)
            have k4 : IntKind.i64.wrap (N + (y - x) + (z - y)) = N + (y - x) + (z - y) := IntWalk.i64_in _ (by omega)
            have HF := hid (show AG = N + (y - x) + (z - y) by rw [HA3.out]; omega)
            go_wp2_with fail
            go_ret
            exact ⟨ret_int (by have := HF.out; omega), HB2.out⟩
          · have dzy : decide (y < z) = false := decide_eq_false hzy
            have HF := hid (show AG = N + (y - x) by rw [HA3.out]; omega)
            go_wp2_with fail
            go_ret
            exact ⟨ret_int (by have := HF.out; omega), HB2.out⟩
        · have dab : decide (y - dd < N + (y - x)) = false := decide_eq_false hab
          by_cases hzy : y < z
          · have dzy : decide (y < z) = true := decide_eq_true hzy
            have k3 : IntKind.i64.wrap (z - y) = z - y := IntWalk.i64_in _ (by omega)
            have k4 : IntKind.i64.wrap (y - dd + (z - y)) = y - dd + (z - y) := IntWalk.i64_in _ (by omega)
            have HF := hid (show AG = y - dd + (z - y) by rw [HA3.out]; omega)
            go_wp2_with fail
            go_ret
            exact ⟨ret_int (by have := HF.out; omega), HB2.out⟩
          · have dzy : decide (y < z) = false := decide_eq_false hzy
            have HF := hid (show AG = y - dd by rw [HA3.out]; omega)
            go_wp2_with fail
            go_ret
            exact ⟨ret_int (by have := HF.out; omega), HB2.out⟩
      · have dxy : decide (x < y) = false := decide_eq_false hxy
        have HA3 := hid (show AG = max (y - dd) (N) + max 0 (z - y) by rw [HA2.out]; congr 2; omega)
        by_cases hab : y - dd < N
        · have dab : decide (y - dd < N) = true := decide_eq_true hab
          by_cases hzy : y < z
          · have dzy : decide (y < z) = true := decide_eq_true hzy
            have k3 : IntKind.i64.wrap (z - y) = z - y := IntWalk.i64_in _ (by omega)
            have k4 : IntKind.i64.wrap (N + (z - y)) = N + (z - y) := IntWalk.i64_in _ (by omega)
            have HF := hid (show AG = N + (z - y) by rw [HA3.out]; omega)
            go_wp2_with fail
            go_ret
            exact ⟨ret_int (by have := HF.out; omega), HB2.out⟩
          · have dzy : decide (y < z) = false := decide_eq_false hzy
            have HF := hid (show AG = N by rw [HA3.out]; omega)
            go_wp2_with fail
            go_ret
            exact ⟨ret_int (by have := HF.out; omega), HB2.out⟩
        · have dab : decide (y - dd < N) = false := decide_eq_false hab
          by_cases hzy : y < z
          · have dzy : decide (y < z) = true := decide_eq_true hzy
            have k3 : IntKind.i64.wrap (z - y) = z - y := IntWalk.i64_in _ (by omega)
            have k4 : IntKind.i64.wrap (y - dd + (z - y)) = y - dd + (z - y) := IntWalk.i64_in _ (by omega)
            have HF := hid (show AG = y - dd + (z - y) by rw [HA3.out]; omega)
            go_wp2_with fail
            go_ret
            exact ⟨ret_int (by have := HF.out; omega), HB2.out⟩
          · have dzy : decide (y < z) = false := decide_eq_false hzy
            have HF := hid (show AG = y - dd by rw [HA3.out]; omega)
            go_wp2_with fail
            go_ret
            exact ⟨ret_int (by have := HF.out; omega), HB2.out⟩
    · have dty : decide (dd < y) = false := decide_eq_false hty
      have HA2 := hid (show AG = max 0 (N + max 0 (y - x)) + max 0 (z - y) by rw [HA.out]; congr 2; omega)
      clear HA hda hdb
      go_wp2_with fail
      refine (C3.out _ HB1.out).mono ?_
      rintro e w2 ⟨rfl, hb2⟩
      have HB2 := hid (chain2 HB1.out HB1.out.size hb2)
      clear hb2
      go_wp2_with fail
      refine (C4.out _).mono ?_
      rintro e w3 ⟨rfl, rfl⟩
      by_cases hxy : x < y
      · have dxy : decide (x < y) = true := decide_eq_true hxy
        have k1 : IntKind.i64.wrap (y - x) = y - x := IntWalk.i64_in _ (by omega)
        have k2 : IntKind.i64.wrap (N + (y - x)) = N + (y - x) := IntWalk.i64_in _ (by omega)
        have HA3 := hid (show AG = max (0) (N + (y - x)) + max 0 (z - y) by rw [HA2.out]; congr 2; omega)
        by_cases hab : 0 < N + (y - x)
        · have dab : decide (0 < N + (y - x)) = true := decide_eq_true hab
          by_cases hzy : y < z
          · have dzy : decide (y < z) = true := decide_eq_true hzy
            have k3 : IntKind.i64.wrap (z - y) = z - y := IntWalk.i64_in _ (by omega)
            have k4 : IntKind.i64.wrap (N + (y - x) + (z - y)) = N + (y - x) + (z - y) := IntWalk.i64_in _ (by omega)
            have HF := hid (show AG = N + (y - x) + (z - y) by rw [HA3.out]; omega)
            go_wp2_with fail
            go_ret
            exact ⟨ret_int (by have := HF.out; omega), HB2.out⟩
          · have dzy : decide (y < z) = false := decide_eq_false hzy
            have HF := hid (show AG = N + (y - x) by rw [HA3.out]; omega)
            go_wp2_with fail
            go_ret
            exact ⟨ret_int (by have := HF.out; omega), HB2.out⟩
        · have dab : decide (0 < N + (y - x)) = false := decide_eq_false hab
          by_cases hzy : y < z
          · have dzy : decide (y < z) = true := decide_eq_true hzy
            have k3 : IntKind.i64.wrap (z - y) = z - y := IntWalk.i64_in _ (by omega)
            have k4 : IntKind.i64.wrap (0 + (z - y)) = 0 + (z - y) := IntWalk.i64_in _ (by omega)
            have HF := hid (show AG = 0 + (z - y) by rw [HA3.out]; omega)
            go_wp2_with fail
            go_ret
            exact ⟨ret_int (by have := HF.out; omega), HB2.out⟩
          · have dzy : decide (y < z) = false := decide_eq_false hzy
            have HF := hid (show AG = 0 by rw [HA3.out]; omega)
            go_wp2_with fail
            go_ret
            exact ⟨ret_int (by have := HF.out; omega), HB2.out⟩
      · have dxy : decide (x < y) = false := decide_eq_false hxy
        have HA3 := hid (show AG = max (0) (N) + max 0 (z - y) by rw [HA2.out]; congr 2; omega)
        by_cases hab : 0 < N
        · have dab : decide (0 < N) = true := decide_eq_true hab
          by_cases hzy : y < z
          · have dzy : decide (y < z) = true := decide_eq_true hzy
            have k3 : IntKind.i64.wrap (z - y) = z - y := IntWalk.i64_in _ (by omega)
            have k4 : IntKind.i64.wrap (N + (z - y)) = N + (z - y) := IntWalk.i64_in _ (by omega)
            have HF := hid (show AG = N + (z - y) by rw [HA3.out]; omega)
            go_wp2_with fail
            go_ret
            exact ⟨ret_int (by have := HF.out; omega), HB2.out⟩
          · have dzy : decide (y < z) = false := decide_eq_false hzy
            have HF := hid (show AG = N by rw [HA3.out]; omega)
            go_wp2_with fail
            go_ret
            exact ⟨ret_int (by have := HF.out; omega), HB2.out⟩
        · have dab : decide (0 < N) = false := decide_eq_false hab
          by_cases hzy : y < z
          · have dzy : decide (y < z) = true := decide_eq_true hzy
            have k3 : IntKind.i64.wrap (z - y) = z - y := IntWalk.i64_in _ (by omega)
            have k4 : IntKind.i64.wrap (0 + (z - y)) = 0 + (z - y) := IntWalk.i64_in _ (by omega)
            have HF := hid (show AG = 0 + (z - y) by rw [HA3.out]; omega)
            go_wp2_with fail
            go_ret
            exact ⟨ret_int (by have := HF.out; omega), HB2.out⟩
          · have dzy : decide (y < z) = false := decide_eq_false hzy
            have HF := hid (show AG = 0 by rw [HA3.out]; omega)
            go_wp2_with fail
            go_ret
            exact ⟨ret_int (by have := HF.out; omega), HB2.out⟩
end Go.Proofs.YtejdlplgkmelkaaGreatDoor
/-
  The document's answers of layer 12: may.
-/
namespace Go.Proofs.YtejdlplgkmelkaaGreatDoor
open Go.RowKit Go.Pantry

/-- ten cells of what fields say -/
abbrev rowC (c : Ctl) : Array Value := #[.bool c.noStore, .bool c.noCache, .bool c.priv, .bool c.pub, .bool c.must, .bool c.only, .int .i64 (intO c.maxAge), .int .i64 (intO c.shared), .int .i64 (intO c.minFresh), .int .i64 (intO c.maxStale)]
theorem ctlV_row (c : Ctl) : ctlV c = .agg (rowC c) := rfl
set_option maxRecDepth 8000 in
set_option maxHeartbeats 4000000 in
theorem r12May_any (q p : Ctl) (age life : Int) (w : World) (hq : CtlBd q) (h0 : 0 ≤ age) (h1 : age ≤ 1000000000000) (h2 : -4611686018427387904 ≤ life) (h3 : life ≤ 4611686018427387904) :
    Calls Tryz.prog 46 #[.agg (rowC q), .agg (rowC p), .int .i64 age, .int .i64 life] w fun e w' => e = .returned (.bool (mayF q p age life)) ∧ Below w.heap.size w w' := by
  obtain ⟨hqa, -, hqf, hqt⟩ := hq
  have hm : mayF q p age life = mayI (q.noCache || p.noCache) p.must (intO q.maxAge) (intO q.minFresh) (intO q.maxStale) (intO p.shared) age life := rfl
  rw [hm]
  clear hm
  obtain ⟨a0, nc1, a2, a3, a4, a5, o6, o7, o8, o9⟩ := q
  obtain ⟨b0, nc2, b2, b3, must, b5, u6, u7, u8, u9⟩ := p
  simp only at hqa hqf hqt ⊢
  unfold rowC
  simp only
  generalize intO o6 = qma at hqa ⊢
  generalize intO o7 = q7
  generalize intO o8 = qmf at hqf ⊢
  generalize intO o9 = qms at hqt ⊢
  generalize intO u6 = p6
  generalize intO u7 = psh
  generalize intO u8 = p8
  generalize intO u9 = p9
  have HB := hid (show Below w.heap.size w ((w.alloc (.cells #[.bool a0, .bool nc1, .bool a2, .bool a3, .bool a4, .bool a5, .int .i64 qma, .int .i64 q7, .int .i64 qmf, .int .i64 qms] 65)).alloc (.cells #[.bool b0, .bool nc2, .bool b2, .bool b3, .bool must, .bool b5, .int .i64 p6, .int .i64 psh, .int .i64 p8, .int .i64 p9] 65)) from chainK (below_alloc _ _) (below_alloc _ _))
  cases nc1 with
  | true =>
    have HR := hid (show mayI (true || nc2) must qma qmf qms psh age life = false by unfold mayI; simp)
    go_enter Tryz.func46, Tryz.ntmps46
    go_wp2_with fail
    go_ret
    exact ⟨ret_bool HR.out.symm, HB.out⟩
  | false =>
    cases nc2 with
    | true =>
      have HR := hid (show mayI (false || true) must qma qmf qms psh age life = false by unfold mayI; simp)
      go_enter Tryz.func46, Tryz.ntmps46
      go_wp2_with fail
      go_ret
      exact ⟨ret_bool HR.out.symm, HB.out⟩
    | false =>
      have hM : mayI (false || false) must qma qmf qms psh age life = if 0 ≤ qma ∧ qma < age then false else if age < life ∧ (qmf < 0 ∨ age + qmf ≤ life) then true else if qms < 0 ∨ 0 ≤ qmf ∨ must = true ∨ 0 ≤ psh then false else decide (age ≤ life + qms) := rfl
      generalize mayI (false || false) must qma qmf qms psh age life = R at hM ⊢
      have k1 : IntKind.i64.wrap (age + qmf) = age + qmf := IntWalk.i64_in _ (by omega)
      have k2 : IntKind.i64.wrap (life + qms) = life + qms := IntWalk.i64_in _ (by omega)
      by_cases hma : 0 ≤ qma
      · have dma : decide (0 ≤ qma) = true := decide_eq_true hma
        by_cases hag : qma < age
        · have dag : decide (qma < age) = true := decide_eq_true hag
          have HR := hid (show R = false by rw [hM]; rw [if_pos ⟨hma, hag⟩])
          clear hM
          go_enter Tryz.func46, Tryz.ntmps46
          go_wp2_with fail
          go_ret
          exact ⟨ret_bool HR.out.symm, HB.out⟩
        have dag : decide (qma < age) = false := decide_eq_false hag
        by_cases hf : age < life
        · have df : decide (age < life) = true := decide_eq_true hf
          by_cases hmf : qmf < 0
          · have dmf : decide (qmf < 0) = true := decide_eq_true hmf
            have HR := hid (show R = true by rw [hM]; rw [if_neg (show ¬ (0 ≤ qma ∧ qma < age) by omega)]; rw [if_pos ⟨hf, .inl hmf⟩])
            clear hM
            go_enter Tryz.func46, Tryz.ntmps46
            go_wp2_with fail
            go_ret
            exact ⟨ret_bool HR.out.symm, HB.out⟩
          have dmf : decide (qmf < 0) = false := decide_eq_false hmf
          by_cases hle : age + qmf ≤ life
          · have dle : decide (age + qmf ≤ life) = true := decide_eq_true hle
            have HR := hid (show R = true by rw [hM]; rw [if_neg (show ¬ (0 ≤ qma ∧ qma < age) by omega)]; rw [if_pos ⟨hf, .inr hle⟩])
            clear hM
            go_enter Tryz.func46, Tryz.ntmps46
            go_wp2_with fail
            go_ret
            exact ⟨ret_bool HR.out.symm, HB.out⟩
          have dle : decide (age + qmf ≤ life) = false := decide_eq_false hle
          by_cases hms : qms < 0
          · have dms : decide (qms < 0) = true := decide_eq_true hms
            have HR := hid (show R = false by rw [hM]; rw [if_neg (show ¬ (0 ≤ qma ∧ qma < age) by omega)]; rw [if_neg (show ¬ (age < life ∧ (qmf < 0 ∨ age + qmf ≤ life)) by omega)]; rw [if_pos (.inl hms)])
            clear hM
            go_enter Tryz.func46, Tryz.ntmps46
            go_wp2_with fail
            go_ret
            exact ⟨ret_bool HR.out.symm, HB.out⟩
          have dms : decide (qms < 0) = false := decide_eq_false hms
          have hgf : 0 ≤ qmf := by omega
          have dgf : decide (0 ≤ qmf) = true := decide_eq_true hgf
          have HR := hid (show R = false by rw [hM]; rw [if_neg (show ¬ (0 ≤ qma ∧ qma < age) by omega)]; rw [if_neg (show ¬ (age < life ∧ (qmf < 0 ∨ age + qmf ≤ life)) by omega)]; rw [if_pos (.inr (.inl hgf))])
          clear hM
          go_enter Tryz.func46, Tryz.ntmps46
          go_wp2_with fail
          go_ret
          exact ⟨ret_bool HR.out.symm, HB.out⟩
        have df : decide (age < life) = false := decide_eq_false hf
        by_cases hms : qms < 0
        · have dms : decide (qms < 0) = true := decide_eq_true hms
          have HR := hid (show R = false by rw [hM]; rw [if_neg (show ¬ (0 ≤ qma ∧ qma < age) by omega)]; rw [if_neg (show ¬ (age < life ∧ (qmf < 0 ∨ age + qmf ≤ life)) by omega)]; rw [if_pos (.inl hms)])
          clear hM
          go_enter Tryz.func46, Tryz.ntmps46
          go_wp2_with fail
          go_ret
          exact ⟨ret_bool HR.out.symm, HB.out⟩
        have dms : decide (qms < 0) = false := decide_eq_false hms
        by_cases hgf : 0 ≤ qmf
        · have dgf : decide (0 ≤ qmf) = true := decide_eq_true hgf
          have HR := hid (show R = false by rw [hM]; rw [if_neg (show ¬ (0 ≤ qma ∧ qma < age) by omega)]; rw [if_neg (show ¬ (age < life ∧ (qmf < 0 ∨ age + qmf ≤ life)) by omega)]; rw [if_pos (.inr (.inl hgf))])
          clear hM
          go_enter Tryz.func46, Tryz.ntmps46
          go_wp2_with fail
          go_ret
          exact ⟨ret_bool HR.out.symm, HB.out⟩
        have dgf : decide (0 ≤ qmf) = false := decide_eq_false hgf
        cases must with
        | true =>
          have HR := hid (show R = false by rw [hM]; rw [if_neg (show ¬ (0 ≤ qma ∧ qma < age) by omega)]; rw [if_neg (show ¬ (age < life ∧ (qmf < 0 ∨ age + qmf ≤ life)) by omega)]; rw [if_pos (.inr (.inr (.inl rfl)))])
          clear hM
          go_enter Tryz.func46, Tryz.ntmps46
          go_wp2_with fail
          go_ret
          exact ⟨ret_bool HR.out.symm, HB.out⟩
        | false =>
          by_cases hsh : 0 ≤ psh
          · have dsh : decide (0 ≤ psh) = true := decide_eq_true hsh
            have HR := hid (show R = false by rw [hM]; rw [if_neg (show ¬ (0 ≤ qma ∧ qma < age) by omega)]; rw [if_neg (show ¬ (age < life ∧ (qmf < 0 ∨ age + qmf ≤ life)) by omega)]; rw [if_pos (.inr (.inr (.inr hsh)))])
            clear hM
            go_enter Tryz.func46, Tryz.ntmps46
            go_wp2_with fail
            go_ret
            exact ⟨ret_bool HR.out.symm, HB.out⟩
          have dsh : decide (0 ≤ psh) = false := decide_eq_false hsh
          have HR := hid (show R = decide (age ≤ life + qms) by rw [hM]; rw [if_neg (show ¬ (0 ≤ qma ∧ qma < age) by omega)]; rw [if_neg (show ¬ (age < life ∧ (qmf < 0 ∨ age + qmf ≤ life)) by omega)]; rw [if_neg (show ¬ (qms < 0 ∨ 0 ≤ qmf ∨ false = true ∨ 0 ≤ psh) by rintro (h | h | h | h); exact hms h; exact hgf h; cases h; exact hsh h)])
          clear hM
          go_enter Tryz.func46, Tryz.ntmps46
          go_wp2_with fail
          go_ret
          exact ⟨ret_bool HR.out.symm, HB.out⟩
      have dma : decide (0 ≤ qma) = false := decide_eq_false hma
      by_cases hf : age < life
      · have df : decide (age < life) = true := decide_eq_true hf
        by_cases hmf : qmf < 0
        · have dmf : decide (qmf < 0) = true := decide_eq_true hmf
          have HR := hid (show R = true by rw [hM]; rw [if_neg (show ¬ (0 ≤ qma ∧ qma < age) by omega)]; rw [if_pos ⟨hf, .inl hmf⟩])
          clear hM
          go_enter Tryz.func46, Tryz.ntmps46
          go_wp2_with fail
          go_ret
          exact ⟨ret_bool HR.out.symm, HB.out⟩
        have dmf : decide (qmf < 0) = false := decide_eq_false hmf
        by_cases hle : age + qmf ≤ life
        · have dle : decide (age + qmf ≤ life) = true := decide_eq_true hle
          have HR := hid (show R = true by rw [hM]; rw [if_neg (show ¬ (0 ≤ qma ∧ qma < age) by omega)]; rw [if_pos ⟨hf, .inr hle⟩])
          clear hM
          go_enter Tryz.func46, Tryz.ntmps46
          go_wp2_with fail
          go_ret
          exact ⟨ret_bool HR.out.symm, HB.out⟩
        have dle : decide (age + qmf ≤ life) = false := decide_eq_false hle
        by_cases hms : qms < 0
        · have dms : decide (qms < 0) = true := decide_eq_true hms
          have HR := hid (show R = false by rw [hM]; rw [if_neg (show ¬ (0 ≤ qma ∧ qma < age) by omega)]; rw [if_neg (show ¬ (age < life ∧ (qmf < 0 ∨ age + qmf ≤ life)) by omega)]; rw [if_pos (.inl hms)])
          clear hM
          go_enter Tryz.func46, Tryz.ntmps46
          go_wp2_with fail
          go_ret
          exact ⟨ret_bool HR.out.symm, HB.out⟩
        have dms : decide (qms < 0) = false := decide_eq_false hms
        have hgf : 0 ≤ qmf := by omega
        have dgf : decide (0 ≤ qmf) = true := decide_eq_true hgf
        have HR := hid (show R = false by rw [hM]; rw [if_neg (show ¬ (0 ≤ qma ∧ qma < age) by omega)]; rw [if_neg (show ¬ (age < life ∧ (qmf < 0 ∨ age + qmf ≤ life)) by omega)]; rw [if_pos (.inr (.inl hgf))])
        clear hM
        go_enter Tryz.func46, Tryz.ntmps46
        go_wp2_with fail
        go_ret
        exact ⟨ret_bool HR.out.symm, HB.out⟩
      have df : decide (age < life) = false := decide_eq_false hf
      by_cases hms : qms < 0
      · have dms : decide (qms < 0) = true := decide_eq_true hms
        have HR := hid (show R = false by rw [hM]; rw [if_neg (show ¬ (0 ≤ qma ∧ qma < age) by omega)]; rw [if_neg (show ¬ (age < life ∧ (qmf < 0 ∨ age + qmf ≤ life)) by omega)]; rw [if_pos (.inl hms)])
        clear hM
        go_enter Tryz.func46, Tryz.ntmps46
        go_wp2_with fail
        go_ret
        exact ⟨ret_bool HR.out.symm, HB.out⟩
      have dms : decide (qms < 0) = false := decide_eq_false hms
      by_cases hgf : 0 ≤ qmf
      · have dgf : decide (0 ≤ qmf) = true := decide_eq_true hgf
        have HR := hid (show R = false by rw [hM]; rw [if_neg (show ¬ (0 ≤ qma ∧ qma < age) by omega)]; rw [if_neg (show ¬ (age < life ∧ (qmf < 0 ∨ age + qmf ≤ life)) by omega)]; rw [if_pos (.inr (.inl hgf))])
        clear hM
        go_enter Tryz.func46, Tryz.ntmps46
        go_wp2_with fail
        go_ret
        exact ⟨ret_bool HR.out.symm, HB.out⟩
      have dgf : decide (0 ≤ qmf) = false := decide_eq_false hgf
      cases must with
      | true =>
        have HR := hid (show R = false by rw [hM]; rw [if_neg (show ¬ (0 ≤ qma ∧ qma < age) by omega)]; rw [if_neg (show ¬ (age < life ∧ (qmf < 0 ∨ age + qmf ≤ life)) by omega)]; rw [if_pos (.inr (.inr (.inl rfl)))])
        clear hM
        go_enter Tryz.func46, Tryz.ntmps46
        go_wp2_with fail
        go_ret
        exact ⟨ret_bool HR.out.symm, HB.out⟩
      | false =>
        by_cases hsh : 0 ≤ psh
        · have dsh : decide (0 ≤ psh) = true := decide_eq_true hsh
          have HR := hid (show R = false by rw [hM]; rw [if_neg (show ¬ (0 ≤ qma ∧ qma < age) by omega)]; rw [if_neg (show ¬ (age < life ∧ (qmf < 0 ∨ age + qmf ≤ life)) by omega)]; rw [if_pos (.inr (.inr (.inr hsh)))])
          clear hM
          go_enter Tryz.func46, Tryz.ntmps46
          go_wp2_with fail
          go_ret
          exact ⟨ret_bool HR.out.symm, HB.out⟩
        have dsh : decide (0 ≤ psh) = false := decide_eq_false hsh
        have HR := hid (show R = decide (age ≤ life + qms) by rw [hM]; rw [if_neg (show ¬ (0 ≤ qma ∧ qma < age) by omega)]; rw [if_neg (show ¬ (age < life ∧ (qmf < 0 ∨ age + qmf ≤ life)) by omega)]; rw [if_neg (show ¬ (qms < 0 ∨ 0 ≤ qmf ∨ false = true ∨ 0 ≤ psh) by rintro (h | h | h | h); exact hms h; exact hgf h; cases h; exact hsh h)])
        clear hM
        go_enter Tryz.func46, Tryz.ntmps46
        go_wp2_with fail
        go_ret
        exact ⟨ret_bool HR.out.symm, HB.out⟩
end Go.Proofs.YtejdlplgkmelkaaGreatDoor
