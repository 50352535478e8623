/-
  Several texts in one: FreshE, FreshG, FreshU.
-/
import Derived.Test.YtejdlplgkmelkaaGreatDoorF1210
import Derived.Deep.RegionHeld
import Derived.Test.YtejdlplgkmelkaaGreatDoorF1213
import Derived.Test.YtejdlplgkmelkaaGreatDoorF1207
import Derived.Deep.CutRange
set_option linter.unusedVariables false
set_option linter.unusedSimpArgs false
/-
  Contracts of package fresh: ownLife, Life.
-/
namespace Go.Proofs.YtejdlplgkmelkaaGreatDoor
open Go.RowKit Go.Pantry

set_option maxRecDepth 8000 in
set_option maxHeartbeats 4000000 in
theorem fOwnLife_any (v : Value) (l : List Fld) (z : Int) (w : World) (hT : Tables w) (hr : Reads2 w v l) (hs : SmallF l) (hz0 : 0 ≤ z) (hz1 : z ≤ 253402300799) :
    Calls Tryz.prog 37 #[v, .int .i64 z] w fun e w' => e = .returned (.int .i64 (toldF l z)) ∧ Below w.heap.size w w' := by
  have c1 := fOf_any v l w hr hs
  have c2 := fun (W : World) (h : Below w.heap.size w W) => fBorn_any v l z W (hT.below h hT.lt) (hr.below h) hs
  have c3 := fun (W : World) (h : Below w.heap.size w W) => fHas_any v l [69, 120, 112, 105, 114, 101, 115] W (hr.below h) hs (by decide)
  have c4 := fun (W : World) (h : Below w.heap.size w W) => fTimeOf_any v l [69, 120, 112, 105, 114, 101, 115] W (hT.below h hT.lt) (hr.below h) hs (by decide)
  have c5 := fun (W : World) (h : Below w.heap.size w W) => fTimeOf_any v l [76, 97, 115, 116, 45, 77, 111, 100, 105, 102, 105, 101, 100] W (hT.below h hT.lt) (hr.below h) hs (by decide)
  simp only [allF_same (show lowerL [69, 120, 112, 105, 114, 101, 115] = lowerL nExpires by decide)] at c3
  simp only [datedF_same (show lowerL [69, 120, 112, 105, 114, 101, 115] = lowerL nExpires by decide)] at c4
  simp only [datedF_same (show lowerL [76, 97, 115, 116, 45, 77, 111, 100, 105, 102, 105, 101, 100] = lowerL nLast by decide)] at c5
  have hdy := dayF_bd l (isT_of hz0 hz1)
  have bE : ∀ t, datedF l nExpires = some t → 0 ≤ t ∧ t ≤ 253402300799 := fun t h => readDL_bd h
  have bL : ∀ t, datedF l nLast = some t → 0 ≤ t ∧ t ≤ 253402300799 := fun t h => readDL_bd h
  have hto : toldF l z = if 0 ≤ intO (ctlF l).shared then intO (ctlF l).shared
    else if 0 ≤ intO (ctlF l).maxAge then intO (ctlF l).maxAge
    else if allF l nExpires = [] then
      (match datedF l nLast with
        | some t => if dayF l z < t then 0 else (dayF l z - t) / 10
        | none => 0)
    else
      (match datedF l nExpires with
        | some t => if t < dayF l z then 0 else t - dayF l z
        | none => 0) := rfl
  generalize toldF l z = T at hto ⊢
  generalize datedF l nExpires = dE at c4 bE hto
  generalize datedF l nLast = dL at c5 bL hto
  generalize allF l nExpires = aE at c3 hto
  generalize dayF l z = dd at c2 hdy hto
  unfold rowC at c1
  generalize (ctlF l).noStore = a0 at c1
  generalize (ctlF l).noCache = a1 at c1
  generalize (ctlF l).priv = a2 at c1
  generalize (ctlF l).pub = a3 at c1
  generalize (ctlF l).must = a4 at c1
  generalize (ctlF l).only = a5 at c1
  generalize intO (ctlF l).maxAge = a6 at c1 hto
  generalize intO (ctlF l).shared = a7 at c1 hto
  generalize intO (ctlF l).minFresh = a8 at c1
  generalize intO (ctlF l).maxStale = a9 at c1
  have C1 := hid c1
  have C2 := hid c2
  have C3 := hid c3
  have C4 := hid c4
  have C5 := hid c5
  have HTO := hid hto
  have HDY := hid hdy
  clear c1 c2 c3 c4 c5 hto hr hs hT hdy
  go_enter Tryz.func37, Tryz.ntmps37
  go_wp2_with fail
  refine C1.out.mono ?_
  rintro e w1 ⟨rfl, hb1⟩
  have HB1 := hid (chain2 hb1 hb1.size (below_alloc w1 (.cells #[.bool a0, .bool a1, .bool a2, .bool a3, .bool a4, .bool a5, .int .i64 a6, .int .i64 a7, .int .i64 a8, .int .i64 a9] 57)))
  clear hb1
  by_cases h7 : 0 ≤ a7
  · have d7 : decide (0 ≤ a7) = true := decide_eq_true h7
    have HT := hid (show T = a7 by rw [HTO.out, if_pos h7])
    go_wp2_with (go_at_call 32; refine (fSaid_any _ _).mono ?_; rintro e w' ⟨rfl, rfl⟩)
    go_ret
    exact ⟨ret_int HT.out.symm, HB1.out⟩
  have d7 : decide (0 ≤ a7) = false := decide_eq_false h7
  by_cases h6 : 0 ≤ a6
  · have d6 : decide (0 ≤ a6) = true := decide_eq_true h6
    have HT := hid (show T = a6 by rw [HTO.out, if_neg h7, if_pos h6])
    go_wp2_with (go_at_call 32; refine (fSaid_any _ _).mono ?_; rintro e w' ⟨rfl, rfl⟩)
    go_ret
    exact ⟨ret_int HT.out.symm, HB1.out⟩
  have d6 : decide (0 ≤ a6) = false := decide_eq_false h6
  have HT2 := HTO.out
  rw [if_neg h7, if_neg h6] at HT2
  have HT := hid HT2
  clear HT2 HTO h6 h7
  go_wp2_with (go_at_call 32; refine (fSaid_any _ _).mono ?_; rintro e w' ⟨rfl, rfl⟩)
  refine (C3.out _ HB1.out).mono ?_
  rintro e w2 ⟨rfl, hb2⟩
  have HB2 := hid (chain2 HB1.out HB1.out.size hb2)
  clear hb2 d6 d7 C3
  cases aE with
  | nil =>
    have HT2 := HT.out
    rw [if_pos rfl] at HT2
    have HTB := hid HT2
    clear HT2
    clear HT C4 bE
    go_wp2_with fail
    refine (C5.out _ HB2.out).mono ?_
    rintro e w3 ⟨rfl, hb3⟩
    have HB3 := hid (chain2 HB2.out HB2.out.size hb3)
    clear hb3 C5
    cases dL with
    | none =>
      simp only [timeV]
      go_wp2_with fail
      go_ret
      exact ⟨ret_int HTB.out.symm, HB3.out⟩
    | some tl =>
      have hb := bL tl rfl
      have CP := hid (fun (W : World) => fPast_any tl dd W hb HDY.out)
      obtain ⟨M, hM⟩ : ∃ M, max 0 (dd - tl) = M := ⟨_, rfl⟩
      rw [hM] at CP
      have hdd := HDY.out
      have k2 : IntKind.i64.wrap (M.tdiv 10) = M / 10 := by rw [Int.tdiv_eq_ediv_of_nonneg (by omega)]; exact IntWalk.i64_in _ (by omega)
      have HR := hid (show T = M / 10 by have h := HTB.out; simp only at h; rw [h]; split <;> omega)
      clear hM hdd hb HTB bL
      simp only [timeV]
      go_wp2_with fail
      refine (C2.out _ HB3.out).mono ?_
      rintro e w4 ⟨rfl, hb4⟩
      have HB4 := hid (chain2 HB3.out HB3.out.size hb4)
      clear hb4
      go_wp2_with fail
      refine (CP.out _).mono ?_
      rintro e w5 ⟨rfl, rfl⟩
      go_wp2_with fail
      go_ret
      exact ⟨ret_int HR.out.symm, HB4.out⟩
  | cons e0 er =>
    have HT2 := HT.out
    rw [if_neg (by simp)] at HT2
    have HTB := hid HT2
    clear HT2
    clear HT C5 bL
    go_wp2_with fail
    refine (C4.out _ HB2.out).mono ?_
    rintro e w3 ⟨rfl, hb3⟩
    have HB3 := hid (chain2 HB2.out HB2.out.size hb3)
    clear hb3 C4
    obtain ⟨te, b, htv, hR⟩ : ∃ (te : Int) (b : Bool), timeV dE = .tuple #[.int .i64 te, .bool b] ∧ (T = max 0 (te - dd) ∧ 0 ≤ te ∧ te ≤ 253402300799) := by
      have hdd := HDY.out
      cases dE with
      | none => exact ⟨0, false, rfl, by have h := HTB.out; simp only at h; rw [h]; omega, by decide, by decide⟩
      | some t =>
        have hb := bE t rfl
        exact ⟨t, true, rfl, by have h := HTB.out; simp only at h; rw [h]; split <;> omega, hb.1, hb.2⟩
    rw [htv]
    have CP := hid (fun (W : World) => fPast_any dd te W HDY.out hR.2)
    have HR := hid hR.1
    clear hR htv HTB bE
    go_wp2_with fail
    refine (C2.out _ HB3.out).mono ?_
    rintro e w4 ⟨rfl, hb4⟩
    have HB4 := hid (chain2 HB3.out HB3.out.size hb4)
    clear hb4
    go_wp2_with fail
    refine (CP.out _).mono ?_
    rintro e w5 ⟨rfl, rfl⟩
    go_wp2_with fail
    go_ret
    exact ⟨ret_int HR.out.symm, HB4.out⟩
theorem reads_one_int (w : World) (x : Int) (e : TypeId) (g : Nat) (hg : g = w.heap.size) : Reads (w.alloc (.cells #[.int .i64 x] e)) (.slice (some ⟨g, 0, none⟩) 1 1) ([x].map (Value.int .i64)) := by
  subst hg; exact reads_new w ([x].map (Value.int .i64)) e 1
set_option maxRecDepth 8000 in
set_option maxHeartbeats 4000000 in
theorem fLife_any (no : Option Addr) (n nc : Nat) (s : SiteZ) (cv : Value) (l : List Fld) (z : Int) (w : World) (hT : Tables w) (hr : Reads2 w cv l) (hs : SmallF l) :
    Calls Tryz.prog 17 #[.agg (rowZ (.slice no n nc) s), cv, .int .i64 z] w fun e w' => e = .returned (.int .i64 (lifeF s.min s.max l z)) ∧ Below w.heap.size w w' := by
  obtain ⟨sh, so, lo, hi, sq, keep, heads⟩ := s
  obtain ⟨W, hW⟩ : ∃ W, w.alloc (.cells (rowZ (.slice no n nc) ⟨sh, so, lo, hi, sq, keep, heads⟩) 24) = W := ⟨_, rfl⟩
  have hbW : Below w.heap.size w W := by rw [← hW]; exact below_alloc _ _
  have q1 : rowIs W w.heap.size (rowZ (.slice no n nc) ⟨sh, so, lo, hi, sq, keep, heads⟩) 24 := by rw [← hW]; exact rowIs_new _ _ _
  have hb1 := below_alloc W (.cells #[.int .i64 z] 3)
  have hr1 := reads_one_int W z 3 W.heap.size rfl
  have CT := hid (fTimes_any _ [z] _ hr1 (by simp))
  have HQ := hid (And.intro (q1.below hb1) (chain2 hbW hbW.size hb1))
  have hl : lifeF lo hi l z = if isT z then clampI lo hi (toldF l z) else 0 := rfl
  by_cases hz : isT z = true
  · have hzb := isT_bd hz
    have C1 := hid (fun (W' : World) (h : Below w.heap.size w W') => fOwnLife_any cv l z W' (hT.below h hT.lt) (hr.below h) hs hzb.1 hzb.2)
    rw [if_pos hz] at hl
    have ht : ([z].all isT) = true := by simp [hz]
    rw [ht] at CT
    generalize toldF l z = T at C1 hl
    have HL := hid hl
    show Calls _ _ _ _ (fun e w' => e = .returned (.int .i64 (lifeF lo hi l z)) ∧ Below w.heap.size w w')
    generalize lifeF lo hi l z = F at HL ⊢
    obtain ⟨M1, hM1⟩ : ∃ M, max T lo = M := ⟨_, rfl⟩
    obtain ⟨M2, hM2⟩ : ∃ M, min M1 hi = M := ⟨_, rfl⟩
    have HF := hid (show F = M2 by rw [HL.out]; unfold clampI; split <;> split <;> omega)
    have HM := hid (And.intro hM1 hM2)
    clear hbW q1 hb1 hr1 hl hr hs hT hzb hz ht HL
    go_enter Tryz.func17, Tryz.ntmps17
    go_wp2_with fail
    refine CT.out.mono ?_
    rintro e w1 ⟨rfl, rfl⟩
    have HR := hid (And.intro HQ.out.1 (show rowIs _ w.heap.size _ _ from HQ.out.1))
    generalize W.alloc (.cells #[.int .i64 z] 3) = w1 at HQ HR ⊢
    clear hW CT HR
    go_wp2_with fail
    refine wp_region_U [] (by kernel_rfl) (fun _ W' => rowIs W' w.heap.size (rowZ (.slice no n nc) ⟨sh, so, lo, hi, sq, keep, heads⟩) 24 ∧ Below w.heap.size w W') (b := []) (by kernel_rfl) ⟨HQ.out.1, HQ.out.2.drew⟩ ?_
    refine wpAnyU_take (i := 0) (v := ?_) (by decide) rfl (by kernel_rfl) (by kernel_rfl) (by kernel_rfl) (fun _ _ _ h => h) (Steady.plain (by kernel_rfl) ?_) ?_
    rotate_left
    · intro b W hS
      have h2 := hS.1.cell 2
      have h3 := hS.1.cell 3
      go_simp
      first | done | with_reducible rfl
    simp only [Act.put, List.getElem_toArray, List.getElem_cons_succ, List.getElem_cons_zero, List.setIfInBounds_toArray, List.set_cons_zero, List.set_cons_succ]
    refine wpAnyU_take (i := 1) (v := ?_) (by decide) rfl (by kernel_rfl) (by kernel_rfl) (by kernel_rfl) (fun _ _ _ h => h) (Steady.plain (by kernel_rfl) ?_) ?_
    rotate_left
    · intro b W hS
      have h2 := hS.1.cell 2
      have h3 := hS.1.cell 3
      go_simp
      first | done | with_reducible rfl
    simp only [Act.put, List.getElem_toArray, List.getElem_cons_succ, List.getElem_cons_zero, List.setIfInBounds_toArray, List.set_cons_zero, List.set_cons_succ]
    refine wpAnyU_take (i := 2) (v := .int .i64 T) (by decide) rfl (by kernel_rfl) (by kernel_rfl) (by kernel_rfl) (fun _ _ _ h => h) (Steady.call (f := 37) (args := #[cv, .int .i64 z]) (by kernel_rfl) (fun _ => by kernel_rfl) ?_) ?_
    · intro b W hS
      refine (C1.out W hS.2).mono ?_
      rintro e w' ⟨he, hb⟩
      exact ⟨he, ⟨hS.1.below hb, chain2 hS.2 hS.2.size hb⟩⟩
    simp only [Act.put, List.getElem_toArray, List.getElem_cons_succ, List.getElem_cons_zero, List.setIfInBounds_toArray, List.set_cons_zero, List.set_cons_succ]
    refine wpAnyU_take (i := 3) (v := ?_) (by decide) rfl (by kernel_rfl) (by kernel_rfl) (by kernel_rfl) (fun _ _ _ h => h) (Steady.plain (by kernel_rfl) ?_) ?_
    rotate_left
    · intro b W hS
      have h2 := hS.1.cell 2
      have h3 := hS.1.cell 3
      go_simp
      first | done | with_reducible rfl
    simp only [Act.put, List.getElem_toArray, List.getElem_cons_succ, List.getElem_cons_zero, List.setIfInBounds_toArray, List.set_cons_zero, List.set_cons_succ]
    refine wpAnyU_take (i := 4) (v := ?_) (by decide) rfl (by kernel_rfl) (by kernel_rfl) (by kernel_rfl) (fun _ _ _ h => h) (Steady.plain (by kernel_rfl) ?_) ?_
    rotate_left
    · intro b W hS
      have h2 := hS.1.cell 2
      have h3 := hS.1.cell 3
      go_simp
      first | done | with_reducible rfl
    simp only [Act.put, List.getElem_toArray, List.getElem_cons_succ, List.getElem_cons_zero, List.setIfInBounds_toArray, List.set_cons_zero, List.set_cons_succ]
    refine wpAnyU_take (i := 5) (v := ?_) (by decide) rfl (by kernel_rfl) (by kernel_rfl) (by kernel_rfl) (fun _ _ _ h => h) (Steady.plain (by kernel_rfl) ?_) ?_
    rotate_left
    · intro b W hS
      have h2 := hS.1.cell 2
      have h3 := hS.1.cell 3
      go_simp
      first | done | with_reducible rfl
    simp only [Act.put, List.getElem_toArray, List.getElem_cons_succ, List.getElem_cons_zero, List.setIfInBounds_toArray, List.set_cons_zero, List.set_cons_succ]
    refine wpAnyU_take (i := 6) (v := ?_) (by decide) rfl (by kernel_rfl) (by kernel_rfl) (by kernel_rfl) (fun _ _ _ h => h) (Steady.plain (by kernel_rfl) ?_) ?_
    rotate_left
    · intro b W hS
      have h2 := hS.1.cell 2
      have h3 := hS.1.cell 3
      go_simp
      first | done | with_reducible rfl
    simp only [Act.put, List.getElem_toArray, List.getElem_cons_succ, List.getElem_cons_zero, List.setIfInBounds_toArray, List.set_cons_zero, List.set_cons_succ]
    refine wpAnyU_take (i := 7) (v := ?_) (by decide) rfl (by kernel_rfl) (by kernel_rfl) (by kernel_rfl) (fun _ _ _ h => h) (Steady.plain (by kernel_rfl) ?_) ?_
    rotate_left
    · intro b W hS
      have h2 := hS.1.cell 2
      have h3 := hS.1.cell 3
      go_simp
      first | done | with_reducible rfl
    simp only [Act.put, List.getElem_toArray, List.getElem_cons_succ, List.getElem_cons_zero, List.setIfInBounds_toArray, List.set_cons_zero, List.set_cons_succ]
    refine wpAnyU_take (i := 8) (v := ?_) (by decide) rfl (by kernel_rfl) (by kernel_rfl) (by kernel_rfl) (fun _ _ _ h => h) (Steady.plain (by kernel_rfl) ?_) ?_
    rotate_left
    · intro b W hS
      have h2 := hS.1.cell 2
      have h3 := hS.1.cell 3
      go_simp
      first | done | with_reducible rfl
    simp only [Act.put, List.getElem_toArray, List.getElem_cons_succ, List.getElem_cons_zero, List.setIfInBounds_toArray, List.set_cons_zero, List.set_cons_succ]
    refine wpAnyU_take (i := 9) (v := ?_) (by decide) rfl (by kernel_rfl) (by kernel_rfl) (by kernel_rfl) (fun _ _ _ h => h) (Steady.plain (by kernel_rfl) ?_) ?_
    rotate_left
    · intro b W hS
      have h2 := hS.1.cell 2
      have h3 := hS.1.cell 3
      go_simp
      first | done | with_reducible rfl
    simp only [Act.put, List.getElem_toArray, List.getElem_cons_succ, List.getElem_cons_zero, List.setIfInBounds_toArray, List.set_cons_zero, List.set_cons_succ]
    refine wpAnyU_done (b := []) (by kernel_rfl) (by kernel_rfl) ?_ _
    intro w9 hS
    have HB := hid hS.2
    clear hS
    go_wp2_with fail
    go_ret
    exact ⟨ret_int (by have h1 := HF.out; have h2 := HM.out.1; have h3 := HM.out.2; omega), HB.out⟩
  · have hz' : isT z = false := by simpa using hz
    rw [if_neg hz] at hl
    have ht : ([z].all isT) = false := by simp [hz']
    rw [ht] at CT
    have HL := hid hl
    show Calls _ _ _ _ (fun e w' => e = .returned (.int .i64 (lifeF lo hi l z)) ∧ Below w.heap.size w w')
    rw [hl]
    clear hbW q1 hb1 hr1 hl hr hs hT hz hz' ht
    go_enter Tryz.func17, Tryz.ntmps17
    go_wp2_with fail
    refine CT.out.mono ?_
    rintro e w1 ⟨rfl, rfl⟩
    go_wp2_with fail
    go_ret
    exact ⟨rfl, HQ.out.2⟩
end Go.Proofs.YtejdlplgkmelkaaGreatDoor
/-
  Contract of package fresh: Age.
-/
namespace Go.Proofs.YtejdlplgkmelkaaGreatDoor
open Go.RowKit Go.Pantry

theorem reads_three_ints (w : World) (x y z : Int) (e : TypeId) (g : Nat) (hg : g = w.heap.size) : Reads (w.alloc (.cells #[.int .i64 x, .int .i64 y, .int .i64 z] e)) (.slice (some ⟨g, 0, none⟩) 3 3) ([x, y, z].map (Value.int .i64)) := by
  subst hg; exact reads_new w ([x, y, z].map (Value.int .i64)) e 3
set_option maxRecDepth 8000 in
set_option maxHeartbeats 4000000 in
theorem fAge_any (cv : Value) (l : List Fld) (x y z : Int) (w : World) (hT : Tables w) (hr : Reads2 w cv l) (hs : SmallF l) :
    Calls Tryz.prog 19 #[cv, .int .i64 x, .int .i64 y, .int .i64 z] w fun e w' => e = .returned (.int .i64 (ageF l x y z)) ∧ Below w.heap.size w w' := by
  have hb1 := below_alloc w (.cells #[.int .i64 x, .int .i64 y, .int .i64 z] 3)
  have hr1 := reads_three_ints w x y z 3 w.heap.size rfl
  have CT := hid (fTimes_any _ [x, y, z] _ hr1 (by simp))
  have HB1 := hid hb1
  have hall : ([x, y, z].all isT) = (isT x && (isT y && isT z)) := by simp
  by_cases hz : (isT x && (isT y && isT z)) = true
  · rw [hall, hz] at CT
    have hz' := hz
    simp only [Bool.and_eq_true] at hz'
    have hx := isT_bd hz'.1
    have hy := isT_bd hz'.2.1
    have hzz := isT_bd hz'.2.2
    have hag : ageF l x y z = max (max 0 (y - dayF l y)) (numF l nAge + max 0 (y - x)) + max 0 (z - y) := by rw [ageF_on hx.1 hx.2 hy.1 hy.2 hzz.1 hzz.2]; rfl
    have C2 := hid (fun (W : World) (h : Below w.heap.size w W) => fBorn_any cv l y W (hT.below h hT.lt) (hr.below h) hs)
    have c3 := fun (W : World) (h : Below w.heap.size w W) => lGet_any cv l ⟨([65, 103, 101] : List UInt8).toArray⟩ W (hr.below h) hs.okFs (by decide)
    simp only [dtL, getF_same (show lowerL [65, 103, 101] = lowerL nAge by decide)] at c3
    have hg := hs.get nAge
    have c4 := fun (W : World) => Number_any ⟨(getF l nAge).toArray⟩ W (by rw [szL]; omega)
    simp only [dtL] at c4
    have hnb := numF_bd l nAge
    have hnf : (((numberL (getF l nAge)).getD 0 : Nat) : Int) = numF l nAge := rfl
    simp only [hnf] at c4
    have hdy := dayF_bd l (isT_of hy.1 hy.2)
    generalize (!(allF l [65, 103, 101]).isEmpty) = gb at c3
    generalize (numberL (getF l nAge)).isSome = nsome at c4
    generalize getF l nAge = G at c3 c4
    generalize numF l nAge = N at c4 hnb hag
    generalize dayF l y = dd at C2 hdy hag
    generalize ageF l x y z = AG at hag ⊢
    have C5 := hid (fun (W : World) => fPast_any dd y W hdy hy)
    have C6 := hid (fun (W : World) => fPast_any x y W hx hy)
    have C7 := hid (fun (W : World) => fPast_any y z W hy hzz)
    obtain ⟨P5, h5⟩ : ∃ P, max 0 (y - dd) = P := ⟨_, rfl⟩
    obtain ⟨P6, h6⟩ : ∃ P, max 0 (y - x) = P := ⟨_, rfl⟩
    obtain ⟨P7, h7⟩ : ∃ P, max 0 (z - y) = P := ⟨_, rfl⟩
    rw [h5, h6, h7] at hag
    rw [h5] at C5
    rw [h6] at C6
    rw [h7] at C7
    have k1 : IntKind.i64.wrap (N + P6) = N + P6 := IntWalk.i64_in _ (by omega)
    obtain ⟨M, hM⟩ : ∃ M, max P5 (N + P6) = M := ⟨_, rfl⟩
    rw [hM] at hag
    have k2 : IntKind.i64.wrap (M + P7) = M + P7 := IntWalk.i64_in _ (by omega)
    have k3 : (if P5 < N + P6 then N + P6 else P5) = M := by rw [← hM]; split <;> omega
    have k4 : (if N + P6 < P5 then P5 else N + P6) = M := by rw [← hM]; split <;> omega
    have HA := hid hag
    have C3 := hid c3
    have C4 := hid c4
    clear c3 c4 hg hnf hag hr hs hT hb1 hr1 hall hz hz' hx hy hzz hdy hnb h5 h6 h7 HB1
    have HB0 := hid (below_alloc w (.cells #[.int .i64 x, .int .i64 y, .int .i64 z] 3))
    go_enter Tryz.func19, Tryz.ntmps19
    go_wp2_with fail
    refine CT.out.mono ?_
    rintro e w1 ⟨rfl, rfl⟩
    generalize w.alloc (.cells #[.int .i64 x, .int .i64 y, .int .i64 z] 3) = w1 at HB0 ⊢
    clear CT
    go_wp2_with fail
    refine (C3.out _ HB0.out).mono ?_
    rintro e w2 ⟨rfl, hb2⟩
    have HB2 := hid (chain2 HB0.out HB0.out.size hb2)
    clear hb2
    go_wp2_with fail
    refine (C4.out _).mono ?_
    rintro e w3 ⟨rfl, rfl⟩
    go_wp2_with fail
    refine (C2.out _ HB2.out).mono ?_
    rintro e w4 ⟨rfl, hb4⟩
    have HB4 := hid (chain2 HB2.out HB2.out.size hb4)
    clear hb4
    go_wp2_with fail
    refine (C5.out _).mono ?_
    rintro e w5 ⟨rfl, rfl⟩
    go_wp2_with fail
    refine (C6.out _).mono ?_
    rintro e w5 ⟨rfl, rfl⟩
    go_wp2_with fail
    refine (C7.out _).mono ?_
    rintro e w5 ⟨rfl, rfl⟩
    go_wp2_with fail
    go_ret
    exact ⟨ret_int HA.out.symm, HB4.out⟩
  · have hz' : (isT x && (isT y && isT z)) = false := by simpa using hz
    rw [hall, hz'] at CT
    have hag : ageF l x y z = 0 := by unfold ageF; rw [if_neg hz]
    rw [hag]
    clear hz hz' hall hag hb1 hr1 hr hs hT
    go_enter Tryz.func19, Tryz.ntmps19
    go_wp2_with fail
    refine CT.out.mono ?_
    rintro e w1 ⟨rfl, rfl⟩
    go_wp2_with fail
    go_ret
    exact ⟨rfl, HB1.out⟩
end Go.Proofs.YtejdlplgkmelkaaGreatDoor
/-
  Contract of package fresh: Use.
-/
namespace Go.Proofs.YtejdlplgkmelkaaGreatDoor
open Go.RowKit Go.Pantry

set_option maxRecDepth 8000 in
set_option maxHeartbeats 4000000 in
theorem fUse_any (no : Option Addr) (n nc : Nat) (s : SiteZ) (rv cv : Value) (req came : List Fld) (x y z : Int) (w : World) (hT : Tables w) (hr : Reads2 w rv req) (hc : Reads2 w cv came) (hsr : SmallF req) (hsc : SmallF came) (hlo : 0 ≤ s.min ∧ s.min ≤ 2147483648) (hhi : 0 ≤ s.max ∧ s.max ≤ 2147483648) :
    Calls Tryz.prog 21 #[.agg (rowZ (.slice no n nc) s), rv, cv, .int .i64 x, .int .i64 y, .int .i64 z] w fun e w' => e = .returned (.int .i64 (useF s.min s.max req came x y z)) ∧ Below w.heap.size w w' := by
  obtain ⟨W, hW⟩ : ∃ W, w.alloc (.cells (rowZ (.slice no n nc) s) 24) = W := ⟨_, rfl⟩
  have hbW : Below w.heap.size w W := by rw [← hW]; exact below_alloc _ _
  have q1 : rowIs W w.heap.size (rowZ (.slice no n nc) s) 24 := by rw [← hW]; exact rowIs_new _ _ _
  have HQ := hid (And.intro q1 hbW)
  have C1 := hid (fOf_any rv req W (hr.below hbW) hsr)
  have hu : useF s.min s.max req came x y z = if isT x && (isT y && isT z) && mayF (ctlF req) (ctlF came) (ageF came x y z) (lifeF s.min s.max came y) then 0 else if (ctlF req).only then 2 else 1 := rfl
  have HU := hid hu
  have hlb := lifeF_le came y hlo.1 hhi.1 hhi.2 hlo.2
  have hab := ageF_le came x y z
  have CT := hid (fun (W' : World) (v : Value) (h : Reads W' v ([x, y, z].map (Value.int .i64))) => fTimes_any v [x, y, z] W' h (by simp))
  rw [show ([x, y, z].all isT) = (isT x && (isT y && isT z)) by simp] at CT
  have C2 := hid (fun (W' : World) (h : Below w.heap.size w W') => fOf_any cv came W' (hc.below h) hsc)
  have C3 := hid (fun (W' : World) (h : Below w.heap.size w W') => fAge_any cv came x y z W' (hT.below h hT.lt) (hc.below h) hsc)
  have C4 := hid (fun (W' : World) (h : Below w.heap.size w W') => fLife_any no n nc s cv came y W' (hT.below h hT.lt) (hc.below h) hsc)
  have C5 := hid (fun (W' : World) => fUsable_any (ctlF req) (ctlF came) (ageF came x y z) (lifeF s.min s.max came y) W' (ctlF_bd req) hab.1 hab.2 (by omega) (by omega))
  generalize ageF came x y z = AG at C3 C5 HU
  generalize lifeF s.min s.max came y = LI at C4 C5 HU
  generalize mayF (ctlF req) (ctlF came) AG LI = MY at C5 HU
  generalize useF s.min s.max req came x y z = US at HU ⊢
  generalize (isT x && (isT y && isT z)) = R at CT HU
  clear hu hr hc hsr hsc hlo hhi q1 hbW hlb hab hT
  go_enter Tryz.func21, Tryz.ntmps21
  go_wp2_with fail
  clear hW
  refine C1.out.mono ?_
  rintro e w1 ⟨rfl, hb1⟩
  obtain ⟨CQ, hCQ⟩ : ∃ x, ctlF req = x := ⟨_, rfl⟩
  obtain ⟨CP, hCP⟩ : ∃ x, ctlF came = x := ⟨_, rfl⟩
  rw [hCQ] at C5 HU ⊢
  rw [hCP] at C5 C2
  clear C1 hCQ hCP
  have hb2 := below_alloc w1 (.cells (rowC CQ) 57)
  have R1 := hid (HQ.out.1.below (chain2 hb1 hb1.size hb2))
  have HB2 := hid (chain2 HQ.out.2 HQ.out.2.size (chain2 hb1 hb1.size hb2))
  have R2 := hid (rowIs_new w1 (rowC CQ) 57)
  clear hb1 hb2 HQ
  go_upto_region 2 with fail
  change Code.wp _ _ _ _ (w1.alloc (.cells (rowC CQ) 57))
  obtain ⟨G, hG⟩ : ∃ G, w1.heap.size = G := ⟨_, rfl⟩
  rw [hG] at R2 ⊢
  generalize w1.alloc (.cells (rowC CQ) 57) = w2 at R1 R2 HB2 ⊢
  clear hG
  cases R with
  | false =>
    have HV := hid (show US = if CQ.only then 2 else 1 by rw [HU.out]; rfl)
    clear HU C2 C3 C4 C5
    refine wp_region_held_drew (S := fun W' => rowIs W' w.heap.size (rowZ (.slice no n nc) s) 24 ∧ rowIs W' G (rowC CQ) 57 ∧ Below w.heap.size w W') (by kernel_rfl) ⟨R1.out, R2.out, HB2.out.drew⟩ (fun hH => ?_)
    refine wpAnyH_take (i := 0) (v := ?_) rfl (by kernel_rfl) (by kernel_rfl) (by kernel_rfl) (fun _ _ _ h => h) (Or.inl ⟨by kernel_rfl, ?_⟩) hH ?_
    rotate_left
    · intro W hS
      skip
      go_simp
      first | done | with_reducible rfl
    simp only [Act.put, List.getElem_toArray, List.getElem_cons_succ, List.getElem_cons_zero, List.setIfInBounds_toArray, List.set_cons_zero, List.set_cons_succ]
    refine wpAnyH_take (i := 1) (v := ?_) rfl (by kernel_rfl) (by kernel_rfl) (by kernel_rfl) (fun _ _ _ h => h) (Or.inl ⟨by kernel_rfl, ?_⟩) hH ?_
    rotate_left
    · intro W hS
      skip
      go_simp
      first | done | with_reducible rfl
    simp only [Act.put, List.getElem_toArray, List.getElem_cons_succ, List.getElem_cons_zero, List.setIfInBounds_toArray, List.set_cons_zero, List.set_cons_succ]
    refine wpAnyH_take (i := 2) (v := ?_) rfl (by kernel_rfl) (by kernel_rfl) (by kernel_rfl) (fun _ _ _ h => h) (Or.inl ⟨by kernel_rfl, ?_⟩) hH ?_
    rotate_left
    · intro W hS
      skip
      go_simp
      first | done | with_reducible rfl
    simp only [Act.put, List.getElem_toArray, List.getElem_cons_succ, List.getElem_cons_zero, List.setIfInBounds_toArray, List.set_cons_zero, List.set_cons_succ]
    refine wpAnyH_ready (rs := [3]) (by kernel_rfl) (by simp) ?_
    refine AllReadyH.cons rfl (fun K hK => ?_) AllReadyH.nil
    go_simp
    have hb0 := below_alloc w2.drew (.cells #[.int .i64 x, .int .i64 y, .int .i64 z] 3)
    have HR0 := hid (reads_three_ints w2.drew x y z 3 w2.heap.size rfl)
    refine hK.out _ _ ⟨hH.1.below hb0, hH.2.1.below hb0, chain2 hH.2.2 hH.2.2.size hb0⟩ (fun hH => ?_)
    clear hb0
    clear hK K
    try simp only [Act.put, List.getElem_toArray, List.getElem_cons_succ, List.getElem_cons_zero, List.setIfInBounds_toArray, List.set_cons_zero, List.set_cons_succ]
    refine wpAnyH_ready (rs := [4]) (by kernel_rfl) (by simp) ?_
    refine AllReadyH.cons rfl (fun K hK => ?_) AllReadyH.nil
    go_simp
    refine (CT.out _ _ HR0.out).mono ?_
    rintro e w5 ⟨rfl, rfl⟩
    refine hK.out _ _ hH (fun hH => ?_)
    clear HR0
    clear hK K
    try simp only [Act.put, List.getElem_toArray, List.getElem_cons_succ, List.getElem_cons_zero, List.setIfInBounds_toArray, List.set_cons_zero, List.set_cons_succ]
    refine wpAnyH_take (i := 5) (v := ?_) rfl (by kernel_rfl) (by kernel_rfl) (by kernel_rfl) (fun _ _ _ h => h) (Or.inl ⟨by kernel_rfl, ?_⟩) hH ?_
    rotate_left
    · intro W hS
      skip
      go_simp
      first | done | with_reducible rfl
    simp only [Act.put, List.getElem_toArray, List.getElem_cons_succ, List.getElem_cons_zero, List.setIfInBounds_toArray, List.set_cons_zero, List.set_cons_succ]
    refine wpAnyH_take (i := 6) rfl (by kernel_rfl) (by kernel_rfl) (by kernel_rfl) (fun _ _ _ h => h) (Or.inr ⟨by kernel_rfl, rfl⟩) hH ?_
    simp only [Act.put, List.getElem_toArray, List.getElem_cons_succ, List.getElem_cons_zero, List.setIfInBounds_toArray, List.set_cons_zero, List.set_cons_succ]
    refine wpAnyH_take (i := 7) rfl (by kernel_rfl) (by kernel_rfl) (by kernel_rfl) (fun _ _ _ h => h) (Or.inr ⟨by kernel_rfl, rfl⟩) hH ?_
    simp only [Act.put, List.getElem_toArray, List.getElem_cons_succ, List.getElem_cons_zero, List.setIfInBounds_toArray, List.set_cons_zero, List.set_cons_succ]
    refine wpAnyH_take (i := 8) rfl (by kernel_rfl) (by kernel_rfl) (by kernel_rfl) (fun _ _ _ h => h) (Or.inr ⟨by kernel_rfl, rfl⟩) hH ?_
    simp only [Act.put, List.getElem_toArray, List.getElem_cons_succ, List.getElem_cons_zero, List.setIfInBounds_toArray, List.set_cons_zero, List.set_cons_succ]
    refine wpAnyH_take (i := 9) rfl (by kernel_rfl) (by kernel_rfl) (by kernel_rfl) (fun _ _ _ h => h) (Or.inr ⟨by kernel_rfl, rfl⟩) hH ?_
    simp only [Act.put, List.getElem_toArray, List.getElem_cons_succ, List.getElem_cons_zero, List.setIfInBounds_toArray, List.set_cons_zero, List.set_cons_succ]
    refine wpAnyH_take (i := 10) rfl (by kernel_rfl) (by kernel_rfl) (by kernel_rfl) (fun _ _ _ h => h) (Or.inr ⟨by kernel_rfl, rfl⟩) hH ?_
    simp only [Act.put, List.getElem_toArray, List.getElem_cons_succ, List.getElem_cons_zero, List.setIfInBounds_toArray, List.set_cons_zero, List.set_cons_succ]
    refine wpAnyH_take (i := 11) rfl (by kernel_rfl) (by kernel_rfl) (by kernel_rfl) (fun _ _ _ h => h) (Or.inr ⟨by kernel_rfl, rfl⟩) hH ?_
    simp only [Act.put, List.getElem_toArray, List.getElem_cons_succ, List.getElem_cons_zero, List.setIfInBounds_toArray, List.set_cons_zero, List.set_cons_succ]
    refine wpAnyH_take (i := 12) rfl (by kernel_rfl) (by kernel_rfl) (by kernel_rfl) (fun _ _ _ h => h) (Or.inr ⟨by kernel_rfl, rfl⟩) hH ?_
    simp only [Act.put, List.getElem_toArray, List.getElem_cons_succ, List.getElem_cons_zero, List.setIfInBounds_toArray, List.set_cons_zero, List.set_cons_succ]
    refine wpAnyH_take (i := 13) rfl (by kernel_rfl) (by kernel_rfl) (by kernel_rfl) (fun _ _ _ h => h) (Or.inr ⟨by kernel_rfl, rfl⟩) hH ?_
    simp only [Act.put, List.getElem_toArray, List.getElem_cons_succ, List.getElem_cons_zero, List.setIfInBounds_toArray, List.set_cons_zero, List.set_cons_succ]
    refine wpAnyH_take (i := 14) rfl (by kernel_rfl) (by kernel_rfl) (by kernel_rfl) (fun _ _ _ h => h) (Or.inr ⟨by kernel_rfl, rfl⟩) hH ?_
    simp only [Act.put, List.getElem_toArray, List.getElem_cons_succ, List.getElem_cons_zero, List.setIfInBounds_toArray, List.set_cons_zero, List.set_cons_succ]
    refine wpAnyH_take (i := 15) rfl (by kernel_rfl) (by kernel_rfl) (by kernel_rfl) (fun _ _ _ h => h) (Or.inr ⟨by kernel_rfl, rfl⟩) hH ?_
    simp only [Act.put, List.getElem_toArray, List.getElem_cons_succ, List.getElem_cons_zero, List.setIfInBounds_toArray, List.set_cons_zero, List.set_cons_succ]
    refine wpAnyH_take (i := 16) rfl (by kernel_rfl) (by kernel_rfl) (by kernel_rfl) (fun _ _ _ h => h) (Or.inr ⟨by kernel_rfl, rfl⟩) hH ?_
    simp only [Act.put, List.getElem_toArray, List.getElem_cons_succ, List.getElem_cons_zero, List.setIfInBounds_toArray, List.set_cons_zero, List.set_cons_succ]
    refine wpAnyH_take (i := 17) rfl (by kernel_rfl) (by kernel_rfl) (by kernel_rfl) (fun _ _ _ h => h) (Or.inr ⟨by kernel_rfl, rfl⟩) hH ?_
    simp only [Act.put, List.getElem_toArray, List.getElem_cons_succ, List.getElem_cons_zero, List.setIfInBounds_toArray, List.set_cons_zero, List.set_cons_succ]
    refine wpAnyH_take (i := 18) rfl (by kernel_rfl) (by kernel_rfl) (by kernel_rfl) (fun _ _ _ h => h) (Or.inr ⟨by kernel_rfl, rfl⟩) hH ?_
    simp only [Act.put, List.getElem_toArray, List.getElem_cons_succ, List.getElem_cons_zero, List.setIfInBounds_toArray, List.set_cons_zero, List.set_cons_succ]
    refine wpAnyH_take (i := 19) (v := ?_) rfl (by kernel_rfl) (by kernel_rfl) (by kernel_rfl) (fun _ _ _ h => h) (Or.inl ⟨by kernel_rfl, ?_⟩) hH ?_
    rotate_left
    · intro W hS
      skip
      go_simp
      first | done | with_reducible rfl
    simp only [Act.put, List.getElem_toArray, List.getElem_cons_succ, List.getElem_cons_zero, List.setIfInBounds_toArray, List.set_cons_zero, List.set_cons_succ]
    refine wpAnyH_take (i := 20) (v := ?_) rfl (by kernel_rfl) (by kernel_rfl) (by kernel_rfl) (fun _ _ _ h => h) (Or.inl ⟨by kernel_rfl, ?_⟩) hH ?_
    rotate_left
    · intro W hS
      skip
      go_simp
      first | done | with_reducible rfl
    simp only [Act.put, List.getElem_toArray, List.getElem_cons_succ, List.getElem_cons_zero, List.setIfInBounds_toArray, List.set_cons_zero, List.set_cons_succ]
    refine wpAnyH_done (by kernel_rfl) ?_ _
    have hy := hH.2.1.cell 5
    change _ = some (Value.bool CQ.only) at hy
    have HB := hid hH.2.2
    clear hH
    generalize w2.drew.alloc (.cells #[.int .i64 x, .int .i64 y, .int .i64 z] 3) = w7 at hy HB ⊢
    generalize CQ.only = on at HV hy
    cases on
    all_goals
      go_wp2_with fail
      go_ret
      exact ⟨ret_int HV.out.symm, HB.out⟩
  | true =>
    have HV := hid (show US = if MY then 0 else if CQ.only then 2 else 1 by rw [HU.out]; rfl)
    clear HU
    refine wp_region_held_drew (S := fun W' => rowIs W' w.heap.size (rowZ (.slice no n nc) s) 24 ∧ rowIs W' G (rowC CQ) 57 ∧ Below w.heap.size w W') (by kernel_rfl) ⟨R1.out, R2.out, HB2.out.drew⟩ (fun hH => ?_)
    refine wpAnyH_take (i := 0) (v := ?_) rfl (by kernel_rfl) (by kernel_rfl) (by kernel_rfl) (fun _ _ _ h => h) (Or.inl ⟨by kernel_rfl, ?_⟩) hH ?_
    rotate_left
    · intro W hS
      skip
      go_simp
      first | done | with_reducible rfl
    simp only [Act.put, List.getElem_toArray, List.getElem_cons_succ, List.getElem_cons_zero, List.setIfInBounds_toArray, List.set_cons_zero, List.set_cons_succ]
    refine wpAnyH_take (i := 1) (v := ?_) rfl (by kernel_rfl) (by kernel_rfl) (by kernel_rfl) (fun _ _ _ h => h) (Or.inl ⟨by kernel_rfl, ?_⟩) hH ?_
    rotate_left
    · intro W hS
      skip
      go_simp
      first | done | with_reducible rfl
    simp only [Act.put, List.getElem_toArray, List.getElem_cons_succ, List.getElem_cons_zero, List.setIfInBounds_toArray, List.set_cons_zero, List.set_cons_succ]
    refine wpAnyH_take (i := 2) (v := ?_) rfl (by kernel_rfl) (by kernel_rfl) (by kernel_rfl) (fun _ _ _ h => h) (Or.inl ⟨by kernel_rfl, ?_⟩) hH ?_
    rotate_left
    · intro W hS
      skip
      go_simp
      first | done | with_reducible rfl
    simp only [Act.put, List.getElem_toArray, List.getElem_cons_succ, List.getElem_cons_zero, List.setIfInBounds_toArray, List.set_cons_zero, List.set_cons_succ]
    refine wpAnyH_ready (rs := [3]) (by kernel_rfl) (by simp) ?_
    refine AllReadyH.cons rfl (fun K hK => ?_) AllReadyH.nil
    go_simp
    have hb0 := below_alloc w2.drew (.cells #[.int .i64 x, .int .i64 y, .int .i64 z] 3)
    have HR0 := hid (reads_three_ints w2.drew x y z 3 w2.heap.size rfl)
    refine hK.out _ _ ⟨hH.1.below hb0, hH.2.1.below hb0, chain2 hH.2.2 hH.2.2.size hb0⟩ (fun hH => ?_)
    clear hb0
    clear hK K
    try simp only [Act.put, List.getElem_toArray, List.getElem_cons_succ, List.getElem_cons_zero, List.setIfInBounds_toArray, List.set_cons_zero, List.set_cons_succ]
    refine wpAnyH_ready (rs := [4]) (by kernel_rfl) (by simp) ?_
    refine AllReadyH.cons rfl (fun K hK => ?_) AllReadyH.nil
    go_simp
    refine (CT.out _ _ HR0.out).mono ?_
    rintro e w5 ⟨rfl, rfl⟩
    refine hK.out _ _ hH (fun hH => ?_)
    clear HR0
    clear hK K
    try simp only [Act.put, List.getElem_toArray, List.getElem_cons_succ, List.getElem_cons_zero, List.setIfInBounds_toArray, List.set_cons_zero, List.set_cons_succ]
    refine wpAnyH_take (i := 5) (v := ?_) rfl (by kernel_rfl) (by kernel_rfl) (by kernel_rfl) (fun _ _ _ h => h) (Or.inl ⟨by kernel_rfl, ?_⟩) hH ?_
    rotate_left
    · intro W hS
      skip
      go_simp
      first | done | with_reducible rfl
    simp only [Act.put, List.getElem_toArray, List.getElem_cons_succ, List.getElem_cons_zero, List.setIfInBounds_toArray, List.set_cons_zero, List.set_cons_succ]
    refine wpAnyH_take (i := 6) (v := .agg (rowC CQ)) rfl (by kernel_rfl) (by kernel_rfl) (by kernel_rfl) (fun _ _ _ h => h) (Or.inl ⟨by kernel_rfl, ?_⟩) hH ?_
    · intro W hS
      exact load_gives (x := .tmp 13) (by kernel_rfl) G (by kernel_rfl) hS.2.1 Tryz.underlying57 rfl infoCtlP
    simp only [Act.put, List.getElem_toArray, List.getElem_cons_succ, List.getElem_cons_zero, List.setIfInBounds_toArray, List.set_cons_zero, List.set_cons_succ]
    refine wpAnyH_take (i := 7) (v := ?_) rfl (by kernel_rfl) (by kernel_rfl) (by kernel_rfl) (fun _ _ _ h => h) (Or.inl ⟨by kernel_rfl, ?_⟩) hH ?_
    rotate_left
    · intro W hS
      skip
      go_simp
      first | done | with_reducible rfl
    simp only [Act.put, List.getElem_toArray, List.getElem_cons_succ, List.getElem_cons_zero, List.setIfInBounds_toArray, List.set_cons_zero, List.set_cons_succ]
    refine wpAnyH_take (i := 9) (v := ?_) rfl (by kernel_rfl) (by kernel_rfl) (by kernel_rfl) (fun _ _ _ h => h) (Or.inl ⟨by kernel_rfl, ?_⟩) hH ?_
    rotate_left
    · intro W hS
      skip
      go_simp
      first | done | with_reducible rfl
    simp only [Act.put, List.getElem_toArray, List.getElem_cons_succ, List.getElem_cons_zero, List.setIfInBounds_toArray, List.set_cons_zero, List.set_cons_succ]
    refine wpAnyH_take (i := 10) (v := ?_) rfl (by kernel_rfl) (by kernel_rfl) (by kernel_rfl) (fun _ _ _ h => h) (Or.inl ⟨by kernel_rfl, ?_⟩) hH ?_
    rotate_left
    · intro W hS
      skip
      go_simp
      first | done | with_reducible rfl
    simp only [Act.put, List.getElem_toArray, List.getElem_cons_succ, List.getElem_cons_zero, List.setIfInBounds_toArray, List.set_cons_zero, List.set_cons_succ]
    refine wpAnyH_take (i := 11) (v := ?_) rfl (by kernel_rfl) (by kernel_rfl) (by kernel_rfl) (fun _ _ _ h => h) (Or.inl ⟨by kernel_rfl, ?_⟩) hH ?_
    rotate_left
    · intro W hS
      skip
      go_simp
      first | done | with_reducible rfl
    simp only [Act.put, List.getElem_toArray, List.getElem_cons_succ, List.getElem_cons_zero, List.setIfInBounds_toArray, List.set_cons_zero, List.set_cons_succ]
    refine wpAnyH_take (i := 12) (v := ?_) rfl (by kernel_rfl) (by kernel_rfl) (by kernel_rfl) (fun _ _ _ h => h) (Or.inl ⟨by kernel_rfl, ?_⟩) hH ?_
    rotate_left
    · intro W hS
      skip
      go_simp
      first | done | with_reducible rfl
    simp only [Act.put, List.getElem_toArray, List.getElem_cons_succ, List.getElem_cons_zero, List.setIfInBounds_toArray, List.set_cons_zero, List.set_cons_succ]
    refine wpAnyH_take (i := 14) (v := .agg (rowZ (.slice no n nc) s)) rfl (by kernel_rfl) (by kernel_rfl) (by kernel_rfl) (fun _ _ _ h => h) (Or.inl ⟨by kernel_rfl, ?_⟩) hH ?_
    · intro W hS
      exact load_gives (x := .tmp 6) (by kernel_rfl) w.heap.size (by kernel_rfl) hS.1 Tryz.underlying24 rfl infoSiteK
    simp only [Act.put, List.getElem_toArray, List.getElem_cons_succ, List.getElem_cons_zero, List.setIfInBounds_toArray, List.set_cons_zero, List.set_cons_succ]
    refine wpAnyH_take (i := 15) (v := ?_) rfl (by kernel_rfl) (by kernel_rfl) (by kernel_rfl) (fun _ _ _ h => h) (Or.inl ⟨by kernel_rfl, ?_⟩) hH ?_
    rotate_left
    · intro W hS
      skip
      go_simp
      first | done | with_reducible rfl
    simp only [Act.put, List.getElem_toArray, List.getElem_cons_succ, List.getElem_cons_zero, List.setIfInBounds_toArray, List.set_cons_zero, List.set_cons_succ]
    refine wpAnyH_take (i := 16) (v := ?_) rfl (by kernel_rfl) (by kernel_rfl) (by kernel_rfl) (fun _ _ _ h => h) (Or.inl ⟨by kernel_rfl, ?_⟩) hH ?_
    rotate_left
    · intro W hS
      skip
      go_simp
      first | done | with_reducible rfl
    simp only [Act.put, List.getElem_toArray, List.getElem_cons_succ, List.getElem_cons_zero, List.setIfInBounds_toArray, List.set_cons_zero, List.set_cons_succ]
    refine wpAnyH_ready (rs := [8]) (by kernel_rfl) (by simp) ?_
    refine AllReadyH.cons rfl (fun K hK => ?_) AllReadyH.nil
    go_simp
    refine (C2.out _ hH.2.2).mono ?_
    rintro e w6 ⟨rfl, hb6⟩
    refine hK.out _ _ ⟨hH.1.below hb6, hH.2.1.below hb6, chain2 hH.2.2 hH.2.2.size hb6⟩ (fun hH => ?_)
    clear hb6
    clear hK K
    try simp only [Act.put, List.getElem_toArray, List.getElem_cons_succ, List.getElem_cons_zero, List.setIfInBounds_toArray, List.set_cons_zero, List.set_cons_succ]
    refine wpAnyH_ready (rs := [13]) (by kernel_rfl) (by simp) ?_
    refine AllReadyH.cons rfl (fun K hK => ?_) AllReadyH.nil
    go_simp
    refine (C3.out _ hH.2.2).mono ?_
    rintro e w7 ⟨rfl, hb7⟩
    refine hK.out _ _ ⟨hH.1.below hb7, hH.2.1.below hb7, chain2 hH.2.2 hH.2.2.size hb7⟩ (fun hH => ?_)
    clear hb7
    clear hK K
    try simp only [Act.put, List.getElem_toArray, List.getElem_cons_succ, List.getElem_cons_zero, List.setIfInBounds_toArray, List.set_cons_zero, List.set_cons_succ]
    refine wpAnyH_ready (rs := [17]) (by kernel_rfl) (by simp) ?_
    refine AllReadyH.cons rfl (fun K hK => ?_) AllReadyH.nil
    go_simp
    refine (C4.out _ hH.2.2).mono ?_
    rintro e w9 ⟨rfl, hb9⟩
    refine hK.out _ _ ⟨hH.1.below hb9, hH.2.1.below hb9, chain2 hH.2.2 hH.2.2.size hb9⟩ (fun hH => ?_)
    clear hb9
    clear hK K
    try simp only [Act.put, List.getElem_toArray, List.getElem_cons_succ, List.getElem_cons_zero, List.setIfInBounds_toArray, List.set_cons_zero, List.set_cons_succ]
    refine wpAnyH_ready (rs := [18]) (by kernel_rfl) (by simp) ?_
    refine AllReadyH.cons rfl (fun K hK => ?_) AllReadyH.nil
    go_simp
    refine (C5.out _).mono ?_
    rintro e w8 ⟨rfl, hb8⟩
    refine hK.out _ _ ⟨hH.1.below hb8, hH.2.1.below hb8, chain2 hH.2.2 hH.2.2.size hb8⟩ (fun hH => ?_)
    clear hb8
    clear hK K
    try simp only [Act.put, List.getElem_toArray, List.getElem_cons_succ, List.getElem_cons_zero, List.setIfInBounds_toArray, List.set_cons_zero, List.set_cons_succ]
    refine wpAnyH_take (i := 19) (v := ?_) rfl (by kernel_rfl) (by kernel_rfl) (by kernel_rfl) (fun _ _ _ h => h) (Or.inl ⟨by kernel_rfl, ?_⟩) hH ?_
    rotate_left
    · intro W hS
      skip
      go_simp
      first | done | with_reducible rfl
    simp only [Act.put, List.getElem_toArray, List.getElem_cons_succ, List.getElem_cons_zero, List.setIfInBounds_toArray, List.set_cons_zero, List.set_cons_succ]
    refine wpAnyH_take (i := 20) (v := ?_) rfl (by kernel_rfl) (by kernel_rfl) (by kernel_rfl) (fun _ _ _ h => h) (Or.inl ⟨by kernel_rfl, ?_⟩) hH ?_
    rotate_left
    · intro W hS
      skip
      go_simp
      first | done | with_reducible rfl
    simp only [Act.put, List.getElem_toArray, List.getElem_cons_succ, List.getElem_cons_zero, List.setIfInBounds_toArray, List.set_cons_zero, List.set_cons_succ]
    refine wpAnyH_done (by kernel_rfl) ?_ _
    have hy := hH.2.1.cell 5
    change _ = some (Value.bool CQ.only) at hy
    have HB := hid hH.2.2
    clear hH
    cases MY with
    | true =>
      go_wp2_with fail
      go_ret
      exact ⟨ret_int HV.out.symm, HB.out⟩
    | false =>
      generalize CQ.only = on at HV hy
      cases on
      all_goals
        go_wp2_with fail
        go_ret
        exact ⟨ret_int HV.out.symm, HB.out⟩
end Go.Proofs.YtejdlplgkmelkaaGreatDoor
