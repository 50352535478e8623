/-
  The statements' small and fit of layer 11.
-/
import Derived.Test.YtbjgbkbhalibdaaDoorSmallK
import Derived.Test.YtbjgbkbhalibdaaDoorRef11K
import Derived.Test.YtbjgbkbhalibdaaDoorInfo3
namespace Go.Proofs.YtbjgbkbhalibdaaDoor
open Go.RowKit Go.Pantry

/-- can fields be gone through with? -/
def smallK (L : List Fld) : Bool := L.all (fun f => decide (f.1.length ≤ 100) && decide (f.2.length ≤ 300)) && decide (L.length ≤ 30)
set_option maxHeartbeats 4000000 in
theorem smallK_any (v : Value) (L : List Fld) (w : World) (hr : Reads2 w v L) (hn : (L.length : Int) ≤ 9223372036854775807) :
    Calls Tryd.prog 10 #[v] w fun e w' => e = .returned (.bool (smallK L)) ∧ Below w.heap.size w w' := by
  obtain ⟨ao, cap, rfl⟩ := hr.form
  have HR := hid hr
  have hrf : smallK L = (L.all (fun f => decide (f.1.length ≤ 100) && decide (f.2.length ≤ 300)) && decide (L.length ≤ 30)) := rfl
  obtain ⟨r, hrr⟩ : ∃ r, smallK L = r := ⟨_, rfl⟩
  rw [hrr] at hrf ⊢
  have HF := hid hrf
  clear hr hrr hrf
  go_enter Tryd.func10, Tryd.ntmps10
  go_wp2
  go_loopw [7] (fun i wr => ∃ (k : Nat), k ≤ L.length ∧ i = .int .i64 k ∧ (L.take k).all (fun f => decide (f.1.length ≤ 100) && decide (f.2.length ≤ 300)) = true ∧ Below w.heap.size w wr) (fun i _ => L.length - (intOf i).toNat)
  case atStart => exact ⟨0, Nat.zero_le _, rfl, rfl, Below.refl _ _⟩
  case round =>
    obtain ⟨k, hk, rfl, hak, hb⟩ := hrel
    have HK := hid hak
    clear hak
    by_cases hlt : k < L.length
    · obtain ⟨f, hf⟩ : ∃ f, L[k]? = some f := ⟨_, List.getElem?_eq_getElem hlt⟩
      obtain ⟨b, off, rfl, hc1, hc2⟩ := (HR.out.below hb).fld hf
      have HM := hid (List.mem_of_getElem? hf)
      have HT := hid (take_fld hf)
      clear hf
      by_cases p1 : (100 : Int) < (f.1.length : Int)
      · have d1 : decide ((100 : Int) < (f.1.length : Int)) = true := decide_eq_true p1
        have hno : r = false := by
          rw [HF.out]
          rw [List.all_eq_false.2 ⟨f, HM.out, by simp; omega⟩]; rfl
        subst hno
        go_wp2_with fail
        go_ret
        exact ⟨rfl, chain2 hb hb.size (below_alloc _ _)⟩
      · by_cases p2 : (300 : Int) < (f.2.length : Int)
        · have d1 : decide ((100 : Int) < (f.1.length : Int)) = false := decide_eq_false p1
          have d2 : decide ((300 : Int) < (f.2.length : Int)) = true := decide_eq_true p2
          have hno : r = false := by
            rw [HF.out]
            rw [List.all_eq_false.2 ⟨f, HM.out, by simp; omega⟩]; rfl
          subst hno
          go_wp2_with fail
          go_ret
          exact ⟨rfl, chain2 hb hb.size (below_alloc _ _)⟩
        · have d1 : decide ((100 : Int) < (f.1.length : Int)) = false := decide_eq_false p1
          have d2 : decide ((300 : Int) < (f.2.length : Int)) = false := decide_eq_false p2
          have p1' : (f.1.length : Int) ≤ 100 := by omega
          have p2' : (f.2.length : Int) ≤ 300 := by omega
          go_wp2_with fail
          go_roundw
          case rel => exact ⟨k + 1, hlt, by go_num, by rw [HT.out, List.all_append, HK.out]; simp; omega, chain2 hb hb.size (below_alloc _ _)⟩
          case measure => simp [intOf]; omega
    · have hyes : r = decide (L.length ≤ 30) := by
        have h := HK.out
        rw [List.take_of_length_le (show L.length ≤ k by omega)] at h
        rw [HF.out, h]; rfl
      have HY := hid hyes
      clear hyes
      by_cases p : (L.length : Int) ≤ 30
      · have d : decide ((L.length : Int) ≤ 30) = true := decide_eq_true p
        have hr1 : r = true := by rw [HY.out]; exact decide_eq_true (by omega)
        subst hr1
        go_wp2_with fail
        go_ret
        exact ⟨rfl, hb⟩
      · have d : decide ((L.length : Int) ≤ 30) = false := decide_eq_false p
        have hr1 : r = false := by rw [HY.out]; exact decide_eq_false (by omega)
        subst hr1
        go_wp2_with fail
        go_ret
        exact ⟨rfl, hb⟩

theorem smallK_ok {L : List Fld} (h : smallK L = true) : SmallF L := by
  unfold smallK at h
  simp only [Bool.and_eq_true, decide_eq_true_eq, List.all_eq_true] at h
  exact ⟨by omega, fun f hf => by have := (h.1 f hf).1; omega, fun f hf => by have := (h.1 f hf).2; omega⟩
/-- a site and a place that fit -/
structure Fits (s : SiteZ) (p : PlaceR) : Prop where
  heads : s.heads.length ≤ 10
  texts : ∀ y ∈ s.heads, y.length ≤ 100
  host : p.host.length ≤ 100
  path : p.path.length ≤ 600
  query : p.query.length ≤ 600
def FitPost (s : SiteZ) (p : PlaceR) (w : World) (e : Ending) (w' : World) : Prop := ∃ b, e = .returned (.bool b) ∧ (b = true → Fits s p) ∧ Below w.heap.size w w'
theorem readsP_one {w : World} {g cap : Nat} {hv : Value} {s : SiteZ} (hc : ∀ (i : Nat) u, (rowZ hv s)[i]? = some u → w.cell? ⟨g, i, none⟩ = some u) (hh : Reads w hv (s.heads.map strV)) : ReadsP w (.slice (some ⟨g, 0, none⟩) 1 cap) [(s, hv)] := by
  refine ⟨⟨some ⟨g, 0, none⟩, cap, rfl, fun j x hj => ?_⟩, fun x hx => ?_⟩
  · cases j with
    | zero =>
      simp only [List.getElem?_cons_zero, Option.some.injEq] at hj
      subst hj
      exact ⟨g, 0, rfl, fun i u hu => by simpa using hc i u hu⟩
    | succ j => simp at hj
  · rw [List.mem_singleton] at hx; subst hx; exact hh
set_option maxRecDepth 8000 in
set_option maxHeartbeats 4000000 in
theorem fit_any (hv : Value) (s : SiteZ) (p : PlaceR) (w : World) (hh : Reads w hv (s.heads.map strV)) (hl : s.heads.length ≤ 9223372036854775807) :
    Calls Tryd.prog 9 #[.agg (rowZ hv s), .agg #[strV p.host, strV p.path, strV p.query, .bool p.has]] w (FitPost s p w) := by
  obtain ⟨no, nc, rfl⟩ := hh.strs
  obtain ⟨m, hm⟩ : ∃ m, s.heads.length = m := ⟨_, rfl⟩
  rw [hm] at hh ⊢
  obtain ⟨W, hW⟩ : ∃ W, (w.alloc (.cells (rowZ (.slice no m nc) s) 24)).alloc (.cells #[strV p.host, strV p.path, strV p.query, .bool p.has] 26) = W := ⟨_, rfl⟩
  have hbW : Below w.heap.size w W := by rw [← hW]; exact chainK (below_alloc _ _) (below_alloc _ _)
  have q1 : rowIs W w.heap.size (rowZ (.slice no m nc) s) 24 := by rw [← hW]; exact (rowIs_new _ _ _).below (below_alloc _ _)
  have q2 : rowIs W (w.heap.size + 1) #[strV p.host, strV p.path, strV p.query, .bool p.has] 26 := by rw [← hW]; exact rowIs_new_at _ _ _ _ (by simp)
  have HQ := hid (And.intro q1 (And.intro q2 hbW))
  have HH := hid hh
  have HL := hid hl
  have HM := hid hm
  clear hh hl hm
  go_enter Tryd.func9, Tryd.ntmps9
  go_wp2_with (refine wpList_load_row rfl 24 _ rfl w.heap.size rfl 24 _ (0, 0) _ q1 Tryd.underlying24 rfl infoSiteK ?_)
  refine (smallSitesK_any _ [(s, .slice no m nc)] _ (readsP_one (fun i u hu => ((rowIs_new W _ _).cell i).trans hu) ((HH.out.below HQ.out.2.2).below (below_alloc _ _))) (by simp) (fun x hx => by rw [List.mem_singleton] at hx; subst hx; exact HL.out)).mono ?_
  rintro e w2 ⟨b, rfl, hf, hb2⟩
  have hb3 := chain2 (below_alloc W _) (below_alloc W _).size hb2
  have hbw := chain2 HQ.out.2.2 HQ.out.2.2.size hb3
  have HBW := hid hbw
  have HF := hid hf
  have y0 := (HQ.out.2.1.below hb3).cell 0
  have y1 := (HQ.out.2.1.below hb3).cell 1
  have y2 := (HQ.out.2.1.below hb3).cell 2
  clear hb2 hb3 hbw hf
  have NO : ∀ b : Bool, b = false → FitPost s p w (.returned (.bool b)) w2 := fun b hb => ⟨b, rfl, ⟨fun h => (by rw [hb] at h; cases h), HBW.out⟩⟩
  cases b with
  | false =>
    go_wp2_with fail
    go_ret
    exact NO _ rfl
  | true =>
    by_cases p1 : (p.host.length : Int) ≤ 100
    · have d1 : decide ((p.host.length : Int) ≤ 100) = true := decide_eq_true p1
      by_cases p2 : (p.path.length : Int) ≤ 600
      · have d2 : decide ((p.path.length : Int) ≤ 600) = true := decide_eq_true p2
        by_cases p3 : (p.query.length : Int) ≤ 600
        · have d3 : decide ((p.query.length : Int) ≤ 600) = true := decide_eq_true p3
          have HP := hid (And.intro p1 (And.intro p2 p3))
          clear p1 p2 p3
          go_wp2_with fail
          go_ret
          obtain ⟨-, h1⟩ := HF.out trivial
          obtain ⟨-, h2, h3⟩ := h1 _ (List.mem_singleton.2 rfl)
          obtain ⟨g1, g2, g3⟩ := HP.out
          exact ⟨true, rfl, fun _ => ⟨h2, h3, by omega, by omega, by omega⟩, HBW.out⟩
        · have d3 : decide ((p.query.length : Int) ≤ 600) = false := decide_eq_false p3
          clear p1 p2 p3
          go_wp2_with fail
          go_ret
          exact NO _ rfl
      · have d2 : decide ((p.path.length : Int) ≤ 600) = false := decide_eq_false p2
        clear p1 p2
        go_wp2_with fail
        go_ret
        exact NO _ rfl
    · have d1 : decide ((p.host.length : Int) ≤ 100) = false := decide_eq_false p1
      clear p1
      go_wp2_with fail
      go_ret
      exact NO _ rfl
end Go.Proofs.YtbjgbkbhalibdaaDoor
