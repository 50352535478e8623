/-
  Several texts in one: KeySite, SmallK, Law12S.
-/
import Derived.Test.YtejdlplgkmelkaaGreatDoorF1201
import Derived.Test.YtejdlplgkmelkaaGreatDoorF1202
import Derived.Test.YtejdlplgkmelkaaGreatDoorProg
import Derived.Deep.RegionWith
import Derived.IntWalk
set_option linter.unusedVariables false
set_option linter.unusedSimpArgs false
/-
  A site as an argument: what its type says.
-/
namespace Go.Proofs.YtejdlplgkmelkaaGreatDoor
open Go.RowKit Go.Pantry

abbrev zeroSiteK : Array Value := #[.string ⟨#[]⟩, .int .i64 0, .int .i64 0, .int .i64 0, .bool false, .bool false, .slice none 0 0]
theorem infoSiteK : (Tryz.prog.info? 24).map (·.size) = some 7 := by kernel_rfl
theorem oneSiteK (h : List UInt8) (a b c : Int) (d e : Bool) (ao : Option Addr) (n cap : Nat) : (#[strV h, .int .i64 a, .int .i64 b, .int .i64 c, .bool d, .bool e, .slice ao n cap] : Array Value).all (·.oneCell') = true := by simp [Value.oneCell']
theorem chainK {w a b : World} (h1 : Below w.heap.size w a) (h2 : Below a.heap.size a b) : Below w.heap.size w b := h1.trans (h2.mono h1.size)
end Go.Proofs.YtejdlplgkmelkaaGreatDoor
/-
  Contract of package pantrymade: SmallSites.
-/
namespace Go.Proofs.YtejdlplgkmelkaaGreatDoor
open Go.RowKit Go.Pantry

def SmallPostK (w : World) (L : List (SiteZ × Value)) (e : Ending) (w' : World) : Prop :=
  ∃ b, e = .returned (.bool b) ∧ (b = true → L.length ≤ 12 ∧ ∀ x ∈ L, x.1.host.length ≤ 100 ∧ x.1.heads.length ≤ 10 ∧ ∀ y ∈ x.1.heads, y.length ≤ 100) ∧ Below w.heap.size w w'
theorem smallK_no {w w' : World} {L : List (SiteZ × Value)} (h : Below w.heap.size w w') : SmallPostK w L (.returned (.bool false)) w' := ⟨false, rfl, fun e => absurd e Bool.false_ne_true, h⟩
set_option maxRecDepth 8000 in
theorem smallSitesK_any (v : Value) (L : List (SiteZ × Value)) (w : World) (h : ReadsP w v L) (hl : L.length ≤ 9223372036854775807) (hh : ∀ x ∈ L, x.1.heads.length ≤ 9223372036854775807) :
    Calls Tryz.prog 26 #[.agg #[v]] w (SmallPostK w L) := by
  obtain ⟨n, hn⟩ : ∃ n, L.length = n := ⟨_, rfl⟩
  obtain ⟨ao, c, e1, f1⟩ := h.form
  rw [hn] at e1
  subst e1
  have HR := hid h
  have HH := hid hh
  have HL := hid hn
  have hnl : n ≤ 9223372036854775807 := by omega
  have j1 := (rowIs_new w #[.slice ao n c] 55).cell 0
  have J0 := hid (rowIs_new w #[.slice ao n c] 55)
  clear h hn hh hl f1
  go_enter Tryz.func26, Tryz.ntmps26
  go_wp2_with fail
  clear j1
  go_loopw [10] (fun z wr => ∃ (k : Nat), z = .int .i64 (k : Int) ∧ k ≤ n ∧ Below (w.heap.size + 1) (w.alloc (.cells #[.slice ao n c] 55)) wr ∧ ∀ x ∈ L.take k, x.1.host.length ≤ 100 ∧ x.1.heads.length ≤ 10 ∧ ∀ y ∈ x.1.heads, y.length ≤ 100) (fun z _ => n - (intOf z).toNat)
  case atStart => exact ⟨0, rfl, Nat.zero_le _, Below.refl _ _, fun x hx => by simp at hx⟩
  case round =>
    obtain ⟨k, rfl, hk, hb, hf⟩ := hrel
    have HB := hid (And.intro hb hf)
    have HBW : Hid (Below w.heap.size w wr) := chainK (below_alloc w (.cells #[.slice ao n c] 55)) (hb.mono (by simp))
    by_cases hlt : k < n
    · obtain ⟨⟨s, hv⟩, hx⟩ : ∃ x, L[k]? = some x := by
        have := HL.out
        exact ⟨L[k]'(by omega), List.getElem?_eq_getElem (by omega)⟩
      have hrd := (HR.out.heads _ (List.mem_of_getElem? hx)).below HBW.out
      have HRD := hid hrd
      obtain ⟨ah, ch, hfv⟩ := hrd.form
      simp only at hfv
      obtain ⟨nh, hnh⟩ : ∃ nh, s.heads.length = nh := ⟨_, rfl⟩
      rw [List.length_map, hnh] at hfv
      subst hfv
      obtain ⟨b1, o1, g1, i1⟩ := (HR.out.below HBW.out).at_ hx
      subst g1
      have hkI : (k : Int) < (n : Int) := by omega
      have hk0 : (0 : Int) ≤ (k : Int) := by omega
      have hkw : IntKind.i64.wrap ((k : Int) + 1) = (k : Int) + 1 := IntWalk.i64_in _ (by omega)
      obtain ⟨p1, hp1⟩ : ∃ p, o1 + k * 7 = p := ⟨_, rfl⟩
      rw [hp1] at i1
      have y0 := i1 0 _ rfl
      have y1 := i1 1 _ rfl
      have y2 := i1 2 _ rfl
      have y3 := i1 3 _ rfl
      have y4 := i1 4 _ rfl
      have y5 := i1 5 _ rfl
      have y6 := i1 6 _ rfl
      rw [Nat.add_zero] at y0
      have hnl2 : nh ≤ 9223372036854775807 := by rw [← hnh]; exact HH.out _ (List.mem_of_getElem? hx)
      have HX := hid (And.intro hx hnh)
      clear hb hx i1 hf hnh hrd hlt
      by_cases gh : (100 : Int) < (s.host.length : Int)
      · have d1 : decide ((100 : Int) < (s.host.length : Int)) = true := decide_eq_true gh
        go_wp2_with fail
        go_ret
        exact smallK_no (chainK HBW.out (below_alloc _ _))
      have d1 : decide ((100 : Int) < (s.host.length : Int)) = false := decide_eq_false gh
      by_cases gq : (10 : Int) < (nh : Int)
      · have d2 : decide ((10 : Int) < (nh : Int)) = true := decide_eq_true gq
        go_wp2_with fail
        go_ret
        exact smallK_no (chainK HBW.out (below_alloc _ _))
      have d2 : decide ((10 : Int) < (nh : Int)) = false := decide_eq_false gq
      go_wp2_with fail
      clear y0 y1 y2 y3 y4 y5 y6
      have HQ : Hid (∀ wq, Below (wr.heap.size + 1) (wr.alloc (.cells (rowZ (.slice ah nh ch) s) 24)) wq → Below w.heap.size w wq ∧ Reads wq (.slice ah nh ch) (s.heads.map strV) ∧ Below (w.heap.size + 1) (w.alloc (.cells #[.slice (some ⟨b1, o1, none⟩) n c] 55)) wq) := fun wq hq => by
        have h1 : Below wr.heap.size wr wq := chainK (below_alloc wr (.cells (rowZ (.slice ah nh ch) s) 24)) (hq.mono (by simp))
        refine ⟨chainK HBW.out h1, HRD.out.below h1, HB.out.1.trans (h1.mono ?_)⟩
        have := HB.out.1.size
        simpa using this
      go_loopw [27] (fun z wq => ∃ (m : Nat), z = .int .i64 (m : Int) ∧ m ≤ nh ∧ (∀ y ∈ s.heads.take m, y.length ≤ 100) ∧ Below (wr.heap.size + 1) (wr.alloc (.cells (rowZ (.slice ah nh ch) s) 24)) wq) (fun z _ => nh - (intOf z).toNat)
      case atStart => exact ⟨0, rfl, Nat.zero_le _, (fun y hy => by simp at hy), Below.refl _ _⟩
      case round =>
        obtain ⟨m, rfl, hm, hty, hbq⟩ := hrel
        have HBQ := hid hbq
        have HTY := hid hty
        clear hty
        have q1 := (HQ.out _ hbq).2.1
        by_cases hltq : m < nh
        · obtain ⟨x, hx⟩ : ∃ x, s.heads[m]? = some x := by
            have := HX.out.2
            exact ⟨s.heads[m]'(by omega), List.getElem?_eq_getElem (by omega)⟩
          have hxm : (s.heads.map strV)[m]? = some (strV x) := by rw [List.getElem?_map, hx]; rfl
          obtain ⟨a1, c1', e1, f1, -⟩ := q1
          injection e1 with e1 k1 k2
          clear k1 k2
          subst e1
          obtain ⟨b2, o2, g2, i2⟩ := f1 m _ hxm
          subst g2
          have d0 := i2
          have hmI : (m : Int) < (nh : Int) := by omega
          have hm0 : (0 : Int) ≤ (m : Int) := by omega
          have hmw : IntKind.i64.wrap ((m : Int) + 1) = (m : Int) + 1 := IntWalk.i64_in _ (by omega)
          have HXX := hid hx
          clear hbq f1 hx hxm i2
          by_cases gx : (100 : Int) < (x.length : Int)
          · have d3 : decide ((100 : Int) < (x.length : Int)) = true := decide_eq_true gx
            go_wp2_with fail
            go_ret
            exact smallK_no (HQ.out _ HBQ.out).1
          have d3 : decide ((100 : Int) < (x.length : Int)) = false := decide_eq_false gx
          go_wp2_with fail
          go_roundw
          case rel =>
            refine ⟨m + 1, by go_num, hltq, fun y hy => ?_, HBQ.out⟩
            rw [List.take_add_one, HXX.out] at hy
            rcases List.mem_append.1 hy with hy | hy
            · exact HTY.out y hy
            · obtain rfl : y = x := by simpa using hy
              omega
          case measure => simp [intOf]; omega
        · clear q1 hbq
          go_wp2_with fail
          go_roundw
          case rel =>
            refine ⟨k + 1, by go_num, (by omega), (HQ.out _ HBQ.out).2.2, ?_⟩
            intro x hx
            rw [List.take_add_one, HX.out.1] at hx
            rcases List.mem_append.1 hx with hx | hx
            · exact HB.out.2 x hx
            · obtain rfl : x = (s, .slice ah nh ch) := by simpa using hx
              have := HX.out.2
              refine ⟨by show s.host.length ≤ 100; omega, by show s.heads.length ≤ 10; omega, fun y hy => ?_⟩
              have e1 : s.heads.take m = s.heads := List.take_of_length_le (by omega)
              exact HTY.out y (by rw [e1]; exact hy)
          case measure => simp [intOf]; omega
    · have hkn : n = k := by omega
      subst hkn
      have j1 := (J0.out.below (show Below (w.alloc (.cells #[.slice ao n c] 55)).heap.size _ wr from hb.mono (by simp))).cell 0
      have hall := hf
      rw [List.take_of_length_le (by have := HL.out; omega)] at hall
      have HAL := hid hall
      clear hb hf hall
      by_cases g12 : (n : Int) ≤ 12
      · have d4 : decide ((n : Int) ≤ 12) = true := decide_eq_true g12
        go_wp2_with fail
        go_ret
        exact ⟨true, rfl, fun _ => ⟨by have := HL.out; omega, HAL.out⟩, HBW.out⟩
      · have d4 : decide ((n : Int) ≤ 12) = false := decide_eq_false g12
        go_wp2_with fail
        go_ret
        exact smallK_no HBW.out
end Go.Proofs.YtejdlplgkmelkaaGreatDoor
/-
  The statements' small and fit of layer 12.
-/
namespace Go.Proofs.YtejdlplgkmelkaaGreatDoor
open Go.RowKit Go.Pantry

/-- can fields be gone through with? -/
def smallK (L : List Fld) : Bool := L.all (fun f => decide (f.1.length ≤ 100) && decide (f.2.length ≤ 300)) && decide (L.length ≤ 30)
set_option maxHeartbeats 4000000 in
theorem smallK_any (v : Value) (L : List Fld) (w : World) (hr : Reads2 w v L) (hn : (L.length : Int) ≤ 9223372036854775807) :
    Calls Tryz.prog 12 #[v] w fun e w' => e = .returned (.bool (smallK L)) ∧ Below w.heap.size w w' := by
  obtain ⟨ao, cap, rfl⟩ := hr.form
  have HR := hid hr
  have hrf : smallK L = (L.all (fun f => decide (f.1.length ≤ 100) && decide (f.2.length ≤ 300)) && decide (L.length ≤ 30)) := rfl
  obtain ⟨r, hrr⟩ : ∃ r, smallK L = r := ⟨_, rfl⟩
  rw [hrr] at hrf ⊢
  have HF := hid hrf
  clear hr hrr hrf
  go_enter Tryz.func12, Tryz.ntmps12
  go_wp2
  go_loopw [7] (fun i wr => ∃ (k : Nat), k ≤ L.length ∧ i = .int .i64 k ∧ (L.take k).all (fun f => decide (f.1.length ≤ 100) && decide (f.2.length ≤ 300)) = true ∧ Below w.heap.size w wr) (fun i _ => L.length - (intOf i).toNat)
  case atStart => exact ⟨0, Nat.zero_le _, rfl, rfl, Below.refl _ _⟩
  case round =>
    obtain ⟨k, hk, rfl, hak, hb⟩ := hrel
    have HK := hid hak
    clear hak
    by_cases hlt : k < L.length
    · obtain ⟨f, hf⟩ : ∃ f, L[k]? = some f := ⟨_, List.getElem?_eq_getElem hlt⟩
      obtain ⟨b, off, rfl, hc1, hc2⟩ := (HR.out.below hb).fld hf
      have HM := hid (List.mem_of_getElem? hf)
      have HT := hid (take_fld hf)
      clear hf
      by_cases p1 : (100 : Int) < (f.1.length : Int)
      · have d1 : decide ((100 : Int) < (f.1.length : Int)) = true := decide_eq_true p1
        have hno : r = false := by
          rw [HF.out]
          rw [List.all_eq_false.2 ⟨f, HM.out, by simp; omega⟩]; rfl
        subst hno
        go_wp2_with fail
        go_ret
        exact ⟨rfl, chain2 hb hb.size (below_alloc _ _)⟩
      · by_cases p2 : (300 : Int) < (f.2.length : Int)
        · have d1 : decide ((100 : Int) < (f.1.length : Int)) = false := decide_eq_false p1
          have d2 : decide ((300 : Int) < (f.2.length : Int)) = true := decide_eq_true p2
          have hno : r = false := by
            rw [HF.out]
            rw [List.all_eq_false.2 ⟨f, HM.out, by simp; omega⟩]; rfl
          subst hno
          go_wp2_with fail
          go_ret
          exact ⟨rfl, chain2 hb hb.size (below_alloc _ _)⟩
        · have d1 : decide ((100 : Int) < (f.1.length : Int)) = false := decide_eq_false p1
          have d2 : decide ((300 : Int) < (f.2.length : Int)) = false := decide_eq_false p2
          have p1' : (f.1.length : Int) ≤ 100 := by omega
          have p2' : (f.2.length : Int) ≤ 300 := by omega
          go_wp2_with fail
          go_roundw
          case rel => exact ⟨k + 1, hlt, by go_num, by rw [HT.out, List.all_append, HK.out]; simp; omega, chain2 hb hb.size (below_alloc _ _)⟩
          case measure => simp [intOf]; omega
    · have hyes : r = decide (L.length ≤ 30) := by
        have h := HK.out
        rw [List.take_of_length_le (show L.length ≤ k by omega)] at h
        rw [HF.out, h]; rfl
      have HY := hid hyes
      clear hyes
      by_cases p : (L.length : Int) ≤ 30
      · have d : decide ((L.length : Int) ≤ 30) = true := decide_eq_true p
        have hr1 : r = true := by rw [HY.out]; exact decide_eq_true (by omega)
        subst hr1
        go_wp2_with fail
        go_ret
        exact ⟨rfl, hb⟩
      · have d : decide ((L.length : Int) ≤ 30) = false := decide_eq_false p
        have hr1 : r = false := by rw [HY.out]; exact decide_eq_false (by omega)
        subst hr1
        go_wp2_with fail
        go_ret
        exact ⟨rfl, hb⟩

theorem smallK_ok {L : List Fld} (h : smallK L = true) : SmallF L := by
  unfold smallK at h
  simp only [Bool.and_eq_true, decide_eq_true_eq, List.all_eq_true] at h
  exact ⟨by omega, fun f hf => by have := (h.1 f hf).1; omega, fun f hf => by have := (h.1 f hf).2; omega⟩
theorem smallK_len {L : List Fld} (h : smallK L = true) : L.length ≤ 30 := by
  unfold smallK at h
  simp only [Bool.and_eq_true, decide_eq_true_eq] at h
  exact h.2
/-- a site that fits -/
structure FitS (s : SiteZ) : Prop where
  heads : s.heads.length ≤ 10
  lo0 : 0 ≤ s.min
  hi0 : 0 ≤ s.max
  lo1 : s.min ≤ 2147483648
  hi1 : s.max ≤ 2147483648
def FitSPost (s : SiteZ) (w : World) (e : Ending) (w' : World) : Prop := ∃ b, e = .returned (.bool b) ∧ (b = true → FitS s) ∧ Below w.heap.size w w'
theorem readsP_one {w : World} {g cap : Nat} {hv : Value} {s : SiteZ} (hc : ∀ (i : Nat) u, (rowZ hv s)[i]? = some u → w.cell? ⟨g, i, none⟩ = some u) (hh : Reads w hv (s.heads.map strV)) : ReadsP w (.slice (some ⟨g, 0, none⟩) 1 cap) [(s, hv)] := by
  refine ⟨⟨some ⟨g, 0, none⟩, cap, rfl, fun j x hj => ?_⟩, fun x hx => ?_⟩
  · cases j with
    | zero =>
      simp only [List.getElem?_cons_zero, Option.some.injEq] at hj
      subst hj
      exact ⟨g, 0, rfl, fun i u hu => by simpa using hc i u hu⟩
    | succ j => simp at hj
  · rw [List.mem_singleton] at hx; subst hx; exact hh
set_option maxRecDepth 8000 in
set_option maxHeartbeats 4000000 in
theorem fitS_any (hv : Value) (s : SiteZ) (w : World) (hh : Reads w hv (s.heads.map strV)) (hl : s.heads.length ≤ 9223372036854775807) :
    Calls Tryz.prog 11 #[.agg (rowZ hv s)] w (FitSPost s w) := by
  obtain ⟨no, nc, rfl⟩ := hh.strs
  obtain ⟨m, hm⟩ : ∃ m, s.heads.length = m := ⟨_, rfl⟩
  rw [hm] at hh ⊢
  obtain ⟨W, hW⟩ : ∃ W, w.alloc (.cells (rowZ (.slice no m nc) s) 24) = W := ⟨_, rfl⟩
  have hbW : Below w.heap.size w W := by rw [← hW]; exact below_alloc _ _
  have q1 : rowIs W w.heap.size (rowZ (.slice no m nc) s) 24 := by rw [← hW]; exact rowIs_new _ _ _
  have HQ := hid (And.intro q1 hbW)
  have HH := hid hh
  have HL := hid hl
  have HM := hid hm
  clear hh hl hm hbW
  go_enter Tryz.func11, Tryz.ntmps11
  go_wp2_with (refine wpList_load_row rfl 24 _ rfl w.heap.size rfl 24 _ (0, 0) _ q1 Tryz.underlying24 rfl infoSiteK ?_)
  clear hW
  refine (smallSitesK_any _ [(s, .slice no m nc)] _ (readsP_one (fun i u hu => ((rowIs_new W _ _).cell i).trans hu) ((HH.out.below HQ.out.2).below (below_alloc _ _))) (by simp) (fun x hx => by rw [List.mem_singleton] at hx; subst hx; exact HL.out)).mono ?_
  rintro e w2 ⟨b, rfl, hf, hb2⟩
  have hb3 := chain2 (below_alloc W _) (below_alloc W _).size hb2
  have HBW := hid (chain2 HQ.out.2 HQ.out.2.size hb3)
  have HF := hid hf
  have y2 : w2.cell? ⟨w.heap.size, 2, none⟩ = some (.int .i64 s.min) := (HQ.out.1.below hb3).cell 2
  have y3 : w2.cell? ⟨w.heap.size, 3, none⟩ = some (.int .i64 s.max) := (HQ.out.1.below hb3).cell 3
  clear hb2 hb3 hf q1
  have NO : ∀ b : Bool, b = false → FitSPost s w (.returned (.bool b)) w2 := fun b hb => ⟨b, rfl, ⟨fun h => (by rw [hb] at h; cases h), HBW.out⟩⟩
  cases b with
  | false =>
    clear y2 y3
    go_wp2_with fail
    go_ret
    exact NO _ rfl
  | true =>
    obtain ⟨lo, hlo⟩ : ∃ x, s.min = x := ⟨_, rfl⟩
    obtain ⟨hi, hhi⟩ : ∃ x, s.max = x := ⟨_, rfl⟩
    rw [hlo] at y2
    rw [hhi] at y3
    have HS := hid (And.intro hlo hhi)
    clear hlo hhi
    by_cases p1 : 0 ≤ lo
    · have d1 : decide (0 ≤ lo) = true := decide_eq_true p1
      by_cases p2 : 0 ≤ hi
      · have d2 : decide (0 ≤ hi) = true := decide_eq_true p2
        by_cases p3 : lo ≤ 2147483648
        · have d3 : decide (lo ≤ 2147483648) = true := decide_eq_true p3
          by_cases p4 : hi ≤ 2147483648
          · have d4 : decide (hi ≤ 2147483648) = true := decide_eq_true p4
            have HP := hid (And.intro p1 (And.intro p2 (And.intro p3 p4)))
            clear p1 p2 p3 p4
            go_wp2_with fail
            go_ret
            obtain ⟨-, h1⟩ := HF.out trivial
            obtain ⟨-, h2, h3⟩ := h1 _ (List.mem_singleton.2 rfl)
            obtain ⟨g1, g2, g3, g4⟩ := HP.out
            exact ⟨true, rfl, fun _ => ⟨h2, by rw [HS.out.1]; exact g1, by rw [HS.out.2]; exact g2, by rw [HS.out.1]; exact g3, by rw [HS.out.2]; exact g4⟩, HBW.out⟩
          · have d4 : decide (hi ≤ 2147483648) = false := decide_eq_false p4
            go_wp2_with fail
            go_ret
            exact NO _ rfl
        · have d3 : decide (lo ≤ 2147483648) = false := decide_eq_false p3
          go_wp2_with fail
          go_ret
          exact NO _ rfl
      · have d2 : decide (0 ≤ hi) = false := decide_eq_false p2
        go_wp2_with fail
        go_ret
        exact NO _ rfl
    · have d1 : decide (0 ≤ lo) = false := decide_eq_false p1
      go_wp2_with fail
      go_ret
      exact NO _ rfl
end Go.Proofs.YtejdlplgkmelkaaGreatDoor
