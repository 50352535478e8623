/-
  Contract of package pantrymade: SmallSites.
-/
import Derived.Test.YtbjgbkbhalibdaaDoorKeySite
namespace Go.Proofs.YtbjgbkbhalibdaaDoor
open Go.RowKit Go.Pantry

def SmallPostK (w : World) (L : List (SiteZ × Value)) (e : Ending) (w' : World) : Prop :=
  ∃ b, e = .returned (.bool b) ∧ (b = true → L.length ≤ 12 ∧ ∀ x ∈ L, x.1.host.length ≤ 100 ∧ x.1.heads.length ≤ 10 ∧ ∀ y ∈ x.1.heads, y.length ≤ 100) ∧ Below w.heap.size w w'
theorem smallK_no {w w' : World} {L : List (SiteZ × Value)} (h : Below w.heap.size w w') : SmallPostK w L (.returned (.bool false)) w' := ⟨false, rfl, fun e => absurd e Bool.false_ne_true, h⟩
set_option maxRecDepth 8000 in
theorem smallSitesK_any (v : Value) (L : List (SiteZ × Value)) (w : World) (h : ReadsP w v L) (hl : L.length ≤ 9223372036854775807) (hh : ∀ x ∈ L, x.1.heads.length ≤ 9223372036854775807) :
    Calls Tryd.prog 18 #[.agg #[v]] w (SmallPostK w L) := by
  obtain ⟨n, hn⟩ : ∃ n, L.length = n := ⟨_, rfl⟩
  obtain ⟨ao, c, e1, f1⟩ := h.form
  rw [hn] at e1
  subst e1
  have HR := hid h
  have HH := hid hh
  have HL := hid hn
  have hnl : n ≤ 9223372036854775807 := by omega
  have j1 := (rowIs_new w #[.slice ao n c] 53).cell 0
  have J0 := hid (rowIs_new w #[.slice ao n c] 53)
  clear h hn hh hl f1
  go_enter Tryd.func18, Tryd.ntmps18
  go_wp2_with fail
  clear j1
  go_loopw [10] (fun z wr => ∃ (k : Nat), z = .int .i64 (k : Int) ∧ k ≤ n ∧ Below (w.heap.size + 1) (w.alloc (.cells #[.slice ao n c] 53)) wr ∧ ∀ x ∈ L.take k, x.1.host.length ≤ 100 ∧ x.1.heads.length ≤ 10 ∧ ∀ y ∈ x.1.heads, y.length ≤ 100) (fun z _ => n - (intOf z).toNat)
  case atStart => exact ⟨0, rfl, Nat.zero_le _, Below.refl _ _, fun x hx => by simp at hx⟩
  case round =>
    obtain ⟨k, rfl, hk, hb, hf⟩ := hrel
    have HB := hid (And.intro hb hf)
    have HBW : Hid (Below w.heap.size w wr) := chainK (below_alloc w (.cells #[.slice ao n c] 53)) (hb.mono (by simp))
    by_cases hlt : k < n
    · obtain ⟨⟨s, hv⟩, hx⟩ : ∃ x, L[k]? = some x := by
        have := HL.out
        exact ⟨L[k]'(by omega), List.getElem?_eq_getElem (by omega)⟩
      have hrd := (HR.out.heads _ (List.mem_of_getElem? hx)).below HBW.out
      have HRD := hid hrd
      obtain ⟨ah, ch, hfv⟩ := hrd.form
      simp only at hfv
      obtain ⟨nh, hnh⟩ : ∃ nh, s.heads.length = nh := ⟨_, rfl⟩
      rw [List.length_map, hnh] at hfv
      subst hfv
      obtain ⟨b1, o1, g1, i1⟩ := (HR.out.below HBW.out).at_ hx
      subst g1
      have hkI : (k : Int) < (n : Int) := by omega
      have hk0 : (0 : Int) ≤ (k : Int) := by omega
      have hkw : IntKind.i64.wrap ((k : Int) + 1) = (k : Int) + 1 := IntWalk.i64_in _ (by omega)
      obtain ⟨p1, hp1⟩ : ∃ p, o1 + k * 7 = p := ⟨_, rfl⟩
      rw [hp1] at i1
      have y0 := i1 0 _ rfl
      have y1 := i1 1 _ rfl
      have y2 := i1 2 _ rfl
      have y3 := i1 3 _ rfl
      have y4 := i1 4 _ rfl
      have y5 := i1 5 _ rfl
      have y6 := i1 6 _ rfl
      rw [Nat.add_zero] at y0
      have hnl2 : nh ≤ 9223372036854775807 := by rw [← hnh]; exact HH.out _ (List.mem_of_getElem? hx)
      have HX := hid (And.intro hx hnh)
      clear hb hx i1 hf hnh hrd hlt
      by_cases gh : (100 : Int) < (s.host.length : Int)
      · have d1 : decide ((100 : Int) < (s.host.length : Int)) = true := decide_eq_true gh
        go_wp2_with fail
        go_ret
        exact smallK_no (chainK HBW.out (below_alloc _ _))
      have d1 : decide ((100 : Int) < (s.host.length : Int)) = false := decide_eq_false gh
      by_cases gq : (10 : Int) < (nh : Int)
      · have d2 : decide ((10 : Int) < (nh : Int)) = true := decide_eq_true gq
        go_wp2_with fail
        go_ret
        exact smallK_no (chainK HBW.out (below_alloc _ _))
      have d2 : decide ((10 : Int) < (nh : Int)) = false := decide_eq_false gq
      go_wp2_with fail
      clear y0 y1 y2 y3 y4 y5 y6
      have HQ : Hid (∀ wq, Below (wr.heap.size + 1) (wr.alloc (.cells (rowZ (.slice ah nh ch) s) 24)) wq → Below w.heap.size w wq ∧ Reads wq (.slice ah nh ch) (s.heads.map strV) ∧ Below (w.heap.size + 1) (w.alloc (.cells #[.slice (some ⟨b1, o1, none⟩) n c] 53)) wq) := fun wq hq => by
        have h1 : Below wr.heap.size wr wq := chainK (below_alloc wr (.cells (rowZ (.slice ah nh ch) s) 24)) (hq.mono (by simp))
        refine ⟨chainK HBW.out h1, HRD.out.below h1, HB.out.1.trans (h1.mono ?_)⟩
        have := HB.out.1.size
        simpa using this
      go_loopw [27] (fun z wq => ∃ (m : Nat), z = .int .i64 (m : Int) ∧ m ≤ nh ∧ (∀ y ∈ s.heads.take m, y.length ≤ 100) ∧ Below (wr.heap.size + 1) (wr.alloc (.cells (rowZ (.slice ah nh ch) s) 24)) wq) (fun z _ => nh - (intOf z).toNat)
      case atStart => exact ⟨0, rfl, Nat.zero_le _, (fun y hy => by simp at hy), Below.refl _ _⟩
      case round =>
        obtain ⟨m, rfl, hm, hty, hbq⟩ := hrel
        have HBQ := hid hbq
        have HTY := hid hty
        clear hty
        have q1 := (HQ.out _ hbq).2.1
        by_cases hltq : m < nh
        · obtain ⟨x, hx⟩ : ∃ x, s.heads[m]? = some x := by
            have := HX.out.2
            exact ⟨s.heads[m]'(by omega), List.getElem?_eq_getElem (by omega)⟩
          have hxm : (s.heads.map strV)[m]? = some (strV x) := by rw [List.getElem?_map, hx]; rfl
          obtain ⟨a1, c1', e1, f1, -⟩ := q1
          injection e1 with e1 k1 k2
          clear k1 k2
          subst e1
          obtain ⟨b2, o2, g2, i2⟩ := f1 m _ hxm
          subst g2
          have d0 := i2
          have hmI : (m : Int) < (nh : Int) := by omega
          have hm0 : (0 : Int) ≤ (m : Int) := by omega
          have hmw : IntKind.i64.wrap ((m : Int) + 1) = (m : Int) + 1 := IntWalk.i64_in _ (by omega)
          have HXX := hid hx
          clear hbq f1 hx hxm i2
          by_cases gx : (100 : Int) < (x.length : Int)
          · have d3 : decide ((100 : Int) < (x.length : Int)) = true := decide_eq_true gx
            go_wp2_with fail
            go_ret
            exact smallK_no (HQ.out _ HBQ.out).1
          have d3 : decide ((100 : Int) < (x.length : Int)) = false := decide_eq_false gx
          go_wp2_with fail
          go_roundw
          case rel =>
            refine ⟨m + 1, by go_num, hltq, fun y hy => ?_, HBQ.out⟩
            rw [List.take_add_one, HXX.out] at hy
            rcases List.mem_append.1 hy with hy | hy
            · exact HTY.out y hy
            · obtain rfl : y = x := by simpa using hy
              omega
          case measure => simp [intOf]; omega
        · clear q1 hbq
          go_wp2_with fail
          go_roundw
          case rel =>
            refine ⟨k + 1, by go_num, (by omega), (HQ.out _ HBQ.out).2.2, ?_⟩
            intro x hx
            rw [List.take_add_one, HX.out.1] at hx
            rcases List.mem_append.1 hx with hx | hx
            · exact HB.out.2 x hx
            · obtain rfl : x = (s, .slice ah nh ch) := by simpa using hx
              have := HX.out.2
              refine ⟨by show s.host.length ≤ 100; omega, by show s.heads.length ≤ 10; omega, fun y hy => ?_⟩
              have e1 : s.heads.take m = s.heads := List.take_of_length_le (by omega)
              exact HTY.out y (by rw [e1]; exact hy)
          case measure => simp [intOf]; omega
    · have hkn : n = k := by omega
      subst hkn
      have j1 := (J0.out.below (show Below (w.alloc (.cells #[.slice ao n c] 53)).heap.size _ wr from hb.mono (by simp))).cell 0
      have hall := hf
      rw [List.take_of_length_le (by have := HL.out; omega)] at hall
      have HAL := hid hall
      clear hb hf hall
      by_cases g12 : (n : Int) ≤ 12
      · have d4 : decide ((n : Int) ≤ 12) = true := decide_eq_true g12
        go_wp2_with fail
        go_ret
        exact ⟨true, rfl, fun _ => ⟨by have := HL.out; omega, HAL.out⟩, HBW.out⟩
      · have d4 : decide ((n : Int) ≤ 12) = false := decide_eq_false g12
        go_wp2_with fail
        go_ret
        exact smallK_no HBW.out
end Go.Proofs.YtbjgbkbhalibdaaDoor
