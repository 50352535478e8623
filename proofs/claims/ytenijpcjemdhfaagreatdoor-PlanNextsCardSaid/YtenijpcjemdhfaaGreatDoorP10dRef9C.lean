/-
  The document's answers of layer 9: Right of a config.
-/
import Derived.Test.YtenijpcjemdhfaaGreatDoorP10dRef9R
import Derived.Test.YtenijpcjemdhfaaGreatDoorP10d05

namespace Go.Proofs.YtenijpcjemdhfaaGreatDoor
open Go.RowKit Go.Pantry

set_option maxRecDepth 8000 in
set_option maxHeartbeats 4000000 in
theorem refConfigRight_any (v : Value) (L : List (SiteZ × Value)) (w : World) (h : ReadsP w v L) (hf : Few L) :
    Calls Tryz.prog 18 #[.agg #[v]] w fun e w' => e = .returned (.bool (rightC (L.map (·.1)))) ∧ Below w.heap.size w w' := by
  obtain ⟨n, hn⟩ : ∃ n, L.length = n := ⟨_, rfl⟩
  obtain ⟨ao, c, e1, f1⟩ := h.form
  rw [hn] at e1
  subst e1
  have hnl : n ≤ 1000000 := by rw [← hn]; exact hf.len
  have HR := hid h
  have HF := hid hf
  have HL := hid hn
  obtain ⟨W, hW⟩ : ∃ W, w.alloc (.cells #[.slice ao n c] 33) = W := ⟨_, rfl⟩
  have hbW : Below w.heap.size w W := by rw [← hW]; exact below_alloc _ _
  have hrow : rowIs W w.heap.size #[.slice ao n c] 33 := by rw [← hW]; exact rowIs_new _ _ _
  have HC := hid (And.intro hbW hrow)
  have j1 := hrow.cell 0
  by_cases h8 : 8 < n
  · have h8' : (8 : Int) < (n : Int) := by omega
    have HB := hid (rightC_long (L := L.map (·.1)) (by rw [List.length_map]; omega))
    clear h hf hn f1 h8 hbW hrow
    go_enter Tryz.func18, Tryz.ntmps18
    go_wp2_with fail
    go_ret
    exact ⟨by rw [HB.out]; rfl, HC.out.1⟩
  have h8' : ¬ (8 : Int) < (n : Int) := by omega
  have H8 := hid (show (L.map (·.1)).length ≤ 8 by rw [List.length_map]; omega)
  clear h hf hn f1 h8 hbW hrow
  go_enter Tryz.func18, Tryz.ntmps18
  go_wp2_with fail
  clear j1 hW
  go_loopw [3] (fun z wr => ∃ (k : Nat), z = .int .i64 (k : Int) ∧ k ≤ n ∧ (∀ j s, j < k → (L.map (·.1))[j]? = some s → rightZ s = true ∧ (((L.map (·.1)).take j).any fun x => x.host == s.host) = false) ∧ Below W.heap.size W wr) (fun z _ => n - (intOf z).toNat)
  case atStart => exact ⟨0, rfl, Nat.zero_le _, fun j s hj => absurd hj (Nat.not_lt_zero _), Below.refl _ _⟩
  case round =>
    obtain ⟨k, rfl, hk, hf, hb⟩ := hrel
    have HB := hid (And.intro hf hb)
    have HBW := hid (chainP HC.out.1 hb)
    have j1 := kept (HC.out.2.cell 0) hb
    by_cases hlt : k < n
    · obtain ⟨⟨s, hv⟩, hx⟩ : ∃ x, L[k]? = some x := by
        have := HL.out
        exact ⟨L[k]'(by omega), List.getElem?_eq_getElem (by omega)⟩
      have hmem := List.mem_of_getElem? hx
      have hrd := (HR.out.heads _ hmem).below HBW.out
      obtain ⟨ah, ch, hfv⟩ := hrd.form
      simp only at hfv hrd
      obtain ⟨nh, hnh⟩ : ∃ nh, (s.heads.map strV).length = nh := ⟨_, rfl⟩
      rw [hnh] at hfv
      subst hfv
      obtain ⟨b1, o1, g1, i1⟩ := (HR.out.below HBW.out).at_ hx
      subst g1
      have hkI : (k : Int) < (n : Int) := by omega
      have hk0 : (0 : Int) ≤ (k : Int) := by omega
      have hkw : IntKind.i64.wrap ((k : Int) + 1) = (k : Int) + 1 := IntWalk.i64_in _ (by omega)
      obtain ⟨p1, hp1⟩ : ∃ p, o1 + k * 7 = p := ⟨_, rfl⟩
      rw [hp1] at i1
      have y0 : wr.cell? ⟨b1, p1, none⟩ = some (strV s.host) := i1 0 _ rfl
      have y1 := i1 1 _ rfl
      have y2 := i1 2 _ rfl
      have y3 := i1 3 _ rfl
      have y4 := i1 4 _ rfl
      have y5 := i1 5 _ rfl
      have y6 := i1 6 _ rfl
      have cs := refSiteRight_any (.slice ah nh ch) s wr hrd (HF.out.host _ hmem) (HF.out.heads _ hmem) (HF.out.texts _ hmem)
      have hx2 : (L.map (·.1))[k]? = some s := by rw [List.getElem?_map, hx]; rfl
      obtain ⟨q, hq⟩ : ∃ q, rightZ s = q := ⟨_, rfl⟩
      rw [hq] at cs
      have CS := hid cs
      have HX := hid (And.intro hx2 hq)
      have Y0 := hid (And.intro y0 j1)
      clear hb hx i1 hf hnh hrd hmem hq cs hx2
      go_wp2_with fail
      refine CS.out.mono ?_
      rintro e w2 ⟨rfl, hb2⟩
      have HB2 := hid (chainP HBW.out hb2)
      have HB22 := hid (chainP HB.out.2 hb2)
      have Y2 := hid (And.intro (kept Y0.out.1 hb2) (kept Y0.out.2 hb2))
      clear y0 y1 y2 y3 y4 y5 y6 j1 hb2
      cases q
      · go_wp2_with fail
        go_ret
        exact ⟨by rw [rightC_not HX.out.1 (.inl HX.out.2)]; rfl, HB2.out⟩
      go_wp2_with fail
      go_loopw [4] (fun z wq => ∃ (m : Nat), z = .int .i64 (m : Int) ∧ m ≤ k ∧ (((L.map (·.1)).take m).any fun x => x.host == s.host) = false ∧ Below w2.heap.size w2 wq) (fun z _ => k - (intOf z).toNat)
      case atStart => exact ⟨0, rfl, Nat.zero_le _, rfl, Below.refl _ _⟩
      case round =>
        obtain ⟨m, rfl, hm, hany, hbq⟩ := hrel
        have HBQ := hid (And.intro hany hbq)
        have HBQ2 := hid (chainP HB2.out hbq)
        by_cases hmk : m < k
        · obtain ⟨⟨t, tv⟩, ht⟩ : ∃ x, L[m]? = some x := by
            have := HL.out
            exact ⟨L[m]'(by omega), List.getElem?_eq_getElem (by omega)⟩
          obtain ⟨b3, o3, g3, i3⟩ := (HR.out.below HBQ2.out).at_ ht
          injection g3 with g3
          injection g3 with g3 g4
          subst g3 g4
          obtain ⟨p3, hp3⟩ : ∃ p, o1 + m * 7 = p := ⟨_, rfl⟩
          rw [hp3] at i3
          have x0 := i3 0 _ rfl
          rw [Nat.add_zero] at x0
          have y0 := kept Y2.out.1 hbq
          have j1 := kept Y2.out.2 hbq
          have ht2 : (L.map (·.1))[m]? = some t := by rw [List.getElem?_map, ht]; rfl
          have HT := hid ht2
          have hmI : (m : Int) < (n : Int) := by omega
          have hmI2 : (m : Int) < (k : Int) := by omega
          have hm0 : (0 : Int) ≤ (m : Int) := by omega
          have hmw : IntKind.i64.wrap ((m : Int) + 1) = (m : Int) + 1 := IntWalk.i64_in _ (by omega)
          by_cases e : t.host = s.host
          · have z1 : (t.host == s.host) = true := by simpa using e
            have HE := hid e
            clear e hbq i3 ht ht2 hany
            go_wp2_with fail
            go_quiet (fail)
            go_wp2_with fail
            go_ret
            refine ⟨?_, below_drewN HBQ2.out _⟩
            rw [rightC_not HX.out.1 (.inr ?_)]
            · rfl
            · rw [List.any_eq_true]
              exact ⟨t, List.mem_of_getElem? (i := m) (by rw [List.getElem?_take, if_pos hmk]; exact HT.out), by rw [HE.out]; simp⟩
          · have z1 : (t.host == s.host) = false := by simpa using e
            have Z1 := hid z1
            clear e hbq i3 ht ht2 hany
            go_wp2_with fail
            go_quiet (fail)
            go_wp2_with fail
            go_roundw
            case rel =>
              refine ⟨m + 1, by go_num, hmk, ?_, below_drewN HBQ.out.2 _⟩
              rw [List.take_add_one, HT.out, List.any_append, HBQ.out.1]
              simp [Z1.out]
            case measure => simp [intOf]; omega
        · have hme : m = k := by omega
          have HA2 := hid (show (((L.map (·.1)).take k).any fun x => x.host == s.host) = false by rw [← hme]; exact hany)
          have hmI2 : ¬ (m : Int) < (k : Int) := by omega
          clear hany hbq hme
          go_wp2_with fail
          go_roundw
          case rel =>
            refine ⟨k + 1, by go_num, hlt, fun j t hj ht => ?_, chainP HB22.out HBQ.out.2⟩
            by_cases e : j = k
            · subst e
              have h1 := HX.out.1
              rw [ht] at h1
              cases h1
              exact ⟨HX.out.2, HA2.out⟩
            · exact HB.out.1 j t (by omega) ht
          case measure => simp [intOf]; omega
    · have HE := hid (rightC_all H8.out (fun j s hj => hf j s (by have := HL.out; have := (List.getElem?_eq_some_iff.1 hj).1; rw [List.length_map] at this; omega) hj))
      clear hb hf
      go_wp2_with fail
      go_ret
      exact ⟨by rw [HE.out]; rfl, HBW.out⟩
end Go.Proofs.YtenijpcjemdhfaaGreatDoor
