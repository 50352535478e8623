/-
  The document's answers of layer 13: Names.
-/
import Derived.Test.YtoolboafbkikjaaDoorF13Ref13C
import Derived.IntWalk
set_option linter.unusedVariables false
set_option linter.unusedSimpArgs false

namespace Go.Proofs.YtoolboafbkikjaaDoor
open Go.RowKit Go.Pantry

set_option maxRecDepth 8000 in
set_option maxHeartbeats 4000000 in
theorem r13Names_any (v : Value) (L : List Fld) (w : World) (hr : Reads2 w v L) (hs : SmallF L) :
    Calls Tryd.prog 24 #[v] w fun e w' => (∃ v', e = .returned v' ∧ Reads w' v' ((namesP L L.length).map strV)) ∧ Below w.heap.size w w' := by
  obtain ⟨lo, lc, rfl⟩ := hr.form
  obtain ⟨n, hn⟩ : ∃ n, L.length = n := ⟨_, rfl⟩
  have hl := hs.len
  rw [hn] at hr hl ⊢
  have HN := hid hn
  have HL := hid hs
  have HR0 := hid hr
  clear hn hs hr
  go_enter Tryd.func24, Tryd.ntmps24
  go_wp2_with fail
  go_loopw [3, 4] (fun out i wr => ∃ k : Nat, i = .int .i64 (k : Int) ∧ k ≤ n ∧ wr.ownsRow w.heap.size 9 1 out (namesP L k).length ((namesP L k).map strV) ∧ Below w.heap.size w wr) (fun _ i _ => n - (intOf i).toNat)
  case atStart => exact ⟨0, rfl, Nat.zero_le _, World.ownsRow_nil _ _ _ _, Below.refl _ _⟩
  case round =>
    obtain ⟨k, rfl, hk, ho, hb⟩ := hrel
    rename World => w5
    have HB := hid hb
    by_cases hlt : k < n
    · obtain ⟨f, hf⟩ : ∃ f, L[k]? = some f := ⟨_, List.getElem?_eq_getElem (by rw [HN.out]; exact hlt)⟩
      have hfl := HL.out.name f (List.mem_of_getElem? hf)
      obtain ⟨b, off, hbo, hc1, hc2⟩ := (HR0.out.below hb).fld hf
      subst hbo
      have hkI : (k : Int) < (n : Int) := by omega
      have hk0 : (0 : Int) ≤ (k : Int) := by omega
      have hkw : IntKind.i64.wrap ((k : Int) + 1) = (k : Int) + 1 := IntWalk.i64_in _ (by omega)
      have hsu := namesP_succ hf
      have hnb := (namesP_bd L k).1
      have c1 := fun (W : World) => refLower_any ⟨f.1.toArray⟩ W (by rw [szL]; omega)
      rw [dtL] at c1
      generalize namesP L k = O at hsu ho hnb
      generalize lowerL f.1 = u at hsu c1
      have HSU := hid hsu
      have C1 := hid c1
      have HO := hid ho
      clear hb ho hsu c1 hf
      go_wp2_with fail
      refine (C1.out _).mono ?_
      rintro e w6 ⟨rfl, hb6⟩
      have HB6 := hid (chain2 HB.out HB.out.size hb6)
      have HO6 := hid (HO.out.below hb6)
      have hr6 := HO6.out.reads
      obtain ⟨eo, ec, rfl⟩ := hr6.strs
      have HR6 := hid hr6
      clear hb6 HO HB hc1 hc2 hr6 C1
      obtain ⟨m, hm⟩ : ∃ m, O.length = m := ⟨_, rfl⟩
      have HM := hid hm
      rw [hm] at HR6 hnb
      rw [hm]
      clear hm
      go_wp2_with fail
      go_loopw [6, 7] (fun q i wi => ∃ j : Nat, i = .int .i64 (j : Int) ∧ j ≤ m ∧ q = .bool ((O.take j).any (· == u)) ∧ Below w6.heap.size w6 wi) (fun _ i _ => m - (intOf i).toNat)
      case atStart => exact ⟨0, rfl, Nat.zero_le _, rfl, Below.refl _ _⟩
      case round =>
        obtain ⟨j, rfl, hj, rfl, hbi⟩ := hrel
        have HBI := hid hbi
        clear hbi
        by_cases hjm : j < m
        · obtain ⟨y, hy⟩ : ∃ y, O[j]? = some y := ⟨_, List.getElem?_eq_getElem (by rw [HM.out]; exact hjm)⟩
          obtain ⟨bb, off', heo, d0⟩ := (HR6.out.below HBI.out).str hy
          subst heo
          have hjI : (j : Int) < (m : Int) := by omega
          have hj0 : (0 : Int) ≤ (j : Int) := by omega
          have hjw : IntKind.i64.wrap ((j : Int) + 1) = (j : Int) + 1 := IntWalk.i64_in _ (by omega)
          have htk := take_str hy
          have hst : (O.take (j + 1)).any (· == u) = ((O.take j).any (· == u) || y == u) := by rw [htk, List.any_append]; simp
          have HST := hid hst
          clear hst htk hy
          obtain ⟨q, hq⟩ : ∃ q, (O.take j).any (· == u) = q := ⟨_, rfl⟩
          rw [hq] at HST ⊢
          clear hq
          cases q
          · obtain ⟨r, hrr⟩ : ∃ r, (y == u) = r := ⟨_, rfl⟩
            rw [hrr] at HST
            cases r
            · go_wp2_with fail
              go_roundw
              case rel => exact ⟨j + 1, by go_num, hjm, by rw [HST.out]; rfl, HBI.out⟩
              case measure => simp [intOf]; omega
            · go_wp2_with fail
              go_roundw
              case rel => exact ⟨j + 1, by go_num, hjm, by rw [HST.out]; rfl, HBI.out⟩
              case measure => simp [intOf]; omega
          · go_wp2_with fail
            go_roundw
            case rel => exact ⟨j + 1, by go_num, hjm, by rw [HST.out]; rfl, HBI.out⟩
            case measure => simp [intOf]; omega
        · have hjm2 : j = m := by omega
          subst hjm2
          have e0 : O.take j = O := List.take_of_length_le (by rw [HM.out]; omega)
          rw [e0]
          have hbw := chain2 HB6.out HB6.out.size HBI.out
          have HBW := hid hbw
          have hown := HO6.out.below HBI.out
          rw [HM.out] at hown
          have hsz := hbw.size
          obtain ⟨q, hq⟩ : ∃ q, O.any (· == u) = q := ⟨_, rfl⟩
          have hon := HSU.out
          rw [hq] at hon ⊢
          have HON := hid hon
          clear hon hq hbw e0
          cases q
          · simp only [Bool.false_eq_true, if_false] at HON
            go_wp2_with (at_builtin; go_must (refine wpList_append_one _ rfl _ _ 27 rfl w.heap.size 9 Tryd.underlying27 infoStr rfl (by decide) rfl hown rfl rfl (by omega) hsz ?_); intro v' w7 hown3 hg3 hb3)
            go_roundw
            case rel => exact ⟨k + 1, by go_num, hlt, by rw [HON.out, List.length_append, List.map_append, HM.out]; exact hown3, HBW.out.trans hb3⟩
            case measure => simp [intOf]; omega
          · simp only [if_true] at HON
            go_wp2_with fail
            go_roundw
            case rel => exact ⟨k + 1, by go_num, hlt, by rw [HON.out, HM.out]; exact hown, HBW.out⟩
            case measure => simp [intOf]; omega
    · have hkn : k = n := by omega
      subst hkn
      have HRR := hid ho.reads
      go_wp2_with fail
      go_ret
      exact ⟨⟨_, rfl, HRR.out⟩, HB.out⟩
end Go.Proofs.YtoolboafbkikjaaDoor
