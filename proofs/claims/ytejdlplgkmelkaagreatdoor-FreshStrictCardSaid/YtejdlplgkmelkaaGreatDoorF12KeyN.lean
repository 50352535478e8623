/-
  Contracts of package key: the names that vary.
-/
import Derived.Test.YtejdlplgkmelkaaGreatDoorF1208
import Derived.Test.YtejdlplgkmelkaaGreatDoorF12KeySort
import Derived.Test.YtejdlplgkmelkaaGreatDoorF1207
set_option linter.unusedVariables false
set_option linter.unusedSimpArgs false

namespace Go.Proofs.YtejdlplgkmelkaaGreatDoor
open Go.RowKit Go.Pantry

/-- the names ahead of their sorting -/
def rawE (es : List (List UInt8)) : List (List UInt8) := (es.filter fun e => !(e == [42])).map lowerL
theorem rawE_snoc (es : List (List UInt8)) (e : List UInt8) : rawE (es ++ [e]) = if e == [42] then rawE es else rawE es ++ [lowerL e] := by
  unfold rawE
  by_cases h : e == [42]
  · simp [h]
  · simp [h]
theorem rawE_len (es : List (List UInt8)) : (rawE es).length ≤ es.length := by
  unfold rawE; rw [List.length_map]; exact List.length_filter_le _ _
theorem rawE_vary (es : List (List UInt8)) : Lib.compact ((rawE es).mergeSort fun x y => decide (x ≤ y)) = varyE es := compact_sort _
theorem elements_small {l : List Fld} (h : SmallF l) (n : List UInt8) : (elementsF l n).length ≤ 18120 ∧ ∀ e ∈ elementsF l n, e.length ≤ 18120 := by
  have h1 := h.get n
  exact ⟨Nat.le_trans (listL_len _) h1, fun e he => Nat.le_trans (listL_size _ e he) h1⟩
set_option maxRecDepth 8000 in
set_option maxHeartbeats 4000000 in
theorem names_big (lv : Value) (l : List Fld) (w : World) (hr : Reads2 w lv l) (hs : okFs l) (hg : (getF l varyN).length ≤ 1000000) :
    Calls Tryz.prog 28 #[lv] w fun e w' => ∃ v', e = .returned (.tuple #[v', .bool (starE (elementsF l varyN))]) ∧ Reads w' v' ((varyE (elementsF l varyN)).map strV) ∧ Below w.heap.size w w' := by
  have hE : (elementsF l varyN).length ≤ 1000000 ∧ ∀ e ∈ elementsF l varyN, e.length ≤ 1000000 := ⟨Nat.le_trans (listL_len _) hg, fun e he => Nat.le_trans (listL_size _ e he) hg⟩
  have c1 := lElements_any lv l ⟨varyN.toArray⟩ w hr hs (by decide)
  rw [dtL] at c1
  generalize elementsF l varyN = E at c1 hE
  obtain ⟨n, hn⟩ : ∃ n, E.length = n := ⟨_, rfl⟩
  have hnb : n ≤ 1000000 := by omega
  have HN := hid hn
  have HE := hid hE.2
  have C1 := hid c1
  clear hr hs c1 hE hn hg
  go_enter Tryz.func28, Tryz.ntmps28
  go_wp2_with fail
  refine C1.out.mono ?_
  rintro e w1 ⟨⟨v1, rfl, ho⟩, hb1⟩
  have hr1 := ho.reads
  obtain ⟨eo, ec, rfl⟩ := hr1.strs
  have HR := hid hr1
  have HB1 := hid hb1
  rw [HN.out]
  clear ho hr1 hb1
  go_wp2_with fail
  go_loopw [4, 5, 11] (fun v' st z wr => ∃ (k m : Nat), z = .int .i64 (k : Int) ∧ k ≤ n ∧ m ≤ k ∧ m = (rawE (E.take k)).length ∧ st = .bool (starE (E.take k)) ∧ wr.ownsRow w1.heap.size 9 1 v' m ((rawE (E.take k)).map strV) ∧ Below w1.heap.size w1 wr) (fun _ _ z _ => n - (intOf z).toNat)
  case atStart => exact ⟨0, 0, rfl, Nat.zero_le _, Nat.le_refl _, rfl, rfl, World.ownsRow_nil _ _ _ _, Below.refl _ _⟩
  case round =>
    obtain ⟨k, m, rfl, hk, hmk, hm, rfl, ho, hb⟩ := hrel
    have HB := hid hb
    have HO := hid ho
    have HM := hid hm
    clear ho hm
    by_cases hlt : k < n
    · obtain ⟨u, hu⟩ : ∃ u, E[k]? = some u := ⟨_, List.getElem?_eq_getElem (by rw [HN.out]; exact hlt)⟩
      obtain ⟨bb, off, heo, d0⟩ := (HR.out.below hb).str hu
      subst heo
      have hkI : (k : Int) < (n : Int) := by omega
      have hk0 : (0 : Int) ≤ (k : Int) := by omega
      have hkw : IntKind.i64.wrap ((k : Int) + 1) = (k : Int) + 1 := IntWalk.i64_in _ (by omega)
      have htk := take_str hu
      have hub := HE.out u (List.mem_of_getElem? hu)
      have hse : starE (E.take (k + 1)) = (starE (E.take k) || u == [42]) := by rw [htk, starE_snoc]
      have hve : rawE (E.take (k + 1)) = if u == [42] then rawE (E.take k) else rawE (E.take k) ++ [lowerL u] := by rw [htk, rawE_snoc]
      obtain ⟨X, hX⟩ : ∃ X, rawE (E.take k) = X := ⟨_, rfl⟩
      obtain ⟨b, hbq⟩ : ∃ b, starE (E.take k) = b := ⟨_, rfl⟩
      rw [hX] at hve HO HM
      rw [hbq] at hse ⊢
      have HV := hid (And.intro hse hve)
      clear hse hve htk hu hb hX hbq
      cases hz : (u == [42])
      · have c2 := fun (W : World) => Lower_any ⟨u.toArray⟩ W (by rw [szL]; unfold maxLen; omega)
        rw [dtL] at c2
        have C2 := hid c2
        clear c2
        go_wp2_with fail
        refine (C2.out _).mono ?_
        rintro e w2 ⟨rfl, hb2⟩
        have ho2 := HO.out.below hb2
        have hbw2 := chain2 HB.out HB.out.size hb2
        have hs2 := hbw2.size
        have HB2 := hid hbw2
        clear hb2 d0 hbw2
        go_wp2_with ((at_builtin; go_must (refine wpList_append_one _ rfl _ _ 22 rfl w1.heap.size 9 Tryz.underlying22 infoStr rfl (by decide) rfl ho2 rfl (by first | rfl | simp) (by omega) hs2 ?_); intro v3 w3 ho3 hg3 hb3))
        go_roundw
        case rel =>
          refine ⟨k + 1, m + 1, by go_num, hlt, by omega, ?_, ?_, ?_, HB2.out.trans hb3⟩
          · rw [HV.out.2, hz, HM.out]; simp
          · rw [HV.out.1, hz, Bool.or_false]
          · rw [HV.out.2, hz]; simpa using ho3
        case measure => simp [intOf]; omega
      · go_wp2_with fail
        go_roundw
        case rel =>
          refine ⟨k + 1, m, by go_num, hlt, by omega, ?_, ?_, ?_, HB.out⟩
          · rw [HV.out.2, hz]; exact HM.out
          · rw [HV.out.1, hz, Bool.or_true]
          · rw [HV.out.2, hz]; exact HO.out
        case measure => simp [intOf]; omega
    · have hkn : k = n := by omega
      have e0 : E.take k = E := List.take_of_length_le (by rw [HN.out]; omega)
      rw [e0] at HO HM ⊢
      have ho := HO.out
      rw [HM.out] at ho
      have hrl := rawE_len E
      have hrb : (rawE E).length ≤ 1000000 := by have := HN.out; omega
      have c3 := sort_made _ (rawE E) wr ho hrb
      have C3 := hid c3
      have HRB := hid hrb
      have HMM := hid (And.intro hmk hkn)
      clear c3 ho hrl hrb hmk hkn
      go_wp2_with fail
      refine C3.out.mono ?_
      rintro e w2 ⟨rfl, ho2, hb2, hs2⟩
      have hln : (rawE E).length = ((rawE E).mergeSort fun x y => decide (x ≤ y)).length := by simp
      rw [hln] at ho2
      have C4 := hid (compact_made _ ((rawE E).mergeSort fun x y => decide (x ≤ y)) w2 ho2 (by rw [← hln]; exact HRB.out))
      have HB2 := hid (And.intro hb2 hs2)
      clear ho2 hb2 hs2 hln
      go_wp2_with fail
      refine C4.out.mono ?_
      rintro e w3 ⟨v3, rfl, ho3, hb3, hs3⟩
      rw [rawE_vary] at ho3
      have HB3 := hid (And.intro hb3 hs3)
      have HR3 := hid ho3.reads
      clear ho3 hb3 hs3
      go_wp2_with fail
      go_ret2
      refine ⟨_, rfl, HR3.out, chain2 HB1.out HB1.out.size ?_⟩
      exact (HB.out.trans HB2.out.1).trans HB3.out.1
theorem names_any (lv : Value) (l : List Fld) (w : World) (hr : Reads2 w lv l) (hs : SmallF l) :
    Calls Tryz.prog 28 #[lv] w fun e w' => ∃ v', e = .returned (.tuple #[v', .bool (starE (elementsF l varyN))]) ∧ Reads w' v' ((varyE (elementsF l varyN)).map strV) ∧ Below w.heap.size w w' :=
  names_big lv l w hr hs.okFs (Nat.le_trans (hs.get varyN) (by decide))
end Go.Proofs.YtejdlplgkmelkaaGreatDoor
