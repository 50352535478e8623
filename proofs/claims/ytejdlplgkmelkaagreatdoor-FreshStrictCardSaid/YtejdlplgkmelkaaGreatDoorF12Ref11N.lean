/-
  The document's answers of layer 11: Names, First.
-/
import Derived.Test.YtejdlplgkmelkaaGreatDoorF1208
import Derived.Test.YtejdlplgkmelkaaGreatDoorF1201
import Derived.IntWalk
set_option linter.unusedVariables false
set_option linter.unusedSimpArgs false

namespace Go.Proofs.YtejdlplgkmelkaaGreatDoor
open Go.RowKit Go.Pantry

theorem elementsF_mem {l : List Fld} (h : SmallF l) (n : List UInt8) : (elementsF l n).length ≤ 18120 ∧ ∀ e ∈ elementsF l n, e.length ≤ 18120 := by
  have h1 := h.get n
  exact ⟨Nat.le_trans (listL_len _) h1, fun e he => Nat.le_trans (listL_size _ e he) h1⟩
set_option maxRecDepth 8000 in
set_option maxHeartbeats 4000000 in
theorem refNames_any (v : Value) (l : List Fld) (w : World) (hr : Reads2 w v l) (hs : SmallF l) :
    Calls Tryz.prog 35 #[v] w fun e w' => ∃ v', e = .returned (.tuple #[v', .bool (starE (elementsF l varyN))]) ∧ Reads w' v' ((varyE (elementsF l varyN)).map strV) ∧ Below w.heap.size w w' := by
  obtain ⟨ao, cap, rfl⟩ := hr.form
  have hE := elementsF_mem hs varyN
  have c1 := refElements_any (.slice ao l.length cap) l ⟨varyN.toArray⟩ w hr (fun f hf => Nat.lt_of_le_of_lt (hs.name f hf) (by decide)) (fun f hf => Nat.le_trans (hs.val f hf) (by decide)) (Nat.le_trans hs.len (by decide)) (by decide)
  rw [dtL] at c1
  generalize elementsF l varyN = E at c1 hE
  obtain ⟨n, hn⟩ : ∃ n, E.length = n := ⟨_, rfl⟩
  have HN := hid hn
  have hnb : n ≤ 18120 := by omega
  have HE := hid hE.2
  have C1 := hid c1
  clear hr hs c1 hE hn
  go_enter Tryz.func35, Tryz.ntmps35
  go_wp2_with fail
  refine C1.out.mono ?_
  rintro e w1 ⟨⟨v1, rfl, ho⟩, hb1⟩
  have hr1 := ho.reads
  obtain ⟨eo, ec, rfl⟩ := hr1.strs
  have HR := hid hr1
  have HB1 := hid hb1
  rw [HN.out]
  clear ho hr1 hb1
  go_wp2_with fail
  go_loopw [5, 6, 7] (fun out st z wr => ∃ (k : Nat), z = .int .i64 (k : Int) ∧ k ≤ n ∧ st = .bool (starE (E.take k)) ∧ Reads wr out ((varyE (E.take k)).map strV) ∧ Below w1.heap.size w1 wr) (fun _ _ z _ => n - (intOf z).toNat)
  case atStart => exact ⟨0, rfl, Nat.zero_le _, rfl, (⟨none, 0, rfl, (fun j u h => by cases h), fun _ => rfl⟩ : Reads _ (.slice none 0 0) []), Below.refl _ _⟩
  case round =>
    obtain ⟨k, rfl, hk, rfl, hro, hb⟩ := hrel
    have HB := hid hb
    have HO := hid hro
    by_cases hlt : k < n
    · obtain ⟨u, hu⟩ : ∃ u, E[k]? = some u := ⟨_, List.getElem?_eq_getElem (by rw [HN.out]; exact hlt)⟩
      obtain ⟨bb, off, heo, d0⟩ := (HR.out.below hb).str hu
      subst heo
      have hkI : (k : Int) < (n : Int) := by omega
      have hk0 : (0 : Int) ≤ (k : Int) := by omega
      have hkw : IntKind.i64.wrap ((k : Int) + 1) = (k : Int) + 1 := IntWalk.i64_in _ (by omega)
      have htk := take_str hu
      have hub := HE.out u (List.mem_of_getElem? hu)
      have hse : starE (E.take (k + 1)) = (starE (E.take k) || u == [42]) := by rw [htk, starE_snoc]
      have hve : varyE (E.take (k + 1)) = if u == [42] then varyE (E.take k) else riseL (varyE (E.take k)) (lowerL u) := by rw [htk, varyE_snoc]
      have hvl : (varyE (E.take k)).length ≤ 18120 := Nat.le_trans (varyE_len _) (by rw [List.length_take]; omega)
      obtain ⟨X, hX⟩ : ∃ X, varyE (E.take k) = X := ⟨_, rfl⟩
      obtain ⟨b, hbq⟩ : ∃ b, starE (E.take k) = b := ⟨_, rfl⟩
      rw [hX] at hve hvl
      rw [hX] at HO
      rw [hbq] at hse ⊢
      have HV := hid (And.intro hse hve)
      clear hse hve htk hu hro hb hX hbq
      cases hz : (u == [42])
      · have c2 := fun (W : World) => refLower_any ⟨u.toArray⟩ W (by rw [szL]; omega)
        rw [dtL] at c2
        have c3 := fun (W : World) (v : Value) (h : Reads W v (X.map strV)) => refPut_any v X (lowerL u) W h (by omega)
        obtain ⟨xo, xc, rfl⟩ := HO.out.strs
        have C2 := hid c2
        have C3 := hid c3
        clear c2 c3
        go_wp2_with fail
        refine (C2.out _).mono ?_
        rintro e w2 ⟨rfl, hb2⟩
        go_wp2_with fail
        refine (C3.out _ _ (HO.out.below hb2)).mono ?_
        rintro e w3 ⟨v3, m3, rfl, ho3, hb3⟩
        go_wp2_with fail
        go_roundw
        case rel =>
          refine ⟨k + 1, by go_num, hlt, ?_, ?_, chain2 (chain2 HB.out HB.out.size hb2) (Nat.le_trans HB.out.size hb2.size) hb3⟩
          · rw [HV.out.1, hz, Bool.or_false]
          · rw [HV.out.2, hz]; exact ho3.reads
        case measure => simp [intOf]; omega
      · go_wp2_with fail
        go_roundw
        case rel =>
          refine ⟨k + 1, by go_num, hlt, ?_, ?_, HB.out⟩
          · rw [HV.out.1, hz, Bool.or_true]
          · rw [HV.out.2, hz]; exact HO.out
        case measure => simp [intOf]; omega
    · have hkn : k = n := by omega
      have e0 : E.take k = E := List.take_of_length_le (by rw [HN.out]; omega)
      rw [e0]
      rw [e0] at HO
      go_wp2_with fail
      go_ret2
      exact ⟨_, rfl, HO.out, chain2 HB1.out HB1.out.size HB.out⟩
end Go.Proofs.YtejdlplgkmelkaaGreatDoor
