/-
  The document's answers of layer 13: Good.
-/
import Derived.Test.YtoolboafbkikjaaDoorF13Ref13C
import Derived.Test.YtoolboafbkikjaaDoorF13Ref13D
set_option linter.unusedVariables false
set_option linter.unusedSimpArgs false

namespace Go.Proofs.YtoolboafbkikjaaDoor
open Go.RowKit Go.Pantry

theorem get_len {l : List Fld} (h : SmallF l) (n : List UInt8) : (allF l n).length ≤ 60 := Nat.le_trans (by have := outF_len l n; omega) h.len
set_option maxRecDepth 8000 in
set_option maxHeartbeats 4000000 in
theorem r13Good_any (v cv : Value) (req came : List Fld) (w : World) (hr : Reads2 w v req) (hc : Reads2 w cv came) (hs : SmallF req) (hk : SmallF came) :
    Calls Tryd.prog 27 #[v, cv] w fun e w' => e = .returned (.bool (goodF req came)) ∧ Below w.heap.size w w' := by
  have c1 := refGetW_any v req nINM w hr hs.wide (by decide)
  have c2 := fun (W : World) (h : Reads2 W cv came) => refGetW_any cv came nETag W h hk.wide (by decide)
  have c3 := fun (W : World) (h : Reads2 W v req) => refElements_any v req ⟨nINM.toArray⟩ W h (fun f hf => Nat.lt_of_le_of_lt (hs.wide.name f hf) (by decide)) hs.wide.val hs.wide.len (by decide)
  simp only [dtL] at c3
  have c4 := fun (W : World) (h : Reads2 W v req) => refDated_any v req nIMS W h hs (by decide)
  have c5 := fun (W : World) (h : Reads2 W cv came) => refDated_any cv came nLast W h hk (by decide)
  have hE := hs.wide.elements nINM
  have hT := hk.wide.get nETag
  have hA := get_len hs nINM
  have hg : goodF req came = if allF req nINM = [] then sinceF (datedF req nIMS) (datedF came nLast) else (elementsF req nINM).any (goodE (getF came nETag)) := rfl
  rw [hg]
  clear hg
  generalize elementsF req nINM = E at c3 hE ⊢
  generalize getF came nETag = T at c2 hT ⊢
  generalize datedF req nIMS = D1 at c4 ⊢
  generalize datedF came nLast = D2 at c5 ⊢
  generalize getF req nINM = G at c1
  generalize allF req nINM = A at c1 hA ⊢
  generalize ((allF came nETag).length : Int) = nT at c2
  obtain ⟨R, hR⟩ : ∃ R, (if A = [] then sinceF D1 D2 else E.any (goodE T)) = R := ⟨_, rfl⟩
  rw [hR]
  have HR := hid hr
  have HC := hid hc
  have C1 := hid c1
  have C2 := hid c2
  have C3 := hid c3
  have C4 := hid c4
  have C5 := hid c5
  have HE := hid hE.2
  have hE1 := hE.1
  clear hr hc c1 c2 c3 c4 c5 hE
  go_enter Tryd.func27, Tryd.ntmps27
  go_wp2_with fail
  refine C1.out.mono ?_
  rintro e w1 ⟨rfl, hb1⟩
  have HB1 := hid hb1
  have HR1 := hid (HR.out.below hb1)
  have HC1 := hid (HC.out.below hb1)
  clear hb1 HR HC C1
  by_cases h0 : A = []
  · subst h0
    rw [if_pos rfl] at hR
    have HRR := hid hR
    clear hR hA C2 C3
    have hd : decide ((0 : Int) < (([] : List (List UInt8)).length : Int)) = false := by decide
    go_wp2_with fail
    refine (C4.out _ HR1.out).mono ?_
    rintro e w2 ⟨rfl, hb2⟩
    have HB2 := hid (chain2 HB1.out HB1.out.size hb2)
    have HC2 := hid (HC1.out.below hb2)
    clear hb2 HB1 HC1 HR1
    cases D1 with
    | none =>
      simp only [timeV]
      go_wp2_with fail
      refine (C5.out _ HC2.out).mono ?_
      rintro e w3 ⟨rfl, hb3⟩
      have HB3 := hid (chain2 HB2.out HB2.out.size hb3)
      clear hb3 HB2
      cases D2 with
      | none =>
        simp only [timeV]
        go_wp2_with fail
        go_ret
        exact ⟨by rw [← HRR.out]; rfl, HB3.out⟩
      | some t2 =>
        simp only [timeV]
        go_wp2_with fail
        go_ret
        exact ⟨by rw [← HRR.out]; rfl, HB3.out⟩
    | some t1 =>
      simp only [timeV]
      go_wp2_with fail
      refine (C5.out _ HC2.out).mono ?_
      rintro e w3 ⟨rfl, hb3⟩
      have HB3 := hid (chain2 HB2.out HB2.out.size hb3)
      clear hb3 HB2
      cases D2 with
      | none =>
        simp only [timeV]
        go_wp2_with fail
        go_ret
        exact ⟨by rw [← HRR.out]; rfl, HB3.out⟩
      | some t2 =>
        simp only [timeV]
        go_wp2_with fail
        go_ret
        exact ⟨by rw [← HRR.out]; rfl, HB3.out⟩
  · have hp : (0 : Int) < (A.length : Int) := by have := List.length_pos_iff.2 h0; omega
    have hd : decide ((0 : Int) < (A.length : Int)) = true := decide_eq_true hp
    rw [if_neg h0] at hR
    have HRR := hid hR
    clear hR h0 C4 C5
    go_wp2_with fail
    refine (C2.out _ HC1.out).mono ?_
    rintro e w2 ⟨rfl, hb2⟩
    have HB2 := hid (chain2 HB1.out HB1.out.size hb2)
    have HR2 := hid (HR1.out.below hb2)
    clear hb2 HB1 HC1 HR1 hp hd
    go_wp2_with fail
    refine (C3.out _ HR2.out).mono ?_
    rintro e w3 ⟨⟨v3, rfl, ho3⟩, hb3⟩
    have HB3 := hid (chain2 HB2.out HB2.out.size hb3)
    have hr3 := ho3.reads
    obtain ⟨eo, ec, rfl⟩ := hr3.strs
    have HE3 := hid hr3
    clear hb3 HB2 HR2 ho3 hr3
    obtain ⟨n, hn⟩ : ∃ n, E.length = n := ⟨_, rfl⟩
    have HN := hid hn
    have hn9 : n ≤ 100002000 := by omega
    rw [hn] at HE3 ⊢
    clear hn hE1
    go_wp2_with fail
    go_loopw [10] (fun i wr => ∃ k : Nat, i = .int .i64 (k : Int) ∧ k ≤ n ∧ (E.take k).any (goodE T) = false ∧ Below w3.heap.size w3 wr) (fun i _ => n - (intOf i).toNat)
    case atStart => exact ⟨0, rfl, Nat.zero_le _, rfl, Below.refl _ _⟩
    case round =>
      obtain ⟨k, rfl, hk, hno, hb⟩ := hrel
      have HB := hid hb
      have HNO := hid hno
      clear hno
      by_cases hlt : k < n
      · obtain ⟨u, hu⟩ : ∃ u, E[k]? = some u := ⟨_, List.getElem?_eq_getElem (by rw [HN.out]; exact hlt)⟩
        obtain ⟨bb, off, heo, d0⟩ := (HE3.out.below hb).str hu
        subst heo
        have hkI : (k : Int) < (n : Int) := by omega
        have hk0 : (0 : Int) ≤ (k : Int) := by omega
        have hkw : IntKind.i64.wrap ((k : Int) + 1) = (k : Int) + 1 := IntWalk.i64_in _ (by omega)
        have htk := take_str hu
        have hub := HE.out u (List.mem_of_getElem? hu)
        have hst : (E.take (k + 1)).any (goodE T) = goodE T u := by rw [htk, List.any_append, HNO.out]; simp
        have hyes : goodE T u = true → R = true := fun h => by
          rw [← HRR.out]; exact List.any_eq_true.2 ⟨u, List.mem_of_getElem? hu, h⟩
        have hg : goodE T u = (u == [42] || (!(T == []) && strongL u == strongL T)) := by unfold goodE; cases T <;> rfl
        have HG := hid hg
        have HST := hid hst
        have HY := hid hyes
        clear hb htk hu hst hyes hg
        obtain ⟨q1, hq1⟩ : ∃ q, (u == [42]) = q := ⟨_, rfl⟩
        rw [hq1] at HG
        cases q1
        · obtain ⟨q2, hq2⟩ : ∃ q, (T == []) = q := ⟨_, rfl⟩
          have hq2n : (!(T == [])) = !q2 := by rw [hq2]
          have hq2m : (T != []) = !q2 := by rw [bne, hq2]
          rw [hq2] at HG
          cases q2
          · simp only [Bool.not_false] at hq2n hq2m
            have s1 := hid (fun W => r13strong_any u W (by omega))
            have s2 := hid (fun W => r13strong_any T W (by omega))
            go_wp2_with fail
            refine (s1.out _).mono ?_
            rintro e w5 ⟨rfl, hb5⟩
            have HB5 := hid (chain2 HB.out HB.out.size hb5)
            clear hb5
            go_wp2_with fail
            refine (s2.out _).mono ?_
            rintro e w6 ⟨rfl, hb6⟩
            have HB6 := hid (chain2 HB5.out HB5.out.size hb6)
            clear hb6
            obtain ⟨q3, hq3⟩ : ∃ q, (strongL u == strongL T) = q := ⟨_, rfl⟩
            rw [hq3] at HG
            cases q3
            · go_wp2_with fail
              go_roundw
              case rel => exact ⟨k + 1, by go_num, hlt, by rw [HST.out, HG.out]; rfl, HB6.out⟩
              case measure => simp [intOf]; omega
            · go_wp2_with fail
              go_ret
              exact ⟨by rw [HY.out (by rw [HG.out]; rfl)]; rfl, chain2 HB3.out HB3.out.size HB6.out⟩
          · simp only [Bool.not_true] at hq2n hq2m
            go_wp2_with fail
            go_roundw
            case rel => exact ⟨k + 1, by go_num, hlt, by rw [HST.out, HG.out]; rfl, HB.out⟩
            case measure => simp [intOf]; omega
        · go_wp2_with fail
          go_ret
          exact ⟨by rw [HY.out (by rw [HG.out]; rfl)]; rfl, chain2 HB3.out HB3.out.size HB.out⟩
      · have hkm : k = n := by omega
        have e0 : E.take k = E := List.take_of_length_le (by rw [HN.out]; omega)
        rw [e0] at HNO
        go_wp2_with fail
        go_ret
        exact ⟨by rw [← HRR.out, HNO.out]; rfl, chain2 HB3.out HB3.out.size HB.out⟩
end Go.Proofs.YtoolboafbkikjaaDoor
