/-
  The walk of KeySeconds.
-/
import Derived.Test.YtbjgbkbhalibdaaDoorLaw11C
import Derived.Test.YtbjgbkbhalibdaaDoorRefFieldD
import Derived.Test.YtbjgbkbhalibdaaDoorRefFieldM
namespace Go.Proofs.YtbjgbkbhalibdaaDoor
open Go.RowKit Go.Pantry

/-- the document's Get of pantrymade's fields -/
theorem SmallF.getAny {l : List Fld} (hs : SmallF l) (v : Value) (u : List UInt8) (W : World) (h : Reads2 W v l) (hu : u.length ≤ 100000) :
    Calls Tryd.prog 11 #[v, strV u] W fun e w' => e = .returned (.tuple #[strV (getF l u), .int .i64 ((allF l u).length : Int)]) ∧ Below W.heap.size W w' := by
  have c := refGet_any v l ⟨u.toArray⟩ W h (fun f hf => Nat.lt_of_le_of_lt (hs.name f hf) (by decide)) (fun f hf => Nat.le_trans (hs.val f hf) (by decide)) (Nat.le_trans hs.len (by decide)) (by rw [szL]; omega)
  rw [dtL] at c
  exact c
set_option maxRecDepth 8000 in
set_option maxHeartbeats 4000000 in
theorem keySeconds_over {Ok : World → Prop} (K : Keys Ok) (nv av bv : Value) (ns : List (List UInt8)) (a b : List Fld) (w : World) (ok : Ok w) (hn : Reads w nv (ns.map strV)) (ha : Reads2 w av a) (hb : Reads2 w bv b) (hnl : ns.length ≤ maxLen) (hal : a.length ≤ maxLen) (hbl : b.length ≤ maxLen) (hnz : ∀ x ∈ ns, x.length ≤ maxLen) :
    Calls Tryd.prog 4 #[nv, av, bv] w fun e w' => e = .returned (.bool true) ∧ Below w.heap.size w w' := by
  unfold maxLen at hnl hal hbl hnz
  obtain ⟨no, nc, rfl⟩ := hn.strs
  obtain ⟨ao, ac, rfl⟩ := ha.form
  obtain ⟨bo, bc, rfl⟩ := hb.form
  obtain ⟨n, hnn⟩ : ∃ n, ns.length = n := ⟨_, rfl⟩
  have cA := hid (anchor_any K w ok)
  have cSa := hid (fun (w' : World) (h : Below w.heap.size w w') => smallK_any (.slice ao a.length ac) a w' (ha.below h) (by omega))
  have cSb := hid (fun (w' : World) (h : Below w.heap.size w w') => smallK_any (.slice bo b.length bc) b w' (hb.below h) (by omega))
  have HR := hid (And.intro hn (And.intro ha hb))
  have HN := hid hnn
  have HZ := hid hnz
  have OK := hid ok
  rw [hnn] at hnl ⊢
  have hn0 : (0 : Int) ≤ (n : Int) := by omega
  clear hn ha hb hnn hnz ok
  go_enter Tryd.func4, Tryd.ntmps4
  go_wp2_with fail
  refine cA.out.mono ?_
  rintro e w1 ⟨rfl, hb1⟩
  have HB1 := hid hb1
  clear hb1 cA
  go_wp2_with fail
  refine (cSa.out _ HB1.out).mono ?_
  rintro e w2 ⟨rfl, hb2⟩
  have HB2 := hid (chain2 HB1.out HB1.out.size hb2)
  clear hb2 HB1
  cases hsa : smallK a with
  | false =>
    go_wp2_with fail
    go_ret
    exact ⟨rfl, HB2.out⟩
  | true =>
    have SA := hid (smallK_ok hsa)
    clear hsa
    go_wp2_with fail
    refine (cSb.out _ HB2.out).mono ?_
    rintro e w3 ⟨rfl, hb3⟩
    have HB3 := hid (chain2 HB2.out HB2.out.size hb3)
    clear hb3 HB2
    cases hsb : smallK b with
    | false =>
      go_wp2_with fail
      go_ret
      exact ⟨rfl, HB3.out⟩
    | true =>
      have SB := hid (smallK_ok hsb)
      clear hsb
      by_cases h12 : (12 : Int) < (n : Int)
      · have d12 : decide ((12 : Int) < (n : Int)) = true := decide_eq_true h12
        go_wp2_with fail
        go_ret
        exact ⟨rfl, HB3.out⟩
      · have d12 : decide ((12 : Int) < (n : Int)) = false := decide_eq_false h12
        go_wp2_with fail
        have hn12 : n ≤ 12 := by omega
        clear d12 h12
        go_loopw [7, 31] (fun q z wr => ∃ (k : Nat), z = .int .i64 (k : Int) ∧ k ≤ n ∧ q = .bool ((ns.take k).all (sameN a b)) ∧ (∀ x ∈ ns.take k, x.length ≤ 60) ∧ Below w.heap.size w wr) (fun _ z _ => n - (intOf z).toNat)
        case atStart => exact ⟨0, rfl, Nat.zero_le _, rfl, (by simp), HB3.out⟩
        case round =>
          obtain ⟨k, rfl, hk, rfl, hxs, hbw⟩ := hrel
          have HBW := hid hbw
          have HXS := hid hxs
          clear hbw hxs
          by_cases hlt : k < n
          · obtain ⟨u, hu⟩ : ∃ u, ns[k]? = some u := ⟨_, List.getElem?_eq_getElem (by rw [HN.out]; exact hlt)⟩
            obtain ⟨bb, off, g0, d0⟩ := (HR.out.1.below HBW.out).str hu
            subst g0
            have hkI : (k : Int) < (n : Int) := by omega
            have hk0 : (0 : Int) ≤ (k : Int) := by omega
            have hkw : IntKind.i64.wrap ((k : Int) + 1) = (k : Int) + 1 := IntWalk.i64_in _ (by omega)
            have hz : ((⟨u.toArray⟩ : ByteArray).size : Int) = (u.length : Int) := by rw [szL]
            have htk := take_str hu
            have hul := HZ.out u (List.mem_of_getElem? hu)
            by_cases h60 : (60 : Int) < (u.length : Int)
            · have d60 : decide ((60 : Int) < (u.length : Int)) = true := decide_eq_true h60
              clear hu htk
              go_wp2_with fail
              go_ret
              exact ⟨rfl, HBW.out⟩
            · have d60 : decide ((60 : Int) < (u.length : Int)) = false := decide_eq_false h60
              have hu60 : u.length ≤ 60 := by omega
              have hst : (ns.take (k + 1)).all (sameN a b) = ((ns.take k).all (sameN a b) && sameN a b u) := by rw [htk]; simp
              have hx2 : ∀ x ∈ ns.take (k + 1), x.length ≤ 60 := fun x hx => by
                rw [htk, List.mem_append, List.mem_singleton] at hx
                rcases hx with hx | rfl
                · exact HXS.out x hx
                · exact hu60
              have hsn : sameN a b u = ((decide (0 < (allF a u).length) == decide (0 < (allF b u).length)) && getF a u == getF b u) := rfl
              have cGa := hid (fun (W : World) (v : Value) (h : Reads2 W v a) => SA.out.getAny v u W h (by omega))
              have cGb := hid (fun (W : World) (v : Value) (h : Reads2 W v b) => SB.out.getAny v u W h (by omega))
              obtain ⟨q, hq⟩ : ∃ q, (ns.take k).all (sameN a b) = q := ⟨_, rfl⟩
              rw [hq] at hst ⊢
              rw [hsn] at hst
              obtain ⟨na, hna⟩ : ∃ x, (allF a u).length = x := ⟨_, rfl⟩
              obtain ⟨nb, hnb⟩ : ∃ x, (allF b u).length = x := ⟨_, rfl⟩
              rw [hna] at hst cGa
              rw [hnb] at hst cGb
              generalize getF a u = GA at hst cGa
              generalize getF b u = GB at hst cGb
              have HS := hid (And.intro hst hx2)
              clear hst hx2 hsn htk hu hq hna hnb
              go_wp2_with fail
              refine (Fields_any (.slice ao a.length ac) a wr (HR.out.2.1.below HBW.out) (by have := SA.out.len; omega)).mono ?_
              rintro e w4 ⟨v4, rfl, ho4, hb4⟩
              have R4 := hid ho4.reads2.2
              have HB4 := hid (chain2 HBW.out HBW.out.size hb4)
              clear ho4 hb4
              go_wp2_with fail
              refine (cGa.out _ _ R4.out).mono ?_
              rintro e w5 ⟨rfl, hb5⟩
              have HB5 := hid (chain2 HB4.out HB4.out.size hb5)
              clear hb5
              go_wp2_with fail
              refine (Fields_any (.slice bo b.length bc) b w5 (HR.out.2.2.below HB5.out) (by have := SB.out.len; omega)).mono ?_
              rintro e w6 ⟨v6, rfl, ho6, hb6⟩
              have R6 := hid ho6.reads2.2
              have HB6 := hid (chain2 HB5.out HB5.out.size hb6)
              clear ho6 hb6
              go_wp2_with fail
              refine (cGb.out _ _ R6.out).mono ?_
              rintro e w7 ⟨rfl, hb7⟩
              have HB7 := hid (chain2 HB6.out HB6.out.size hb7)
              clear hb7 R4 R6 HB4 HB5 HB6
              obtain ⟨pa, hpa⟩ : ∃ x, decide (0 < na) = x := ⟨_, rfl⟩
              obtain ⟨pb, hpb⟩ : ∃ x, decide (0 < nb) = x := ⟨_, rfl⟩
              have hpaI : decide ((0 : Int) < (na : Int)) = pa := by rw [← hpa]; exact decide_eq_decide.2 (by omega)
              have hpbI : decide ((0 : Int) < (nb : Int)) = pb := by rw [← hpb]; exact decide_eq_decide.2 (by omega)
              cases q with
              | false =>
                go_wp2_with fail
                go_roundw
                case rel => exact ⟨k + 1, by go_num, hlt, congrArg Value.bool (by rw [HS.out.1]; rfl), HS.out.2, HB7.out⟩
                case measure => simp [intOf]; omega
              | true =>
                cases pa <;> cases pb
                all_goals go_wp2_with fail
                all_goals go_roundw
                any_goals
                  (case rel => exact ⟨k + 1, by go_num, hlt, congrArg Value.bool (by rw [HS.out.1, hpa, hpb]; simp), HS.out.2, HB7.out⟩)
                any_goals
                  (case measure => simp [intOf]; omega)
          · have hkn : k = n := by omega
            have hkt : ns.take k = ns := List.take_of_length_le (by rw [HN.out]; omega)
            have hx2 := HXS.out
            rw [hkt] at hx2 ⊢
            have hsame := secondL_same a b ns
            obtain ⟨q, hq⟩ : ∃ q, ns.all (sameN a b) = q := ⟨_, rfl⟩
            rw [hq] at hsame ⊢
            have c1 := fun (W : World) (h : Below w.heap.size w W) => K.second (.slice ao a.length ac) (.slice no n nc) a ns W (K.keep _ _ OK.out h) (HR.out.2.1.below h) (by have h2 := HR.out.1.below h; rw [HN.out] at h2; exact h2) SA.out (by rw [HN.out]; omega) (fun y hy => Nat.le_trans (hx2 y hy) (by decide))
            have c2 := fun (W : World) (h : Below w.heap.size w W) => K.second (.slice bo b.length bc) (.slice no n nc) b ns W (K.keep _ _ OK.out h) (HR.out.2.2.below h) (by have h2 := HR.out.1.below h; rw [HN.out] at h2; exact h2) SB.out (by rw [HN.out]; omega) (fun y hy => Nat.le_trans (hx2 y hy) (by decide))
            generalize secondL a ns = X at c1 hsame
            generalize secondL b ns = Y at c2 hsame
            have C1 := hid c1
            have C2 := hid c2
            have HS := hid hsame
            clear c1 c2 hsame hx2 hkt hq
            go_wp2_with fail
            refine (C1.out _ HBW.out).mono ?_
            rintro e w4 ⟨rfl, hb4⟩
            have HB4 := hid (chain2 HBW.out HBW.out.size hb4)
            clear hb4
            go_wp2_with fail
            refine (C2.out _ HB4.out).mono ?_
            rintro e w5 ⟨rfl, hb5⟩
            have HB5 := hid (chain2 HB4.out HB4.out.size hb5)
            clear hb5
            go_wp2_with fail
            go_ret
            refine ⟨ret_bool ?_, HB5.out⟩
            first
              | (rw [HS.out]; simp)
              | simp [HS.out]
end Go.Proofs.YtbjgbkbhalibdaaDoor
