/-
  The walk of KeyVaries.
-/
import Derived.Test.YtbjgbkbhalibdaaDoorLaw11C
import Derived.Test.YtbjgbkbhalibdaaDoorFieldC
import Derived.Test.YtbjgbkbhalibdaaDoorKeyB
namespace Go.Proofs.YtbjgbkbhalibdaaDoor
open Go.RowKit Go.Pantry

theorem smallK_len {L : List Fld} (h : smallK L = true) : L.length ≤ 30 := by
  unfold smallK at h
  simp only [Bool.and_eq_true, decide_eq_true_eq] at h
  exact h.2
theorem up_snoc (l : List UInt8) (c : UInt8) : upL (l ++ [c]) = upL l ++ [upC c] := by simp [upL]
theorem up_mid (x : List UInt8) (k : Nat) (h : k < x.length) : (upL (x.take k) ++ x.drop k)[k]? = some x[k] := by
  have hl : (upL (x.take k)).length = k := by simp [upL]; omega
  rw [List.getElem?_append_right (by omega), hl, Nat.sub_self, List.getElem?_drop, Nat.add_zero, List.getElem?_eq_getElem h]
theorem up_len (x : List UInt8) (k : Nat) (h : k < x.length) : k < (upL (x.take k) ++ x.drop k).length := (List.getElem?_eq_some_iff.1 (up_mid x k h)).1
theorem up_step (x : List UInt8) (k : Nat) (h : k < x.length) : (upL (x.take k) ++ x.drop k).set k (upC x[k]) = upL (x.take (k + 1)) ++ x.drop (k + 1) := by
  have hl : (upL (x.take k)).length = k := by simp [upL]; omega
  rw [List.take_succ_eq_append_getElem h, up_snoc, List.set_append_right _ _ (by omega), hl, Nat.sub_self, List.drop_eq_getElem_cons h, List.set_cons_zero]; simp
theorem up_same (x : List UInt8) (k : Nat) (h : k < x.length) (hu : isLow x[k] = false) : upL (x.take k) ++ x.drop k = upL (x.take (k + 1)) ++ x.drop (k + 1) := by
  rw [List.take_succ_eq_append_getElem h, up_snoc, List.drop_eq_getElem_cons h]
  have e : upC x[k] = x[k] := by unfold upC; rw [hu]; rfl
  rw [e]; simp
theorem up_int {c : UInt8} (h : isLow c = true) : (c.toNat : Int) - 32 = ((upC c).toNat : Int) := by
  have g := byte_all (p := fun c => !isLow c || ((upC c).toNat + 32 == c.toNat)) (by decide +kernel) c
  rw [h] at g
  simp at g
  have := (upC c).toNat_lt
  omega
set_option maxRecDepth 8000 in
set_option maxHeartbeats 4000000 in
theorem keyVaries_over {Ok : World → Prop} (K : Keys Ok) (lv mv nv : Value) (l more : List Fld) (ns : List (List UInt8)) (w : World) (ok : Ok w) (hl : Reads2 w lv l) (hm : Reads2 w mv more) (hn : Reads w nv (ns.map strV)) (hll : l.length ≤ maxLen) (hml : more.length ≤ maxLen) (hnl : ns.length ≤ maxLen) (hnz : ∀ x ∈ ns, x.length ≤ maxLen) :
    Calls Tryd.prog 7 #[lv, mv, nv] w fun e w' => e = .returned (.bool true) ∧ Below w.heap.size w w' := by
  unfold maxLen at hll hml hnl hnz
  obtain ⟨lo, lc, rfl⟩ := hl.form
  obtain ⟨mo, mc, rfl⟩ := hm.form
  obtain ⟨no, nc, rfl⟩ := hn.strs
  obtain ⟨n, hnn⟩ : ∃ n, ns.length = n := ⟨_, rfl⟩
  have cA := hid (anchor_any K w ok)
  have cSl := hid (fun (w' : World) (h : Below w.heap.size w w') => smallK_any (.slice lo l.length lc) l w' (hl.below h) (by omega))
  have cSm := hid (fun (w' : World) (h : Below w.heap.size w w') => smallK_any (.slice mo more.length mc) more w' (hm.below h) (by omega))
  have HR := hid (And.intro hl (And.intro hm hn))
  have HN := hid hnn
  have HZ := hid hnz
  have OK := hid ok
  rw [hnn] at hnl ⊢
  have hn0 : (0 : Int) ≤ (n : Int) := by omega
  clear hl hm hn hnn hnz ok
  go_enter Tryd.func7, Tryd.ntmps7
  go_wp2_with fail
  refine cA.out.mono ?_
  rintro e w1 ⟨rfl, hb1⟩
  have HB1 := hid hb1
  clear hb1 cA
  go_wp2_with fail
  refine (cSl.out _ HB1.out).mono ?_
  rintro e w2 ⟨rfl, hb2⟩
  have HB2 := hid (chain2 HB1.out HB1.out.size hb2)
  clear hb2 HB1
  cases hsl : smallK l with
  | false =>
    go_wp2_with fail
    go_ret
    exact ⟨rfl, HB2.out⟩
  | true =>
    have SL := hid (And.intro (smallK_ok hsl) (smallK_len hsl))
    clear hsl
    go_wp2_with fail
    refine (cSm.out _ HB2.out).mono ?_
    rintro e w3 ⟨rfl, hb3⟩
    have HB3 := hid (chain2 HB2.out HB2.out.size hb3)
    clear hb3 HB2
    cases hsm : smallK more with
    | false =>
      go_wp2_with fail
      go_ret
      exact ⟨rfl, HB3.out⟩
    | true =>
      have SM := hid (And.intro (smallK_ok hsm) (smallK_len hsm))
      clear hsm
      by_cases h10 : (10 : Int) < (n : Int)
      · have d10 : decide ((10 : Int) < (n : Int)) = true := decide_eq_true h10
        go_wp2_with fail
        go_ret
        exact ⟨rfl, HB3.out⟩
      · have d10 : decide ((10 : Int) < (n : Int)) = false := decide_eq_false h10
        have hn10 : n ≤ 10 := by omega
        have hb0 := below_alloc w3 (.cells #[] 9)
        have ho0 : (w3.alloc (.cells #[] 9)).ownsRow w.heap.size 9 1 (.slice (some ⟨w3.heap.size, 0, none⟩) 0 0) 0 [] := World.ownsRow_made w3 #[] 0 HB3.out.size (by decide) rfl
        have HO0 := hid (And.intro ho0 (chain2 HB3.out HB3.out.size hb0))
        clear hb0 ho0
        go_wp2_with fail
        clear d10 h10
        go_loopw [7, 33] (fun g z wr => ∃ (k : Nat), z = .int .i64 (k : Int) ∧ k ≤ n ∧ wr.ownsRow w.heap.size 9 1 g k (((ns.take k).map upL).map strV) ∧ (∀ x ∈ ns.take k, x.length ≤ 60) ∧ Below w.heap.size w wr) (fun _ z _ => n - (intOf z).toNat)
        case atStart => exact ⟨0, rfl, Nat.zero_le _, HO0.out.1, (by simp), HO0.out.2⟩
        case round =>
          obtain ⟨k, rfl, hk, ho, hxs, hbw⟩ := hrel
          have HBW := hid hbw
          have HXS := hid hxs
          have HO := hid ho
          clear hbw hxs ho
          by_cases hlt : k < n
          · obtain ⟨u, hu⟩ : ∃ u, ns[k]? = some u := ⟨_, List.getElem?_eq_getElem (by rw [HN.out]; exact hlt)⟩
            obtain ⟨bb, off, g0, d0⟩ := (HR.out.2.2.below HBW.out).str hu
            subst g0
            have hkI : (k : Int) < (n : Int) := by omega
            have hk0 : (0 : Int) ≤ (k : Int) := by omega
            have hkw : IntKind.i64.wrap ((k : Int) + 1) = (k : Int) + 1 := IntWalk.i64_in _ (by omega)
            have hz : ((⟨u.toArray⟩ : ByteArray).size : Int) = (u.length : Int) := by rw [szL]
            have htk := take_str hu
            have hul := HZ.out u (List.mem_of_getElem? hu)
            by_cases h60 : (60 : Int) < (u.length : Int)
            · have d60 : decide ((60 : Int) < (u.length : Int)) = true := decide_eq_true h60
              clear hu htk
              go_wp2_with fail
              go_ret
              exact ⟨rfl, HBW.out⟩
            · have d60 : decide ((60 : Int) < (u.length : Int)) = false := decide_eq_false h60
              have hu60 : u.length ≤ 60 := by omega
              have hx2 : ∀ x ∈ ns.take (k + 1), x.length ≤ 60 := fun x hx => by
                rw [htk, List.mem_append, List.mem_singleton] at hx
                rcases hx with hx | rfl
                · exact HXS.out x hx
                · exact hu60
              have hst : (ns.take (k + 1)).map upL = (ns.take k).map upL ++ [upL u] := by rw [htk, List.map_append]; rfl
              have HS := hid (And.intro hst hx2)
              have hcv := fun w' => run_bytes_of_string (P := Tryd.prog) w' 9 47 5 ⟨u.toArray⟩ Tryd.underlying9 Tryd.underlying47 Tryd.underlying5
              clear hst hx2 htk hu
              rename World => wo
              go_wp2_with fail
              clear hcv d60 h60 d0
              go_loopw [44] (fun z wi => ∃ j : Nat, z = .int .i64 (j : Int) ∧ j ≤ u.length ∧ bytesAt wi wo.heap.size (upL (u.take j) ++ u.drop j) ∧ Below wo.heap.size wo wi ∧ wo.heap.size < wi.heap.size) (fun z _ => u.length - (intOf z).toNat)
              case atStart =>
                refine ⟨0, rfl, Nat.zero_le _, ?_, ((Below.refl _ _).alloc (Nat.le_refl _) _).drew, by simp⟩
                have h := bytesAt_row wo ⟨u.toArray⟩
                rw [dtL] at h
                exact h _ _
              case round =>
                obtain ⟨j, rfl, hj, hby, hbi, hsz⟩ := hrel
                have HY := hid hby
                have HBI := hid (And.intro hbi hsz)
                clear hby hbi hsz
                by_cases hjl : j < u.length
                · have hcell : wr.cell? ⟨wo.heap.size, j, none⟩ = some (.int .u8 (u[j].toNat : Int)) := HY.out.cell j _ (up_mid u j hjl)
                  have hfree : wr.frozen? ⟨wo.heap.size, j, none⟩ = false := HY.out.free j (up_len u j hjl)
                  have hj0 : (0 : Int) ≤ (j : Int) := by omega
                  have hjI : (j : Int) < (u.length : Int) := by omega
                  have hjw : IntKind.i64.wrap ((j : Int) + 1) = (j : Int) + 1 := IntWalk.i64_in _ (by omega)
                  by_cases b1 : 97 ≤ (u[j].toNat : Int)
                  · have e1 : decide (97 ≤ (u[j].toNat : Int)) = true := decide_eq_true b1
                    by_cases b2 : (u[j].toNat : Int) ≤ 122
                    · have e2 : decide ((u[j].toNat : Int) ≤ 122) = true := decide_eq_true b2
                      have hlw : isLow u[j] = true := isLow_yes b1 b2
                      have HUI := hid (up_int hlw)
                      have HST := hid (HY.out.set j (up_len u j hjl) (upC u[j]))
                      have HSS := hid (up_step u j hjl)
                      clear hlw
                      go_wp2_with fail
                      go_roundw
                      case rel =>
                        refine ⟨j + 1, by go_num, by omega, ?_, HBI.out.1.setCell (by simp) _, by simpa [World.setCell] using HBI.out.2⟩
                        rw [HUI.out, ← HSS.out]
                        exact HST.out
                      case measure => simp [intOf]; omega
                    · have e2 : decide ((u[j].toNat : Int) ≤ 122) = false := decide_eq_false b2
                      have hlw : isLow u[j] = false := isLow_no2 (by omega)
                      have HSS := hid (up_same u j hjl hlw)
                      clear hlw
                      go_wp2_with fail
                      go_roundw
                      case rel => exact ⟨j + 1, by go_num, by omega, by rw [← HSS.out]; exact HY.out, HBI.out.1, HBI.out.2⟩
                      case measure => simp [intOf]; omega
                  · have e1 : decide (97 ≤ (u[j].toNat : Int)) = false := decide_eq_false b1
                    have hlw : isLow u[j] = false := isLow_no1 (by omega)
                    have HSS := hid (up_same u j hjl hlw)
                    clear hlw
                    go_wp2_with fail
                    go_roundw
                    case rel => exact ⟨j + 1, by go_num, by omega, by rw [← HSS.out]; exact HY.out, HBI.out.1, HBI.out.2⟩
                    case measure => simp [intOf]; omega
                · have hju : j = u.length := by omega
                  have hbk : bytesAt wr wo.heap.size (upL u) := by
                    have h := HY.out
                    rw [List.take_of_length_le (by omega), List.drop_eq_nil_of_le (by omega), List.append_nil] at h
                    exact h
                  have hback := hbk.back 47 9 5 u.length (grownCap wo u.length 0 5) (by simp [upL]) Tryd.underlying47 Tryd.underlying5 Tryd.underlying9
                  have ho2 := HO.out.below HBI.out.1
                  have hbw2 := chain2 HBW.out HBW.out.size HBI.out.1
                  have hs2 := hbw2.size
                  have HB2 := hid hbw2
                  generalize upL u = U at HS hback
                  clear hbk HY hbw2
                  go_wp2_with ((at_builtin; go_must (refine wpList_append_one _ rfl _ _ 22 rfl w.heap.size 9 Tryd.underlying22 infoStr rfl (by decide) rfl ho2 rfl (by first | rfl | simp) (by omega) hs2 ?_); intro v3 w5 ho3 hg3 hb3))
                  go_roundw
                  case rel =>
                    refine ⟨k + 1, by go_num, hlt, ?_, HS.out.2, HB2.out.trans hb3⟩
                    rw [HS.out.1, List.map_append]; simpa using ho3
                  case measure => simp [intOf]; omega
          · have hkn : k = n := by omega
            have hkt : ns.take k = ns := List.take_of_length_le (by rw [HN.out]; omega)
            rw [hkt] at HXS HO
            have h60 := HXS.out
            have hg := HO.out.reads
            have ezz : (ns.map upL).length = n := by rw [List.length_map]; exact HN.out
            obtain ⟨go, gc, hgf⟩ := hg.strs
            rw [ezz] at hgf
            subst hgf
            have HG := hid hg
            obtain ⟨R, hRd⟩ : ∃ R, outN more ns = R := ⟨_, rfl⟩
            have hRo : outsF more ns = R := hRd
            have hRl : R.length ≤ 30 := by rw [← hRd]; exact Nat.le_trans (List.length_filter_le _ _) SM.out.2
            have hRm : ∀ f ∈ R, f ∈ more := fun f hf => by rw [← hRd] at hf; exact (List.mem_filter.1 hf).1
            have hsm : SmallF (l ++ R) := ⟨by rw [List.length_append]; have := SL.out.2; omega, fun f hf => (List.mem_append.1 hf).elim (SL.out.1.name f) (fun h => SM.out.1.name f (hRm f h)), fun f hf => (List.mem_append.1 hf).elim (SL.out.1.val f) (fun h => SM.out.1.val f (hRm f h))⟩
            have e1 : secondL (l ++ R) ns = secondL l ns := by rw [← hRd]; exact secondL_more (outN_none more ns)
            have e2 : secondL l (ns.map upL) = secondL l ns := secondL_up l ns
            have cW := fun (W : World) (h : Below w.heap.size w W) => lWithout_any (.slice mo more.length mc) (.slice no n nc) more ns W (HR.out.2.1.below h) SM.out.1.okFs (by have h2 := HR.out.2.2.below h; rw [HN.out] at h2; exact h2) ⟨by rw [HN.out]; omega, fun x hx => Nat.le_trans (h60 x hx) (by decide)⟩
            rw [hRo] at cW
            have c1 := fun (W : World) (h : Below w.heap.size w W) => K.second (.slice lo l.length lc) (.slice no n nc) l ns W (K.keep _ _ OK.out h) (HR.out.1.below h) (by have h2 := HR.out.2.2.below h; rw [HN.out] at h2; exact h2) SL.out.1 (by rw [HN.out]; omega) (fun y hy => Nat.le_trans (h60 y hy) (by decide))
            have c2 := fun (W : World) (v : Value) (h : Below w.heap.size w W) (hv : Reads2 W v (l ++ R)) => K.second v (.slice no n nc) (l ++ R) ns W (K.keep _ _ OK.out h) hv (by have h2 := HR.out.2.2.below h; rw [HN.out] at h2; exact h2) hsm (by rw [HN.out]; omega) (fun y hy => Nat.le_trans (h60 y hy) (by decide))
            have c3 := fun (W : World) (h : Below wr.heap.size wr W) => K.second (.slice lo l.length lc) (.slice go n gc) l (ns.map upL) W (K.keep _ _ OK.out (chain2 HBW.out HBW.out.size h)) (HR.out.1.below (chain2 HBW.out HBW.out.size h)) (HG.out.below h) SL.out.1 (by rw [ezz]; omega) (fun y hy => by
              obtain ⟨x, hx, rfl⟩ := List.mem_map.1 hy
              have := h60 x hx
              simp only [upL, List.length_map]; omega)
            rw [e1] at c2
            rw [e2] at c3
            generalize secondL l ns = X at c1 c2 c3
            have CW := hid cW
            have C1 := hid c1
            have C2 := hid c2
            have C3 := hid c3
            have zX : (X == X) = true := by simp
            have SLl := SL.out.2
            clear cW c1 c2 c3 e1 e2 hsm hRm hRo hRd h60 hg hkt ezz HO HG
            go_wp2_with fail
            refine (CW.out _ HBW.out).mono ?_
            rintro e w5 ⟨⟨v5, n5, rfl, ho5⟩, hb5⟩
            have HW5 := hid (chain2 (Below.refl _ _) (Nat.le_refl _) hb5)
            have HB5 := hid (chain2 HBW.out HBW.out.size hb5)
            have HR5 := hid ho5.reads2.2
            clear ho5 hb5
            go_wp2_with fail
            refine (C1.out _ HB5.out).mono ?_
            rintro e w6 ⟨rfl, hb6⟩
            have HW6 := hid (chain2 HW5.out HW5.out.size hb6)
            have HB6 := hid (chain2 HB5.out HB5.out.size hb6)
            have HR6 := hid (HR5.out.below hb6)
            clear hb6 HR5 HW5 HB5
            have hbE := below_alloc w6 (.cells #[] 41)
            have hoE : (w6.alloc (.cells #[] 41)).ownsRow w6.heap.size 41 2 (.slice (some ⟨w6.heap.size, 0, none⟩) 0 0) 0 (fldCells []) := World.ownsRow_made w6 #[] 0 (Nat.le_refl _) (by decide) rfl
            have hra0 := HR.out.1.below (chain2 HB6.out HB6.out.size hbE)
            go_wp2_with (first
              | (at_builtin; (refine wpList_append_flds _ rfl _ _ 28 rfl w6.heap.size 41 Tryd.underlying28 infoFld rfl (by decide) rfl hoE hra0 rfl (by omega) hbE.size ?_); intro v7 w7 ho7 hb7; have hrb7 := HR6.out.below (hbE.trans hb7))
              | (at_builtin; (refine wpList_append_flds _ rfl _ _ 28 rfl w6.heap.size 41 Tryd.underlying28 infoFld rfl (by decide) rfl ho7 hrb7 rfl (by simp; omega) (hbE.trans hb7).size ?_); intro v8 w8 ho8 hb8))
            have hrc : Reads2 w8 v8 (l ++ R) := by have h := ho8.reads2.2; simpa using h
            have hb8w := (hbE.trans hb7).trans hb8
            refine (C2.out _ _ (chain2 HB6.out HB6.out.size hb8w) hrc).mono ?_
            rintro e w9 ⟨rfl, hb9⟩
            have HW9 := hid (chain2 (chain2 HW6.out HW6.out.size hb8w) (Nat.le_trans HW6.out.size hb8w.size) hb9)
            clear hoE hra0 hbE ho7 hb7 hrb7 ho8 hb8 hrc hb8w hb9
            go_wp2_with fail
            refine (C3.out _ HW9.out).mono ?_
            rintro e w10 ⟨rfl, hb10⟩
            have HW10 := hid (chain2 HW9.out HW9.out.size hb10)
            clear hb10
            go_wp2_with fail
            go_ret
            exact ⟨rfl, chain2 HBW.out HBW.out.size HW10.out⟩
end Go.Proofs.YtbjgbkbhalibdaaDoor
