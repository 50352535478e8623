/-
  Contracts of package conf: what is right: headers, a site.
-/
import Derived.Test.YtffenndchmcncaaDoorConfZ
import Derived.Test.YtffenndchmcncaaDoorPurePlan
namespace Go.Pantry
open Go.RowKit
/-- x[:k] of a slice that has room -/
theorem strs_high {P : Program} (t : TypeId) (ht : P.underlying t = some (.slice (P.elem t))) (h1 : ∀ W, (sizeOf (P.elem t)).run P W = .ok 1 W) {w : World} {ao : Option Addr} {n cap : Nat} {H : List (List UInt8)} (h : Reads w (.slice ao n cap) (H.map strV)) (hc : n ≤ cap) (k : Nat) (hk : k ≤ n) :
    (∀ W, (Instr.slice t (.slice ao n cap) none (some (.int .i64 (k : Int))) none).run P W = .ok (.slice ao k cap) W) ∧ Reads w (.slice ao k cap) ((H.take k).map strV) := by
  have hn : H.length = n := by
    obtain ⟨ao', cap', hv, _, _⟩ := h
    rw [List.length_map] at hv
    injection hv with e1 e2 e3
    exact e2.symm
  refine ⟨fun W => ?_, ?_⟩
  · rw [run_slice_h W t ao n cap ht .i64 (k : Int) (by omega) (by omega)]
    try rw [h1]
    simp only [Result.andThen, sliced, Int.toNat_natCast, Nat.sub_zero]
    have e0 : ∀ a : Addr, a.add 0 = a := fun a => by unfold Addr.add; split <;> simp_all
    cases ao with
    | none => simp
    | some a => simp [e0]
  · have hh := h.take k (by rw [List.length_map]; omega)
    rw [List.map_take]
    exact hh
end Go.Pantry
namespace Go.Proofs.YtffenndchmcncaaDoor
open Go.RowKit Go.Pantry

set_option maxRecDepth 8000 in
theorem rightHeads_any (v : Value) (H : List (List UInt8)) (w : World) (hr : Reads w v (H.map strV)) (hc : Room v) (hl : H.length ≤ 1000000) (hh : ∀ y ∈ H, y.length ≤ 100000) :
    Calls Tryd.prog 28 #[v] w fun e w' => e = .returned (.bool (headsB H)) ∧ Below w.heap.size w w' := by
  obtain ⟨ao, cap, rfl⟩ := hr.form
  rw [List.length_map] at *
  obtain ⟨n, hn⟩ : ∃ n, H.length = n := ⟨_, rfl⟩
  rw [hn] at hr hc ⊢
  rw [hn] at hl
  have hcap := hc.le
  have HR := hid (And.intro hr (And.intro hcap hn))
  have HH := hid hh
  by_cases h4 : 4 < n
  · have h4' : (4 : Int) < (n : Int) := by omega
    have HB := hid (headsB_long (hs := H) (by omega))
    clear hr hc hcap hh hn h4
    go_enter Tryd.func28, Tryd.ntmps28
    go_wp2_with fail
    go_ret
    exact ⟨by rw [HB.out]; rfl, Below.refl _ _⟩
  · have h4' : ¬ (4 : Int) < (n : Int) := by omega
    have H4 := hid (show H.length ≤ 4 by omega)
    clear hr hc hcap hh hn h4
    go_enter Tryd.func28, Tryd.ntmps28
    go_wp2_with fail
    go_loopw [10] (fun z wr => ∃ (k : Nat), z = .int .i64 (k : Int) ∧ k ≤ n ∧ (∀ j x, j < k → H[j]? = some x → mayM (H.take j) x = true) ∧ Below w.heap.size w wr) (fun z _ => n - (intOf z).toNat)
    case atStart => exact ⟨0, rfl, Nat.zero_le _, fun j x hj => absurd hj (Nat.not_lt_zero _), Below.refl _ _⟩
    case round =>
      obtain ⟨k, rfl, hk, hf, hb⟩ := hrel
      have HB := hid (And.intro hf hb)
      by_cases hlt : k < n
      · obtain ⟨x, hx⟩ : ∃ x, H[k]? = some x := by
          have := HR.out.2.2
          exact ⟨H[k]'(by omega), List.getElem?_eq_getElem (by omega)⟩
        have hxm : (H.map strV)[k]? = some (strV x) := by rw [List.getElem?_map, hx]; rfl
        have q1 := HR.out.1.below hb
        obtain ⟨hs1, hs2⟩ := strs_high (P := Tryd.prog) 34 (by kernel_rfl) (fun _ => by kernel_rfl) q1 HR.out.2.1 k (by omega)
        have HSL := hid hs1
        have cm := mayFollow_any (.slice ao k cap) (H.take k) x wr hs2 (by rw [List.length_take]; omega) (HH.out x (List.mem_of_getElem? hx))
        obtain ⟨a1, c1', e1, f1, hz1⟩ := q1
        injection e1 with e1 k1 k2
        clear k1 k2
        subst e1
        obtain ⟨b2, o2, g2, i2⟩ := f1 k _ hxm
        subst g2
        have hkI : (k : Int) < (n : Int) := by omega
        have hk0 : (0 : Int) ≤ (k : Int) := by omega
        have hkw : IntKind.i64.wrap ((k : Int) + 1) = (k : Int) + 1 := IntWalk.i64_in _ (by omega)
        have HX := hid hx
        obtain ⟨q, hq⟩ : ∃ q, mayM (H.take k) x = q := ⟨_, rfl⟩
        have HQ := hid hq
        rw [hq] at cm
        have CM := hid cm
        clear hb f1 hx hxm hf hs2 cm hq hs1 hz1
        cases q
        · go_wp2_with (first
            | (refine wpList_slice_high rfl 34 _ _ rfl rfl rfl (by kernel_rfl) (HSL.out _) ?_)
            | (go_at_call 45; refine CM.out.mono ?_; rintro e w2 ⟨rfl, hb2⟩))
          have HB2 := hid (chainP HB.out.2 hb2)
          clear hb2
          go_ret
          exact ⟨by rw [headsB_not HX.out HQ.out]; rfl, HB2.out⟩
        · go_wp2_with (first
            | (refine wpList_slice_high rfl 34 _ _ rfl rfl rfl (by kernel_rfl) (HSL.out _) ?_)
            | (go_at_call 45; refine CM.out.mono ?_; rintro e w2 ⟨rfl, hb2⟩))
          have HB2 := hid (chainP HB.out.2 hb2)
          clear hb2
          go_roundw
          case rel =>
            refine ⟨k + 1, by go_num, hlt, fun j y hj hy => ?_, HB2.out⟩
            by_cases e : j = k
            · subst e
              have h1 := HX.out
              rw [hy] at h1
              cases h1
              exact HQ.out
            · exact HB.out.1 j y (by omega) hy
          case measure => simp [intOf]; omega
      · have HE := hid (headsB_all H4.out (fun j x hj => hf j x (by have := HR.out.2.2; have := (List.getElem?_eq_some_iff.1 hj).1; omega) hj))
        clear hb hf
        go_wp2_with fail
        go_ret
        exact ⟨by rw [HE.out]; rfl, HB.out.2⟩
set_option maxRecDepth 8000 in
theorem siteRight_any (hv : Value) (s : SiteZ) (w : World) (hr : Reads w hv (s.heads.map strV)) (hc : Room hv) (h1 : s.host.length ≤ 100000) (hl : s.heads.length ≤ 1000000) (hh : ∀ y ∈ s.heads, y.length ≤ 100000) (hm : MaxOk w) (ht : Tab10 w) :
    Calls Tryd.prog 16 #[.agg (rowZ hv s)] w fun e w' => e = .returned (.bool (rightZ s)) ∧ Below w.heap.size w w' := by
  obtain ⟨ao, cap, rfl⟩ := hr.form
  obtain ⟨n, hn⟩ : ∃ n, (s.heads.map strV).length = n := ⟨_, rfl⟩
  rw [hn] at hr hc ⊢
  obtain ⟨W, hW⟩ : ∃ W, w.alloc (.cells (rowZ (.slice ao n cap) s) 36) = W := ⟨_, rfl⟩
  have hbW : Below w.heap.size w W := by rw [← hW]; exact below_alloc _ _
  have hrow : rowIs W w.heap.size (rowZ (.slice ao n cap) s) 36 := by rw [← hW]; exact rowIs_new _ _ _
  have co := ownHost_conf s.host W h1 (hm.below hbW) (ht.below hbW)
  have cr := fun W2 (hb : Below W.heap.size W W2) => rightHeads_any (.slice ao n cap) s.heads W2 ((hr.below hbW).below hb) hc hl hh
  have HC := hid (And.intro hbW (And.intro hrow cr))
  obtain ⟨q1, hq1⟩ : ∃ q, ownH s.host = q := ⟨_, rfl⟩
  obtain ⟨q2, hq2⟩ : ∃ q, headsB s.heads = q := ⟨_, rfl⟩
  unfold rightZ
  rw [hq1] at co ⊢
  rw [hq2] at cr HC ⊢
  have CO := hid co
  have y0 := hrow.cell 0
  have y1 := hrow.cell 1
  have y2 := hrow.cell 2
  have y3 := hrow.cell 3
  have y6 := hrow.cell 6
  have HY := hid (And.intro y1 (And.intro y2 (And.intro y3 y6)))
  clear hr hc co cr hq1 hq2 hm ht h1 hl hh hn hbW hrow y1 y2 y3 y6
  go_enter Tryd.func16, Tryd.ntmps16
  go_wp2_with fail
  refine CO.out.mono ?_
  rintro e w1 ⟨rfl, hb1⟩
  clear y0 hW
  obtain ⟨z1, z2, z3, z6⟩ := HY.out
  replace z1 := kept z1 hb1
  replace z2 := kept z2 hb1
  replace z3 := kept z3 hb1
  replace z6 := kept z6 hb1
  have HC2 := hid (And.intro (chainP HC.out.1 hb1) (HC.out.2.2 w1 hb1))
  clear hb1 HY CO HC
  have wz : ∀ b c d : Bool, (q1 && (b && c)) = true → True := fun _ _ _ _ => trivial
  clear wz
  cases q1
  · go_wp2_with fail
    go_ret
    exact ⟨by simp, HC2.out.1⟩
  by_cases o1 : 1 ≤ s.origin
  rotate_left
  · go_wp2_with fail
    go_ret
    exact ⟨by rw [show decide (1 ≤ s.origin) = false from decide_eq_false (by omega)]; simp, HC2.out.1⟩
  by_cases o2 : s.origin ≤ 9
  rotate_left
  · go_wp2_with fail
    go_ret
    exact ⟨by rw [show decide (s.origin ≤ 9) = false from decide_eq_false (by omega)]; simp, HC2.out.1⟩
  by_cases o3 : 0 ≤ s.min
  rotate_left
  · go_wp2_with fail
    go_ret
    exact ⟨by rw [show decide (0 ≤ s.min) = false from decide_eq_false (by omega)]; simp, HC2.out.1⟩
  by_cases o4 : s.min ≤ s.max
  rotate_left
  · go_wp2_with fail
    go_ret
    exact ⟨by rw [show decide (s.min ≤ s.max) = false from decide_eq_false (by omega)]; simp, HC2.out.1⟩
  by_cases o5 : s.max ≤ 2147483648
  rotate_left
  · go_wp2_with fail
    go_ret
    exact ⟨by rw [show decide (s.max ≤ 2147483648) = false from decide_eq_false (by omega)]; simp, HC2.out.1⟩
  go_wp2_with (go_at_call 28; refine HC2.out.2.mono ?_; rintro e w2 ⟨rfl, hb2⟩)
  go_ret
  exact ⟨by simp [o1, o2, o3, o4, o5], chainP HC2.out.1 hb2⟩
end Go.Proofs.YtffenndchmcncaaDoor
