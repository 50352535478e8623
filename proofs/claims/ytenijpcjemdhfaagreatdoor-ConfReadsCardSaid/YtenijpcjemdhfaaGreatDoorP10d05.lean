/-
  Several texts in one: PlanA, ConfS, Law09F.
-/
import Derived.Test.YtenijpcjemdhfaaGreatDoorP10d04
import Derived.Test.YtenijpcjemdhfaaGreatDoorPurePlan
import Derived.Test.YtenijpcjemdhfaaGreatDoorP10d06
/-
  Contracts: the document's Alike of any two sites; slices.Equal of texts; of package plan: sameRules.
-/
namespace Go.Pantry
open Go.RowKit
/-- two sites are alike -/
def alikeB (a b : SiteZ) : Bool := a.host == b.host && sameR a b
theorem alikeB_iff {a b : SiteZ} : alikeB a b = true ↔ a = b := by
  unfold alikeB
  rw [Bool.and_eq_true]
  constructor
  · rintro ⟨h1, h2⟩
    exact sameR_eq h2 (by simpa using h1)
  · rintro rfl
    exact ⟨by simp, sameR_refl a⟩
theorem ext_lists {H1 H2 : List (List UInt8)} (hl : H1.length = H2.length) (h : ∀ j, j < H1.length → H1[j]? = H2[j]?) : H1 = H2 := by
  apply List.ext_getElem? 
  intro j
  by_cases e : j < H1.length
  · exact h j e
  · rw [List.getElem?_eq_none (by omega), List.getElem?_eq_none (by omega)]
end Go.Pantry
namespace Go.Proofs.YtenijpcjemdhfaaGreatDoor
open Go.RowKit Go.Pantry

set_option maxRecDepth 8000 in
set_option maxHeartbeats 8000000 in
theorem alike_any (h1 h2 : Value) (a b : SiteZ) (w : World) (r1 : Reads w h1 (a.heads.map strV)) (r2 : Reads w h2 (b.heads.map strV)) (hl : a.heads.length ≤ 1000000) (hl2 : b.heads.length ≤ 1000000) :
    Calls Tryz.prog 30 #[.agg (rowZ h1 a), .agg (rowZ h2 b)] w fun e w' => e = .returned (.bool (alikeB a b)) ∧ Below w.heap.size w w' := by
  obtain ⟨a0, a1, a2, a3, a4, a5, H1⟩ := a
  obtain ⟨b0, b1, b2, b3, b4, b5, H2⟩ := b
  simp only at r1 r2 hl hl2
  obtain ⟨n, hn⟩ : ∃ n, H1.length = n := ⟨_, rfl⟩
  obtain ⟨m, hm⟩ : ∃ n, H2.length = n := ⟨_, rfl⟩
  obtain ⟨ao1, c1, e1⟩ := r1.form
  obtain ⟨ao2, c2, e2⟩ := r2.form
  rw [List.length_map, hn] at e1
  rw [List.length_map, hm] at e2
  subst e1 e2
  have R1 := hid r1
  have R2 := hid r2
  have HN := hid (And.intro hn hm)
  rw [hn] at hl
  rw [hm] at hl2
  have J0 : Hid ((((w.alloc (.cells (rowZ (.slice ao1 n c1) ⟨a0, a1, a2, a3, a4, a5, H1⟩) 70)).alloc (.cells (rowZ (.slice ao2 m c2) ⟨b0, b1, b2, b3, b4, b5, H2⟩) 70))).cell? ⟨w.heap.size, 6, none⟩ = some (.slice ao1 n c1) ∧ (((w.alloc (.cells (rowZ (.slice ao1 n c1) ⟨a0, a1, a2, a3, a4, a5, H1⟩) 70)).alloc (.cells (rowZ (.slice ao2 m c2) ⟨b0, b1, b2, b3, b4, b5, H2⟩) 70))).cell? ⟨w.heap.size + 1, 6, none⟩ = some (.slice ao2 m c2) ∧ Below w.heap.size w (((w.alloc (.cells (rowZ (.slice ao1 n c1) ⟨a0, a1, a2, a3, a4, a5, H1⟩) 70)).alloc (.cells (rowZ (.slice ao2 m c2) ⟨b0, b1, b2, b3, b4, b5, H2⟩) 70)))) :=
    ⟨((rowIs_new w (rowZ (.slice ao1 n c1) ⟨a0, a1, a2, a3, a4, a5, H1⟩) 70).below (below_alloc _ _)).cell 6, (rowIs_new_at _ (rowZ (.slice ao2 m c2) ⟨b0, b1, b2, b3, b4, b5, H2⟩) 70 (w.heap.size + 1) (by simp)).cell 6, chainP (below_alloc _ _) (below_alloc _ _)⟩
  clear r1 r2 hn hm
  by_cases e0 : a0 = b0
  rotate_left
  · have z : (a0 != b0) = true := by simpa using e0
    have zz : (a0 == b0) = false := by simpa using e0
    have Z := hid zz
    clear e0
    go_enter Tryz.func30, Tryz.ntmps30
    go_wp2_with fail
    go_ret
    exact ⟨by unfold alikeB; rw [Z.out]; rfl, J0.out.2.2⟩
  subst e0
  have z0 : (a0 == a0) = true := by simp
  by_cases e1 : a1 = b1
  rotate_left
  · have z : (a1 != b1) = true := by simpa using e1
    have zz : (a1 == b1) = false := by simpa using e1
    have Z := hid zz
    clear e1
    go_enter Tryz.func30, Tryz.ntmps30
    go_wp2_with fail
    go_ret
    exact ⟨by unfold alikeB sameR; simp only [Z.out, Bool.false_and, Bool.and_false]; rfl, J0.out.2.2⟩
  subst e1
  by_cases e2 : a2 = b2
  rotate_left
  · have z : (a2 != b2) = true := by simpa using e2
    have zz : (a2 == b2) = false := by simpa using e2
    have Z := hid zz
    clear e2
    go_enter Tryz.func30, Tryz.ntmps30
    go_wp2_with fail
    go_ret
    exact ⟨by unfold alikeB sameR; simp only [Z.out, Bool.false_and, Bool.and_false]; rfl, J0.out.2.2⟩
  subst e2
  by_cases e3 : a3 = b3
  rotate_left
  · have z : (a3 != b3) = true := by simpa using e3
    have zz : (a3 == b3) = false := by simpa using e3
    have Z := hid zz
    clear e3
    go_enter Tryz.func30, Tryz.ntmps30
    go_wp2_with fail
    go_ret
    exact ⟨by unfold alikeB sameR; simp only [Z.out, Bool.false_and, Bool.and_false]; rfl, J0.out.2.2⟩
  subst e3
  by_cases e4 : a4 = b4
  rotate_left
  · have z : (a4 != b4) = true := by simpa using e4
    have zz : (a4 == b4) = false := by simpa using e4
    have Z := hid zz
    clear e4
    go_enter Tryz.func30, Tryz.ntmps30
    go_wp2_with fail
    go_ret
    exact ⟨by unfold alikeB sameR; simp only [Z.out, Bool.false_and, Bool.and_false]; rfl, J0.out.2.2⟩
  subst e4
  by_cases e5 : a5 = b5
  rotate_left
  · have z : (a5 != b5) = true := by simpa using e5
    have zz : (a5 == b5) = false := by simpa using e5
    have Z := hid zz
    clear e5
    go_enter Tryz.func30, Tryz.ntmps30
    go_wp2_with fail
    go_ret
    exact ⟨by unfold alikeB sameR; simp only [Z.out, Bool.false_and, Bool.and_false]; rfl, J0.out.2.2⟩
  subst e5
  by_cases e6 : n = m
  rotate_left
  · have z : ((n : Int) != (m : Int)) = true := by rw [bne_iff_ne]; omega
    have zz : ((n : Int) == (m : Int)) = false := by rw [beq_eq_false_iff_ne]; omega
    have Z := hid (show (H1 == H2) = false by
      rw [Bool.eq_false_iff]
      intro e
      have e' : H1 = H2 := by simpa using e
      have := HN.out
      rw [e'] at this
      omega)
    clear e6
    go_enter Tryz.func30, Tryz.ntmps30
    go_wp2_with fail
    go_ret
    exact ⟨by unfold alikeB sameR; simp only [Z.out, Bool.false_and, Bool.and_false]; rfl, J0.out.2.2⟩
  subst e6
  have HE : Hid (∀ q, (H1 == H2) = q → alikeB ⟨a0, a1, a2, a3, a4, a5, H1⟩ ⟨a0, a1, a2, a3, a4, a5, H2⟩ = q) := fun q hq => by
    unfold alikeB sameR
    simp only [hq, beq_self_eq_true, Bool.true_and]
  go_enter Tryz.func30, Tryz.ntmps30
  go_wp2_with fail
  clear z0
  go_loopw [5] (fun z wr => ∃ (k : Nat), z = .int .i64 (k : Int) ∧ k ≤ n ∧ (∀ j, j < k → H1[j]? = H2[j]?) ∧ wr.cell? ⟨w.heap.size, 6, none⟩ = some (.slice ao1 n c1) ∧ wr.cell? ⟨w.heap.size + 1, 6, none⟩ = some (.slice ao2 n c2) ∧ Below w.heap.size w wr) (fun z _ => n - (intOf z).toNat)
  case atStart => exact ⟨0, rfl, Nat.zero_le _, fun j hj => absurd hj (Nat.not_lt_zero _), J0.out.1, J0.out.2.1, J0.out.2.2⟩
  case round =>
    clear J0
    obtain ⟨k, rfl, hk, hf, hc1, hc2, hb⟩ := hrel
    have HB := hid (And.intro hf hb)
    by_cases hlt : k < n
    · obtain ⟨x, hx⟩ : ∃ x, H1[k]? = some x := by
        have := HN.out
        exact ⟨H1[k]'(by omega), List.getElem?_eq_getElem (by omega)⟩
      obtain ⟨y, hy⟩ : ∃ y, H2[k]? = some y := by
        have := HN.out
        exact ⟨H2[k]'(by omega), List.getElem?_eq_getElem (by omega)⟩
      have hxm : (H1.map strV)[k]? = some (strV x) := by rw [List.getElem?_map, hx]; rfl
      have hym : (H2.map strV)[k]? = some (strV y) := by rw [List.getElem?_map, hy]; rfl
      obtain ⟨p1, c1', e1, f1, _⟩ := R1.out.below hb
      obtain ⟨p2, c2', e2, f2, _⟩ := R2.out.below hb
      injection e1 with e1 k1 k2
      injection e2 with e2 k3 k4
      clear k1 k2 k3 k4
      subst e1 e2
      obtain ⟨b1, o1, g1, i1⟩ := f1 k _ hxm
      obtain ⟨b2, o2, g2, i2⟩ := f2 k _ hym
      subst g1 g2
      have d1 : wr.cell? ⟨b1, o1 + k, none⟩ = some (strV x) := i1
      have d2 : wr.cell? ⟨b2, o2 + k, none⟩ = some (strV y) := i2
      have d3 : wr.cell? ⟨w.heap.size, 6, none⟩ = some (.slice (some ⟨b1, o1, none⟩) n c1) := hc1
      have d4 : wr.cell? ⟨w.heap.size + 1, 6, none⟩ = some (.slice (some ⟨b2, o2, none⟩) n c2) := hc2
      have hkI : (k : Int) < (n : Int) := by omega
      have hk0 : (0 : Int) ≤ (k : Int) := by omega
      have hkw : IntKind.i64.wrap ((k : Int) + 1) = (k : Int) + 1 := IntWalk.i64_in _ (by omega)
      have HX := hid (And.intro hx hy)
      clear hb hf f1 f2 hx hy hxm hym i1 i2 hc1 hc2
      by_cases e : x = y
      · subst e
        have zx : (x == x) = true := by simp
        have zx' : (x != x) = false := by simp
        go_wp2_with fail
        go_quiet (fail)
        go_wp2_with fail
        go_roundw
        case rel =>
          refine ⟨k + 1, by go_num, hlt, fun j hj => ?_, d3, d4, below_drewN HB.out.2 _⟩
          by_cases e : j = k
          · subst e; rw [HX.out.1, HX.out.2]
          · exact HB.out.1 j (by omega)
        case measure => simp [intOf]; omega
      · have zx : (x == y) = false := by simpa using e
        have zx' : (x != y) = true := by simpa using e
        have HNE := hid e
        clear e
        go_wp2_with fail
        go_quiet (fail)
        go_wp2_with fail
        go_ret
        refine ⟨?_, below_drewN HB.out.2 _⟩
        rw [HE.out false (by
          rw [Bool.eq_false_iff]
          intro h
          have h' : H1 = H2 := by simpa using h
          have := HX.out
          rw [h', this.2] at this
          exact HNE.out (Option.some.inj this.1).symm)]
        rfl
    · have HEQ := hid (ext_lists (by have := HN.out; omega) (fun j hj => HB.out.1 j (by have := HN.out; omega)) : H1 = H2)
      clear hf hb
      go_wp2_with fail
      go_ret
      exact ⟨by rw [HE.out true (by rw [HEQ.out]; simp)]; rfl, HB.out.2⟩
set_option maxRecDepth 8000 in
set_option maxHeartbeats 4000000 in
theorem equalS_any (v1 v2 : Value) (H1 H2 : List (List UInt8)) (w : World) (r1 : Reads w v1 (H1.map strV)) (r2 : Reads w v2 (H2.map strV)) (hl : H1.length ≤ 1000000) (hl2 : H2.length ≤ 1000000) :
    Calls Tryz.prog 115 #[v1, v2] w fun e w' => e = .returned (.bool (H1 == H2)) ∧ Below w.heap.size w w' := by
  obtain ⟨n, hn⟩ : ∃ n, H1.length = n := ⟨_, rfl⟩
  obtain ⟨m, hm⟩ : ∃ n, H2.length = n := ⟨_, rfl⟩
  obtain ⟨ao1, c1, e1⟩ := r1.form
  obtain ⟨ao2, c2, e2⟩ := r2.form
  rw [List.length_map, hn] at e1
  rw [List.length_map, hm] at e2
  subst e1 e2
  have R1 := hid r1
  have R2 := hid r2
  have HN := hid (And.intro hn hm)
  rw [hn] at hl
  rw [hm] at hl2
  clear r1 r2 hn hm
  by_cases e6 : n = m
  rotate_left
  · have z : ((n : Int) != (m : Int)) = true := by rw [bne_iff_ne]; omega
    have zz : ((n : Int) == (m : Int)) = false := by rw [beq_eq_false_iff_ne]; omega
    have Z := hid (show (H1 == H2) = false by
      rw [Bool.eq_false_iff]
      intro e
      have e' : H1 = H2 := by simpa using e
      have := HN.out
      rw [e'] at this
      omega)
    clear e6
    go_enter Tryz.func115, Tryz.ntmps115
    go_wp2_with fail
    go_ret
    exact ⟨by rw [Z.out]; rfl, Below.refl _ _⟩
  subst e6
  go_enter Tryz.func115, Tryz.ntmps115
  go_wp2_with fail
  go_loopw [13] (fun z wr => ∃ (k : Nat), z = .int .i64 (k : Int) ∧ k ≤ n ∧ (∀ j, j < k → H1[j]? = H2[j]?) ∧ Below w.heap.size w wr) (fun z _ => n - (intOf z).toNat)
  case atStart => exact ⟨0, rfl, Nat.zero_le _, fun j hj => absurd hj (Nat.not_lt_zero _), Below.refl _ _⟩
  case round =>
    obtain ⟨k, rfl, hk, hf, hb⟩ := hrel
    have HB := hid (And.intro hf hb)
    by_cases hlt : k < n
    · obtain ⟨x, hx⟩ : ∃ x, H1[k]? = some x := by
        have := HN.out
        exact ⟨H1[k]'(by omega), List.getElem?_eq_getElem (by omega)⟩
      obtain ⟨y, hy⟩ : ∃ y, H2[k]? = some y := by
        have := HN.out
        exact ⟨H2[k]'(by omega), List.getElem?_eq_getElem (by omega)⟩
      have hxm : (H1.map strV)[k]? = some (strV x) := by rw [List.getElem?_map, hx]; rfl
      have hym : (H2.map strV)[k]? = some (strV y) := by rw [List.getElem?_map, hy]; rfl
      obtain ⟨p1, c1', e1, f1, _⟩ := R1.out.below hb
      obtain ⟨p2, c2', e2, f2, _⟩ := R2.out.below hb
      injection e1 with e1 k1 k2
      injection e2 with e2 k3 k4
      clear k1 k2 k3 k4
      subst e1 e2
      obtain ⟨b1, o1, g1, i1⟩ := f1 k _ hxm
      obtain ⟨b2, o2, g2, i2⟩ := f2 k _ hym
      subst g1 g2
      have d1 : wr.cell? ⟨b1, o1 + k, none⟩ = some (strV x) := i1
      have d2 : wr.cell? ⟨b2, o2 + k, none⟩ = some (strV y) := i2
      have hkI : (k : Int) < (n : Int) := by omega
      have hk0 : (0 : Int) ≤ (k : Int) := by omega
      have hkw : IntKind.i64.wrap ((k : Int) + 1) = (k : Int) + 1 := IntWalk.i64_in _ (by omega)
      have HX := hid (And.intro hx hy)
      clear hb hf f1 f2 hx hy hxm hym i1 i2
      by_cases e : x = y
      · subst e
        have zx : (x == x) = true := by simp
        have zx' : (x != x) = false := by simp
        go_wp2_with fail
        go_quiet (fail)
        go_wp2_with fail
        go_roundw
        case rel =>
          refine ⟨k + 1, by go_num, hlt, fun j hj => ?_, below_drewN HB.out.2 _⟩
          by_cases e : j = k
          · subst e; rw [HX.out.1, HX.out.2]
          · exact HB.out.1 j (by omega)
        case measure => simp [intOf]; omega
      · have zx : (x == y) = false := by simpa using e
        have zx' : (x != y) = true := by simpa using e
        have HNE := hid e
        clear e
        go_wp2_with fail
        go_quiet (fail)
        go_wp2_with fail
        go_ret
        refine ⟨?_, below_drewN HB.out.2 _⟩
        rw [show (H1 == H2) = false from by
          rw [Bool.eq_false_iff]
          intro h
          have h' : H1 = H2 := by simpa using h
          have := HX.out
          rw [h', this.2] at this
          exact HNE.out (Option.some.inj this.1).symm]
        rfl
    · have HEQ := hid (ext_lists (by have := HN.out; omega) (fun j hj => HB.out.1 j (by have := HN.out; omega)) : H1 = H2)
      clear hf hb
      go_wp2_with fail
      go_ret
      exact ⟨by rw [HEQ.out]; simp, HB.out.2⟩
set_option maxRecDepth 8000 in
set_option maxHeartbeats 4000000 in
theorem sameRules_any (h1 h2 : Value) (a b : SiteZ) (w : World) (r1 : Reads w h1 (a.heads.map strV)) (r2 : Reads w h2 (b.heads.map strV)) (hl : a.heads.length ≤ 1000000) (hl2 : b.heads.length ≤ 1000000) :
    Calls Tryz.prog 90 #[.agg (rowZ h1 a), .agg (rowZ h2 b)] w fun e w' => e = .returned (.bool (sameR a b)) ∧ Below w.heap.size w w' := by
  obtain ⟨a0, a1, a2, a3, a4, a5, H1⟩ := a
  obtain ⟨b0, b1, b2, b3, b4, b5, H2⟩ := b
  simp only at r1 r2 hl hl2
  obtain ⟨n, hn⟩ : ∃ n, (H1.map strV).length = n := ⟨_, rfl⟩
  obtain ⟨m, hm⟩ : ∃ n, (H2.map strV).length = n := ⟨_, rfl⟩
  obtain ⟨ao1, c1, e1⟩ := r1.form
  obtain ⟨ao2, c2, e2⟩ := r2.form
  rw [hn] at e1
  rw [hm] at e2
  subst e1 e2
  clear hn hm
  obtain ⟨W, hW⟩ : ∃ W, (w.alloc (.cells (rowZ (.slice ao1 n c1) ⟨a0, a1, a2, a3, a4, a5, H1⟩) 64)).alloc (.cells (rowZ (.slice ao2 m c2) ⟨b0, b1, b2, b3, b4, b5, H2⟩) 64) = W := ⟨_, rfl⟩
  have hb : Below w.heap.size w W := by rw [← hW]; exact chainP (below_alloc _ _) (below_alloc _ _)
  have q1 : rowIs W w.heap.size (rowZ (.slice ao1 n c1) ⟨a0, a1, a2, a3, a4, a5, H1⟩) 64 := by rw [← hW]; exact (rowIs_new _ _ _).below (below_alloc _ _)
  have q2 : rowIs W (w.heap.size + 1) (rowZ (.slice ao2 m c2) ⟨b0, b1, b2, b3, b4, b5, H2⟩) 64 := by rw [← hW]; exact rowIs_new_at _ _ _ _ (by simp)
  have CE := hid (equalS_any (.slice ao1 n c1) (.slice ao2 m c2) H1 H2 W (r1.below hb) (r2.below hb) hl hl2)
  have HB := hid hb
  have x1 := q1.cell 1
  have x2 := q1.cell 2
  have x3 := q1.cell 3
  have x4 := q1.cell 4
  have x5 := q1.cell 5
  have x6 := q1.cell 6
  have y1 := q2.cell 1
  have y2 := q2.cell 2
  have y3 := q2.cell 3
  have y4 := q2.cell 4
  have y5 := q2.cell 5
  have y6 := q2.cell 6
  clear r1 r2 hb q1 q2 hl hl2
  by_cases e1 : a1 = b1
  rotate_left
  · have z : (a1 != b1) = true := by simpa using e1
    have zz : (a1 == b1) = false := by simpa using e1
    have Z := hid zz
    clear e1
    go_enter Tryz.func90, Tryz.ntmps90
    go_wp2_with fail
    go_ret
    exact ⟨by unfold sameR; simp only [Z.out, Bool.false_and, Bool.and_false]; rfl, HB.out⟩
  subst e1
  by_cases e2 : a2 = b2
  rotate_left
  · have z : (a2 != b2) = true := by simpa using e2
    have zz : (a2 == b2) = false := by simpa using e2
    have Z := hid zz
    clear e2
    go_enter Tryz.func90, Tryz.ntmps90
    go_wp2_with fail
    go_ret
    exact ⟨by unfold sameR; simp only [Z.out, Bool.false_and, Bool.and_false]; rfl, HB.out⟩
  subst e2
  by_cases e3 : a3 = b3
  rotate_left
  · have z : (a3 != b3) = true := by simpa using e3
    have zz : (a3 == b3) = false := by simpa using e3
    have Z := hid zz
    clear e3
    go_enter Tryz.func90, Tryz.ntmps90
    go_wp2_with fail
    go_ret
    exact ⟨by unfold sameR; simp only [Z.out, Bool.false_and, Bool.and_false]; rfl, HB.out⟩
  subst e3
  by_cases e4 : a4 = b4
  rotate_left
  · have z : (a4 != b4) = true := by simpa using e4
    have zz : (a4 == b4) = false := by simpa using e4
    have Z := hid zz
    clear e4
    go_enter Tryz.func90, Tryz.ntmps90
    go_wp2_with fail
    go_ret
    exact ⟨by unfold sameR; simp only [Z.out, Bool.false_and, Bool.and_false]; rfl, HB.out⟩
  subst e4
  by_cases e5 : a5 = b5
  rotate_left
  · have z : (a5 != b5) = true := by simpa using e5
    have zz : (a5 == b5) = false := by simpa using e5
    have Z := hid zz
    clear e5
    go_enter Tryz.func90, Tryz.ntmps90
    go_wp2_with fail
    go_ret
    exact ⟨by unfold sameR; simp only [Z.out, Bool.false_and, Bool.and_false]; rfl, HB.out⟩
  subst e5
  have HE := hid (show (H1 == H2) = sameR ⟨a0, a1, a2, a3, a4, a5, H1⟩ ⟨b0, a1, a2, a3, a4, a5, H2⟩ from by
    unfold sameR
    simp only [beq_self_eq_true, Bool.true_and])
  go_enter Tryz.func90, Tryz.ntmps90
  go_wp2_with (go_at_call 115; refine CE.out.mono ?_; rintro e w1 ⟨rfl, hb1⟩)
  go_ret
  exact ⟨by rw [← HE.out]; rfl, chainP HB.out hb1⟩
end Go.Proofs.YtenijpcjemdhfaaGreatDoor
/-
  Contracts of package conf: what is right: headers, a site, a config.
-/
namespace Go.Pantry
open Go.RowKit
/-- x[:k] of a slice that has room -/
theorem strs_high {P : Program} (t : TypeId) (ht : P.underlying t = some (.slice (P.elem t))) (h1 : ∀ W, (sizeOf (P.elem t)).run P W = .ok 1 W) {w : World} {ao : Option Addr} {n cap : Nat} {H : List (List UInt8)} (h : Reads w (.slice ao n cap) (H.map strV)) (hc : n ≤ cap) (k : Nat) (hk : k ≤ n) :
    (∀ W, (Instr.slice t (.slice ao n cap) none (some (.int .i64 (k : Int))) none).run P W = .ok (.slice ao k cap) W) ∧ Reads w (.slice ao k cap) ((H.take k).map strV) := by
  have hn : H.length = n := by
    obtain ⟨ao', cap', hv, _, _⟩ := h
    rw [List.length_map] at hv
    injection hv with e1 e2 e3
    exact e2.symm
  refine ⟨fun W => ?_, ?_⟩
  · rw [run_slice_h W t ao n cap ht .i64 (k : Int) (by omega) (by omega)]
    try rw [h1]
    simp only [Result.andThen, sliced, Int.toNat_natCast, Nat.sub_zero]
    have e0 : ∀ a : Addr, a.add 0 = a := fun a => by unfold Addr.add; split <;> simp_all
    cases ao with
    | none => simp
    | some a => simp [e0]
  · have hh := h.take k (by rw [List.length_map]; omega)
    rw [List.map_take]
    exact hh
end Go.Pantry
namespace Go.Proofs.YtenijpcjemdhfaaGreatDoor
open Go.RowKit Go.Pantry

set_option maxRecDepth 8000 in
theorem rightHeads_any (v : Value) (H : List (List UInt8)) (w : World) (hr : Reads w v (H.map strV)) (hc : Room v) (hl : H.length ≤ 1000000) (hh : ∀ y ∈ H, y.length ≤ 100000) :
    Calls Tryz.prog 63 #[v] w fun e w' => e = .returned (.bool (headsB H)) ∧ Below w.heap.size w w' := by
  obtain ⟨ao, cap, rfl⟩ := hr.form
  rw [List.length_map] at *
  obtain ⟨n, hn⟩ : ∃ n, H.length = n := ⟨_, rfl⟩
  rw [hn] at hr hc ⊢
  rw [hn] at hl
  have hcap := hc.le
  have HR := hid (And.intro hr (And.intro hcap hn))
  have HH := hid hh
  by_cases h4 : 4 < n
  · have h4' : (4 : Int) < (n : Int) := by omega
    have HB := hid (headsB_long (hs := H) (by omega))
    clear hr hc hcap hh hn h4
    go_enter Tryz.func63, Tryz.ntmps63
    go_wp2_with fail
    go_ret
    exact ⟨by rw [HB.out]; rfl, Below.refl _ _⟩
  · have h4' : ¬ (4 : Int) < (n : Int) := by omega
    have H4 := hid (show H.length ≤ 4 by omega)
    clear hr hc hcap hh hn h4
    go_enter Tryz.func63, Tryz.ntmps63
    go_wp2_with fail
    go_loopw [10] (fun z wr => ∃ (k : Nat), z = .int .i64 (k : Int) ∧ k ≤ n ∧ (∀ j x, j < k → H[j]? = some x → mayM (H.take j) x = true) ∧ Below w.heap.size w wr) (fun z _ => n - (intOf z).toNat)
    case atStart => exact ⟨0, rfl, Nat.zero_le _, fun j x hj => absurd hj (Nat.not_lt_zero _), Below.refl _ _⟩
    case round =>
      obtain ⟨k, rfl, hk, hf, hb⟩ := hrel
      have HB := hid (And.intro hf hb)
      by_cases hlt : k < n
      · obtain ⟨x, hx⟩ : ∃ x, H[k]? = some x := by
          have := HR.out.2.2
          exact ⟨H[k]'(by omega), List.getElem?_eq_getElem (by omega)⟩
        have hxm : (H.map strV)[k]? = some (strV x) := by rw [List.getElem?_map, hx]; rfl
        have q1 := HR.out.1.below hb
        obtain ⟨hs1, hs2⟩ := strs_high (P := Tryz.prog) 62 (by kernel_rfl) (fun _ => by kernel_rfl) q1 HR.out.2.1 k (by omega)
        have HSL := hid hs1
        have cm := mayFollow_any (.slice ao k cap) (H.take k) x wr hs2 (by rw [List.length_take]; omega) (HH.out x (List.mem_of_getElem? hx))
        obtain ⟨a1, c1', e1, f1, hz1⟩ := q1
        injection e1 with e1 k1 k2
        clear k1 k2
        subst e1
        obtain ⟨b2, o2, g2, i2⟩ := f1 k _ hxm
        subst g2
        have hkI : (k : Int) < (n : Int) := by omega
        have hk0 : (0 : Int) ≤ (k : Int) := by omega
        have hkw : IntKind.i64.wrap ((k : Int) + 1) = (k : Int) + 1 := IntWalk.i64_in _ (by omega)
        have HX := hid hx
        obtain ⟨q, hq⟩ : ∃ q, mayM (H.take k) x = q := ⟨_, rfl⟩
        have HQ := hid hq
        rw [hq] at cm
        have CM := hid cm
        clear hb f1 hx hxm hf hs2 cm hq hs1 hz1
        cases q
        · go_wp2_with (first
            | (refine wpList_slice_high rfl 62 _ _ rfl rfl rfl (by kernel_rfl) (HSL.out _) ?_)
            | (go_at_call 86; refine CM.out.mono ?_; rintro e w2 ⟨rfl, hb2⟩))
          have HB2 := hid (chainP HB.out.2 hb2)
          clear hb2
          go_ret
          exact ⟨by rw [headsB_not HX.out HQ.out]; rfl, HB2.out⟩
        · go_wp2_with (first
            | (refine wpList_slice_high rfl 62 _ _ rfl rfl rfl (by kernel_rfl) (HSL.out _) ?_)
            | (go_at_call 86; refine CM.out.mono ?_; rintro e w2 ⟨rfl, hb2⟩))
          have HB2 := hid (chainP HB.out.2 hb2)
          clear hb2
          go_roundw
          case rel =>
            refine ⟨k + 1, by go_num, hlt, fun j y hj hy => ?_, HB2.out⟩
            by_cases e : j = k
            · subst e
              have h1 := HX.out
              rw [hy] at h1
              cases h1
              exact HQ.out
            · exact HB.out.1 j y (by omega) hy
          case measure => simp [intOf]; omega
      · have HE := hid (headsB_all H4.out (fun j x hj => hf j x (by have := HR.out.2.2; have := (List.getElem?_eq_some_iff.1 hj).1; omega) hj))
        clear hb hf
        go_wp2_with fail
        go_ret
        exact ⟨by rw [HE.out]; rfl, HB.out.2⟩
set_option maxRecDepth 8000 in
theorem siteRight_any (hv : Value) (s : SiteZ) (w : World) (hr : Reads w hv (s.heads.map strV)) (hc : Room hv) (h1 : s.host.length ≤ 100000) (hl : s.heads.length ≤ 1000000) (hh : ∀ y ∈ s.heads, y.length ≤ 100000) (hm : MaxOk w) (ht : Tab10 w) :
    Calls Tryz.prog 42 #[.agg (rowZ hv s)] w fun e w' => e = .returned (.bool (rightZ s)) ∧ Below w.heap.size w w' := by
  obtain ⟨ao, cap, rfl⟩ := hr.form
  obtain ⟨n, hn⟩ : ∃ n, (s.heads.map strV).length = n := ⟨_, rfl⟩
  rw [hn] at hr hc ⊢
  obtain ⟨W, hW⟩ : ∃ W, w.alloc (.cells (rowZ (.slice ao n cap) s) 64) = W := ⟨_, rfl⟩
  have hbW : Below w.heap.size w W := by rw [← hW]; exact below_alloc _ _
  have hrow : rowIs W w.heap.size (rowZ (.slice ao n cap) s) 64 := by rw [← hW]; exact rowIs_new _ _ _
  have co := ownHost_conf s.host W h1 (hm.below hbW) (ht.below hbW)
  have cr := fun W2 (hb : Below W.heap.size W W2) => rightHeads_any (.slice ao n cap) s.heads W2 ((hr.below hbW).below hb) hc hl hh
  have HC := hid (And.intro hbW (And.intro hrow cr))
  obtain ⟨q1, hq1⟩ : ∃ q, ownH s.host = q := ⟨_, rfl⟩
  obtain ⟨q2, hq2⟩ : ∃ q, headsB s.heads = q := ⟨_, rfl⟩
  unfold rightZ
  rw [hq1] at co ⊢
  rw [hq2] at cr HC ⊢
  have CO := hid co
  have y0 := hrow.cell 0
  have y1 := hrow.cell 1
  have y2 := hrow.cell 2
  have y3 := hrow.cell 3
  have y6 := hrow.cell 6
  have HY := hid (And.intro y1 (And.intro y2 (And.intro y3 y6)))
  clear hr hc co cr hq1 hq2 hm ht h1 hl hh hn hbW hrow y1 y2 y3 y6
  go_enter Tryz.func42, Tryz.ntmps42
  go_wp2_with fail
  refine CO.out.mono ?_
  rintro e w1 ⟨rfl, hb1⟩
  clear y0 hW
  obtain ⟨z1, z2, z3, z6⟩ := HY.out
  replace z1 := kept z1 hb1
  replace z2 := kept z2 hb1
  replace z3 := kept z3 hb1
  replace z6 := kept z6 hb1
  have HC2 := hid (And.intro (chainP HC.out.1 hb1) (HC.out.2.2 w1 hb1))
  clear hb1 HY CO HC
  have wz : ∀ b c d : Bool, (q1 && (b && c)) = true → True := fun _ _ _ _ => trivial
  clear wz
  cases q1
  · go_wp2_with fail
    go_ret
    exact ⟨by simp, HC2.out.1⟩
  by_cases o1 : 1 ≤ s.origin
  rotate_left
  · go_wp2_with fail
    go_ret
    exact ⟨by rw [show decide (1 ≤ s.origin) = false from decide_eq_false (by omega)]; simp, HC2.out.1⟩
  by_cases o2 : s.origin ≤ 9
  rotate_left
  · go_wp2_with fail
    go_ret
    exact ⟨by rw [show decide (s.origin ≤ 9) = false from decide_eq_false (by omega)]; simp, HC2.out.1⟩
  by_cases o3 : 0 ≤ s.min
  rotate_left
  · go_wp2_with fail
    go_ret
    exact ⟨by rw [show decide (0 ≤ s.min) = false from decide_eq_false (by omega)]; simp, HC2.out.1⟩
  by_cases o4 : s.min ≤ s.max
  rotate_left
  · go_wp2_with fail
    go_ret
    exact ⟨by rw [show decide (s.min ≤ s.max) = false from decide_eq_false (by omega)]; simp, HC2.out.1⟩
  by_cases o5 : s.max ≤ 2147483648
  rotate_left
  · go_wp2_with fail
    go_ret
    exact ⟨by rw [show decide (s.max ≤ 2147483648) = false from decide_eq_false (by omega)]; simp, HC2.out.1⟩
  go_wp2_with (go_at_call 63; refine HC2.out.2.mono ?_; rintro e w2 ⟨rfl, hb2⟩)
  go_ret
  exact ⟨by simp [o1, o2, o3, o4, o5], chainP HC2.out.1 hb2⟩
end Go.Proofs.YtenijpcjemdhfaaGreatDoor
namespace Go.Proofs.YtenijpcjemdhfaaGreatDoor
open Go.RowKit Go.Pantry

/-- how much the sites of a config may hold -/
structure Few (L : List (SiteZ × Value)) : Prop where
  len : L.length ≤ 1000000
  room : ∀ x ∈ L, Room x.2
  host : ∀ x ∈ L, x.1.host.length ≤ 100000
  heads : ∀ x ∈ L, x.1.heads.length ≤ 1000000
  texts : ∀ x ∈ L, ∀ y ∈ x.1.heads, y.length ≤ 100000
theorem count_pos (u : List UInt8) (L : List (List UInt8)) : decide ((0 : Int) < (L.count u : Int)) = L.any (fun x => x == u) := by
  rw [Bool.eq_iff_iff, decide_eq_true_eq, List.any_eq_true]
  have h := List.count_pos_iff (a := u) (l := L)
  constructor
  · intro h1
    exact ⟨u, h.1 (by omega), by simp⟩
  · rintro ⟨x, hx, e⟩
    have e' : x = u := by simpa using e
    subst e'
    have := h.2 hx
    omega
set_option maxRecDepth 8000 in
theorem configRight_any (v : Value) (L : List (SiteZ × Value)) (w : World) (h : ReadsP w v L) (hf : Few L) (hm : MaxOk w) (ht : Tab10 w) :
    Calls Tryz.prog 14 #[.agg #[v]] w fun e w' => e = .returned (.bool (rightC (L.map (·.1)))) ∧ Below w.heap.size w w' := by
  obtain ⟨n, hn⟩ : ∃ n, L.length = n := ⟨_, rfl⟩
  obtain ⟨ao, c, e1, f1⟩ := h.form
  rw [hn] at e1
  subst e1
  have hnl : n ≤ 1000000 := by rw [← hn]; exact hf.len
  have HR := hid h
  have HF := hid hf
  have HL := hid hn
  have HM := hid (And.intro hm ht)
  have j1 := (rowIs_new w #[.slice ao n c] 25).cell 0
  have J0 := hid (rowIs_new w #[.slice ao n c] 25)
  have K0 := hid (below_alloc w (.cells #[.slice ao n c] 25))
  by_cases h8 : 8 < n
  · have h8' : (8 : Int) < (n : Int) := by omega
    have HB := hid (rightC_long (L := L.map (·.1)) (by rw [List.length_map]; omega))
    clear h hf hn f1 hm ht h8
    go_enter Tryz.func14, Tryz.ntmps14
    go_wp2_with fail
    go_ret
    exact ⟨by rw [HB.out]; rfl, K0.out⟩
  have h8' : ¬ (8 : Int) < (n : Int) := by omega
  have H8 := hid (show (L.map (·.1)).length ≤ 8 by rw [List.length_map]; omega)
  clear h hf hn f1 hm ht h8
  have hmm := @run_makeMap Tryz.prog
  go_enter Tryz.func14, Tryz.ntmps14
  go_wp2_with fail
  clear hmm
  obtain ⟨W, hW⟩ : ∃ W, w.alloc (.cells #[.slice ao n c] 25) = W := ⟨_, rfl⟩
  rw [hW] at j1 J0 K0 ⊢
  have hsz : W.heap.size = w.heap.size + 1 := by rw [← hW]; simp
  have S0 := hid (seen_new W)
  have K1 := hid (chainP K0.out (below_alloc W (.map #[] 0)))
  obtain ⟨m, hm⟩ : ∃ m, w.heap.size + 1 = m := ⟨_, rfl⟩
  rw [hsz, hm] at S0
  rw [hm]
  have HMM := hid (And.intro (hsz.trans hm) hsz)
  clear hm hsz hW
  go_loopw [14] (fun z wr => ∃ (k : Nat), z = .int .i64 (k : Int) ∧ k ≤ n ∧ Seen wr m (((L.map (·.1.host)).take k).reverse) ∧ (∀ j s, j < k → (L.map (·.1))[j]? = some s → rightZ s = true ∧ (((L.map (·.1)).take j).any fun x => x.host == s.host) = false) ∧ Below w.heap.size w wr) (fun z _ => n - (intOf z).toNat)
  case atStart => exact ⟨0, rfl, Nat.zero_le _, S0.out, fun j s hj => absurd hj (Nat.not_lt_zero _), K1.out⟩
  case round =>
    obtain ⟨k, rfl, hk, hsn, hf, hb⟩ := hrel
    have HB := hid (And.intro hsn (And.intro hf hb))
    by_cases hlt : k < n
    · obtain ⟨⟨s, hv⟩, hx⟩ : ∃ x, L[k]? = some x := by
        have := HL.out
        exact ⟨L[k]'(by omega), List.getElem?_eq_getElem (by omega)⟩
      have hmem := List.mem_of_getElem? hx
      have hrd := (HR.out.heads _ hmem).below hb
      obtain ⟨ah, ch, hfv⟩ := hrd.form
      simp only at hfv hrd
      obtain ⟨nh, hnh⟩ : ∃ nh, (s.heads.map strV).length = nh := ⟨_, rfl⟩
      rw [hnh] at hfv
      subst hfv
      obtain ⟨b1, o1, g1, i1⟩ := (HR.out.below hb).at_ hx
      subst g1
      have hkI : (k : Int) < (n : Int) := by omega
      have hk0 : (0 : Int) ≤ (k : Int) := by omega
      have hkw : IntKind.i64.wrap ((k : Int) + 1) = (k : Int) + 1 := IntWalk.i64_in _ (by omega)
      obtain ⟨p1, hp1⟩ : ∃ p, o1 + k * 7 = p := ⟨_, rfl⟩
      rw [hp1] at i1
      have y0 := i1 0 _ rfl
      have y1 := i1 1 _ rfl
      have y2 := i1 2 _ rfl
      have y3 := i1 3 _ rfl
      have y4 := i1 4 _ rfl
      have y5 := i1 5 _ rfl
      have y6 := i1 6 _ rfl
      rw [Nat.add_zero] at y0
      obtain ⟨W1, hW1⟩ : ∃ W, wr.alloc (.cells (rowZ (.slice ah nh ch) s) 64) = W := ⟨_, rfl⟩
      have hb1 : Below wr.heap.size wr W1 := by rw [← hW1]; exact below_alloc _ _
      have hr1 : rowIs W1 wr.heap.size (rowZ (.slice ah nh ch) s) 64 := by rw [← hW1]; exact rowIs_new _ _ _
      have hbw := chainP hb hb1
      have cs := siteRight_any (.slice ah nh ch) s W1 (hrd.below hb1) (HF.out.room _ hmem) (HF.out.host _ hmem) (HF.out.heads _ hmem) (HF.out.texts _ hmem) (HM.out.1.below hbw) (HM.out.2.below hbw)
      have hx2 : (L.map (·.1))[k]? = some s := by rw [List.getElem?_map, hx]; rfl
      obtain ⟨q, hq⟩ : ∃ q, rightZ s = q := ⟨_, rfl⟩
      rw [hq] at cs
      have CS := hid cs
      have hkey := key_str s.host (HF.out.host _ hmem)
      have HX := hid (And.intro hx2 (And.intro hq (And.intro hb1 (And.intro hbw hr1))))
      clear hb hx i1 hf hnh hrd hsn hmem hq cs hb1 hbw hx2
      go_wp2_with (refine wpList_load_row rfl 64 _ rfl wr.heap.size rfl 64 _ (0, 0) _ hr1 Tryz.underlying64 rfl infoSite ?_)
      refine CS.out.mono ?_
      rintro e w2 ⟨rfl, hb2⟩
      clear hr1 y0 y1 y2 y3 y4 y5 y6 hW1
      have hbw2 := chainP HX.out.2.2.1 hb2
      have hs2 := HB.out.1.kept (Kept.of_below (X := fun _ => False) hbw2) (fun h => h)
      have z0 := kept (HX.out.2.2.2.2.cell 0) hb2
      have HX2 := hid (chainP HX.out.2.2.2.1 hb2)
      have HS2 := hid hs2
      obtain ⟨D, hown, hmap, hat⟩ := hs2
      obtain ⟨cc, hrun, hc, hwf⟩ := hown.lookup_int lawS Tryz.underlying92 Tryz.underlying3 (zeroI w2) hkey
      rw [hat s.host] at hc
      obtain ⟨C, hC⟩ : ∃ C, ((L.map (·.1.host)).take k).reverse = C := ⟨_, rfl⟩
      rw [hC] at hc HS2 hat hown
      have hce : cc = (C.count s.host : Int) := by injection hc with e; injection e with _ e; exact e.symm
      subst hce
      have hcl : C.length ≤ 1000000 := by rw [← hC, List.length_reverse, List.length_take]; omega
      have hcl2 : C.count s.host ≤ 1000000 := Nat.le_trans List.count_le_length hcl
      have hany : decide ((0 : Int) < (C.count s.host : Int)) = (((L.map (·.1)).take k).any fun x => x.host == s.host) := by
        rw [count_pos, ← hC, List.any_reverse, ← List.map_take, ← List.map_take, List.any_map, List.any_map]
        rfl
      obtain ⟨N, hN⟩ : ∃ N, C.count s.host = N := ⟨_, rfl⟩
      rw [hN] at hrun hcl2 hany
      have HANY := hid hany
      cases q
      · clear hany hat hmap hc hwf hb2 hbw2 hown
        go_wp2_with fail
        go_ret
        exact ⟨by rw [rightC_not HX.out.1 (.inl HX.out.2.1)]; rfl, HX2.out⟩
      by_cases h0 : 0 < N
      · have h0' : (0 : Int) < (N : Int) := by omega
        have HANY2 := hid (HANY.out.symm.trans (decide_eq_true h0'))
        clear hany hat hmap hc hwf hb2 hbw2 hown
        go_wp2_with fail
        go_ret
        exact ⟨by rw [rightC_not HX.out.1 (.inr HANY2.out)]; rfl, HX2.out⟩
      have h0' : ¬ (0 : Int) < (N : Int) := by omega
      have HANY2 := hid (HANY.out.symm.trans (decide_eq_false h0'))
      have hz : IntKind.i64.wrap ((N : Int) + 1) = ((N + 1 : Nat) : Int) := by rw [IntWalk.i64_in _ (by omega)]; omega
      have hval : plainElem (H := Unit) Tryz.prog 3 (.int .i64 ((N + 1 : Nat) : Int)) = some (.lit (.int .i64 ((N + 1 : Nat) : Int)), []) := plainElem_int Tryz.underlying3 (WalkArith.wf_i64 (by omega))
      have HS3 : Hid (∀ w3, w3.ownsMap Tryz.prog 9 (plainElem Tryz.prog 3) m (C.length + 1) (D.put (.string s.host) (.lit (.int .i64 ((N + 1 : Nat) : Int)))) → Seen w3 m (s.host :: C)) := by
        intro w3 h3
        refine ⟨_, h3, hmap.put _ _, fun u => ?_⟩
        by_cases e : u = s.host
        · subst e
          rw [Maps.atKey_put_same hmap (show WideAt.IsKeyLit (.string s.host) from trivial), List.count_cons_self, hN]
        · rw [Maps.atKey_put_other (by intro h; injection h with h; exact e h), count_cons_other C e]
          exact hat u
      have hL2 : C.length < maxLen := by unfold maxLen; omega
      have HCC := hid hC
      have HBW2 := hid hbw2
      clear hany hat hmap hc hwf hb2 hN hcl hcl2 hC hbw2
      go_wp2_with (first | (at_mapUpdate; refine wpList_mapUpdate_own _ rfl _ _ _ 92 rfl 9 3 lawS Tryz.underlying92 _ m C.length _ rfl hown hL2 _ _ _ rfl rfl hkey _ [] hval ?_; intro w3 hown3 hgrow3))
      have HK3 := hid (HX2.out.grown hgrow3 HX2.out.size (fun j hj => by cases hj; have := HMM.out; omega))
      have HS4 := hid (HS3.out _ hown3)
      clear hown3 hgrow3 hown hrun hval z0
      go_wp2_with fail
      go_roundw
      case rel =>
        refine ⟨k + 1, by go_num, hlt, ?_, fun j t hj ht => ?_, HK3.out⟩
        · have e : ((L.map (·.1.host)).take (k + 1)).reverse = s.host :: ((L.map (·.1.host)).take k).reverse := by
            have h1 : (L.map (·.1.host))[k]? = some s.host := by
              have := HX.out.1
              rw [List.getElem?_map] at this ⊢
              cases h : L[k]? with
              | none => rw [h] at this; cases this
              | some x => rw [h] at this; cases this; rfl
            rw [List.take_add_one, h1, List.reverse_append]; rfl
          rw [e, HCC.out]
          exact HS4.out
        · by_cases e : j = k
          · subst e
            have h1 := HX.out.1
            rw [ht] at h1
            cases h1
            exact ⟨HX.out.2.1, HANY2.out⟩
          · exact HB.out.2.1 j t (by omega) ht
      case measure => simp [intOf]; omega
    · have HE := hid (rightC_all H8.out (fun j s hj => hf j s (by have := HL.out; have := (List.getElem?_eq_some_iff.1 hj).1; rw [List.length_map] at this; omega) hj))
      clear hb hf hsn
      go_wp2_with fail
      go_ret
      exact ⟨by rw [HE.out]; rfl, HB.out.2.2⟩
end Go.Proofs.YtenijpcjemdhfaaGreatDoor
/-
  How much a right config holds; of a config that was read.
-/
namespace Go.Pantry
open Go.RowKit
theorem ownH_len {h : List UInt8} (ho : ownH h = true) : h.length ≤ 46 := by
  have hl : hostL h = some h := by unfold ownH at ho; simpa using ho
  unfold hostL at hl
  split at hl
  · cases hl
  · rename_i h1
    have h40 : (bef 58 h).length ≤ 40 := by
      by_cases e : 40 < (bef 58 h).length
      · exact absurd (.inr (.inl e)) h1
      · omega
    rcases bef_cases 58 h with ⟨_, e1, _, _⟩ | ⟨a, b, _, e1, e2, e3, _⟩
    · rw [e1] at h40; omega
    · rw [e2] at h40
      rw [e3] at hl
      rw [e1, List.length_append, List.length_cons]
      split at hl
      · rename_i hb; rw [hb]; simp; omega
      · split at hl
        · cases hl
        · rename_i h2
          have : b.length ≤ 5 := by
            by_cases e : 5 < b.length
            · exact absurd (.inl e) h2
            · omega
          omega
theorem mayM_len {heads : List (List UInt8)} {n : List UInt8} (h : mayM heads n = true) : n.length ≤ 64 := by
  unfold mayM nameOk at h
  simp only [Bool.and_eq_true, decide_eq_true_eq] at h
  exact h.1.2
theorem right_few {s : SiteZ} (h : rightZ s = true) : s.host.length ≤ 46 ∧ s.heads.length ≤ 4 ∧ ∀ y ∈ s.heads, y.length ≤ 64 := by
  obtain ⟨h1, _, _, h4⟩ := rightZ_iff.1 h
  obtain ⟨h5, h6⟩ := headsB_iff.1 h4
  refine ⟨ownH_len h1, h5, fun y hy => ?_⟩
  obtain ⟨j, hj⟩ := List.getElem?_of_mem hy
  exact mayM_len (h6 j y hj)
end Go.Pantry
namespace Go.Proofs.YtenijpcjemdhfaaGreatDoor
open Go.RowKit Go.Pantry

theorem few_of {L : List (SiteZ × Value)} (h : rightC (L.map (·.1)) = true) (hr : ∀ x ∈ L, Room x.2) : Few L := by
  obtain ⟨h8, h2, -⟩ := rightC_iff.1 h
  rw [List.length_map] at h8
  have each : ∀ x ∈ L, x.1.host.length ≤ 46 ∧ x.1.heads.length ≤ 4 ∧ ∀ y ∈ x.1.heads, y.length ≤ 64 := fun x hx => right_few (h2 _ (List.mem_map.2 ⟨x, hx, rfl⟩))
  exact ⟨by omega, hr, fun x hx => by have := (each x hx).1; omega, fun x hx => by have := (each x hx).2.1; omega, fun x hx y hy => by have := (each x hx).2.2 y hy; omega⟩
theorem room_own {w : World} {B : Nat} {e : TypeId} {size : Nat} {v : Value} {n : Nat} {xs : List Value} (h : w.ownsRow B e size v n xs) : Room v := by
  rcases h.2 with ⟨rfl, hn⟩ | ⟨g, cap, cur, rfl, hb, hg, hnc, hcm, hcs, htake⟩
  · exact room_of (Nat.le_refl _)
  · exact room_of hnc
theorem zs_rooms {w : World} {B : Nat} {sv : Value} {L : List (SiteM × Value)} (h : SitesAt w B sv L) : ∀ x ∈ zs L, Room x.2 := fun x hx => by
  obtain ⟨y, hy, rfl⟩ := List.mem_map.1 hx
  exact room_own (h.heads y hy)
theorem zs_right {T : List UInt8} {L : List (SiteM × Value)} (h : L.map (·.1) = (readM T).1) (h0 : (readM T).2.1 = 0) : rightC ((zs L).map (·.1)) = true := by
  have := read_right h0
  rw [← h, List.map_map] at this
  rw [zs_map]
  exact this
end Go.Proofs.YtenijpcjemdhfaaGreatDoor
