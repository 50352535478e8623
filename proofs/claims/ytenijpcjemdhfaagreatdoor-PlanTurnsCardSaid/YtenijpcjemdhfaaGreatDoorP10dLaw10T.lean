/-
  The walk of the statement PlanTurns.
-/
import Derived.Test.YtenijpcjemdhfaaGreatDoorP10dLaw10D
import Derived.Test.YtenijpcjemdhfaaGreatDoorP10d05
import Derived.Deep.QuietTactic
import Derived.BigQuiet
namespace Go.Pantry
open Go.RowKit
theorem acts_at {A B : List SiteZ} {k q : Nat} {u : List UInt8} (h : (actsP A B)[k]? = some (q, u)) : (hostsP A B)[k]? = some u ∧ q = kindD A B u := by
  unfold actsP at h
  rw [List.getElem?_map] at h
  obtain ⟨x, hx, he⟩ := Option.map_eq_some_iff.1 h
  injection he with h1 h2
  subst h2
  exact ⟨hx, h1.symm⟩
theorem acts_turn {A B : List SiteZ} {k q : Nat} {u : List UInt8} (h : (actsP A B)[k]? = some (q, u)) : (actsP B A)[k]? = some (turnK q, u) ∧ q < 4 := by
  obtain ⟨hx, rfl⟩ := acts_at h
  refine ⟨?_, kindD_le A B u⟩
  have hm := List.mem_of_getElem? hx
  rw [← kindD_turn hm]
  unfold actsP
  rw [List.getElem?_map, hostsP_comm B A, hx]
  rfl
theorem acts_rise {A B : List SiteZ} {k q : Nat} {u : List UInt8} (h : (actsP A B)[k + 1]? = some (q, u)) : ∃ q' u', (actsP A B)[k]? = some (q', u') ∧ Op.bytesLess u' u = true := by
  obtain ⟨hx, rfl⟩ := acts_at h
  have hlt := (List.getElem?_eq_some_iff.1 hx).1
  obtain ⟨y, hy⟩ : ∃ y, (hostsP A B)[k]? = some y := ⟨(hostsP A B)[k]'(by omega), List.getElem?_eq_getElem (by omega)⟩
  refine ⟨kindD A B y, y, by unfold actsP; rw [List.getElem?_map, hy]; rfl, ?_⟩
  have hs := List.pairwise_iff_getElem.1 (hostsP_sorted A B) k (k + 1) (by omega) hlt (by omega)
  rw [(List.getElem?_eq_some_iff.1 hy).2, (List.getElem?_eq_some_iff.1 hx).2] at hs
  have := ltL_iff y u
  unfold ltL at this
  rw [this]
  exact decide_eq_true hs
theorem acts_self {A : List SiteZ} {k q : Nat} {u : List UInt8} (h : (actsP A A)[k]? = some (q, u)) : q = 0 := by
  obtain ⟨hx, rfl⟩ := acts_at h
  exact kindD_self (List.mem_of_getElem? hx)
end Go.Pantry
namespace Go.Proofs.YtenijpcjemdhfaaGreatDoor
open Go.RowKit Go.Pantry
theorem diff_right {w w' : World} {A B : List SiteZ} {e : Ending} (h : DiffPost w A B e w') (hr : (rightC A && rightC B) = true) : ∃ v, e = .returned (.tuple #[v, .int .i64 0]) ∧ w'.ownsRow w.heap.size 48 2 v (actsP A B).length (actCells (actsP A B)) ∧ Below w.heap.size w w' := by
  obtain ⟨v, z, he, hd, hb⟩ := diff_form h
  rcases hd with ⟨_, rfl, ho⟩ | ⟨hf, _, _⟩
  · exact ⟨v, he, ho, hb⟩
  · rw [hr] at hf; cases hf
set_option maxRecDepth 100000 in
set_option maxHeartbeats 16000000 in
theorem planTurns_walk (VA : Value) (LA : List (SiteZ × Value)) (VB : Value) (LB : List (SiteZ × Value)) (w : World) (hm : MaxOk w) (ht : Tab10 w) (hA : ReadsP w VA LA ∧ LA.length ≤ maxLen ∧ ∀ y ∈ LA, SiteFit y.1 y.2) (hB : ReadsP w VB LB ∧ LB.length ≤ maxLen ∧ ∀ y ∈ LB, SiteFit y.1 y.2) :
    Calls Tryz.prog 5 #[.agg #[VA], .agg #[VB]] w fun e w' => e = .returned (.bool true) ∧ Below w.heap.size w w' := by
  obtain ⟨hrA, hlA, hfA⟩ := hA
  obtain ⟨hrB, hlB, hfB⟩ := hB
  unfold maxLen at hlA hlB
  have hhA : ∀ x ∈ LA, x.1.heads.length ≤ 9223372036854775807 := fun x hx => by
    have := (hfA x hx).2.2.1
    unfold maxLen at this
    omega
  have hhB : ∀ x ∈ LB, x.1.heads.length ≤ 9223372036854775807 := fun x hx => by
    have := (hfB x hx).2.2.1
    unfold maxLen at this
    omega
  obtain ⟨ao, c, e1, f1⟩ := hrA.form
  obtain ⟨bo, d, e2, f2⟩ := hrB.form
  obtain ⟨n, hln⟩ : ∃ n, LA.length = n := ⟨_, rfl⟩
  obtain ⟨m, hlm⟩ : ∃ n, LB.length = n := ⟨_, rfl⟩
  rw [hln] at e1
  rw [hlm] at e2
  subst e1 e2
  obtain ⟨W, hW⟩ : ∃ W, (w.alloc (.cells #[.slice ao n c] 25)).alloc (.cells #[.slice bo m d] 25) = W := ⟨_, rfl⟩
  have hbW : Below w.heap.size w W := by rw [← hW]; exact chainP (below_alloc _ _) (below_alloc _ _)
  have q1 : rowIs W w.heap.size #[.slice ao n c] 25 := by rw [← hW]; exact (rowIs_new _ _ _).below (below_alloc _ _)
  have q2 : rowIs W (w.heap.size + 1) #[.slice bo m d] 25 := by rw [← hW]; exact rowIs_new_at _ _ _ _ (by simp)
  have RA : Hid (∀ W', Below W.heap.size W W' → rowIs W' w.heap.size #[.slice ao n c] 25) := fun W' h => q1.below h
  have RB : Hid (∀ W', Below W.heap.size W W' → rowIs W' (w.heap.size + 1) #[.slice bo m d] 25) := fun W' h => q2.below h
  have HP := hid (And.intro (hrA.below hbW) (hrB.below hbW))
  have HBW := hid hbW
  have HM := hid (And.intro (hm.below hbW) (ht.below hbW))
  have HN := hid (And.intro hln hlm)
  have HX := hid (And.intro hfA hfB)
  have AN := hid (anchor10_any W (hm.below hbW) (ht.below hbW))
  have SA : Hid (∀ W', Below W.heap.size W W' → Calls Tryz.prog 16 #[.agg #[.slice ao n c]] W' (SmallPost W' LA)) := fun W' h => smallSites_any _ LA W' (HP.out.1.below h) hlA hhA
  have SB : Hid (∀ W', Below W.heap.size W W' → Calls Tryz.prog 16 #[.agg #[.slice bo m d]] W' (SmallPost W' LB)) := fun W' h => smallSites_any _ LB W' (HP.out.2.below h) hlB hhB
  clear hrA hrB hlA hlB hfA hfB hhA hhB f1 f2 hln hlm hbW q1 q2 hm ht
  go_enter Tryz.func5, Tryz.ntmps5
  go_wp2_with fail
  refine AN.out.mono ?_
  rintro e w1 ⟨rfl, hb1⟩
  have ra := RA.out _ hb1
  have rb := RB.out _ hb1
  have HB1 := hid hb1
  clear hb1 hW AN
  go_wp2_with (first | (refine wpList_load_row rfl 25 _ rfl w.heap.size rfl 25 _ (0, 0) _ ra Tryz.underlying25 rfl infoCfg ?_) | (refine wpList_load_row rfl 25 _ rfl (w.heap.size + 1) rfl 25 _ (0, 0) _ rb Tryz.underlying25 rfl infoCfg ?_))
  refine (SA.out _ HB1.out).mono ?_
  rintro e w2 ⟨b, rfl, hsm, hb2⟩
  have HSA := hid hsm
  have HB2 := hid (chainP HB1.out hb2)
  clear hsm hb2 ra rb
  cases b
  · go_wp2_with fail
    go_ret
    exact ⟨rfl, chainP HBW.out HB2.out⟩
  have yb : w2.cell? ⟨w.heap.size + 1, 0, none⟩ = some (.slice bo m d) := (RB.out _ HB2.out).cell 0
  go_wp2_with fail
  refine (SB.out _ HB2.out).mono ?_
  rintro e w3 ⟨b, rfl, hsm, hb3⟩
  have HSB := hid hsm
  have HB3 := hid (chainP HB2.out hb3)
  clear hsm hb3 yb
  cases b
  · go_wp2_with fail
    go_ret
    exact ⟨rfl, chainP HBW.out HB3.out⟩
  have HF0 := hid (few_fit (HSA.out (by trivial)).1 (HSA.out (by trivial)).2 (fun y hy => (HX.out.1 y hy).1))
  have HF1 := hid (few_fit (HSB.out (by trivial)).1 (HSB.out (by trivial)).2 (fun y hy => (HX.out.2 y hy).1))
  have HL := hid (And.intro (HSA.out (by trivial)).1 (HSB.out (by trivial)).1)
  clear HSA HSB
  have ya : w3.cell? ⟨w.heap.size, 0, none⟩ = some (.slice ao n c) := (RA.out _ HB3.out).cell 0
  go_wp2_with fail
  refine (configRight_any (.slice ao n c) LA w3 (HP.out.1.below HB3.out) HF0.out (HM.out.1.below HB3.out) (HM.out.2.below HB3.out)).mono ?_
  obtain ⟨qa, hqa⟩ : ∃ q, rightC (LA.map (·.1)) = q := ⟨_, rfl⟩
  obtain ⟨qb, hqb⟩ : ∃ q, rightC (LB.map (·.1)) = q := ⟨_, rfl⟩
  have HQ := hid (And.intro hqa hqb)
  rw [hqa]
  clear hqa hqb
  rintro e w4 ⟨rfl, hb4⟩
  have HB4 := hid (chainP HB3.out hb4)
  clear hb4 ya
  cases qa
  · go_wp2_with fail
    go_ret
    exact ⟨rfl, chainP HBW.out HB4.out⟩
  have yb : w4.cell? ⟨w.heap.size + 1, 0, none⟩ = some (.slice bo m d) := (RB.out _ HB4.out).cell 0
  go_wp2_with fail
  refine (configRight_any (.slice bo m d) LB w4 (HP.out.2.below HB4.out) HF1.out (HM.out.1.below HB4.out) (HM.out.2.below HB4.out)).mono ?_
  rw [HQ.out.2]
  rintro e w5 ⟨rfl, hb5⟩
  have HB5 := hid (chainP HB4.out hb5)
  clear hb5 yb
  cases qb
  · go_wp2_with fail
    go_ret
    exact ⟨rfl, chainP HBW.out HB5.out⟩
  have HRC := hid (And.intro HQ.out.1 HQ.out.2)
  clear HQ
  have ra := RA.out _ HB5.out
  have rb := RB.out _ HB5.out
  go_wp2_with (first | (refine wpList_load_row rfl 25 _ rfl w.heap.size rfl 25 _ (0, 0) _ ra Tryz.underlying25 rfl infoCfg ?_) | (refine wpList_load_row rfl 25 _ rfl (w.heap.size + 1) rfl 25 _ (0, 0) _ rb Tryz.underlying25 rfl infoCfg ?_))
  refine (diff_any (.slice ao n c) (.slice ao n c) LA LA w5 (HP.out.1.below HB5.out) (HP.out.1.below HB5.out) HF0.out HF0.out (HM.out.1.below HB5.out) (HM.out.2.below HB5.out)).mono ?_
  rintro e w6 hq
  obtain ⟨v6, rfl, ho6, hb6⟩ := diff_right hq (by rw [HRC.out.1]; rfl)
  have HB6 := hid (chainP HB5.out hb6)
  have HBS6 := hid hb6
  have HO6 := hid (ho6.readsA).2
  clear hq ho6 hb6 ra rb
  have ra := RA.out _ HB6.out
  have rb := RB.out _ HB6.out
  go_wp2_with (first | (refine wpList_load_row rfl 25 _ rfl w.heap.size rfl 25 _ (0, 0) _ ra Tryz.underlying25 rfl infoCfg ?_) | (refine wpList_load_row rfl 25 _ rfl (w.heap.size + 1) rfl 25 _ (0, 0) _ rb Tryz.underlying25 rfl infoCfg ?_))
  refine (diff_any (.slice ao n c) (.slice bo m d) LA LB w6 (HP.out.1.below HB6.out) (HP.out.2.below HB6.out) HF0.out HF1.out (HM.out.1.below HB6.out) (HM.out.2.below HB6.out)).mono ?_
  rintro e w7 hq
  obtain ⟨v7, rfl, ho7, hb7⟩ := diff_right hq (by rw [HRC.out.1, HRC.out.2]; rfl)
  have HB7 := hid (chainP HB6.out hb7)
  have HBS7 := hid hb7
  have HO7 := hid (ho7.readsA).2
  clear hq ho7 hb7 ra rb
  have ra := RA.out _ HB7.out
  have rb := RB.out _ HB7.out
  go_wp2_with (first | (refine wpList_load_row rfl 25 _ rfl w.heap.size rfl 25 _ (0, 0) _ ra Tryz.underlying25 rfl infoCfg ?_) | (refine wpList_load_row rfl 25 _ rfl (w.heap.size + 1) rfl 25 _ (0, 0) _ rb Tryz.underlying25 rfl infoCfg ?_))
  refine (diff_any (.slice bo m d) (.slice ao n c) LB LA w7 (HP.out.2.below HB7.out) (HP.out.1.below HB7.out) HF1.out HF0.out (HM.out.1.below HB7.out) (HM.out.2.below HB7.out)).mono ?_
  rintro e w8 hq
  obtain ⟨v8, rfl, ho8, hb8⟩ := diff_right hq (by rw [HRC.out.2, HRC.out.1]; rfl)
  have HB8 := hid (chainP HB7.out hb8)
  have HBS8 := hid hb8
  have HO8 := hid (ho8.readsA).2
  clear hq ho8 hb8 ra rb
  have hn6 : (actsP (LA.map (·.1)) (LA.map (·.1))).length = n := by
    rw [actsP_len, hostsP_self_len (nodup_right HRC.out.1), List.length_map, HN.out.1]
  have hn12 : n ≤ 12 := by rw [← HN.out.1]; exact HL.out.1
  have hk24 : (actsP (LA.map (·.1)) (LB.map (·.1))).length ≤ 24 := by
    have h1 := actsP_len (LA.map (·.1)) (LB.map (·.1))
    have h2 := hostsP_len_le (LA.map (·.1)) (LB.map (·.1))
    have h3 := HL.out
    rw [List.length_map, List.length_map] at h2
    omega
  have hk8 : (actsP (LB.map (·.1)) (LA.map (·.1))).length = (actsP (LA.map (·.1)) (LB.map (·.1))).length := by
    rw [actsP_len, actsP_len, hostsP_comm]
  obtain ⟨k7, hk7⟩ : ∃ k, (actsP (LA.map (·.1)) (LB.map (·.1))).length = k := ⟨_, rfl⟩
  rw [hk7] at hk24 hk8
  obtain ⟨a6, c6, e6⟩ := HO6.out.form
  obtain ⟨a7, c7, e7⟩ := HO7.out.form
  obtain ⟨a8, c8, e8⟩ := HO8.out.form
  rw [hn6] at e6
  rw [hk7] at e7
  rw [hk8] at e8
  subst e6 e7 e8
  have H6 := hid (HO6.out.below (chainP HBS7.out HBS8.out))
  have H7 := hid (HO7.out.below HBS8.out)
  clear HO6 HO7
  have HN6 := hid (And.intro hn6 (And.intro hk7 hk8))
  have y0 : w8.cell? ⟨w.heap.size, 0, none⟩ = some (.slice ao n c) := (RA.out _ HB8.out).cell 0
  have z1 : ((n : Int) != (n : Int)) = false := by simp
  have z2 : ((k7 : Int) != (k7 : Int)) = false := by simp
  clear hn6 hk7 hk8
  go_wp2_with fail
  clear z1 z2 y0
  go_loopw [69] (fun z wr => ∃ (k : Nat), z = .int .i64 (k : Int) ∧ k ≤ n ∧ Below w8.heap.size w8 wr) (fun z _ => n - (intOf z).toNat)
  case atStart => exact ⟨0, rfl, Nat.zero_le _, Below.refl _ _⟩
  case round =>
    obtain ⟨k, rfl, hk, hb⟩ := hrel
    have HBR := hid hb
    by_cases hlt : k < n
    · obtain ⟨⟨q, u⟩, hx⟩ : ∃ x, (actsP (LA.map (·.1)) (LA.map (·.1)))[k]? = some x := by
        have := HN6.out.1
        exact ⟨_, List.getElem?_eq_getElem (by omega)⟩
      obtain rfl := acts_self hx
      obtain ⟨b1, o1, g1, i1, j1⟩ := (H6.out.below hb).at_ hx
      subst g1
      obtain ⟨p1, hp1⟩ : ∃ p, o1 + k * 2 = p := ⟨_, rfl⟩
      rw [hp1] at i1 j1
      simp only at i1 j1
      have hkI : (k : Int) < (n : Int) := by omega
      have hk0 : (0 : Int) ≤ (k : Int) := by omega
      have hkw : IntKind.i64.wrap ((k : Int) + 1) = (k : Int) + 1 := IntWalk.i64_in _ (by omega)
      have r1 := rowIs_new wr #[.int .i64 0, strV u] 48
      have z0 := r1.cell 0
      have HB1 := hid (chainP hb (show Below wr.heap.size wr (wr.alloc (.cells #[.int .i64 0, strV u] 48)) from below_alloc _ _))
      clear hb hx r1
      go_wp2_with fail
      go_roundw
      case rel => exact ⟨k + 1, by go_num, hlt, HB1.out⟩
      case measure => simp [intOf]; omega
    · have hkI : ¬ (k : Int) < (n : Int) := by omega
      clear hb
      go_wp2_with fail
      go_loopw [79] (fun z wr => ∃ (k : Nat), z = .int .i64 (k : Int) ∧ k ≤ k7 ∧ Below w8.heap.size w8 wr) (fun z _ => k7 - (intOf z).toNat)
      case atStart => exact ⟨0, rfl, Nat.zero_le _, HBR.out⟩
      case round =>
        clear hkI hk hlt HBR
        rename_i k0
        obtain ⟨k, rfl, hk, hb⟩ := hrel
        have HBR := hid hb
        by_cases hlt : k < k7
        · obtain ⟨⟨q, u⟩, hx⟩ : ∃ x, (actsP (LA.map (·.1)) (LB.map (·.1)))[k]? = some x := by
            have := HN6.out.2.1
            exact ⟨_, List.getElem?_eq_getElem (by omega)⟩
          obtain ⟨hx2, hq4⟩ := acts_turn hx
          obtain ⟨b1, o1, g1, i1, j1⟩ := (H7.out.below hb).at_ hx
          obtain ⟨b2, o2, g2, i2, j2⟩ := (HO8.out.below hb).at_ hx2
          subst g1 g2
          obtain ⟨p1, hp1⟩ : ∃ p, o1 + k * 2 = p := ⟨_, rfl⟩
          obtain ⟨p2, hp2⟩ : ∃ p, o2 + k * 2 = p := ⟨_, rfl⟩
          rw [hp1] at i1 j1
          rw [hp2] at i2 j2
          simp only at i1 j1 i2 j2
          have hkI : (k : Int) < (k7 : Int) := by omega
          have hk0 : (0 : Int) ≤ (k : Int) := by omega
          have hkw : IntKind.i64.wrap ((k : Int) + 1) = (k : Int) + 1 := IntWalk.i64_in _ (by omega)
          have hq0 : (0 : Int) ≤ (q : Int) := by omega
          have hqI : (q : Int) < 4 := by omega
          obtain ⟨W1, hW1⟩ : ∃ W, wr.alloc (.cells #[.int .i64 (q : Int), strV u] 48) = W := ⟨_, rfl⟩
          have hb1 : Below wr.heap.size wr W1 := by rw [← hW1]; exact below_alloc _ _
          have r1 : rowIs W1 wr.heap.size #[.int .i64 (q : Int), strV u] 48 := by rw [← hW1]; exact rowIs_new _ _ _
          obtain ⟨W2, hW2⟩ : ∃ W, W1.alloc (.cells #[.int .i64 0, .int .i64 1, .int .i64 3, .int .i64 2] 3) = W := ⟨_, rfl⟩
          have hb2 : Below W1.heap.size W1 W2 := by rw [← hW2]; exact below_alloc _ _
          have r2 : rowIs W2 W1.heap.size #[.int .i64 0, .int .i64 1, .int .i64 3, .int .i64 2] 3 := by rw [← hW2]; exact rowIs_new _ _ _
          have yq : W2.cell? ⟨W1.heap.size, q, none⟩ = some (.int .i64 ((turnK q : Nat) : Int)) := by
            rw [r2.cell q]
            rcases (by omega : q = 0 ∨ q = 1 ∨ q = 2 ∨ q = 3) with h | h | h | h <;> subst h <;> rfl
          have hs1 : W1.heap.size = wr.heap.size + 1 := by rw [← hW1]; simp
          rw [hs1] at yq
          have z0 := (r1.below hb2).cell 0
          have z1 := (r1.below hb2).cell 1
          have x2 := kept (kept i2 hb1) hb2
          have x3 := kept (kept j2 hb1) hb2
          obtain ⟨tq, htq⟩ : ∃ t, turnK q = t := ⟨_, rfl⟩
          rw [htq] at x2 yq
          have HB1 := hid (chainP hb (chainP hb1 hb2))
          have HXX := hid hx
          clear hb hx hx2 i2 j2 hb1 hb2 r1 r2 hs1 htq hq4
          subst hW1
          subst hW2
          by_cases hz : 0 < k
          · obtain ⟨m', hkm⟩ : ∃ m', k = m' + 1 := ⟨k - 1, by omega⟩
            have hx3 := HXX.out
            rw [hkm] at hx3
            obtain ⟨q3, u3, hx3, hle⟩ := acts_rise hx3
            have hmw : IntKind.i64.wrap ((k : Int) - 1) = (m' : Int) := by rw [IntWalk.i64_in _ (by omega)]; omega
            have hm0 : (0 : Int) ≤ (m' : Int) := by omega
            have hmI : (m' : Int) < (k7 : Int) := by omega
            have hzI : decide ((0 : Int) < (k : Int)) = true := decide_eq_true (by omega)
            have hzN : decide (0 < k) = true := decide_eq_true hz
            clear hkm
            go_wp2_with fail
            change Code.wp _ _ _ _ ((wr.alloc (.cells #[.int .i64 (q : Int), strV u] 48)).alloc (.cells #[.int .i64 0, .int .i64 1, .int .i64 3, .int .i64 2] 3))
            obtain ⟨W2, hW2⟩ : ∃ W, ((wr.alloc (.cells #[.int .i64 (q : Int), strV u] 48)).alloc (.cells #[.int .i64 0, .int .i64 1, .int .i64 3, .int .i64 2] 3)) = W := ⟨_, rfl⟩
            rw [hW2] at yq z0 z1 x2 x3 HB1 ⊢
            clear i1 j1 hW2
            obtain ⟨b3, o3, g3, -, j3⟩ := (H7.out.below HB1.out).at_ hx3
            injection g3 with g3
            injection g3 with g3 g4
            subst g3 g4
            obtain ⟨p3, hp3⟩ : ∃ p, o1 + m' * 2 = p := ⟨_, rfl⟩
            rw [hp3] at j3
            simp only at j3
            clear hx3
            go_quiet (fail)
            go_wp2_with fail
            go_roundw
            case rel => exact ⟨k + 1, by go_num, hlt, below_drewN HB1.out _⟩
            case measure => simp [intOf]; omega
          · have hzI : decide ((0 : Int) < (k : Int)) = false := decide_eq_false (by omega)
            have hzN : decide (0 < k) = false := decide_eq_false hz
            clear hz
            go_wp2_with fail
            change Code.wp _ _ _ _ ((wr.alloc (.cells #[.int .i64 (q : Int), strV u] 48)).alloc (.cells #[.int .i64 0, .int .i64 1, .int .i64 3, .int .i64 2] 3))
            obtain ⟨W2, hW2⟩ : ∃ W, ((wr.alloc (.cells #[.int .i64 (q : Int), strV u] 48)).alloc (.cells #[.int .i64 0, .int .i64 1, .int .i64 3, .int .i64 2] 3)) = W := ⟨_, rfl⟩
            rw [hW2] at yq z0 z1 x2 x3 HB1 ⊢
            clear i1 j1 hW2
            go_quiet (fail)
            go_wp2_with fail
            go_roundw
            case rel => exact ⟨k + 1, by go_num, hlt, below_drewN HB1.out _⟩
            case measure => simp [intOf]; omega
        · have hkI : ¬ (k : Int) < (k7 : Int) := by omega
          clear hb
          go_wp2_with fail
          go_ret
          exact ⟨rfl, chainP HBW.out (chainP HB8.out HBR.out)⟩
end Go.Proofs.YtenijpcjemdhfaaGreatDoor
