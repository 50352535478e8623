/-
  Several texts in one: Law10B0, Law10B.
-/
import Derived.Test.YtenijpcjemdhfaaGreatDoorP10dPlanJ
import Derived.Test.YtenijpcjemdhfaaGreatDoorP10d05
import Derived.Test.YtenijpcjemdhfaaGreatDoorP10dLaw10A
import Derived.Deep.CutRange
/-
  Facts for the anchor of layer 10's statements; the first table.
-/
namespace Go.Pantry
open Go.RowKit
def planT1 : List UInt8 := [115, 105, 116, 101, 32, 97, 32, 123, 125]
def planT2 : List UInt8 := [115, 105, 116, 101, 32, 97, 32, 123, 32, 116, 116, 108, 32, 48, 32, 57, 59, 32, 125]
def planM1 : SiteM := ⟨[97], 1, 0, 3600, true, true, []⟩
def planM2 : SiteM := ⟨[97], 1, 0, 9, true, true, []⟩
def planS1 : SiteZ := ⟨[97], 1, 0, 3600, true, true, []⟩
def planS2 : SiteZ := ⟨[97], 1, 0, 9, true, true, []⟩
theorem planR1 : readM planT1 = ([planM1], 0, 0) := by decide +kernel
theorem planR2 : readM planT2 = ([planM2], 0, 0) := by decide +kernel
theorem planC1 : rightC [planS1] = true := by decide +kernel
theorem planC2 : rightC [planS2] = true := by decide +kernel
theorem planT0 : rightT 0 [] = true := by decide +kernel
theorem planT11 : rightT 1 [(planS1, 1)] = true := by decide +kernel
theorem planN1 : nextL 0 [] [planS1] = [(planS1, 1)] := by decide +kernel
theorem planN2 : nextL 1 [(planS1, 1)] [planS2] = [(planS2, 2)] := by decide +kernel
theorem planA1 : actsP [] [planS1] = [(3, [97])] := by decide +kernel
theorem planA2 : actsP [planS1] [planS2] = [(1, [97])] := by decide +kernel
theorem fewR_nil : FewR [] := ⟨by simp, fun x h => absurd h List.not_mem_nil, fun x h => absurd h List.not_mem_nil, fun x h => absurd h List.not_mem_nil, fun x h => absurd h List.not_mem_nil⟩
theorem fewR_plan {z : SiteZ} {hv : Value} {t : Int} (hr : Room hv) (h1 : z.host.length ≤ 100000) (h2 : z.heads = []) : FewR [(z, hv, t)] :=
  ⟨by simp, fun x hx => by rw [List.mem_singleton] at hx; subst hx; exact hr, fun x hx => by rw [List.mem_singleton] at hx; subst hx; exact h1, fun x hx => by rw [List.mem_singleton] at hx; subst hx; rw [h2]; simp, fun x hx y hy => by rw [List.mem_singleton] at hx; subst hx; rw [h2] at hy; exact absurd hy List.not_mem_nil⟩
theorem tT_one {L : List RuleZ} {z : SiteZ} {t : Int} (h : tT L = [(z, t)]) : ∃ hv, L = [(z, hv, t)] := by
  have hlen : L.length = 1 := by have := congrArg List.length h; rw [tT_len] at this; simpa using this
  obtain ⟨⟨s1, hv1, t1⟩, rfl⟩ := List.length_eq_one_iff.1 hlen
  have e : s1 = z ∧ t1 = t := by simpa [tT] using h
  obtain ⟨rfl, rfl⟩ := e
  exact ⟨hv1, rfl⟩
/-- the only action of a row -/
theorem act_one {w : World} {B n : Nat} {e : TypeId} {v : Value} {k : Nat} {h : List UInt8} (ho : w.ownsRow B e 2 v n (actCells [(k, h)])) (hn : n = 1) :
    ∃ b c, v = .slice (some ⟨b, 0, none⟩) 1 c ∧ v.ownBlock = some b ∧ w.cell? ⟨b, 0, none⟩ = some (.int .i64 (k : Int)) ∧ w.cell? ⟨b, 1, none⟩ = some (strV h) := by
  subst hn
  rcases ho.2 with ⟨rfl, hn⟩ | ⟨g, cap, cur, rfl, hb, hg, hnc, hcm, hcs, htake⟩
  · cases hn
  · refine ⟨g, cap, rfl, rfl, ?_, ?_⟩
    · have := ho.cells (g := g) rfl 0 (.int .i64 (k : Int)) rfl
      rw [addAt2] at this
      exact this
    · have := ho.cells (g := g) rfl 1 (strV h) rfl
      rw [addAt2] at this
      exact this
/-- the only rule of a row -/
theorem rule_one {w : World} {B n : Nat} {e : TypeId} {v : Value} {r : RuleZ} (ho : w.ownsRow B e 8 v n (rowsR [r])) (hn : n = 1) :
    ∃ b c, v = .slice (some ⟨b, 0, none⟩) 1 c ∧ v.ownBlock = some b ∧ w.cell? ⟨b, 7, none⟩ = some (.int .i64 r.2.2) := by
  subst hn
  rcases ho.2 with ⟨rfl, hn⟩ | ⟨g, cap, cur, rfl, hb, hg, hnc, hcm, hcs, htake⟩
  · cases hn
  · refine ⟨g, cap, rfl, rfl, ?_⟩
    have := ho.cells (g := g) rfl 7 (.int .i64 r.2.2) rfl
    rw [addAt2] at this
    exact this
end Go.Pantry
namespace Go.Proofs.YtenijpcjemdhfaaGreatDoor
open Go.RowKit Go.Pantry
/-- one site that was read -/
theorem plan_one {T : List UInt8} {m : SiteM} {z : SiteZ} (hT : readM T = ([m], 0, 0)) (hz : m.z = z) {L : List (SiteM × Value)} (h : L.map (·.1) = (readM T).1) : ∃ hv, zs L = [(z, hv)] := by
  rw [hT] at h
  have hlen : L.length = 1 := by have := congrArg List.length h; simpa using this
  obtain ⟨⟨s1, hv1⟩, rfl⟩ := List.length_eq_one_iff.1 hlen
  have hs : s1 = m := by simpa using h
  subst hs
  exact ⟨hv1, by unfold zs; simp [hz]⟩
theorem few_plan {z : SiteZ} {hv : Value} (hr : Room hv) (h1 : z.host.length ≤ 100000) (h2 : z.heads = []) : Few [(z, hv)] :=
  ⟨by simp, fun x hx => by rw [List.mem_singleton] at hx; subst hx; exact hr, fun x hx => by rw [List.mem_singleton] at hx; subst hx; exact h1, fun x hx => by rw [List.mem_singleton] at hx; subst hx; rw [h2]; simp, fun x hx y hy => by rw [List.mem_singleton] at hx; subst hx; rw [h2] at hy; exact absurd hy List.not_mem_nil⟩
theorem few_fit {L : List (SiteZ × Value)} (h1 : L.length ≤ 12) (h2 : ∀ x ∈ L, x.1.host.length ≤ 100 ∧ x.1.heads.length ≤ 10 ∧ ∀ y ∈ x.1.heads, y.length ≤ 100) (hr : ∀ y ∈ L, Room y.2) : Few L :=
  ⟨by omega, hr, fun x hx => by have := (h2 x hx).1; omega, fun x hx => by have := (h2 x hx).2.1; omega, fun x hx y hy => by have := (h2 x hx).2.2 y hy; omega⟩
theorem first_any (w : World) : Calls Tryz.prog 34 #[] w fun e w' => e = .returned (.agg zeroTab) ∧ Below w.heap.size w w' := by
  obtain ⟨W, hW⟩ : ∃ W, w.alloc (.cells zeroTab 52) = W := ⟨_, rfl⟩
  have hb : Below w.heap.size w W := by rw [← hW]; exact below_alloc _ _
  have q0 : rowIs W w.heap.size zeroTab 52 := by rw [← hW]; exact rowIs_new _ _ _
  have HB := hid hb
  clear hb
  go_enter Tryz.func34, Tryz.ntmps34
  go_wp2_with (refine wpList_store_row rfl 52 _ _ rfl w.heap.size _ rfl rfl 52 _ q0 infoTable rfl (oneTab 0 none 0 0) ?_)
  refine bodyPost_ret (results_row Tryz.results34 _ _ w.heap.size _ rfl (q0.setRow zeroTab) Tryz.underlying52 rfl infoTable) rfl ?_
  exact ⟨rfl, below_setRow HB.out (Nat.le_refl _) _⟩
end Go.Proofs.YtenijpcjemdhfaaGreatDoor
/-
  The anchor of layer 10's statements.
-/
namespace Go.Proofs.YtenijpcjemdhfaaGreatDoor
open Go.RowKit Go.Pantry

/-- a table in its box, and the actions, as Next makes them -/
structure Nxt (W : World) (p : Nat) (g : Int) (v : Value) (L : List RuleZ) (va : Value) (A : List ActM) : Prop where
  row : rowIs W p #[.int .i64 g, v] 52
  rules : RulesOwn W 0 v L
  acts : W.ownsRow 0 48 2 va A.length (actCells A)
theorem Nxt.made {n W : World} {m p : Nat} {g : Int} {v va : Value} {L : List RuleZ} {A : List ActM} {cs : Array Value} (hr : RulesOwn n m v L) (ha : n.ownsRow m 48 2 va A.length (actCells A)) (hb : Below n.heap.size n W) (hp : rowIs W p cs 52) (hd : p < m ∨ n.heap.size ≤ p) :
    Nxt (W.setRow p #[.int .i64 g, v]) p g v L va A := by
  have kk := (Kept.of_below (X := fun k => k = p) hb).setRow (g := p) (.inl rfl) #[.int .i64 g, v]
  exact ⟨hp.setRow _, (hr.kept kk (fun k h1 h2 e => by subst e; omega)).mono (Nat.zero_le _), (ownsRow_kept ha kk (fun k hk e => by subst e; have := ha.lt k hk; omega)).base (Nat.zero_le _)⟩
theorem Nxt.below {W W' : World} {p : Nat} {g : Int} {v : Value} {L : List RuleZ} {va : Value} {A : List ActM} (h : Nxt W p g v L va A) (hb : Below W.heap.size W W') : Nxt W' p g v L va A :=
  ⟨h.row.below hb, h.rules.below hb, ownsRow_kept h.acts (Kept.of_below (X := fun _ => False) hb) (fun _ _ h => h)⟩
theorem next_first {w w' : World} {e : Ending} (h : NextPost w 0 [] [planS1] e w') : ∃ v L va, e = .returned (.tuple #[.agg #[.int .i64 1, v], va, .int .i64 0]) ∧ tT L = [(planS1, 1)] ∧ RulesOwn w' w.heap.size v L ∧ w'.ownsRow w.heap.size 48 2 va 1 (actCells [(3, [97])]) := by
  have h1 := h.1
  have e0 : (rightT 0 (tT []) && rightC [planS1] && !((0 : Int) == 253402300799)) = true := by rw [show tT [] = [] from rfl, planT0, planC1]; rfl
  rw [if_pos e0] at h1
  obtain ⟨v, L, va, he, ht, ho, hw⟩ := h1
  have ea : actsP (([] : List RuleZ).map (·.1)) [planS1] = [(3, [97])] := planA1
  rw [ea] at hw
  exact ⟨v, L, va, he, ht.trans planN1, ho, hw⟩
theorem next_second {w w' : World} {e : Ending} {hv : Value} (h : NextPost w 1 [(planS1, hv, 1)] [planS2] e w') : ∃ v L va, e = .returned (.tuple #[.agg #[.int .i64 2, v], va, .int .i64 0]) ∧ tT L = [(planS2, 2)] ∧ RulesOwn w' w.heap.size v L ∧ w'.ownsRow w.heap.size 48 2 va 1 (actCells [(1, [97])]) := by
  have h1 := h.1
  have et : tT [(planS1, hv, 1)] = [(planS1, 1)] := rfl
  have e0 : (rightT 1 (tT [(planS1, hv, 1)]) && rightC [planS2] && !((1 : Int) == 253402300799)) = true := by rw [et, planT11, planC2]; rfl
  rw [if_pos e0] at h1
  obtain ⟨v, L, va, he, ht, ho, hw⟩ := h1
  have ea : actsP ([(planS1, hv, (1 : Int))].map (·.1)) [planS2] = [(1, [97])] := planA2
  rw [ea] at hw
  exact ⟨v, L, va, he, ht.trans planN2, ho, hw⟩
set_option maxRecDepth 100000 in
set_option maxHeartbeats 8000000 in
theorem anchor10_any (w : World) (hm : MaxOk w) (ht : Tab10 w) :
    Calls Tryz.prog 15 #[] w fun e w' => e = .returned (.bool true) ∧ Below w.heap.size w w' := by
  have HM := hid hm
  have HT := hid ht
  have C1 := hid (readQ_any planT1 w hm ht)
  clear hm ht
  go_enter Tryz.func15, Tryz.ntmps15
  go_wp2_with fail
  refine C1.out.mono ?_
  rintro e w1 ⟨ao1, c1, K1, rfl, hL1, hs1, hb1⟩
  obtain ⟨hv1, hz1⟩ := plan_one planR1 (show planM1.z = planS1 from rfl) hL1
  have hlen : K1.length = 1 := by have := congrArg List.length hz1; unfold zs at this; simpa using this
  have hrm1 := zs_rooms hs1
  have hp1 := hs1.readsP
  rw [hz1] at hrm1 hp1
  rw [hlen] at hp1
  rw [planR1, hlen]
  clear hL1 hs1 hz1 hlen
  have hf1 : Few [(planS1, hv1)] := few_plan (hrm1 _ (List.mem_singleton.2 rfl)) (by decide) rfl
  have hr1 := rowIs_new w1 #[.slice ao1 1 c1] 25
  obtain ⟨W1, hW1⟩ : ∃ W, (w1.alloc (.cells #[.slice ao1 1 c1] 25)).alloc (.cells #[.int .i64 0, .int .i64 0] 28) = W := ⟨_, rfl⟩
  have hB1 : Below w.heap.size w W1 := by rw [← hW1]; exact below2 _ _ hb1
  have hC1 : Below w1.heap.size w1 W1 := by rw [← hW1]; exact chainP (below_alloc _ _) (below_alloc _ _)
  have q1 : rowIs W1 w1.heap.size #[.slice ao1 1 c1] 25 := by rw [← hW1]; exact hr1.below (below_alloc _ _)
  have C2 := hid (readQ_any planT2 W1 (HM.out.below hB1) (HT.out.below hB1))
  have HQ := hid (And.intro q1 (And.intro hB1 (And.intro (hp1.below hC1) hf1)))
  have HW1 := hid hW1
  clear hb1 hrm1 hp1 hf1 hr1 hW1 hB1 hC1 q1
  go_wp2_with fail
  change Calls _ _ _ ((w1.alloc (.cells #[.slice ao1 1 c1] 25)).alloc (.cells #[.int .i64 0, .int .i64 0] 28)) _
  rw [HW1.out]
  refine C2.out.mono ?_
  rintro e w2 ⟨ao2, c2, K2, rfl, hL2, hs2, hb2⟩
  obtain ⟨hv2, hz2⟩ := plan_one planR2 (show planM2.z = planS2 from rfl) hL2
  have hlen : K2.length = 1 := by have := congrArg List.length hz2; unfold zs at this; simpa using this
  have hrm2 := zs_rooms hs2
  have hp2 := hs2.readsP
  rw [hz2] at hrm2 hp2
  rw [hlen] at hp2
  rw [planR2, hlen]
  clear hL2 hs2 hz2 hlen
  obtain ⟨g1, hg1⟩ : ∃ g, w1.heap.size = g := ⟨_, rfl⟩
  have hf2 : Few [(planS2, hv2)] := few_plan (hrm2 _ (List.mem_singleton.2 rfl)) (by decide) rfl
  have hr2 := rowIs_new w2 #[.slice ao2 1 c2] 25
  obtain ⟨W2, hW2⟩ : ∃ W, (w2.alloc (.cells #[.slice ao2 1 c2] 25)).alloc (.cells #[.int .i64 0, .int .i64 0] 28) = W := ⟨_, rfl⟩
  have hB2 : Below W1.heap.size W1 W2 := by rw [← hW2]; exact below2 _ _ hb2
  have hC2 : Below w2.heap.size w2 W2 := by rw [← hW2]; exact chainP (below_alloc _ _) (below_alloc _ _)
  have q2 : rowIs W2 w2.heap.size #[.slice ao2 1 c2] 25 := by rw [← hW2]; exact hr2.below (below_alloc _ _)
  have HB := hid (chainP HQ.out.2.1 hB2)
  have R1 : Hid (∀ W', Below W2.heap.size W2 W' → rowIs W' g1 #[.slice ao1 1 c1] 25) := fun W' h => by rw [← hg1]; exact (HQ.out.1.below hB2).below h
  have R2 : Hid (∀ W', Below W2.heap.size W2 W' → rowIs W' w2.heap.size #[.slice ao2 1 c2] 25) := fun W' h => q2.below h
  have HR1 := hid (And.intro (HQ.out.2.2.1.below hB2) HQ.out.2.2.2)
  have HR2 := hid (And.intro (hp2.below hC2) hf2)
  have HW2 := hid hW2
  clear hb2 hrm2 hp2 hf2 hr2 hW2 hB2 hC2 q2
  rw [hg1]
  clear hg1
  go_wp2_with fail
  change Code.wp _ _ _ _ ((w2.alloc (.cells #[.slice ao2 1 c2] 25)).alloc (.cells #[.int .i64 0, .int .i64 0] 28))
  rw [HW2.out]
  go_cut [5, 6, 7] from 11 to 25 (fun u5 u6 u7 W' => ∃ (p : Nat) (v va : Value) (L : List RuleZ), u5 = .pointer (some ⟨p, 0, none⟩) ∧ u6 = va ∧ u7 = .int .i64 0 ∧ tT L = [(planS1, 1)] ∧ Nxt W' p 1 v L va [(3, [97])] ∧ Below w.heap.size w W' ∧ Below W2.heap.size W2 W')
  case first =>
    refine wp_region_held_drew (S := fun w' => Below W2.heap.size W2 w') (by kernel_rfl) ((Below.refl _ _).drew) (fun hH => ?_)
    generalize W2.drew = w0 at hH ⊢
    refine wpAnyH_take (i := 1) (v := .agg #[.slice ao1 1 c1]) rfl (by kernel_rfl) (by kernel_rfl) (by kernel_rfl) (fun _ _ _ h => h) (Or.inl ⟨by kernel_rfl, ?_⟩) hH ?_
    · intro W hS
      exact load_gives rfl _ rfl (R1.out W hS) Tryz.underlying25 rfl infoCfg
    simp only [Act.put, List.getElem_toArray, List.getElem_cons_succ, List.getElem_cons_zero, List.setIfInBounds_toArray, List.set_cons_zero, List.set_cons_succ]
    refine wpAnyH_ready (rs := [0, 7]) (by kernel_rfl) (by simp) ?_
    refine AllReadyH.cons rfl (fun K hK => ?_) (AllReadyH.cons rfl (fun K hK => ?_) AllReadyH.nil)
    · go_simp
      refine (first_any _).mono ?_
      rintro e x0 ⟨rfl, hbx0⟩
      obtain ⟨m0, hm0⟩ : ∃ m : Nat, w0.heap.size = m := ⟨_, rfl⟩
      obtain ⟨n0, hn0⟩ : ∃ n : Nat, x0.heap.size = n := ⟨_, rfl⟩
      have T0 := hid (And.intro hm0 (And.intro hn0 (And.intro hbx0.size hH.size)))
      clear hm0 hn0
      have C0 := hid (Below.refl x0.heap.size x0)
      refine hK.out _ _ (chainP hH hbx0) (fun hH => ?_)
      clear hK K hbx0
      try simp only [Act.put, List.getElem_toArray, List.getElem_cons_succ, List.getElem_cons_zero, List.setIfInBounds_toArray, List.set_cons_zero, List.set_cons_succ]
      refine wpAnyH_ready (rs := [2, 7]) (by kernel_rfl) (by simp) ?_
      refine AllReadyH.cons rfl (fun K hK => ?_) (AllReadyH.cons rfl (fun K hK => ?_) AllReadyH.nil)
      · go_simp
        refine (next_any 0 (.slice none 0 0) (.slice ao1 1 c1) [] [(planS1, hv1)] _ (ReadsR.nil _ 0) fewR_nil (HR1.out.1.below hH) HR1.out.2 (HM.out.below (chainP HB.out hH)) (HT.out.below (chainP HB.out hH))).mono ?_
        rintro e x1 hq
        have hbx1 := hq.2
        obtain ⟨v1, L1, va1, rfl, hl1, ho1, hw1⟩ := next_first hq
        obtain ⟨ba1, da1, rfl⟩ := ownsRow_formN hw1
        obtain ⟨aov1, cv1, hfv1⟩ := ownsRow_formN ho1.own
        obtain ⟨nv1, hnv1⟩ : ∃ n, L1.length = n := ⟨_, rfl⟩
        rw [hnv1] at hfv1
        subst hfv1
        have HK1 := hid (And.intro hl1 (And.intro ho1 hw1))
        clear hl1 ho1 hw1 hnv1 hq
        obtain ⟨m1, hm1⟩ : ∃ m : Nat, x0.heap.size = m := ⟨_, rfl⟩
        obtain ⟨n1, hn1⟩ : ∃ n : Nat, x1.heap.size = n := ⟨_, rfl⟩
        have T1 := hid (And.intro hm1 (And.intro hn1 (And.intro hbx1.size hH.size)))
        clear hm1 hn1
        have C0 := hid (chainP C0.out hbx1)
        have C1 := hid (Below.refl x1.heap.size x1)
        refine hK.out _ _ (chainP hH hbx1) (fun hH => ?_)
        clear hK K hbx1
        try simp only [Act.put, List.getElem_toArray, List.getElem_cons_succ, List.getElem_cons_zero, List.setIfInBounds_toArray, List.set_cons_zero, List.set_cons_succ]
        refine wpAnyH_take (i := 3) (v := ?_) rfl (by kernel_rfl) (by kernel_rfl) (by kernel_rfl) (fun _ _ _ h => h) (Or.inl ⟨by kernel_rfl, ?_⟩) hH ?_
        rotate_left
        · intro W hS
          go_simp
          first | done | with_reducible rfl
        simp only [Act.put, List.getElem_toArray, List.getElem_cons_succ, List.getElem_cons_zero, List.setIfInBounds_toArray, List.set_cons_zero, List.set_cons_succ]
        refine wpAnyH_take (i := 4) (v := ?_) rfl (by kernel_rfl) (by kernel_rfl) (by kernel_rfl) (fun _ _ _ h => h) (Or.inl ⟨by kernel_rfl, ?_⟩) hH ?_
        rotate_left
        · intro W hS
          go_simp
          first | done | with_reducible rfl
        simp only [Act.put, List.getElem_toArray, List.getElem_cons_succ, List.getElem_cons_zero, List.setIfInBounds_toArray, List.set_cons_zero, List.set_cons_succ]
        refine wpAnyH_take (i := 5) (v := ?_) rfl (by kernel_rfl) (by kernel_rfl) (by kernel_rfl) (fun _ _ _ h => h) (Or.inl ⟨by kernel_rfl, ?_⟩) hH ?_
        rotate_left
        · intro W hS
          go_simp
          first | done | with_reducible rfl
        simp only [Act.put, List.getElem_toArray, List.getElem_cons_succ, List.getElem_cons_zero, List.setIfInBounds_toArray, List.set_cons_zero, List.set_cons_succ]
        refine wpAnyH_take (i := 6) (v := ?_) rfl (by kernel_rfl) (by kernel_rfl) (by kernel_rfl) (fun _ _ _ h => h) (Or.inl ⟨by kernel_rfl, ?_⟩) hH ?_
        rotate_left
        · intro W hS
          go_simp
          first | done | with_reducible rfl
        simp only [Act.put, List.getElem_toArray, List.getElem_cons_succ, List.getElem_cons_zero, List.setIfInBounds_toArray, List.set_cons_zero, List.set_cons_succ]
        refine wpAnyH_ready (rs := [7]) (by kernel_rfl) (by simp) ?_
        refine AllReadyH.cons rfl (fun K hK => ?_) AllReadyH.nil
        obtain ⟨x2, hWx2⟩ : ∃ W, W = x1.alloc (.cells zeroTab 52) := ⟨_, rfl⟩
        have hbx2 : Below x1.heap.size x1 x2 := by rw [hWx2]; exact below_alloc _ _
        obtain ⟨p0, hp0⟩ : ∃ p, x1.heap.size = p := ⟨_, rfl⟩
        have P0 : Hid (rowIs x2 p0 zeroTab 52) := by rw [hWx2, ← hp0]; exact rowIs_new _ _ _
        have B0 := hid (show W2.heap.size ≤ p0 from by have := hH.size; omega)
        go_simp
        rw [← hWx2]
        try rw [hp0]
        have A0_0 := hid (show n0 ≤ p0 from by have := C0.out.size; have := T0.out; omega)
        have A1_0 := hid (show n1 ≤ p0 from by have := C1.out.size; have := T1.out; omega)
        clear hWx2 hp0
        have C0 := hid (chainP C0.out hbx2)
        have C1 := hid (chainP C1.out hbx2)
        refine hK.out _ _ (chainP hH hbx2) (fun hH => ?_)
        clear hK K hbx2
        try simp only [Act.put, List.getElem_toArray, List.getElem_cons_succ, List.getElem_cons_zero, List.setIfInBounds_toArray, List.set_cons_zero, List.set_cons_succ]
        refine wpAnyH_ready (rs := [8]) (by kernel_rfl) (by simp) ?_
        refine AllReadyH.cons rfl (fun K hK => ?_) AllReadyH.nil
        rw [if_pos (by kernel_rfl)]
        refine wp_store_row 52 _ _ rfl p0 #[.int .i64 1, .slice aov1 nv1 cv1] rfl rfl 52 zeroTab P0.out infoTable rfl (oneTab _ _ _ _) ?_
        refine hK.out _ _ (below_setRow hH B0.out _) (fun hH => ?_)
        clear hK K
        try simp only [Act.put, List.getElem_toArray, List.getElem_cons_succ, List.getElem_cons_zero, List.setIfInBounds_toArray, List.set_cons_zero, List.set_cons_succ]
        refine wpAnyH_take (i := 9) (v := ?_) rfl (by kernel_rfl) (by kernel_rfl) (by kernel_rfl) (fun _ _ _ h => h) (Or.inl ⟨by kernel_rfl, ?_⟩) hH ?_
        rotate_left
        · intro W hS
          go_simp
          first | done | with_reducible rfl
        simp only [Act.put, List.getElem_toArray, List.getElem_cons_succ, List.getElem_cons_zero, List.setIfInBounds_toArray, List.set_cons_zero, List.set_cons_succ]
        refine wpAnyH_take (i := 10) (v := ?_) rfl (by kernel_rfl) (by kernel_rfl) (by kernel_rfl) (fun _ _ _ h => h) (Or.inl ⟨by kernel_rfl, ?_⟩) hH ?_
        rotate_left
        · intro W hS
          go_simp
          first | done | with_reducible rfl
        simp only [Act.put, List.getElem_toArray, List.getElem_cons_succ, List.getElem_cons_zero, List.setIfInBounds_toArray, List.set_cons_zero, List.set_cons_succ]
        refine wpAnyH_done (by kernel_rfl) ?_ _
        go_wp2_with fail
        go_meet
        case rel => exact ⟨p0, .slice aov1 nv1 cv1, _, L1, rfl, rfl, rfl, HK1.out.1, Nxt.made HK1.out.2.1 HK1.out.2.2 C1.out P0.out (by have h1 := T1.out; have h2 := A1_0.out; omega), chainP HB.out hH, hH⟩
      · obtain ⟨x1, hWx1⟩ : ∃ W, W = x0.alloc (.cells zeroTab 52) := ⟨_, rfl⟩
        have hbx1 : Below x0.heap.size x0 x1 := by rw [hWx1]; exact below_alloc _ _
        obtain ⟨p0, hp0⟩ : ∃ p, x0.heap.size = p := ⟨_, rfl⟩
        have P0 : Hid (rowIs x1 p0 zeroTab 52) := by rw [hWx1, ← hp0]; exact rowIs_new _ _ _
        have B0 := hid (show W2.heap.size ≤ p0 from by have := hH.size; omega)
        go_simp
        rw [← hWx1]
        try rw [hp0]
        have A0_0 := hid (show n0 ≤ p0 from by have := C0.out.size; have := T0.out; omega)
        clear hWx1 hp0
        have C0 := hid (chainP C0.out hbx1)
        refine hK.out _ _ (chainP hH hbx1) (fun hH => ?_)
        clear hK K hbx1
        try simp only [Act.put, List.getElem_toArray, List.getElem_cons_succ, List.getElem_cons_zero, List.setIfInBounds_toArray, List.set_cons_zero, List.set_cons_succ]
        refine wpAnyH_ready (rs := [2]) (by kernel_rfl) (by simp) ?_
        refine AllReadyH.cons rfl (fun K hK => ?_) AllReadyH.nil
        go_simp
        refine (next_any 0 (.slice none 0 0) (.slice ao1 1 c1) [] [(planS1, hv1)] _ (ReadsR.nil _ 0) fewR_nil (HR1.out.1.below hH) HR1.out.2 (HM.out.below (chainP HB.out hH)) (HT.out.below (chainP HB.out hH))).mono ?_
        rintro e x2 hq
        have hbx2 := hq.2
        obtain ⟨v1, L1, va1, rfl, hl1, ho1, hw1⟩ := next_first hq
        obtain ⟨ba1, da1, rfl⟩ := ownsRow_formN hw1
        obtain ⟨aov1, cv1, hfv1⟩ := ownsRow_formN ho1.own
        obtain ⟨nv1, hnv1⟩ : ∃ n, L1.length = n := ⟨_, rfl⟩
        rw [hnv1] at hfv1
        subst hfv1
        have HK1 := hid (And.intro hl1 (And.intro ho1 hw1))
        clear hl1 ho1 hw1 hnv1 hq
        obtain ⟨m1, hm1⟩ : ∃ m : Nat, x1.heap.size = m := ⟨_, rfl⟩
        obtain ⟨n1, hn1⟩ : ∃ n : Nat, x2.heap.size = n := ⟨_, rfl⟩
        have T1 := hid (And.intro hm1 (And.intro hn1 (And.intro hbx2.size hH.size)))
        clear hm1 hn1
        have A1_0 := hid (show p0 < m1 from by have := P0.out.lt; have := T1.out; omega)
        have P0 := hid (P0.out.below hbx2)
        have C0 := hid (chainP C0.out hbx2)
        have C1 := hid (Below.refl x2.heap.size x2)
        refine hK.out _ _ (chainP hH hbx2) (fun hH => ?_)
        clear hK K hbx2
        try simp only [Act.put, List.getElem_toArray, List.getElem_cons_succ, List.getElem_cons_zero, List.setIfInBounds_toArray, List.set_cons_zero, List.set_cons_succ]
        refine wpAnyH_take (i := 3) (v := ?_) rfl (by kernel_rfl) (by kernel_rfl) (by kernel_rfl) (fun _ _ _ h => h) (Or.inl ⟨by kernel_rfl, ?_⟩) hH ?_
        rotate_left
        · intro W hS
          go_simp
          first | done | with_reducible rfl
        simp only [Act.put, List.getElem_toArray, List.getElem_cons_succ, List.getElem_cons_zero, List.setIfInBounds_toArray, List.set_cons_zero, List.set_cons_succ]
        refine wpAnyH_take (i := 4) (v := ?_) rfl (by kernel_rfl) (by kernel_rfl) (by kernel_rfl) (fun _ _ _ h => h) (Or.inl ⟨by kernel_rfl, ?_⟩) hH ?_
        rotate_left
        · intro W hS
          go_simp
          first | done | with_reducible rfl
        simp only [Act.put, List.getElem_toArray, List.getElem_cons_succ, List.getElem_cons_zero, List.setIfInBounds_toArray, List.set_cons_zero, List.set_cons_succ]
        refine wpAnyH_take (i := 5) (v := ?_) rfl (by kernel_rfl) (by kernel_rfl) (by kernel_rfl) (fun _ _ _ h => h) (Or.inl ⟨by kernel_rfl, ?_⟩) hH ?_
        rotate_left
        · intro W hS
          go_simp
          first | done | with_reducible rfl
        simp only [Act.put, List.getElem_toArray, List.getElem_cons_succ, List.getElem_cons_zero, List.setIfInBounds_toArray, List.set_cons_zero, List.set_cons_succ]
        refine wpAnyH_take (i := 6) (v := ?_) rfl (by kernel_rfl) (by kernel_rfl) (by kernel_rfl) (fun _ _ _ h => h) (Or.inl ⟨by kernel_rfl, ?_⟩) hH ?_
        rotate_left
        · intro W hS
          go_simp
          first | done | with_reducible rfl
        simp only [Act.put, List.getElem_toArray, List.getElem_cons_succ, List.getElem_cons_zero, List.setIfInBounds_toArray, List.set_cons_zero, List.set_cons_succ]
        refine wpAnyH_ready (rs := [8]) (by kernel_rfl) (by simp) ?_
        refine AllReadyH.cons rfl (fun K hK => ?_) AllReadyH.nil
        rw [if_pos (by kernel_rfl)]
        refine wp_store_row 52 _ _ rfl p0 #[.int .i64 1, .slice aov1 nv1 cv1] rfl rfl 52 zeroTab P0.out infoTable rfl (oneTab _ _ _ _) ?_
        refine hK.out _ _ (below_setRow hH B0.out _) (fun hH => ?_)
        clear hK K
        try simp only [Act.put, List.getElem_toArray, List.getElem_cons_succ, List.getElem_cons_zero, List.setIfInBounds_toArray, List.set_cons_zero, List.set_cons_succ]
        refine wpAnyH_take (i := 9) (v := ?_) rfl (by kernel_rfl) (by kernel_rfl) (by kernel_rfl) (fun _ _ _ h => h) (Or.inl ⟨by kernel_rfl, ?_⟩) hH ?_
        rotate_left
        · intro W hS
          go_simp
          first | done | with_reducible rfl
        simp only [Act.put, List.getElem_toArray, List.getElem_cons_succ, List.getElem_cons_zero, List.setIfInBounds_toArray, List.set_cons_zero, List.set_cons_succ]
        refine wpAnyH_take (i := 10) (v := ?_) rfl (by kernel_rfl) (by kernel_rfl) (by kernel_rfl) (fun _ _ _ h => h) (Or.inl ⟨by kernel_rfl, ?_⟩) hH ?_
        rotate_left
        · intro W hS
          go_simp
          first | done | with_reducible rfl
        simp only [Act.put, List.getElem_toArray, List.getElem_cons_succ, List.getElem_cons_zero, List.setIfInBounds_toArray, List.set_cons_zero, List.set_cons_succ]
        refine wpAnyH_done (by kernel_rfl) ?_ _
        go_wp2_with fail
        go_meet
        case rel => exact ⟨p0, .slice aov1 nv1 cv1, _, L1, rfl, rfl, rfl, HK1.out.1, Nxt.made HK1.out.2.1 HK1.out.2.2 C1.out P0.out (by have h1 := T1.out; have h2 := A1_0.out; omega), chainP HB.out hH, hH⟩
    · obtain ⟨x0, hWx0⟩ : ∃ W, W = w0.alloc (.cells zeroTab 52) := ⟨_, rfl⟩
      have hbx0 : Below w0.heap.size w0 x0 := by rw [hWx0]; exact below_alloc _ _
      obtain ⟨p0, hp0⟩ : ∃ p, w0.heap.size = p := ⟨_, rfl⟩
      have P0 : Hid (rowIs x0 p0 zeroTab 52) := by rw [hWx0, ← hp0]; exact rowIs_new _ _ _
      have B0 := hid (show W2.heap.size ≤ p0 from by have := hH.size; omega)
      go_simp
      rw [← hWx0]
      try rw [hp0]
      clear hWx0 hp0
      refine hK.out _ _ (chainP hH hbx0) (fun hH => ?_)
      clear hK K hbx0
      try simp only [Act.put, List.getElem_toArray, List.getElem_cons_succ, List.getElem_cons_zero, List.setIfInBounds_toArray, List.set_cons_zero, List.set_cons_succ]
      refine wpAnyH_ready (rs := [0]) (by kernel_rfl) (by simp) ?_
      refine AllReadyH.cons rfl (fun K hK => ?_) AllReadyH.nil
      go_simp
      refine (first_any _).mono ?_
      rintro e x1 ⟨rfl, hbx1⟩
      obtain ⟨m0, hm0⟩ : ∃ m : Nat, x0.heap.size = m := ⟨_, rfl⟩
      obtain ⟨n0, hn0⟩ : ∃ n : Nat, x1.heap.size = n := ⟨_, rfl⟩
      have T0 := hid (And.intro hm0 (And.intro hn0 (And.intro hbx1.size hH.size)))
      clear hm0 hn0
      have A0_0 := hid (show p0 < m0 from by have := P0.out.lt; have := T0.out; omega)
      have P0 := hid (P0.out.below hbx1)
      have C0 := hid (Below.refl x1.heap.size x1)
      refine hK.out _ _ (chainP hH hbx1) (fun hH => ?_)
      clear hK K hbx1
      try simp only [Act.put, List.getElem_toArray, List.getElem_cons_succ, List.getElem_cons_zero, List.setIfInBounds_toArray, List.set_cons_zero, List.set_cons_succ]
      refine wpAnyH_ready (rs := [2]) (by kernel_rfl) (by simp) ?_
      refine AllReadyH.cons rfl (fun K hK => ?_) AllReadyH.nil
      go_simp
      refine (next_any 0 (.slice none 0 0) (.slice ao1 1 c1) [] [(planS1, hv1)] _ (ReadsR.nil _ 0) fewR_nil (HR1.out.1.below hH) HR1.out.2 (HM.out.below (chainP HB.out hH)) (HT.out.below (chainP HB.out hH))).mono ?_
      rintro e x2 hq
      have hbx2 := hq.2
      obtain ⟨v1, L1, va1, rfl, hl1, ho1, hw1⟩ := next_first hq
      obtain ⟨ba1, da1, rfl⟩ := ownsRow_formN hw1
      obtain ⟨aov1, cv1, hfv1⟩ := ownsRow_formN ho1.own
      obtain ⟨nv1, hnv1⟩ : ∃ n, L1.length = n := ⟨_, rfl⟩
      rw [hnv1] at hfv1
      subst hfv1
      have HK1 := hid (And.intro hl1 (And.intro ho1 hw1))
      clear hl1 ho1 hw1 hnv1 hq
      obtain ⟨m1, hm1⟩ : ∃ m : Nat, x1.heap.size = m := ⟨_, rfl⟩
      obtain ⟨n1, hn1⟩ : ∃ n : Nat, x2.heap.size = n := ⟨_, rfl⟩
      have T1 := hid (And.intro hm1 (And.intro hn1 (And.intro hbx2.size hH.size)))
      clear hm1 hn1
      have A1_0 := hid (show p0 < m1 from by have := P0.out.lt; have := T1.out; omega)
      have P0 := hid (P0.out.below hbx2)
      have C0 := hid (chainP C0.out hbx2)
      have C1 := hid (Below.refl x2.heap.size x2)
      refine hK.out _ _ (chainP hH hbx2) (fun hH => ?_)
      clear hK K hbx2
      try simp only [Act.put, List.getElem_toArray, List.getElem_cons_succ, List.getElem_cons_zero, List.setIfInBounds_toArray, List.set_cons_zero, List.set_cons_succ]
      refine wpAnyH_take (i := 3) (v := ?_) rfl (by kernel_rfl) (by kernel_rfl) (by kernel_rfl) (fun _ _ _ h => h) (Or.inl ⟨by kernel_rfl, ?_⟩) hH ?_
      rotate_left
      · intro W hS
        go_simp
        first | done | with_reducible rfl
      simp only [Act.put, List.getElem_toArray, List.getElem_cons_succ, List.getElem_cons_zero, List.setIfInBounds_toArray, List.set_cons_zero, List.set_cons_succ]
      refine wpAnyH_take (i := 4) (v := ?_) rfl (by kernel_rfl) (by kernel_rfl) (by kernel_rfl) (fun _ _ _ h => h) (Or.inl ⟨by kernel_rfl, ?_⟩) hH ?_
      rotate_left
      · intro W hS
        go_simp
        first | done | with_reducible rfl
      simp only [Act.put, List.getElem_toArray, List.getElem_cons_succ, List.getElem_cons_zero, List.setIfInBounds_toArray, List.set_cons_zero, List.set_cons_succ]
      refine wpAnyH_take (i := 5) (v := ?_) rfl (by kernel_rfl) (by kernel_rfl) (by kernel_rfl) (fun _ _ _ h => h) (Or.inl ⟨by kernel_rfl, ?_⟩) hH ?_
      rotate_left
      · intro W hS
        go_simp
        first | done | with_reducible rfl
      simp only [Act.put, List.getElem_toArray, List.getElem_cons_succ, List.getElem_cons_zero, List.setIfInBounds_toArray, List.set_cons_zero, List.set_cons_succ]
      refine wpAnyH_take (i := 6) (v := ?_) rfl (by kernel_rfl) (by kernel_rfl) (by kernel_rfl) (fun _ _ _ h => h) (Or.inl ⟨by kernel_rfl, ?_⟩) hH ?_
      rotate_left
      · intro W hS
        go_simp
        first | done | with_reducible rfl
      simp only [Act.put, List.getElem_toArray, List.getElem_cons_succ, List.getElem_cons_zero, List.setIfInBounds_toArray, List.set_cons_zero, List.set_cons_succ]
      refine wpAnyH_ready (rs := [8]) (by kernel_rfl) (by simp) ?_
      refine AllReadyH.cons rfl (fun K hK => ?_) AllReadyH.nil
      rw [if_pos (by kernel_rfl)]
      refine wp_store_row 52 _ _ rfl p0 #[.int .i64 1, .slice aov1 nv1 cv1] rfl rfl 52 zeroTab P0.out infoTable rfl (oneTab _ _ _ _) ?_
      refine hK.out _ _ (below_setRow hH B0.out _) (fun hH => ?_)
      clear hK K
      try simp only [Act.put, List.getElem_toArray, List.getElem_cons_succ, List.getElem_cons_zero, List.setIfInBounds_toArray, List.set_cons_zero, List.set_cons_succ]
      refine wpAnyH_take (i := 9) (v := ?_) rfl (by kernel_rfl) (by kernel_rfl) (by kernel_rfl) (fun _ _ _ h => h) (Or.inl ⟨by kernel_rfl, ?_⟩) hH ?_
      rotate_left
      · intro W hS
        go_simp
        first | done | with_reducible rfl
      simp only [Act.put, List.getElem_toArray, List.getElem_cons_succ, List.getElem_cons_zero, List.setIfInBounds_toArray, List.set_cons_zero, List.set_cons_succ]
      refine wpAnyH_take (i := 10) (v := ?_) rfl (by kernel_rfl) (by kernel_rfl) (by kernel_rfl) (fun _ _ _ h => h) (Or.inl ⟨by kernel_rfl, ?_⟩) hH ?_
      rotate_left
      · intro W hS
        go_simp
        first | done | with_reducible rfl
      simp only [Act.put, List.getElem_toArray, List.getElem_cons_succ, List.getElem_cons_zero, List.setIfInBounds_toArray, List.set_cons_zero, List.set_cons_succ]
      refine wpAnyH_done (by kernel_rfl) ?_ _
      go_wp2_with fail
      go_meet
      case rel => exact ⟨p0, .slice aov1 nv1 cv1, _, L1, rfl, rfl, rfl, HK1.out.1, Nxt.made HK1.out.2.1 HK1.out.2.2 C1.out P0.out (by have h1 := T1.out; have h2 := A1_0.out; omega), chainP HB.out hH, hH⟩
  case rest =>
  rename World => w8
  obtain ⟨p, v, va, L, rfl, rfl, rfl, hl1, hn1, hb8, hb82⟩ := hcut
  obtain ⟨hx1, rfl⟩ := tT_one hl1
  clear hl1
  obtain ⟨br1, cr1, rfl, -, y1⟩ := rule_one hn1.rules.own rfl
  obtain ⟨ba1, ca1, rfl, -, y2, y3⟩ := act_one hn1.acts rfl
  have hrr := hn1.rules.readsR
  have hR := R2.out _ hb82
  have hT := hn1.row
  have hC := next_any 1 (.slice (some ⟨br1, 0, none⟩) 1 cr1) (.slice ao2 1 c2) [(planS1, hx1, 1)] [(planS2, hv2)] w8 hrr.1 (fewR_plan (hrr.2 _ (List.mem_singleton.2 rfl)) (by decide) rfl) (HR2.out.1.below hb82) HR2.out.2 (HM.out.below hb8) (HT.out.below hb8)
  have HC := hid hC
  have HN := hid (And.intro hn1 (And.intro hb8 (And.intro y1 (And.intro y2 y3))))
  clear hn1 hb8 hb82 y1 y2 y3 hrr hC
  go_wp2_with (first
    | (refine wpList_load_row rfl 52 _ rfl p rfl 52 _ (0, 0) _ hT Tryz.underlying52 rfl infoTable ?_)
    | (refine wpList_load_row rfl 25 _ rfl w2.heap.size rfl 25 _ (0, 0) _ hR Tryz.underlying25 rfl infoCfg ?_))
  refine HC.out.mono ?_
  rintro e w9 hq
  have hb9 := hq.2
  obtain ⟨v2, L2, va2, rfl, hl2, ho2, hw2⟩ := next_second hq
  clear hq
  obtain ⟨hx2, rfl⟩ := tT_one hl2
  clear hl2
  obtain ⟨br2, cr2, rfl, hbr2, z1⟩ := rule_one ho2.own rfl
  obtain ⟨ba2, ca2, rfl, hba2, z2, z3⟩ := act_one hw2 rfl
  have hrow := rowIs_new w9 #[.int .i64 2, .slice (some ⟨br2, 0, none⟩) 1 cr2] 52
  obtain ⟨W9, hW9⟩ : ∃ W, w9.alloc (.cells #[.int .i64 2, .slice (some ⟨br2, 0, none⟩) 1 cr2] 52) = W := ⟨_, rfl⟩
  have hb99 : Below w9.heap.size w9 W9 := by rw [← hW9]; exact below_alloc _ _
  rw [hW9] at hrow
  have hA := HN.out.1.row.below (chainP hb9 hb99)
  have t1 := hA.cell 1
  have t2 := hrow.cell 0
  have t3 := hrow.cell 1
  have x1 := kept HN.out.2.2.1 (chainP hb9 hb99)
  have x2 := kept HN.out.2.2.2.1 (chainP hb9 hb99)
  have x3 := kept HN.out.2.2.2.2 (chainP hb9 hb99)
  have u1 := kept z1 hb99
  have u2 := kept z2 hb99
  have u3 := kept z3 hb99
  have eq1 : ∀ W, (binOp .eql 48 (.agg #[.int .i64 3, .string ⟨#[97]⟩]) (.agg #[.int .i64 3, .string ⟨#[97]⟩])).run Tryz.prog W = .ok (.bool true) W := fun W => eqlAct1 3 ⟨#[97]⟩ W
  have HBE := hid (chainP HN.out.2.1 (chainP hb9 hb99))
  clear hT hR z1 z2 z3 hb9 hb99 hrow hA ho2 hw2 hbr2 hba2
  subst hW9
  go_wp2_with fail
  go_ret
  exact ⟨rfl, HBE.out⟩
end Go.Proofs.YtenijpcjemdhfaaGreatDoor
