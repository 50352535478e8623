/-
  The anchor of layer 9's statements.
-/
import Derived.Test.YtffenndchmcncaaGreatDoorConfL
import Derived.Test.YtffenndchmcncaaGreatDoorConfZ
import Derived.Test.YtffenndchmcncaaGreatDoorPureAll3
namespace Go.Proofs.YtffenndchmcncaaGreatDoor
open Go.RowKit Go.Pantry

/-- a text's config as it is read, and its fault -/
def ReadQ (w : World) (T : List UInt8) (e : Ending) (w' : World) : Prop :=
  ∃ ao c L, e = .returned (.tuple #[.agg #[.slice ao L.length c], .agg #[.int .i64 ((readM T).2.1 : Int), .int .i64 ((readM T).2.2 : Int)]]) ∧ L.map (·.1) = (readM T).1 ∧ SitesAt w' w.heap.size (.slice ao L.length c) L ∧ Below w.heap.size w w'
theorem readQ_any (T : List UInt8) (w : World) (hm : MaxOk w) (ht : Tab10 w) :
    Calls Tryz.prog 12 #[strV T] w (ReadQ w T) := by
  refine (readConf_any T w hm ht).mono ?_
  rintro e w' ⟨sv, L, rfl, hL, hs, hb⟩
  obtain ⟨ao, c, rfl⟩ := ownsRow_formN hs.own
  exact ⟨ao, c, L, rfl, hL, hs, hb⟩
theorem below2 {w w' : World} (o o' : Obj) (h : Below w.heap.size w w') : Below w.heap.size w ((w'.alloc o).alloc o') := chainP (chainP h (below_alloc _ _)) (below_alloc _ _)
theorem cellsOf {W : World} {g : Nat} {cs : Array Value} {t : TypeId} (h : rowIs W g cs t) : ∀ j, W.cell? ⟨g, j, none⟩ = cs[j]? := fun j => h.cell j
set_option maxRecDepth 100000 in
set_option maxHeartbeats 2000000 in
theorem anchor_any (w : World) (hm : MaxOk w) (ht : Tab10 w) :
    Calls Tryz.prog 11 #[] w fun e w' => e = .returned (.bool true) ∧ Below w.heap.size w w' := by
  have HM := hid hm
  have HT := hid ht
  have C1 := hid (readQ_any anchT1 w hm ht)
  clear hm ht
  go_enter Tryz.func11, Tryz.ntmps11
  go_wp2_with fail
  refine C1.out.mono ?_
  rintro e w1 ⟨ao1, c1, L1, rfl, hL1, hs1, hb1⟩
  rw [anch1] at hL1 ⊢
  have hlen : L1.length = 1 := by have := congrArg List.length hL1; simpa using this
  obtain ⟨⟨s1, hv1⟩, rfl⟩ := List.length_eq_one_iff.1 hlen
  clear hlen
  have hse : s1 = anchS := by simpa using hL1
  subst hse
  obtain ⟨b, off, hao, hcell⟩ := hs1.readsP.at_ (j := 0) (x := (anchS.z, hv1)) rfl
  subst hao
  obtain ⟨ao9, c9, hv9⟩ := (hs1.heads _ (List.mem_singleton.2 rfl)).reads.form
  simp only at hv9
  subst hv9
  have hr1 := rowIs_new w1 #[.slice (some ⟨b, off, none⟩) 1 c1] 25
  have hr2 := rowIs_new (w1.alloc (.cells #[.slice (some ⟨b, off, none⟩) 1 c1] 25)) #[.int .i64 0, .int .i64 0] 28
  obtain ⟨W1, hW1⟩ : ∃ W, (w1.alloc (.cells #[.slice (some ⟨b, off, none⟩) 1 c1] 25)).alloc (.cells #[.int .i64 0, .int .i64 0] 28) = W := ⟨_, rfl⟩
  have hB1 : Below w.heap.size w W1 := by rw [← hW1]; exact below2 _ _ hb1
  have hC1 : Below w1.heap.size w1 W1 := by rw [← hW1]; exact chainP (below_alloc _ _) (below_alloc _ _)
  have q1 : rowIs W1 w1.heap.size #[.slice (some ⟨b, off, none⟩) 1 c1] 25 := by rw [← hW1]; exact hr1.below (below_alloc _ _)
  have q2 : rowIs W1 (w1.heap.size + 1) #[.int .i64 0, .int .i64 0] 28 := by rw [← hW1]; simpa using hr2
  have C2 := hid (readQ_any anchT2 W1 (HM.out.below hB1) (HT.out.below hB1))
  have HQ := hid (And.intro q1 (And.intro q2 (And.intro hB1 (And.intro hC1 hcell))))
  have HW1 := hid hW1
  clear hL1 hs1 hb1 hcell hr1 hr2 hW1 hB1 hC1 q1 q2
  go_wp2_with fail
  change Calls _ _ _ ((w1.alloc (.cells #[.slice (some ⟨b, off, none⟩) 1 c1] 25)).alloc (.cells #[.int .i64 0, .int .i64 0] 28)) _
  rw [HW1.out]
  refine C2.out.mono ?_
  rintro e w2 ⟨ao2, c2, L2, rfl, hL2, hs2, hb2⟩
  rw [anch2] at hL2 ⊢
  have hn2 : L2 = [] := List.map_eq_nil_iff.1 hL2
  subst hn2
  obtain ⟨g1, hg1⟩ : ∃ g, w1.heap.size = g := ⟨_, rfl⟩
  obtain ⟨g2, hg2⟩ : ∃ g, g1 + 1 = g := ⟨_, rfl⟩
  have hr3 := rowIs_new w2 #[.slice ao2 0 c2] 25
  have hr4 : rowIs ((w2.alloc (.cells #[.slice ao2 0 c2] 25)).alloc (.cells #[.int .i64 11, .int .i64 2] 28)) (w2.heap.size + 1) #[.int .i64 11, .int .i64 2] 28 := rowIs_new_at _ _ _ _ (by simp)
  have hB2 := below2 (.cells #[.slice ao2 0 c2] 25) (.cells #[.int .i64 11, .int .i64 2] 28) hb2
  obtain ⟨h1, h2, h3, h4, h5⟩ := HQ.out
  rw [hg1] at h1 h2
  rw [hg2] at h2
  have t1 := (h1.below hB2).cell 0
  have t2 := (h2.below hB2).cell 0
  have t3 := (h2.below hB2).cell 1
  have t4 := hr4.cell 0
  have t5 := hr4.cell 1
  have x0 := kept (kept (h5 0 _ rfl) h4) hB2
  have x1 := kept (kept (h5 1 _ rfl) h4) hB2
  have x2 := kept (kept (h5 2 _ rfl) h4) hB2
  have x3 := kept (kept (h5 3 _ rfl) h4) hB2
  have x4 := kept (kept (h5 4 _ rfl) h4) hB2
  have x5 := kept (kept (h5 5 _ rfl) h4) hB2
  rw [show off + 0 * 7 + 0 = off by omega] at x0
  rw [show off + 0 * 7 + 1 = off + 1 by omega] at x1
  rw [show off + 0 * 7 + 2 = off + 2 by omega] at x2
  rw [show off + 0 * 7 + 3 = off + 3 by omega] at x3
  rw [show off + 0 * 7 + 4 = off + 4 by omega] at x4
  rw [show off + 0 * 7 + 5 = off + 5 by omega] at x5
  have HBE := hid (chainP h3 hB2)
  clear hL2 hs2 hb2 hr3 hr4 hB2 h1 h2 h3 h4 h5
  go_wp2_with fail
  go_ret
  exact ⟨rfl, HBE.out⟩
end Go.Proofs.YtffenndchmcncaaGreatDoor
