/-
  Contracts of package control: take.
-/
import Derived.Test.YtofkiihajhkmdaaDoorCtlA
import Derived.Test.YtofkiihajhkmdaaDoorPureCtl3
import Derived.Deep.RegionHeld3
namespace Go.Proofs.YtofkiihajhkmdaaDoor
open Go.RowKit Go.Pantry

/-- what it leaves: the box has this, and all else is as it was -/
def Took (g : Nat) (w : World) (c : Ctl) (w' : World) : Prop :=
  rowIs w' g #[.bool c.noStore, .bool c.noCache, .bool c.priv, .bool c.pub, .bool c.must, .bool c.only, .int .i64 (intO c.maxAge), .int .i64 (intO c.shared), .int .i64 (intO c.minFresh), .int .i64 (intO c.maxStale)] 29 ∧ w.grownBy w' (some g)

set_option maxRecDepth 4000 in
set_option maxHeartbeats 8000000 in
theorem take_any (g : Nat) (c : Ctl) (e : List UInt8) (w : World) (he : e.length < 4294967296) (hg : rowIs w g #[.bool c.noStore, .bool c.noCache, .bool c.priv, .bool c.pub, .bool c.must, .bool c.only, .int .i64 (intO c.maxAge), .int .i64 (intO c.shared), .int .i64 (intO c.minFresh), .int .i64 (intO c.maxStale)] 29) :
    Calls Tryd.prog 23 #[.pointer (some ⟨g, 0, none⟩), strV e] w fun r w' => r = .returned (.tuple #[]) ∧ Took g w (takeC c e) w' := by
  have hnl := nameE_len e
  have hal := argE_len e
  have c1 := fun W => Cut_any e W he
  have c2 := fun W => Lower_any ⟨(nameE e).toArray⟩ W (by rw [szL]; unfold maxLen; omega)
  rw [dtL] at c2
  obtain ⟨d, hd⟩ : ∃ d, takeC c e = d := ⟨_, rfl⟩
  have hd2 := hd
  rw [hd2]
  unfold takeC dirE at hd
  have C1 := hid c1
  generalize hln : lowerL (nameE e) = ln at c2 hd
  have C2 := hid c2
  have HD := hid hd
  clear c1 c2 hd hd2 hln
  rcases name_cases ln with h | h | h | h | h | h | h | h | h | h | h | h
  · subst h
    have hv : d = { c with noStore := true } := by
      rw [← HD.out]
      simp only [show (nNoStore == nNoStore) = true from by decide, show (nNoStore == nNoCache) = false from by decide, show (nNoStore == nPrivate) = false from by decide, show (nNoStore == nPublic) = false from by decide, show (nNoStore == nMust) = false from by decide, show (nNoStore == nProxy) = false from by decide, show (nNoStore == nOnly) = false from by decide, show (nNoStore == nMaxAge) = false from by decide, show (nNoStore == nShared) = false from by decide, show (nNoStore == nMinFresh) = false from by decide, show (nNoStore == nMaxStale) = false from by decide, Bool.or_false, Bool.or_true, Bool.true_or, Bool.false_or, Bool.false_eq_true, if_false, comb_none]
    clear HD
    subst hv
    unfold nNoStore at C2
    go_enter Tryd.func23, Tryd.ntmps23
    go_wp2_with fail
    refine (C1.out _).mono ?_
    rintro r w1 ⟨rfl, hb1⟩
    go_wp2_with fail
    refine (C2.out _).mono ?_
    rintro r w2 ⟨rfl, hb2⟩
    have hgr := grown_trans (below_grown g hb1) (below_grown g hb2)
    have hg2 := (hg.below hb1).below hb2
    have hc : w2.cell? ⟨g, 0, none⟩ = some (.bool c.noStore) := hg2.cell 0
    have hf := hg2.free 0
    go_wp2_with fail
    go_end0
    exact ⟨rfl, hg2.setCell 0 (.bool true), grown_set hgr _ _⟩
  · subst h
    have hv : d = { c with noCache := true } := by
      rw [← HD.out]
      simp only [show (nNoCache == nNoStore) = false from by decide, show (nNoCache == nNoCache) = true from by decide, show (nNoCache == nPrivate) = false from by decide, show (nNoCache == nPublic) = false from by decide, show (nNoCache == nMust) = false from by decide, show (nNoCache == nProxy) = false from by decide, show (nNoCache == nOnly) = false from by decide, show (nNoCache == nMaxAge) = false from by decide, show (nNoCache == nShared) = false from by decide, show (nNoCache == nMinFresh) = false from by decide, show (nNoCache == nMaxStale) = false from by decide, Bool.or_false, Bool.or_true, Bool.true_or, Bool.false_or, Bool.false_eq_true, if_false, comb_none]
    clear HD
    subst hv
    unfold nNoCache at C2
    go_enter Tryd.func23, Tryd.ntmps23
    go_wp2_with fail
    refine (C1.out _).mono ?_
    rintro r w1 ⟨rfl, hb1⟩
    go_wp2_with fail
    refine (C2.out _).mono ?_
    rintro r w2 ⟨rfl, hb2⟩
    have hgr := grown_trans (below_grown g hb1) (below_grown g hb2)
    have hg2 := (hg.below hb1).below hb2
    have hc : w2.cell? ⟨g, 1, none⟩ = some (.bool c.noCache) := hg2.cell 1
    have hf := hg2.free 1
    go_wp2_with fail
    go_end0
    exact ⟨rfl, hg2.setCell 1 (.bool true), grown_set hgr _ _⟩
  · subst h
    have hv : d = { c with priv := true } := by
      rw [← HD.out]
      simp only [show (nPrivate == nNoStore) = false from by decide, show (nPrivate == nNoCache) = false from by decide, show (nPrivate == nPrivate) = true from by decide, show (nPrivate == nPublic) = false from by decide, show (nPrivate == nMust) = false from by decide, show (nPrivate == nProxy) = false from by decide, show (nPrivate == nOnly) = false from by decide, show (nPrivate == nMaxAge) = false from by decide, show (nPrivate == nShared) = false from by decide, show (nPrivate == nMinFresh) = false from by decide, show (nPrivate == nMaxStale) = false from by decide, Bool.or_false, Bool.or_true, Bool.true_or, Bool.false_or, Bool.false_eq_true, if_false, comb_none]
    clear HD
    subst hv
    unfold nPrivate at C2
    go_enter Tryd.func23, Tryd.ntmps23
    go_wp2_with fail
    refine (C1.out _).mono ?_
    rintro r w1 ⟨rfl, hb1⟩
    go_wp2_with fail
    refine (C2.out _).mono ?_
    rintro r w2 ⟨rfl, hb2⟩
    have hgr := grown_trans (below_grown g hb1) (below_grown g hb2)
    have hg2 := (hg.below hb1).below hb2
    have hc : w2.cell? ⟨g, 2, none⟩ = some (.bool c.priv) := hg2.cell 2
    have hf := hg2.free 2
    go_wp2_with fail
    go_end0
    exact ⟨rfl, hg2.setCell 2 (.bool true), grown_set hgr _ _⟩
  · subst h
    have hv : d = { c with pub := true } := by
      rw [← HD.out]
      simp only [show (nPublic == nNoStore) = false from by decide, show (nPublic == nNoCache) = false from by decide, show (nPublic == nPrivate) = false from by decide, show (nPublic == nPublic) = true from by decide, show (nPublic == nMust) = false from by decide, show (nPublic == nProxy) = false from by decide, show (nPublic == nOnly) = false from by decide, show (nPublic == nMaxAge) = false from by decide, show (nPublic == nShared) = false from by decide, show (nPublic == nMinFresh) = false from by decide, show (nPublic == nMaxStale) = false from by decide, Bool.or_false, Bool.or_true, Bool.true_or, Bool.false_or, Bool.false_eq_true, if_false, comb_none]
    clear HD
    subst hv
    unfold nPublic at C2
    go_enter Tryd.func23, Tryd.ntmps23
    go_wp2_with fail
    refine (C1.out _).mono ?_
    rintro r w1 ⟨rfl, hb1⟩
    go_wp2_with fail
    refine (C2.out _).mono ?_
    rintro r w2 ⟨rfl, hb2⟩
    have hgr := grown_trans (below_grown g hb1) (below_grown g hb2)
    have hg2 := (hg.below hb1).below hb2
    have hc : w2.cell? ⟨g, 3, none⟩ = some (.bool c.pub) := hg2.cell 3
    have hf := hg2.free 3
    go_wp2_with fail
    go_end0
    exact ⟨rfl, hg2.setCell 3 (.bool true), grown_set hgr _ _⟩
  · subst h
    have hv : d = { c with must := true } := by
      rw [← HD.out]
      simp only [show (nMust == nNoStore) = false from by decide, show (nMust == nNoCache) = false from by decide, show (nMust == nPrivate) = false from by decide, show (nMust == nPublic) = false from by decide, show (nMust == nMust) = true from by decide, show (nMust == nProxy) = false from by decide, show (nMust == nOnly) = false from by decide, show (nMust == nMaxAge) = false from by decide, show (nMust == nShared) = false from by decide, show (nMust == nMinFresh) = false from by decide, show (nMust == nMaxStale) = false from by decide, Bool.or_false, Bool.or_true, Bool.true_or, Bool.false_or, Bool.false_eq_true, if_false, comb_none]
    clear HD
    subst hv
    unfold nMust at C2
    go_enter Tryd.func23, Tryd.ntmps23
    go_wp2_with fail
    refine (C1.out _).mono ?_
    rintro r w1 ⟨rfl, hb1⟩
    go_wp2_with fail
    refine (C2.out _).mono ?_
    rintro r w2 ⟨rfl, hb2⟩
    have hgr := grown_trans (below_grown g hb1) (below_grown g hb2)
    have hg2 := (hg.below hb1).below hb2
    have hc : w2.cell? ⟨g, 4, none⟩ = some (.bool c.must) := hg2.cell 4
    have hf := hg2.free 4
    go_wp2_with fail
    go_end0
    exact ⟨rfl, hg2.setCell 4 (.bool true), grown_set hgr _ _⟩
  · subst h
    have hv : d = { c with must := true } := by
      rw [← HD.out]
      simp only [show (nProxy == nNoStore) = false from by decide, show (nProxy == nNoCache) = false from by decide, show (nProxy == nPrivate) = false from by decide, show (nProxy == nPublic) = false from by decide, show (nProxy == nMust) = false from by decide, show (nProxy == nProxy) = true from by decide, show (nProxy == nOnly) = false from by decide, show (nProxy == nMaxAge) = false from by decide, show (nProxy == nShared) = false from by decide, show (nProxy == nMinFresh) = false from by decide, show (nProxy == nMaxStale) = false from by decide, Bool.or_false, Bool.or_true, Bool.true_or, Bool.false_or, Bool.false_eq_true, if_false, comb_none]
    clear HD
    subst hv
    unfold nProxy at C2
    go_enter Tryd.func23, Tryd.ntmps23
    go_wp2_with fail
    refine (C1.out _).mono ?_
    rintro r w1 ⟨rfl, hb1⟩
    go_wp2_with fail
    refine (C2.out _).mono ?_
    rintro r w2 ⟨rfl, hb2⟩
    have hgr := grown_trans (below_grown g hb1) (below_grown g hb2)
    have hg2 := (hg.below hb1).below hb2
    have hc : w2.cell? ⟨g, 4, none⟩ = some (.bool c.must) := hg2.cell 4
    have hf := hg2.free 4
    go_wp2_with fail
    go_end0
    exact ⟨rfl, hg2.setCell 4 (.bool true), grown_set hgr _ _⟩
  · subst h
    have hv : d = { c with only := true } := by
      rw [← HD.out]
      simp only [show (nOnly == nNoStore) = false from by decide, show (nOnly == nNoCache) = false from by decide, show (nOnly == nPrivate) = false from by decide, show (nOnly == nPublic) = false from by decide, show (nOnly == nMust) = false from by decide, show (nOnly == nProxy) = false from by decide, show (nOnly == nOnly) = true from by decide, show (nOnly == nMaxAge) = false from by decide, show (nOnly == nShared) = false from by decide, show (nOnly == nMinFresh) = false from by decide, show (nOnly == nMaxStale) = false from by decide, Bool.or_false, Bool.or_true, Bool.true_or, Bool.false_or, Bool.false_eq_true, if_false, comb_none]
    clear HD
    subst hv
    unfold nOnly at C2
    go_enter Tryd.func23, Tryd.ntmps23
    go_wp2_with fail
    refine (C1.out _).mono ?_
    rintro r w1 ⟨rfl, hb1⟩
    go_wp2_with fail
    refine (C2.out _).mono ?_
    rintro r w2 ⟨rfl, hb2⟩
    have hgr := grown_trans (below_grown g hb1) (below_grown g hb2)
    have hg2 := (hg.below hb1).below hb2
    have hc : w2.cell? ⟨g, 5, none⟩ = some (.bool c.only) := hg2.cell 5
    have hf := hg2.free 5
    go_wp2_with fail
    go_end0
    exact ⟨rfl, hg2.setCell 5 (.bool true), grown_set hgr _ _⟩
  · subst h
    have hv : d = { c with maxAge := comb false c.maxAge (some (secE (argE e) 0)) } := by
      rw [← HD.out]
      simp only [show (nMaxAge == nNoStore) = false from by decide, show (nMaxAge == nNoCache) = false from by decide, show (nMaxAge == nPrivate) = false from by decide, show (nMaxAge == nPublic) = false from by decide, show (nMaxAge == nMust) = false from by decide, show (nMaxAge == nProxy) = false from by decide, show (nMaxAge == nOnly) = false from by decide, show (nMaxAge == nMaxAge) = true from by decide, show (nMaxAge == nShared) = false from by decide, show (nMaxAge == nMinFresh) = false from by decide, show (nMaxAge == nMaxStale) = false from by decide, Bool.or_false, Bool.or_true, Bool.true_or, Bool.false_or, Bool.false_eq_true, if_true, if_false, comb_none, sec_bare]
    clear HD
    subst hv
    unfold nMaxAge at C2
    have c3 := fun W => seconds_any (argE e) 0 0 W rfl (by omega)
    generalize secE (argE e) 0 = sx at c3 ⊢
    have c4 := fun W => least_any c.maxAge sx W
    obtain ⟨xx, hx⟩ : ∃ xx, intO (comb false c.maxAge (some sx)) = xx := ⟨_, rfl⟩
    rw [hx] at c4
    have C3 := hid c3
    have C4 := hid c4
    clear c3 c4
    have HX := hid hx
    clear hx
    go_enter Tryd.func23, Tryd.ntmps23
    go_wp2_with fail
    refine (C1.out _).mono ?_
    rintro r w1 ⟨rfl, hb1⟩
    go_wp2_with fail
    refine (C2.out _).mono ?_
    rintro r w2 ⟨rfl, hb2⟩
    have hgr := grown_trans (below_grown g hb1) (below_grown g hb2)
    have hg2 := (hg.below hb1).below hb2
    have hgd : rowIs w2.drew g #[.bool c.noStore, .bool c.noCache, .bool c.priv, .bool c.pub, .bool c.must, .bool c.only, .int .i64 (intO c.maxAge), .int .i64 (intO c.shared), .int .i64 (intO c.minFresh), .int .i64 (intO c.maxStale)] 29 := hg2
    have hgrd := grown_drew hgr
    have hc : w2.cell? ⟨g, 6, none⟩ = some (.int .i64 (intO c.maxAge)) := hg2.cell 6
    have hf := hg2.free 6
    go_wp2_with fail
    go_region_with (first | (go_at_call 37; refine (C3.out _).mono ?_; rintro r w3 ⟨rfl, hb3⟩; have hg3 := hgd.below hb3; have hgr3 := grown_trans hgrd (below_grown g hb3); have hc3 : w3.cell? ⟨g, 6, none⟩ = some (.int .i64 (intO c.maxAge)) := hg3.cell 6; have hf3 := hg3.free 6) | (go_at_call 36; refine (C4.out _).mono ?_; rintro r w4 ⟨rfl, rfl⟩))
    all_goals
      go_wp2_with fail
      go_end0
      refine ⟨rfl, ?_, grown_set hgr3 _ _⟩
      have hz := hg3.setCell 6 (.int .i64 (xx))
      show rowIs _ g #[.bool c.noStore, .bool c.noCache, .bool c.priv, .bool c.pub, .bool c.must, .bool c.only, .int .i64 (intO (comb false c.maxAge (some sx))), .int .i64 (intO c.shared), .int .i64 (intO c.minFresh), .int .i64 (intO c.maxStale)] _
      rw [HX.out]
      exact hz
  · subst h
    have hv : d = { c with shared := comb false c.shared (some (secE (argE e) 0)) } := by
      rw [← HD.out]
      simp only [show (nShared == nNoStore) = false from by decide, show (nShared == nNoCache) = false from by decide, show (nShared == nPrivate) = false from by decide, show (nShared == nPublic) = false from by decide, show (nShared == nMust) = false from by decide, show (nShared == nProxy) = false from by decide, show (nShared == nOnly) = false from by decide, show (nShared == nMaxAge) = false from by decide, show (nShared == nShared) = true from by decide, show (nShared == nMinFresh) = false from by decide, show (nShared == nMaxStale) = false from by decide, Bool.or_false, Bool.or_true, Bool.true_or, Bool.false_or, Bool.false_eq_true, if_true, if_false, comb_none, sec_bare]
    clear HD
    subst hv
    unfold nShared at C2
    have c3 := fun W => seconds_any (argE e) 0 0 W rfl (by omega)
    generalize secE (argE e) 0 = sx at c3 ⊢
    have c4 := fun W => least_any c.shared sx W
    obtain ⟨xx, hx⟩ : ∃ xx, intO (comb false c.shared (some sx)) = xx := ⟨_, rfl⟩
    rw [hx] at c4
    have C3 := hid c3
    have C4 := hid c4
    clear c3 c4
    have HX := hid hx
    clear hx
    go_enter Tryd.func23, Tryd.ntmps23
    go_wp2_with fail
    refine (C1.out _).mono ?_
    rintro r w1 ⟨rfl, hb1⟩
    go_wp2_with fail
    refine (C2.out _).mono ?_
    rintro r w2 ⟨rfl, hb2⟩
    have hgr := grown_trans (below_grown g hb1) (below_grown g hb2)
    have hg2 := (hg.below hb1).below hb2
    have hgd : rowIs w2.drew g #[.bool c.noStore, .bool c.noCache, .bool c.priv, .bool c.pub, .bool c.must, .bool c.only, .int .i64 (intO c.maxAge), .int .i64 (intO c.shared), .int .i64 (intO c.minFresh), .int .i64 (intO c.maxStale)] 29 := hg2
    have hgrd := grown_drew hgr
    have hc : w2.cell? ⟨g, 7, none⟩ = some (.int .i64 (intO c.shared)) := hg2.cell 7
    have hf := hg2.free 7
    go_wp2_with fail
    go_region_with (first | (go_at_call 37; refine (C3.out _).mono ?_; rintro r w3 ⟨rfl, hb3⟩; have hg3 := hgd.below hb3; have hgr3 := grown_trans hgrd (below_grown g hb3); have hc3 : w3.cell? ⟨g, 7, none⟩ = some (.int .i64 (intO c.shared)) := hg3.cell 7; have hf3 := hg3.free 7) | (go_at_call 36; refine (C4.out _).mono ?_; rintro r w4 ⟨rfl, rfl⟩))
    all_goals
      go_wp2_with fail
      go_end0
      refine ⟨rfl, ?_, grown_set hgr3 _ _⟩
      have hz := hg3.setCell 7 (.int .i64 (xx))
      show rowIs _ g #[.bool c.noStore, .bool c.noCache, .bool c.priv, .bool c.pub, .bool c.must, .bool c.only, .int .i64 (intO c.maxAge), .int .i64 (intO (comb false c.shared (some sx))), .int .i64 (intO c.minFresh), .int .i64 (intO c.maxStale)] _
      rw [HX.out]
      exact hz
  · subst h
    have hv : d = { c with minFresh := comb true c.minFresh (some (secE (argE e) farN)) } := by
      rw [← HD.out]
      simp only [show (nMinFresh == nNoStore) = false from by decide, show (nMinFresh == nNoCache) = false from by decide, show (nMinFresh == nPrivate) = false from by decide, show (nMinFresh == nPublic) = false from by decide, show (nMinFresh == nMust) = false from by decide, show (nMinFresh == nProxy) = false from by decide, show (nMinFresh == nOnly) = false from by decide, show (nMinFresh == nMaxAge) = false from by decide, show (nMinFresh == nShared) = false from by decide, show (nMinFresh == nMinFresh) = true from by decide, show (nMinFresh == nMaxStale) = false from by decide, Bool.or_false, Bool.or_true, Bool.true_or, Bool.false_or, Bool.false_eq_true, if_true, if_false, comb_none, sec_bare]
    clear HD
    subst hv
    unfold nMinFresh at C2
    have c3 := fun W => seconds_any (argE e) farN 2147483648 W rfl (by omega)
    generalize secE (argE e) farN = sx at c3 ⊢
    have hx := intO_max c.minFresh sx
    have C3 := hid c3
    clear c3
    have HX := hid hx
    clear hx
    go_enter Tryd.func23, Tryd.ntmps23
    go_wp2_with fail
    refine (C1.out _).mono ?_
    rintro r w1 ⟨rfl, hb1⟩
    go_wp2_with fail
    refine (C2.out _).mono ?_
    rintro r w2 ⟨rfl, hb2⟩
    have hgr := grown_trans (below_grown g hb1) (below_grown g hb2)
    have hg2 := (hg.below hb1).below hb2
    have hgd : rowIs w2.drew g #[.bool c.noStore, .bool c.noCache, .bool c.priv, .bool c.pub, .bool c.must, .bool c.only, .int .i64 (intO c.maxAge), .int .i64 (intO c.shared), .int .i64 (intO c.minFresh), .int .i64 (intO c.maxStale)] 29 := hg2
    have hgrd := grown_drew hgr
    have hc : w2.cell? ⟨g, 8, none⟩ = some (.int .i64 (intO c.minFresh)) := hg2.cell 8
    have hf := hg2.free 8
    go_wp2_with fail
    go_region_with (go_at_call 37; refine (C3.out _).mono ?_; rintro r w3 ⟨rfl, hb3⟩; have hg3 := hgd.below hb3; have hgr3 := grown_trans hgrd (below_grown g hb3); have hc3 : w3.cell? ⟨g, 8, none⟩ = some (.int .i64 (intO c.minFresh)) := hg3.cell 8; have hf3 := hg3.free 8)
    all_goals
      go_wp2_with fail
      go_end0
      refine ⟨rfl, ?_, grown_set hgr3 _ _⟩
      have hz := hg3.setCell 8 (.int .i64 (max (intO c.minFresh) (sx : Int)))
      show rowIs _ g #[.bool c.noStore, .bool c.noCache, .bool c.priv, .bool c.pub, .bool c.must, .bool c.only, .int .i64 (intO c.maxAge), .int .i64 (intO c.shared), .int .i64 (intO (comb true c.minFresh (some sx))), .int .i64 (intO c.maxStale)] _
      rw [HX.out]
      exact hz
  · subst h
    have hv : d = { c with maxStale := comb false c.maxStale (some (if hasE e then secE (argE e) 0 else farN)) } := by
      rw [← HD.out]
      simp only [show (nMaxStale == nNoStore) = false from by decide, show (nMaxStale == nNoCache) = false from by decide, show (nMaxStale == nPrivate) = false from by decide, show (nMaxStale == nPublic) = false from by decide, show (nMaxStale == nMust) = false from by decide, show (nMaxStale == nProxy) = false from by decide, show (nMaxStale == nOnly) = false from by decide, show (nMaxStale == nMaxAge) = false from by decide, show (nMaxStale == nShared) = false from by decide, show (nMaxStale == nMinFresh) = false from by decide, show (nMaxStale == nMaxStale) = true from by decide, Bool.or_false, Bool.or_true, Bool.true_or, Bool.false_or, Bool.false_eq_true, if_true, if_false, comb_none]
    clear HD
    subst hv
    unfold nMaxStale at C2
    have c3 := fun W => staleness_any (argE e) (hasE e) W (by omega)
    generalize (if hasE e then secE (argE e) 0 else farN) = sx at c3 ⊢
    have c4 := fun W => least_any c.maxStale sx W
    obtain ⟨xx, hx⟩ : ∃ xx, intO (comb false c.maxStale (some sx)) = xx := ⟨_, rfl⟩
    rw [hx] at c4
    have C3 := hid c3
    have C4 := hid c4
    clear c3 c4
    have HX := hid hx
    clear hx
    go_enter Tryd.func23, Tryd.ntmps23
    go_wp2_with fail
    refine (C1.out _).mono ?_
    rintro r w1 ⟨rfl, hb1⟩
    go_wp2_with fail
    refine (C2.out _).mono ?_
    rintro r w2 ⟨rfl, hb2⟩
    have hgr := grown_trans (below_grown g hb1) (below_grown g hb2)
    have hg2 := (hg.below hb1).below hb2
    have hgd : rowIs w2.drew g #[.bool c.noStore, .bool c.noCache, .bool c.priv, .bool c.pub, .bool c.must, .bool c.only, .int .i64 (intO c.maxAge), .int .i64 (intO c.shared), .int .i64 (intO c.minFresh), .int .i64 (intO c.maxStale)] 29 := hg2
    have hgrd := grown_drew hgr
    have hc : w2.cell? ⟨g, 9, none⟩ = some (.int .i64 (intO c.maxStale)) := hg2.cell 9
    have hf := hg2.free 9
    go_wp2_with fail
    go_region_with (first | (go_at_call 38; refine (C3.out _).mono ?_; rintro r w3 ⟨rfl, hb3⟩; have hg3 := hgd.below hb3; have hgr3 := grown_trans hgrd (below_grown g hb3); have hc3 : w3.cell? ⟨g, 9, none⟩ = some (.int .i64 (intO c.maxStale)) := hg3.cell 9; have hf3 := hg3.free 9) | (go_at_call 36; refine (C4.out _).mono ?_; rintro r w4 ⟨rfl, rfl⟩))
    all_goals
      go_wp2_with fail
      go_end0
      refine ⟨rfl, ?_, grown_set hgr3 _ _⟩
      have hz := hg3.setCell 9 (.int .i64 (xx))
      show rowIs _ g #[.bool c.noStore, .bool c.noCache, .bool c.priv, .bool c.pub, .bool c.must, .bool c.only, .int .i64 (intO c.maxAge), .int .i64 (intO c.shared), .int .i64 (intO c.minFresh), .int .i64 (intO (comb false c.maxStale (some sx)))] _
      rw [HX.out]
      exact hz
  · obtain ⟨h1, h2, h3, h4, h5, h6, h7, h8, h9, h10, h11⟩ := h
    have hv : d = c := by
      rw [← HD.out]
      simp only [h1, h2, h3, h4, h5, h6, h7, h8, h9, h10, h11, Bool.or_false, Bool.false_eq_true, if_false, comb_none]
    clear HD
    subst hv
    unfold nNoStore nNoCache nPrivate nPublic nMust nProxy nOnly nMaxAge nShared nMinFresh nMaxStale at *
    go_enter Tryd.func23, Tryd.ntmps23
    go_wp2_with fail
    refine (C1.out _).mono ?_
    rintro r w1 ⟨rfl, hb1⟩
    go_wp2_with fail
    refine (C2.out _).mono ?_
    rintro r w2 ⟨rfl, hb2⟩
    have hgr := grown_trans (below_grown g hb1) (below_grown g hb2)
    have hg2 := (hg.below hb1).below hb2
    go_wp2_with fail
    go_end0
    exact ⟨rfl, hg2, hgr⟩
end Go.Proofs.YtofkiihajhkmdaaDoor
