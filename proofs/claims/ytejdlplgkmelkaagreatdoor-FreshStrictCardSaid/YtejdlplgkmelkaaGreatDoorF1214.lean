/-
  Several texts in one: CtlB, CtlOf.
-/
import Derived.Test.YtejdlplgkmelkaaGreatDoorF12CtlA
import Derived.Test.YtejdlplgkmelkaaGreatDoorPureAll1
import Derived.Deep.RegionHeld3
import Derived.Test.YtejdlplgkmelkaaGreatDoorF1207
set_option linter.unusedVariables false
set_option linter.unusedSimpArgs false
/-
  Contracts of package control: take.
-/
namespace Go.Proofs.YtejdlplgkmelkaaGreatDoor
open Go.RowKit Go.Pantry

/-- what it leaves: the box has this, and all else is as it was -/
def Took (g : Nat) (w : World) (c : Ctl) (w' : World) : Prop :=
  rowIs w' g #[.bool c.noStore, .bool c.noCache, .bool c.priv, .bool c.pub, .bool c.must, .bool c.only, .int .i64 (intO c.maxAge), .int .i64 (intO c.shared), .int .i64 (intO c.minFresh), .int .i64 (intO c.maxStale)] 57 ∧ w.grownBy w' (some g)

set_option maxRecDepth 4000 in
set_option maxHeartbeats 8000000 in
theorem take_any (g : Nat) (c : Ctl) (e : List UInt8) (w : World) (he : e.length < 4294967296) (hg : rowIs w g #[.bool c.noStore, .bool c.noCache, .bool c.priv, .bool c.pub, .bool c.must, .bool c.only, .int .i64 (intO c.maxAge), .int .i64 (intO c.shared), .int .i64 (intO c.minFresh), .int .i64 (intO c.maxStale)] 57) :
    Calls Tryz.prog 51 #[.pointer (some ⟨g, 0, none⟩), strV e] w fun r w' => r = .returned (.tuple #[]) ∧ Took g w (takeC c e) w' := by
  have hnl := nameE_len e
  have hal := argE_len e
  have c1 := fun W => Cut_any e W he
  have c2 := fun W => Lower_any ⟨(nameE e).toArray⟩ W (by rw [szL]; unfold maxLen; omega)
  rw [dtL] at c2
  obtain ⟨d, hd⟩ : ∃ d, takeC c e = d := ⟨_, rfl⟩
  have hd2 := hd
  rw [hd2]
  unfold takeC dirE at hd
  have C1 := hid c1
  generalize hln : lowerL (nameE e) = ln at c2 hd
  have C2 := hid c2
  have HD := hid hd
  clear c1 c2 hd hd2 hln
  rcases name_cases ln with h | h | h | h | h | h | h | h | h | h | h | h
  · subst h
    have hv : d = { c with noStore := true } := by
      rw [← HD.out]
      simp only [show (nNoStore == nNoStore) = true from by decide, show (nNoStore == nNoCache) = false from by decide, show (nNoStore == nPrivate) = false from by decide, show (nNoStore == nPublic) = false from by decide, show (nNoStore == nMust) = false from by decide, show (nNoStore == nProxy) = false from by decide, show (nNoStore == nOnly) = false from by decide, show (nNoStore == nMaxAge) = false from by decide, show (nNoStore == nShared) = false from by decide, show (nNoStore == nMinFresh) = false from by decide, show (nNoStore == nMaxStale) = false from by decide, Bool.or_false, Bool.or_true, Bool.false_eq_true, if_false, comb_none]
    clear HD
    subst hv
    unfold nNoStore at C2
    go_enter Tryz.func51, Tryz.ntmps51
    go_wp2_with fail
    refine (C1.out _).mono ?_
    rintro r w1 ⟨rfl, hb1⟩
    go_wp2_with fail
    refine (C2.out _).mono ?_
    rintro r w2 ⟨rfl, hb2⟩
    have hgr := grown_trans (below_grown g hb1) (below_grown g hb2)
    have hg2 := (hg.below hb1).below hb2
    have hc : w2.cell? ⟨g, 0, none⟩ = some (.bool c.noStore) := hg2.cell 0
    have hf := hg2.free 0
    go_wp2_with fail
    go_end0
    exact ⟨rfl, hg2.setCell 0 (.bool true), grown_set hgr _ _⟩
  · subst h
    have hv : d = { c with noCache := true } := by
      rw [← HD.out]
      simp only [show (nNoCache == nNoStore) = false from by decide, show (nNoCache == nNoCache) = true from by decide, show (nNoCache == nPrivate) = false from by decide, show (nNoCache == nPublic) = false from by decide, show (nNoCache == nMust) = false from by decide, show (nNoCache == nProxy) = false from by decide, show (nNoCache == nOnly) = false from by decide, show (nNoCache == nMaxAge) = false from by decide, show (nNoCache == nShared) = false from by decide, show (nNoCache == nMinFresh) = false from by decide, show (nNoCache == nMaxStale) = false from by decide, Bool.or_false, Bool.or_true, Bool.false_eq_true, if_false, comb_none]
    clear HD
    subst hv
    unfold nNoCache at C2
    go_enter Tryz.func51, Tryz.ntmps51
    go_wp2_with fail
    refine (C1.out _).mono ?_
    rintro r w1 ⟨rfl, hb1⟩
    go_wp2_with fail
    refine (C2.out _).mono ?_
    rintro r w2 ⟨rfl, hb2⟩
    have hgr := grown_trans (below_grown g hb1) (below_grown g hb2)
    have hg2 := (hg.below hb1).below hb2
    have hc : w2.cell? ⟨g, 1, none⟩ = some (.bool c.noCache) := hg2.cell 1
    have hf := hg2.free 1
    go_wp2_with fail
    go_end0
    exact ⟨rfl, hg2.setCell 1 (.bool true), grown_set hgr _ _⟩
  · subst h
    have hv : d = { c with priv := true } := by
      rw [← HD.out]
      simp only [show (nPrivate == nNoStore) = false from by decide, show (nPrivate == nNoCache) = false from by decide, show (nPrivate == nPrivate) = true from by decide, show (nPrivate == nPublic) = false from by decide, show (nPrivate == nMust) = false from by decide, show (nPrivate == nProxy) = false from by decide, show (nPrivate == nOnly) = false from by decide, show (nPrivate == nMaxAge) = false from by decide, show (nPrivate == nShared) = false from by decide, show (nPrivate == nMinFresh) = false from by decide, show (nPrivate == nMaxStale) = false from by decide, Bool.or_false, Bool.or_true, Bool.false_eq_true, if_false, comb_none]
    clear HD
    subst hv
    unfold nPrivate at C2
    go_enter Tryz.func51, Tryz.ntmps51
    go_wp2_with fail
    refine (C1.out _).mono ?_
    rintro r w1 ⟨rfl, hb1⟩
    go_wp2_with fail
    refine (C2.out _).mono ?_
    rintro r w2 ⟨rfl, hb2⟩
    have hgr := grown_trans (below_grown g hb1) (below_grown g hb2)
    have hg2 := (hg.below hb1).below hb2
    have hc : w2.cell? ⟨g, 2, none⟩ = some (.bool c.priv) := hg2.cell 2
    have hf := hg2.free 2
    go_wp2_with fail
    go_end0
    exact ⟨rfl, hg2.setCell 2 (.bool true), grown_set hgr _ _⟩
  · subst h
    have hv : d = { c with pub := true } := by
      rw [← HD.out]
      simp only [show (nPublic == nNoStore) = false from by decide, show (nPublic == nNoCache) = false from by decide, show (nPublic == nPrivate) = false from by decide, show (nPublic == nPublic) = true from by decide, show (nPublic == nMust) = false from by decide, show (nPublic == nProxy) = false from by decide, show (nPublic == nOnly) = false from by decide, show (nPublic == nMaxAge) = false from by decide, show (nPublic == nShared) = false from by decide, show (nPublic == nMinFresh) = false from by decide, show (nPublic == nMaxStale) = false from by decide, Bool.or_false, Bool.or_true, Bool.false_eq_true, if_false, comb_none]
    clear HD
    subst hv
    unfold nPublic at C2
    go_enter Tryz.func51, Tryz.ntmps51
    go_wp2_with fail
    refine (C1.out _).mono ?_
    rintro r w1 ⟨rfl, hb1⟩
    go_wp2_with fail
    refine (C2.out _).mono ?_
    rintro r w2 ⟨rfl, hb2⟩
    have hgr := grown_trans (below_grown g hb1) (below_grown g hb2)
    have hg2 := (hg.below hb1).below hb2
    have hc : w2.cell? ⟨g, 3, none⟩ = some (.bool c.pub) := hg2.cell 3
    have hf := hg2.free 3
    go_wp2_with fail
    go_end0
    exact ⟨rfl, hg2.setCell 3 (.bool true), grown_set hgr _ _⟩
  · subst h
    have hv : d = { c with must := true } := by
      rw [← HD.out]
      simp only [show (nMust == nNoStore) = false from by decide, show (nMust == nNoCache) = false from by decide, show (nMust == nPrivate) = false from by decide, show (nMust == nPublic) = false from by decide, show (nMust == nMust) = true from by decide, show (nMust == nProxy) = false from by decide, show (nMust == nOnly) = false from by decide, show (nMust == nMaxAge) = false from by decide, show (nMust == nShared) = false from by decide, show (nMust == nMinFresh) = false from by decide, show (nMust == nMaxStale) = false from by decide, Bool.or_false, Bool.or_true, Bool.false_eq_true, if_false, comb_none]
    clear HD
    subst hv
    unfold nMust at C2
    go_enter Tryz.func51, Tryz.ntmps51
    go_wp2_with fail
    refine (C1.out _).mono ?_
    rintro r w1 ⟨rfl, hb1⟩
    go_wp2_with fail
    refine (C2.out _).mono ?_
    rintro r w2 ⟨rfl, hb2⟩
    have hgr := grown_trans (below_grown g hb1) (below_grown g hb2)
    have hg2 := (hg.below hb1).below hb2
    have hc : w2.cell? ⟨g, 4, none⟩ = some (.bool c.must) := hg2.cell 4
    have hf := hg2.free 4
    go_wp2_with fail
    go_end0
    exact ⟨rfl, hg2.setCell 4 (.bool true), grown_set hgr _ _⟩
  · subst h
    have hv : d = { c with must := true } := by
      rw [← HD.out]
      simp only [show (nProxy == nNoStore) = false from by decide, show (nProxy == nNoCache) = false from by decide, show (nProxy == nPrivate) = false from by decide, show (nProxy == nPublic) = false from by decide, show (nProxy == nMust) = false from by decide, show (nProxy == nProxy) = true from by decide, show (nProxy == nOnly) = false from by decide, show (nProxy == nMaxAge) = false from by decide, show (nProxy == nShared) = false from by decide, show (nProxy == nMinFresh) = false from by decide, show (nProxy == nMaxStale) = false from by decide, Bool.or_false, Bool.or_true, Bool.false_eq_true, if_false, comb_none]
    clear HD
    subst hv
    unfold nProxy at C2
    go_enter Tryz.func51, Tryz.ntmps51
    go_wp2_with fail
    refine (C1.out _).mono ?_
    rintro r w1 ⟨rfl, hb1⟩
    go_wp2_with fail
    refine (C2.out _).mono ?_
    rintro r w2 ⟨rfl, hb2⟩
    have hgr := grown_trans (below_grown g hb1) (below_grown g hb2)
    have hg2 := (hg.below hb1).below hb2
    have hc : w2.cell? ⟨g, 4, none⟩ = some (.bool c.must) := hg2.cell 4
    have hf := hg2.free 4
    go_wp2_with fail
    go_end0
    exact ⟨rfl, hg2.setCell 4 (.bool true), grown_set hgr _ _⟩
  · subst h
    have hv : d = { c with only := true } := by
      rw [← HD.out]
      simp only [show (nOnly == nNoStore) = false from by decide, show (nOnly == nNoCache) = false from by decide, show (nOnly == nPrivate) = false from by decide, show (nOnly == nPublic) = false from by decide, show (nOnly == nMust) = false from by decide, show (nOnly == nProxy) = false from by decide, show (nOnly == nOnly) = true from by decide, show (nOnly == nMaxAge) = false from by decide, show (nOnly == nShared) = false from by decide, show (nOnly == nMinFresh) = false from by decide, show (nOnly == nMaxStale) = false from by decide, Bool.or_false, Bool.or_true, Bool.false_eq_true, if_false, comb_none]
    clear HD
    subst hv
    unfold nOnly at C2
    go_enter Tryz.func51, Tryz.ntmps51
    go_wp2_with fail
    refine (C1.out _).mono ?_
    rintro r w1 ⟨rfl, hb1⟩
    go_wp2_with fail
    refine (C2.out _).mono ?_
    rintro r w2 ⟨rfl, hb2⟩
    have hgr := grown_trans (below_grown g hb1) (below_grown g hb2)
    have hg2 := (hg.below hb1).below hb2
    have hc : w2.cell? ⟨g, 5, none⟩ = some (.bool c.only) := hg2.cell 5
    have hf := hg2.free 5
    go_wp2_with fail
    go_end0
    exact ⟨rfl, hg2.setCell 5 (.bool true), grown_set hgr _ _⟩
  · subst h
    have hv : d = { c with maxAge := comb false c.maxAge (some (secE (argE e) 0)) } := by
      rw [← HD.out]
      simp only [show (nMaxAge == nNoStore) = false from by decide, show (nMaxAge == nNoCache) = false from by decide, show (nMaxAge == nPrivate) = false from by decide, show (nMaxAge == nPublic) = false from by decide, show (nMaxAge == nMust) = false from by decide, show (nMaxAge == nProxy) = false from by decide, show (nMaxAge == nOnly) = false from by decide, show (nMaxAge == nMaxAge) = true from by decide, show (nMaxAge == nShared) = false from by decide, show (nMaxAge == nMinFresh) = false from by decide, show (nMaxAge == nMaxStale) = false from by decide, Bool.or_false, Bool.false_eq_true, if_true, if_false, comb_none, sec_bare]
    clear HD
    subst hv
    unfold nMaxAge at C2
    have c3 := fun W => seconds_any (argE e) 0 0 W rfl (by omega)
    generalize secE (argE e) 0 = sx at c3 ⊢
    have c4 := fun W => least_any c.maxAge sx W
    obtain ⟨xx, hx⟩ : ∃ xx, intO (comb false c.maxAge (some sx)) = xx := ⟨_, rfl⟩
    rw [hx] at c4
    have C3 := hid c3
    have C4 := hid c4
    clear c3 c4
    have HX := hid hx
    clear hx
    go_enter Tryz.func51, Tryz.ntmps51
    go_wp2_with fail
    refine (C1.out _).mono ?_
    rintro r w1 ⟨rfl, hb1⟩
    go_wp2_with fail
    refine (C2.out _).mono ?_
    rintro r w2 ⟨rfl, hb2⟩
    have hgr := grown_trans (below_grown g hb1) (below_grown g hb2)
    have hg2 := (hg.below hb1).below hb2
    have hgd : rowIs w2.drew g #[.bool c.noStore, .bool c.noCache, .bool c.priv, .bool c.pub, .bool c.must, .bool c.only, .int .i64 (intO c.maxAge), .int .i64 (intO c.shared), .int .i64 (intO c.minFresh), .int .i64 (intO c.maxStale)] 57 := hg2
    have hgrd := grown_drew hgr
    have hc : w2.cell? ⟨g, 6, none⟩ = some (.int .i64 (intO c.maxAge)) := hg2.cell 6
    have hf := hg2.free 6
    go_wp2_with fail
    go_region_with (first | (go_at_call 74; refine (C3.out _).mono ?_; rintro r w3 ⟨rfl, hb3⟩; have hg3 := hgd.below hb3; have hgr3 := grown_trans hgrd (below_grown g hb3); have hc3 : w3.cell? ⟨g, 6, none⟩ = some (.int .i64 (intO c.maxAge)) := hg3.cell 6; have hf3 := hg3.free 6) | (go_at_call 73; refine (C4.out _).mono ?_; rintro r w4 ⟨rfl, rfl⟩))
    all_goals
      go_wp2_with fail
      go_end0
      refine ⟨rfl, ?_, grown_set hgr3 _ _⟩
      have hz := hg3.setCell 6 (.int .i64 (xx))
      show rowIs _ g #[.bool c.noStore, .bool c.noCache, .bool c.priv, .bool c.pub, .bool c.must, .bool c.only, .int .i64 (intO (comb false c.maxAge (some sx))), .int .i64 (intO c.shared), .int .i64 (intO c.minFresh), .int .i64 (intO c.maxStale)] _
      rw [HX.out]
      exact hz
  · subst h
    have hv : d = { c with shared := comb false c.shared (some (secE (argE e) 0)) } := by
      rw [← HD.out]
      simp only [show (nShared == nNoStore) = false from by decide, show (nShared == nNoCache) = false from by decide, show (nShared == nPrivate) = false from by decide, show (nShared == nPublic) = false from by decide, show (nShared == nMust) = false from by decide, show (nShared == nProxy) = false from by decide, show (nShared == nOnly) = false from by decide, show (nShared == nMaxAge) = false from by decide, show (nShared == nShared) = true from by decide, show (nShared == nMinFresh) = false from by decide, show (nShared == nMaxStale) = false from by decide, Bool.or_false, Bool.false_eq_true, if_true, if_false, comb_none, sec_bare]
    clear HD
    subst hv
    unfold nShared at C2
    have c3 := fun W => seconds_any (argE e) 0 0 W rfl (by omega)
    generalize secE (argE e) 0 = sx at c3 ⊢
    have c4 := fun W => least_any c.shared sx W
    obtain ⟨xx, hx⟩ : ∃ xx, intO (comb false c.shared (some sx)) = xx := ⟨_, rfl⟩
    rw [hx] at c4
    have C3 := hid c3
    have C4 := hid c4
    clear c3 c4
    have HX := hid hx
    clear hx
    go_enter Tryz.func51, Tryz.ntmps51
    go_wp2_with fail
    refine (C1.out _).mono ?_
    rintro r w1 ⟨rfl, hb1⟩
    go_wp2_with fail
    refine (C2.out _).mono ?_
    rintro r w2 ⟨rfl, hb2⟩
    have hgr := grown_trans (below_grown g hb1) (below_grown g hb2)
    have hg2 := (hg.below hb1).below hb2
    have hgd : rowIs w2.drew g #[.bool c.noStore, .bool c.noCache, .bool c.priv, .bool c.pub, .bool c.must, .bool c.only, .int .i64 (intO c.maxAge), .int .i64 (intO c.shared), .int .i64 (intO c.minFresh), .int .i64 (intO c.maxStale)] 57 := hg2
    have hgrd := grown_drew hgr
    have hc : w2.cell? ⟨g, 7, none⟩ = some (.int .i64 (intO c.shared)) := hg2.cell 7
    have hf := hg2.free 7
    go_wp2_with fail
    go_region_with (first | (go_at_call 74; refine (C3.out _).mono ?_; rintro r w3 ⟨rfl, hb3⟩; have hg3 := hgd.below hb3; have hgr3 := grown_trans hgrd (below_grown g hb3); have hc3 : w3.cell? ⟨g, 7, none⟩ = some (.int .i64 (intO c.shared)) := hg3.cell 7; have hf3 := hg3.free 7) | (go_at_call 73; refine (C4.out _).mono ?_; rintro r w4 ⟨rfl, rfl⟩))
    all_goals
      go_wp2_with fail
      go_end0
      refine ⟨rfl, ?_, grown_set hgr3 _ _⟩
      have hz := hg3.setCell 7 (.int .i64 (xx))
      show rowIs _ g #[.bool c.noStore, .bool c.noCache, .bool c.priv, .bool c.pub, .bool c.must, .bool c.only, .int .i64 (intO c.maxAge), .int .i64 (intO (comb false c.shared (some sx))), .int .i64 (intO c.minFresh), .int .i64 (intO c.maxStale)] _
      rw [HX.out]
      exact hz
  · subst h
    have hv : d = { c with minFresh := comb true c.minFresh (some (secE (argE e) farN)) } := by
      rw [← HD.out]
      simp only [show (nMinFresh == nNoStore) = false from by decide, show (nMinFresh == nNoCache) = false from by decide, show (nMinFresh == nPrivate) = false from by decide, show (nMinFresh == nPublic) = false from by decide, show (nMinFresh == nMust) = false from by decide, show (nMinFresh == nProxy) = false from by decide, show (nMinFresh == nOnly) = false from by decide, show (nMinFresh == nMaxAge) = false from by decide, show (nMinFresh == nShared) = false from by decide, show (nMinFresh == nMinFresh) = true from by decide, show (nMinFresh == nMaxStale) = false from by decide, Bool.or_false, Bool.false_eq_true, if_true, if_false, comb_none, sec_bare]
    clear HD
    subst hv
    unfold nMinFresh at C2
    have c3 := fun W => seconds_any (argE e) farN 2147483648 W rfl (by omega)
    generalize secE (argE e) farN = sx at c3 ⊢
    have hx := intO_max c.minFresh sx
    have C3 := hid c3
    clear c3
    have HX := hid hx
    clear hx
    go_enter Tryz.func51, Tryz.ntmps51
    go_wp2_with fail
    refine (C1.out _).mono ?_
    rintro r w1 ⟨rfl, hb1⟩
    go_wp2_with fail
    refine (C2.out _).mono ?_
    rintro r w2 ⟨rfl, hb2⟩
    have hgr := grown_trans (below_grown g hb1) (below_grown g hb2)
    have hg2 := (hg.below hb1).below hb2
    have hgd : rowIs w2.drew g #[.bool c.noStore, .bool c.noCache, .bool c.priv, .bool c.pub, .bool c.must, .bool c.only, .int .i64 (intO c.maxAge), .int .i64 (intO c.shared), .int .i64 (intO c.minFresh), .int .i64 (intO c.maxStale)] 57 := hg2
    have hgrd := grown_drew hgr
    have hc : w2.cell? ⟨g, 8, none⟩ = some (.int .i64 (intO c.minFresh)) := hg2.cell 8
    have hf := hg2.free 8
    go_wp2_with fail
    go_region_with (go_at_call 74; refine (C3.out _).mono ?_; rintro r w3 ⟨rfl, hb3⟩; have hg3 := hgd.below hb3; have hgr3 := grown_trans hgrd (below_grown g hb3); have hc3 : w3.cell? ⟨g, 8, none⟩ = some (.int .i64 (intO c.minFresh)) := hg3.cell 8; have hf3 := hg3.free 8)
    all_goals
      go_wp2_with fail
      go_end0
      refine ⟨rfl, ?_, grown_set hgr3 _ _⟩
      have hz := hg3.setCell 8 (.int .i64 (max (intO c.minFresh) (sx : Int)))
      show rowIs _ g #[.bool c.noStore, .bool c.noCache, .bool c.priv, .bool c.pub, .bool c.must, .bool c.only, .int .i64 (intO c.maxAge), .int .i64 (intO c.shared), .int .i64 (intO (comb true c.minFresh (some sx))), .int .i64 (intO c.maxStale)] _
      rw [HX.out]
      exact hz
  · subst h
    have hv : d = { c with maxStale := comb false c.maxStale (some (if hasE e then secE (argE e) 0 else farN)) } := by
      rw [← HD.out]
      simp only [show (nMaxStale == nNoStore) = false from by decide, show (nMaxStale == nNoCache) = false from by decide, show (nMaxStale == nPrivate) = false from by decide, show (nMaxStale == nPublic) = false from by decide, show (nMaxStale == nMust) = false from by decide, show (nMaxStale == nProxy) = false from by decide, show (nMaxStale == nOnly) = false from by decide, show (nMaxStale == nMaxAge) = false from by decide, show (nMaxStale == nShared) = false from by decide, show (nMaxStale == nMinFresh) = false from by decide, show (nMaxStale == nMaxStale) = true from by decide, Bool.or_false, Bool.false_eq_true, if_true, if_false, comb_none]
    clear HD
    subst hv
    unfold nMaxStale at C2
    have c3 := fun W => staleness_any (argE e) (hasE e) W (by omega)
    generalize (if hasE e then secE (argE e) 0 else farN) = sx at c3 ⊢
    have c4 := fun W => least_any c.maxStale sx W
    obtain ⟨xx, hx⟩ : ∃ xx, intO (comb false c.maxStale (some sx)) = xx := ⟨_, rfl⟩
    rw [hx] at c4
    have C3 := hid c3
    have C4 := hid c4
    clear c3 c4
    have HX := hid hx
    clear hx
    go_enter Tryz.func51, Tryz.ntmps51
    go_wp2_with fail
    refine (C1.out _).mono ?_
    rintro r w1 ⟨rfl, hb1⟩
    go_wp2_with fail
    refine (C2.out _).mono ?_
    rintro r w2 ⟨rfl, hb2⟩
    have hgr := grown_trans (below_grown g hb1) (below_grown g hb2)
    have hg2 := (hg.below hb1).below hb2
    have hgd : rowIs w2.drew g #[.bool c.noStore, .bool c.noCache, .bool c.priv, .bool c.pub, .bool c.must, .bool c.only, .int .i64 (intO c.maxAge), .int .i64 (intO c.shared), .int .i64 (intO c.minFresh), .int .i64 (intO c.maxStale)] 57 := hg2
    have hgrd := grown_drew hgr
    have hc : w2.cell? ⟨g, 9, none⟩ = some (.int .i64 (intO c.maxStale)) := hg2.cell 9
    have hf := hg2.free 9
    go_wp2_with fail
    go_region_with (first | (go_at_call 75; refine (C3.out _).mono ?_; rintro r w3 ⟨rfl, hb3⟩; have hg3 := hgd.below hb3; have hgr3 := grown_trans hgrd (below_grown g hb3); have hc3 : w3.cell? ⟨g, 9, none⟩ = some (.int .i64 (intO c.maxStale)) := hg3.cell 9; have hf3 := hg3.free 9) | (go_at_call 73; refine (C4.out _).mono ?_; rintro r w4 ⟨rfl, rfl⟩))
    all_goals
      go_wp2_with fail
      go_end0
      refine ⟨rfl, ?_, grown_set hgr3 _ _⟩
      have hz := hg3.setCell 9 (.int .i64 (xx))
      show rowIs _ g #[.bool c.noStore, .bool c.noCache, .bool c.priv, .bool c.pub, .bool c.must, .bool c.only, .int .i64 (intO c.maxAge), .int .i64 (intO c.shared), .int .i64 (intO c.minFresh), .int .i64 (intO (comb false c.maxStale (some sx)))] _
      rw [HX.out]
      exact hz
  · obtain ⟨h1, h2, h3, h4, h5, h6, h7, h8, h9, h10, h11⟩ := h
    have hv : d = c := by
      rw [← HD.out]
      simp only [h1, h2, h3, h4, h5, h6, h7, h8, h9, h10, h11, Bool.or_false, Bool.false_eq_true, if_false, comb_none]
    clear HD
    subst hv
    unfold nNoStore nNoCache nPrivate nPublic nMust nProxy nOnly nMaxAge nShared nMinFresh nMaxStale at *
    go_enter Tryz.func51, Tryz.ntmps51
    go_wp2_with fail
    refine (C1.out _).mono ?_
    rintro r w1 ⟨rfl, hb1⟩
    go_wp2_with fail
    refine (C2.out _).mono ?_
    rintro r w2 ⟨rfl, hb2⟩
    have hgr := grown_trans (below_grown g hb1) (below_grown g hb2)
    have hg2 := (hg.below hb1).below hb2
    go_wp2_with fail
    go_end0
    exact ⟨rfl, hg2, hgr⟩
end Go.Proofs.YtejdlplgkmelkaaGreatDoor
/-
  Contracts of package control: Of.
-/
namespace Go.Pantry
open Go.RowKit
theorem elementsF_same {a b : List UInt8} (h : lowerL a = lowerL b) (L : List Fld) : elementsF L a = elementsF L b ∧ allF L a = allF L b := by
  have h1 : isF a = isF b := funext fun f => isF_same h f
  have h2 : allF L a = allF L b := by unfold allF; rw [h1]
  exact ⟨by rw [elementsF_of, elementsF_of, h2], h2⟩
theorem hasF_same {a b c d : List UInt8} (h : lowerL a = lowerL b) (h2 : lowerL c = lowerL d) (L : List Fld) : hasF L a c = hasF L b d := by
  unfold hasF
  rw [(elementsF_same h L).1, h2]
end Go.Pantry
namespace Go.Proofs.YtejdlplgkmelkaaGreatDoor
open Go.RowKit Go.Pantry

set_option maxRecDepth 4000 in
set_option maxHeartbeats 8000000 in
theorem ctlOf_any (v : Value) (L : List Fld) (w : World) (hr : Reads2 w v L) (hk : okFs L) :
    Calls Tryz.prog 27 #[v] w fun e w' => e = .returned (ctlV (ctlF L)) ∧ Below w.heap.size w w' := by
  obtain ⟨hz, hzs⟩ := elementsF_size (n := nCC) (fun f hf => (hk.2 f hf).2) hk.1
  have hlow : lowerL [67, 97, 99, 104, 101, 45, 67, 111, 110, 116, 114, 111, 108] = lowerL nCC := by decide
  have c1 := fun W h => lElements_any v L ⟨([67, 97, 99, 104, 101, 45, 67, 111, 110, 116, 114, 111, 108] : List UInt8).toArray⟩ W h hk (by decide)
  have c2 := fun W h => lGet_any v L ⟨([67, 97, 99, 104, 101, 45, 67, 111, 110, 116, 114, 111, 108] : List UInt8).toArray⟩ W h hk (by decide)
  have c3 := fun W h => lHas_any v L ⟨([80, 114, 97, 103, 109, 97] : List UInt8).toArray⟩ ⟨([110, 111, 45, 99, 97, 99, 104, 101] : List UInt8).toArray⟩ W h hk (by decide) (by decide)
  rw [dtL, (elementsF_same hlow L).1] at c1
  rw [dtL, (elementsF_same hlow L).2] at c2
  rw [dtL, dtL, hasF_same (show lowerL [80, 114, 97, 103, 109, 97] = lowerL nPragma by decide) (show lowerL [110, 111, 45, 99, 97, 99, 104, 101] = lowerL nNoCache by decide) L] at c3
  have hc : ctlF L = ctlE (elementsF L nCC) ((allF L nCC).isEmpty && hasF L nPragma nNoCache) := rfl
  rw [hc]
  clear hc hlow
  generalize getF L _ = G at c2
  generalize elementsF L nCC = E at c1 hz hzs ⊢
  generalize (allF L nCC).isEmpty = em at c2 ⊢
  generalize hasF L nPragma nNoCache = hp at c3 ⊢
  obtain ⟨F, hF⟩ : ∃ F, ctlV (ctlE E (em && hp)) = F := ⟨_, rfl⟩
  rw [hF]
  have hfin : F = .agg #[.bool (ctlE E false).noStore, .bool ((ctlE E false).noCache || (em && hp)), .bool (ctlE E false).priv, .bool (ctlE E false).pub, .bool (ctlE E false).must, .bool (ctlE E false).only, .int .i64 (intO (ctlE E false).maxAge), .int .i64 (intO (ctlE E false).shared), .int .i64 (intO (ctlE E false).minFresh), .int .i64 (intO (ctlE E false).maxStale)] := by
    rw [← hF]
    simp only [ctlE, Bool.or_false]
  have HF := hid hfin
  have C1 := hid c1
  have C2 := hid c2
  have C3 := hid c3
  have HR := hid hr
  have HZ := hid hzs
  clear c1 c2 c3 hr hzs hk hF hfin
  go_enter Tryz.func27, Tryz.ntmps27
  obtain ⟨W, hW⟩ : ∃ W, W = w.alloc (.cells #[.bool false, .bool false, .bool false, .bool false, .bool false, .bool false, .int .i64 0, .int .i64 0, .int .i64 0, .int .i64 0] 57) := ⟨_, rfl⟩
  have hbW : Below w.heap.size w W := by rw [hW]; exact below_alloc _ _
  have hsW : W.heap.size = w.heap.size + 1 := by rw [hW]; simp
  have hro : rowIs W w.heap.size zeroC 57 := by rw [hW]; exact rowIs_new _ _ _
  go_wp2_with fail
  rw [← hW]
  clear hW
  refine (ctlNone_any _).mono ?_
  rintro r w1 ⟨rfl, hb1⟩
  replace hro := hro.below hb1
  have hg1 := hb1.size
  replace hb1 := chain2 hbW hbW.size hb1
  obtain ⟨V, hV⟩ : ∃ V, V = (w1.alloc (.cells #[.bool false, .bool false, .bool false, .bool false, .bool false, .bool false, .int .i64 0, .int .i64 0, .int .i64 0, .int .i64 0] 57)).setRow w1.heap.size #[.bool ctl0.noStore, .bool ctl0.noCache, .bool ctl0.priv, .bool ctl0.pub, .bool ctl0.must, .bool ctl0.only, .int .i64 (intO ctl0.maxAge), .int .i64 (intO ctl0.shared), .int .i64 (intO ctl0.minFresh), .int .i64 (intO ctl0.maxStale)] := ⟨_, rfl⟩
  have hbV : Below w1.heap.size w1 V := by rw [hV]; exact below_setRow (below_alloc _ _) (Nat.le_refl _) _
  have hrv : rowIs V w1.heap.size #[.bool ctl0.noStore, .bool ctl0.noCache, .bool ctl0.priv, .bool ctl0.pub, .bool ctl0.must, .bool ctl0.only, .int .i64 (intO ctl0.maxAge), .int .i64 (intO ctl0.shared), .int .i64 (intO ctl0.minFresh), .int .i64 (intO ctl0.maxStale)] 57 := by rw [hV]; exact (rowIs_new _ _ _).setRow _
  have h1 := ctl_one false false false false false false (-1) (-1) (-1) (-1)
  go_wp2_with (refine wpList_store_row rfl 57 _ _ rfl w1.heap.size _ rfl rfl 57 zeroC (rowIs_new _ _ _) infoCtl rfl h1 ?_)
  rw [← hV]
  clear hV h1
  replace hro := hro.below hbV
  replace hb1 := chain2 hb1 hb1.size hbV
  refine (C1.out _ (HR.out.below hb1)).mono ?_
  rintro r w2 ⟨⟨v', rfl, ho⟩, hb2⟩
  have hgV := hrv.lt
  replace hrv := hrv.below hb2
  replace hro := hro.below hb2
  replace hb2 := chain2 hb1 hb1.size hb2
  have hne : w.heap.size ≠ w1.heap.size := by omega
  clear hbV hb1 hbW
  obtain ⟨ao, cap, rfl⟩ := Reads.strs ho.reads
  have hgw : w.heap.size ≤ w1.heap.size := by omega
  generalize hgg : w1.heap.size = g at hrv hne hgw hgV ⊢
  generalize V.heap.size = B at ho hgV
  clear hgg hg1 hsW
  go_wp2_with fail
  go_loopw [12] (fun i wr => ∃ k : Nat, k ≤ E.length ∧ i = .int .i64 k ∧ rowIs wr g #[.bool (ctlE (E.take k) false).noStore, .bool (ctlE (E.take k) false).noCache, .bool (ctlE (E.take k) false).priv, .bool (ctlE (E.take k) false).pub, .bool (ctlE (E.take k) false).must, .bool (ctlE (E.take k) false).only, .int .i64 (intO (ctlE (E.take k) false).maxAge), .int .i64 (intO (ctlE (E.take k) false).shared), .int .i64 (intO (ctlE (E.take k) false).minFresh), .int .i64 (intO (ctlE (E.take k) false).maxStale)] 57 ∧ w2.grownBy wr (some g)) (fun i _ => E.length - (intOf i).toNat)
  case atStart => exact ⟨0, Nat.zero_le _, rfl, hrv, grown_refl _ _⟩
  case round =>
    obtain ⟨k, hkl, rfl, hrk, hgr⟩ := hrel
    have hok := ownsRow_grown ho hgr hgV
    by_cases hlt : k < E.length
    · obtain ⟨e, he⟩ : ∃ e, E[k]? = some e := ⟨_, List.getElem?_eq_getElem hlt⟩
      obtain ⟨b, off, rfl, hcw⟩ := Reads.str hok.reads he
      have hel := HZ.out e (List.mem_of_getElem? he)
      have hst : ctlE (E.take (k + 1)) false = takeC (ctlE (E.take k) false) e := by rw [take_str he, ctlE_snoc]
      have HST := hid hst
      clear he hst hok
      generalize ctlE (E.take k) false = c at hrk HST
      have c4 := fun W h => take_any g c e W (by omega) h
      have C4 := hid c4
      clear c4
      go_wp2_with fail
      refine (C4.out _ hrk).mono ?_
      rintro r w3 ⟨rfl, hrk3, hgr3⟩
      go_wp2_with fail
      go_roundw
      case rel => exact ⟨k + 1, hlt, by go_num, by rw [HST.out]; exact hrk3, grown_trans hgr hgr3⟩
      case measure => simp [intOf]; omega
    · have hke : E.take k = E := List.take_of_length_le (by omega)
      rw [hke] at hrk
      have hbk : Below w.heap.size w _ := hb2.trans (grown_below hgr hgw (by have := hb2.size; omega))
      have hrok := rowIs_grown hro hgr hne
      clear hke hok ho hro hb2 hrv hgr
      have h9 := fun b => ctl_one (ctlE E false).noStore b (ctlE E false).priv (ctlE E false).pub (ctlE E false).must (ctlE E false).only (intO (ctlE E false).maxAge) (intO (ctlE E false).shared) (intO (ctlE E false).minFresh) (intO (ctlE E false).maxStale)
      generalize ctlE E false = c at hrk h9 HF
      have H9 := hid h9
      clear h9
      go_wp2_with fail
      refine (C2.out _ (HR.out.below hbk)).mono ?_
      rintro r w3 ⟨rfl, hb3⟩
      replace hrk := hrk.below hb3
      replace hrok := hrok.below hb3
      replace hbk := chain2 hbk hbk.size hb3
      clear hb3
      cases em
      · have h9 := H9.out c.noCache
        have hfl : (c.noCache || (false && hp)) = c.noCache := by simp
        have hf2 := HF.out
        rw [hfl] at hf2
        have HF2 := hid hf2
        clear hf2 hfl
        go_wp2_with (first
          | (refine wpList_load_row rfl 57 _ rfl g rfl 57 _ (0, 0) _ hrk Tryz.underlying57 rfl infoCtl ?_)
          | (refine wpList_store_row rfl 57 _ _ rfl w.heap.size _ rfl rfl 57 zeroC hrok infoCtl rfl h9 ?_))
        refine bodyPost_ret (results_row Tryz.results27 _ _ w.heap.size _ rfl (hrok.setRow _) Tryz.underlying57 rfl infoCtl) rfl ?_
        exact ⟨by rw [HF2.out], below_setRow hbk (Nat.le_refl _) _⟩
      · go_wp2_with fail
        refine (C3.out _ (HR.out.below hbk)).mono ?_
        rintro r w4 ⟨rfl, hb3⟩
        replace hrk := hrk.below hb3
        replace hrok := hrok.below hb3
        replace hbk := chain2 hbk hbk.size hb3
        clear hb3
        cases hp
        · have h9 := H9.out c.noCache
          have hfl : (c.noCache || (true && false)) = c.noCache := by simp
          have hf2 := HF.out
          rw [hfl] at hf2
          have HF2 := hid hf2
          clear hf2 hfl
          go_wp2_with (first
            | (refine wpList_load_row rfl 57 _ rfl g rfl 57 _ (0, 0) _ hrk Tryz.underlying57 rfl infoCtl ?_)
            | (refine wpList_store_row rfl 57 _ _ rfl w.heap.size _ rfl rfl 57 zeroC hrok infoCtl rfl h9 ?_))
          refine bodyPost_ret (results_row Tryz.results27 _ _ w.heap.size _ rfl (hrok.setRow _) Tryz.underlying57 rfl infoCtl) rfl ?_
          exact ⟨by rw [HF2.out], below_setRow hbk (Nat.le_refl _) _⟩
        · have h9 := H9.out true
          have hfl : (c.noCache || (true && true)) = true := by simp
          have hf2 := HF.out
          rw [hfl] at hf2
          have HF2 := hid hf2
          clear hf2 hfl
          have hc : w4.cell? ⟨g, 1, none⟩ = some (.bool c.noCache) := hrk.cell 1
          have hf := hrk.free 1
          have hlt4 := hrk.lt
          replace hrok := hrok.setCell_other hrk hne 1 (.bool true)
          replace hbk : Below w.heap.size w (w4.setCell ⟨g, 1, none⟩ (.bool true)) := hbk.setCell (p := ⟨g, 1, none⟩) hgw (.bool true)
          have hrk5 : rowIs (w4.setCell ⟨g, 1, none⟩ (.bool true)) g #[.bool c.noStore, .bool true, .bool c.priv, .bool c.pub, .bool c.must, .bool c.only, .int .i64 (intO c.maxAge), .int .i64 (intO c.shared), .int .i64 (intO c.minFresh), .int .i64 (intO c.maxStale)] 57 := hrk.setCell 1 (.bool true)
          go_wp2_with (first
            | (refine wpList_load_row rfl 57 _ rfl g rfl 57 _ (0, 0) _ hrk5 Tryz.underlying57 rfl infoCtl ?_)
            | (refine wpList_store_row rfl 57 _ _ rfl w.heap.size _ rfl rfl 57 zeroC hrok infoCtl rfl h9 ?_))
          refine bodyPost_ret (results_row Tryz.results27 _ _ w.heap.size _ rfl (hrok.setRow _) Tryz.underlying57 rfl infoCtl) rfl ?_
          exact ⟨by rw [HF2.out], below_setRow hbk (Nat.le_refl _) _⟩
end Go.Proofs.YtejdlplgkmelkaaGreatDoor
