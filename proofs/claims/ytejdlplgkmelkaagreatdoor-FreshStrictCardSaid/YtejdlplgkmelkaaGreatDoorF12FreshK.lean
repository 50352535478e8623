/-
  Contract of package fresh: Kept; all that the walks take.
-/
import Derived.Test.YtejdlplgkmelkaaGreatDoorF1215
import Derived.Test.YtejdlplgkmelkaaGreatDoorF12KeyN
set_option linter.unusedVariables false
set_option linter.unusedSimpArgs false

namespace Go.Proofs.YtejdlplgkmelkaaGreatDoor
open Go.RowKit Go.Pantry

theorem ctl_field0 (v0 v1 v2 v3 v4 v5 v6 v7 v8 v9 : Value) (w : World) : (Instr.field 57 (.agg #[v0, v1, v2, v3, v4, v5, v6, v7, v8, v9]) 0).run Tryz.prog w = .ok v0 w := by kernel_rfl
set_option maxRecDepth 8000 in
set_option maxHeartbeats 4000000 in
theorem fKept_any (no : Option Addr) (n nc : Nat) (s : SiteZ) (m : List UInt8) (av cv : Value) (asked came : List Fld) (st : Int) (w : World) (ha : Reads2 w av asked) (hc : Reads2 w cv came) (hsa : SmallF asked) (hsc : SmallF came) :
    Calls Tryz.prog 13 #[.agg (rowZ (.slice no n nc) s), strV m, av, .int .i64 st, cv] w fun e w' => e = .returned (.bool (keptF s.keep m asked st came)) ∧ Below w.heap.size w w' := by
  obtain ⟨sh, so, lo, hi, sq, keep, heads⟩ := s
  obtain ⟨W, hW⟩ : ∃ W, w.alloc (.cells (rowZ (.slice no n nc) ⟨sh, so, lo, hi, sq, keep, heads⟩) 24) = W := ⟨_, rfl⟩
  have hbW : Below w.heap.size w W := by rw [← hW]; exact below_alloc _ _
  have q1 : rowIs W w.heap.size (rowZ (.slice no n nc) ⟨sh, so, lo, hi, sq, keep, heads⟩) 24 := by rw [← hW]; exact rowIs_new _ _ _
  have HQ := hid (And.intro q1 hbW)
  have C1 := hid (fOf_any cv came W (hc.below hbW) hsc)
  have C2 := hid (fun (W' : World) (h : Below w.heap.size w W') => names_any cv came W' (hc.below h) hsc)
  have c3 := fun (W' : World) (h : Below w.heap.size w W') => fOf_any av asked W' (ha.below h) hsa
  have c4 := fun (W' : World) (h : Below w.heap.size w W') => fHas_any av asked [65, 117, 116, 104, 111, 114, 105, 122, 97, 116, 105, 111, 110] W' (ha.below h) hsa (by decide)
  have c6 := fun (W' : World) (h : Below w.heap.size w W') => fHas_any cv came [69, 120, 112, 105, 114, 101, 115] W' (hc.below h) hsc (by decide)
  simp only [allF_same (show lowerL [65, 117, 116, 104, 111, 114, 105, 122, 97, 116, 105, 111, 110] = lowerL nAuth by decide)] at c4
  simp only [allF_same (show lowerL [69, 120, 112, 105, 114, 101, 115] = lowerL nExpires by decide)] at c6
  have hk : keptF keep m asked st came = (keep && ((m == nGet) && (!(ctlF asked).noStore && (!(ctlF came).noStore && (!(ctlF came).priv && (((allF asked nAuth).isEmpty || ((ctlF came).pub || ((ctlF came).must || decide (0 ≤ intO (ctlF came).shared)))) && (!(starE (elementsF came varyN)) && (usualS st || (otherS st && (decide (0 ≤ intO (ctlF came).maxAge) || (decide (0 ≤ intO (ctlF came).shared) || !(allF came nExpires).isEmpty))))))))))) := rfl
  show Calls _ _ _ _ (fun e w' => e = .returned (.bool (keptF keep m asked st came)) ∧ Below w.heap.size w w')
  generalize keptF keep m asked st came = K at hk ⊢
  unfold rowC at c3
  generalize (ctlF asked).noStore = b0 at c3 hk
  generalize (ctlF asked).noCache = b1 at c3
  generalize (ctlF asked).priv = b2 at c3
  generalize (ctlF asked).pub = b3 at c3
  generalize (ctlF asked).must = b4 at c3
  generalize (ctlF asked).only = b5 at c3
  generalize intO (ctlF asked).maxAge = b6 at c3
  generalize intO (ctlF asked).shared = b7 at c3
  generalize intO (ctlF asked).minFresh = b8 at c3
  generalize intO (ctlF asked).maxStale = b9 at c3
  have emp : (allF asked nAuth).isEmpty = !(!(allF asked nAuth).isEmpty) := by simp
  rw [emp] at hk
  generalize (!(allF asked nAuth).isEmpty) = qA at c4 hk
  generalize (!(allF came nExpires).isEmpty) = qE at c6 hk
  generalize starE (elementsF came varyN) = star at C2 hk
  generalize varyE (elementsF came varyN) = VV at C2
  obtain ⟨CP, hCP⟩ : ∃ x, ctlF came = x := ⟨_, rfl⟩
  rw [hCP] at C1 hk
  have C5 := hid (fun (W' : World) => fForAll_any CP W')
  obtain ⟨fa, hfa⟩ : ∃ x, (CP.pub || (CP.must || decide (0 ≤ intO CP.shared))) = x := ⟨_, rfl⟩
  rw [hfa] at C5 hk
  have HK := hid hk
  have C3 := hid c3
  have C4 := hid c4
  have C6 := hid c6
  clear c3 c4 c6 hk emp ha hc hsa hsc q1 hbW hCP hfa
  go_enter Tryz.func13, Tryz.ntmps13
  go_wp2_with fail
  clear hW
  refine C1.out.mono ?_
  rintro e w1 ⟨rfl, hb1⟩
  have hb2 := below_alloc w1 (.cells (rowC CP) 57)
  have RS := hid (HQ.out.1.below (chain2 hb1 hb1.size hb2))
  have HB2 := hid (chain2 HQ.out.2 HQ.out.2.size (chain2 hb1 hb1.size hb2))
  have RQ := hid (rowIs_new w1 (rowC CP) 57)
  clear hb1 hb2 HQ C1
  go_upto_region 2 with fail
  change Code.wp _ _ _ _ (w1.alloc (.cells (rowC CP) 57))
  obtain ⟨G, hG⟩ : ∃ G, w1.heap.size = G := ⟨_, rfl⟩
  rw [hG] at RQ ⊢
  generalize w1.alloc (.cells (rowC CP) 57) = w2 at RS RQ HB2 ⊢
  clear hG
  go_wp2_with fail
  refine (C2.out _ HB2.out).mono ?_
  rintro e w3 ⟨vv, rfl, -, hb3⟩
  have HB3 := hid (chain2 HB2.out HB2.out.size hb3)
  have RS3 := hid (RS.out.below hb3)
  have RQ3 := hid (RQ.out.below hb3)
  clear hb3 RS RQ HB2 C2
  go_upto_region 3 with fail
  have RP3 : rowIs w3 G #[.bool CP.noStore, .bool CP.noCache, .bool CP.priv, .bool CP.pub, .bool CP.must, .bool CP.only, .int .i64 (intO CP.maxAge), .int .i64 (intO CP.shared), .int .i64 (intO CP.minFresh), .int .i64 (intO CP.maxStale)] 57 := RQ3.out
  have x5 : w3.cell? ⟨w.heap.size, 5, none⟩ = some (.bool keep) := RS3.out.cell 5
  have y0 : w3.cell? ⟨G, 0, none⟩ = some (.bool CP.noStore) := RP3.cell 0
  have y2 : w3.cell? ⟨G, 2, none⟩ = some (.bool CP.priv) := RP3.cell 2
  have y6 : w3.cell? ⟨G, 6, none⟩ = some (.int .i64 (intO CP.maxAge)) := RP3.cell 6
  have y7 : w3.cell? ⟨G, 7, none⟩ = some (.int .i64 (intO CP.shared)) := RP3.cell 7
  clear RP3
  generalize CP.noStore = p0 at HK y0
  generalize CP.priv = p2 at HK y2
  generalize intO CP.maxAge = p6 at HK y6
  generalize intO CP.shared = p7 at HK y7
  obtain ⟨bm, hbm⟩ : ∃ b, (m == nGet) = b := ⟨_, rfl⟩
  have hbm2 : (m == [71, 69, 84]) = bm := hbm
  have HK2 := HK.out
  rw [hbm] at HK2
  have HK := hid HK2
  clear HK2 hbm
  try simp only [List.append]
  cases keep with
  | false =>
    go_wp2_with fail
    go_ret
    exact ⟨ret_bool (by rw [HK.out]; simp), HB3.out⟩
  | true =>
  cases bm with
  | false =>
    go_wp2_with fail
    go_ret
    exact ⟨ret_bool (by rw [HK.out]; simp), HB3.out⟩
  | true =>
  cases star with
  | true =>
    go_wp2_with fail
    go_ret
    exact ⟨ret_bool (by rw [HK.out]; simp), HB3.out⟩
  | false =>
  go_wp2_with fail
  refine (C3.out _ HB3.out).mono ?_
  rintro e w4 ⟨rfl, hb4⟩
  have HB4 := hid (chain2 HB3.out HB3.out.size hb4)
  have z0 := kept y0 hb4
  have z2 := kept y2 hb4
  have z6 := kept y6 hb4
  have z7 := kept y7 hb4
  have RQ4 := hid (RQ3.out.below hb4)
  clear hb4 HB3 RQ3 RS3 x5 y0 y2 y6 y7 C3
  have hf0 := ctl_field0 (.bool b0) (.bool b1) (.bool b2) (.bool b3) (.bool b4) (.bool b5) (.int .i64 b6) (.int .i64 b7) (.int .i64 b8) (.int .i64 b9) w4
  cases b0 with
  | true =>
    go_wp2_with fail
    go_ret
    exact ⟨ret_bool (by rw [HK.out]; simp), HB4.out⟩
  | false =>
  cases p0 with
  | true =>
    go_wp2_with fail
    go_ret
    exact ⟨ret_bool (by rw [HK.out]; simp), HB4.out⟩
  | false =>
  cases p2 with
  | true =>
    go_wp2_with fail
    go_ret
    exact ⟨ret_bool (by rw [HK.out]; simp), HB4.out⟩
  | false =>
  go_wp2_with fail
  refine (C4.out _ HB4.out).mono ?_
  rintro e w5 ⟨rfl, hb5⟩
  have HB5 := hid (chain2 HB4.out HB4.out.size hb5)
  have u6 := kept z6 hb5
  have u7 := kept z7 hb5
  have RQ5 := hid (RQ4.out.below hb5)
  clear hb5 HB4 z0 z2 z6 z7 RQ4 C4
  cases qA with
  | true =>
    have rq5 := RQ5.out
    go_wp2_with (refine wpList_unguard rfl ?_; refine wpList_load_row rfl 57 _ rfl G rfl 57 _ (0, 0) _ rq5 Tryz.underlying57 rfl infoCtlP ?_)
    refine (C5.out _).mono ?_
    rintro e w6 ⟨rfl, hb6⟩
    have HB6 := hid (chain2 HB5.out HB5.out.size hb6)
    have t6 := kept u6 hb6
    have t7 := kept u7 hb6
    clear hb6 u6 u7 rq5 RQ5 HB5 C5
    cases fa with
    | false =>
      go_wp2_with fail
      go_ret
      exact ⟨ret_bool (by rw [HK.out]; simp), HB6.out⟩
    | true =>
      go_wp2_with fail
      refine (C6.out _ HB6.out).mono ?_
      rintro e w7 ⟨rfl, hb7⟩
      have HB7 := hid (chain2 HB6.out HB6.out.size hb7)
      have s6 := kept t6 hb7
      have s7 := kept t7 hb7
      clear hb7 t6 t7 HB6 C6
      have HS := hid (fun (b : Bool) (W : World) => fStatus_any st b W)
      obtain ⟨D6, hD6⟩ : ∃ x, decide (0 ≤ p6) = x := ⟨_, rfl⟩
      obtain ⟨D7, hD7⟩ : ∃ x, decide (0 ≤ p7) = x := ⟨_, rfl⟩
      have HK2 := HK.out
      rw [hD6, hD7] at HK2
      have HKF := hid HK2
      clear HK2 HK
      cases qE <;> cases D6 <;> cases D7
      all_goals
        go_wp2_with (first | (go_at_call 32; refine (fSaid_any _ _).mono ?_; rintro e w' ⟨rfl, rfl⟩) | (go_at_call 31; refine (HS.out _ _).mono ?_; rintro e w' ⟨rfl, rfl⟩))
        go_ret
        exact ⟨ret_bool (by rw [HKF.out]; simp), HB7.out⟩
  | false =>
    have HB6 := HB5
    have t6 := u6
    have t7 := u7
    clear u6 u7 RQ5 HB5
    go_wp2_with fail
    refine (C6.out _ HB6.out).mono ?_
    rintro e w7 ⟨rfl, hb7⟩
    have HB7 := hid (chain2 HB6.out HB6.out.size hb7)
    have s6 := kept t6 hb7
    have s7 := kept t7 hb7
    clear hb7 t6 t7 HB6 C6
    have HS := hid (fun (b : Bool) (W : World) => fStatus_any st b W)
    obtain ⟨D6, hD6⟩ : ∃ x, decide (0 ≤ p6) = x := ⟨_, rfl⟩
    obtain ⟨D7, hD7⟩ : ∃ x, decide (0 ≤ p7) = x := ⟨_, rfl⟩
    have HK2 := HK.out
    rw [hD6, hD7] at HK2
    have HKF := hid HK2
    clear HK2 HK
    cases qE <;> cases D6 <;> cases D7
    all_goals
      go_wp2_with (first | (go_at_call 32; refine (fSaid_any _ _).mono ?_; rintro e w' ⟨rfl, rfl⟩) | (go_at_call 31; refine (HS.out _ _).mono ?_; rintro e w' ⟨rfl, rfl⟩))
      go_ret
      exact ⟨ret_bool (by rw [HKF.out]; simp), HB7.out⟩
theorem tables_keep (w w' : World) (h : Tables w) (hb : Below w.heap.size w w') : Tables w' := h.below hb h.lt
theorem freshs_ok : Freshs Tables where
  keep := tables_keep
  kept := fun no n nc s m av cv asked came st w _ ha hc hsa hsc _ _ => fKept_any no n nc s m av cv asked came st w ha hc hsa hsc
  life := fun no n nc s cv came z w ok hc hsc _ _ => fLife_any no n nc s cv came z w ok hc hsc
  age := fun cv came x y z w ok hc hsc _ _ _ => fAge_any cv came x y z w ok hc hsc
  use := fun no n nc s rv cv req came x y z w ok hr hc hsr hsc hl _ _ _ => fUse_any no n nc s rv cv req came x y z w ok hr hc hsr hsc hl.1 hl.2
end Go.Proofs.YtejdlplgkmelkaaGreatDoor
