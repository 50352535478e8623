/-
  Several texts in one: ConfL, Law09A, Law09B, SmallZ, Ref9F.
-/
import Derived.Test.YtenijpcjemdhfaaGreatDoorP10d04
import Derived.Test.YtenijpcjemdhfaaGreatDoorPureAll3
/-
  Contract of package conf: Read.
-/
namespace Go.Proofs.YtenijpcjemdhfaaGreatDoor
open Go.RowKit Go.Pantry

theorem infoFault : (Tryz.prog.info? 28).map (·.size) = some 2 := by kernel_rfl
theorem oneFault (a b : Int) : (#[.int .i64 a, .int .i64 b] : Array Value).all (·.oneCell') = true := by simp [Value.oneCell']
theorem results_cc {P : Program} {fn : Func} {a c : Tmp} {t u e e' : TypeId} {d d' : TypeDesc} (h : fn.results = #[.cell a t, .cell c u]) (tmps : Array Value) (w : World) (g k : Nat) (cs ds : Array Value)
    (hp : tmps.getD a undef = .pointer (some ⟨g, 0, none⟩)) (hg : rowIs w g cs e) (hu : P.underlying t = some d) (hd : (match d with | .struct _ | .array _ _ => true | _ => false) = true) (hi : (P.info? t).map (·.size) = some cs.size)
    (hq : tmps.getD c undef = .pointer (some ⟨k, 0, none⟩)) (hk : rowIs w k ds e') (hu' : P.underlying u = some d') (hd' : (match d' with | .struct _ | .array _ _ => true | _ => false) = true) (hi' : (P.info? u).map (·.size) = some ds.size) :
    (results fn tmps).run P w = .ok (.tuple #[.agg cs, .agg ds]) w := by
  have h1 := run_loadVar_row (P := P) w g e t cs (0, 0) d hg hu hd hi
  have h2 := run_loadVar_row (P := P) w k e' u ds (0, 0) d' hk hu' hd' hi'
  have hp' : tmps[a]?.getD undef = .pointer (some ⟨g, 0, none⟩) := by simpa using hp
  have hq' : tmps[c]?.getD undef = .pointer (some ⟨k, 0, none⟩) := by simpa using hq
  simp [results, h, hp', hq', asAddr, h1, h2]
/-- what Read leaves -/
def ReadPostC (w : World) (T : List UInt8) (e : Ending) (w' : World) : Prop :=
  ∃ sv L, e = .returned (.tuple #[.agg #[sv], .agg #[.int .i64 ((readM T).2.1 : Int), .int .i64 ((readM T).2.2 : Int)]]) ∧ L.map (·.1) = (readM T).1 ∧ SitesAt w' w.heap.size sv L ∧ Below w.heap.size w w'
set_option maxRecDepth 8000 in
theorem readConf_any (T : List UInt8) (w : World) (hm : MaxOk w) (ht : Tab10 w) :
    Calls Tryz.prog 10 #[strV T] w (ReadPostC w T) := by
  by_cases hl : 4096 < T.length
  · have hR : readM T = ([], 32, 1) := by unfold readM; rw [if_pos hl]
    have HR := hid hR
    clear hm ht hR
    go_enter Tryz.func10, Tryz.ntmps10
    go_wp2_with fail
    have hb := chainP (below_alloc w (.cells #[.slice none 0 0] 25)) (below_alloc _ (.cells #[.int .i64 32, .int .i64 1] 28))
    have r1 : rowIs ((w.alloc (.cells #[.slice none 0 0] 25)).alloc (.cells #[.int .i64 32, .int .i64 1] 28)) w.heap.size #[.slice none 0 0] 25 := (rowIs_new _ _ _).below (below_alloc _ _)
    have r2 : rowIs ((w.alloc (.cells #[.slice none 0 0] 25)).alloc (.cells #[.int .i64 32, .int .i64 1] 28)) (w.heap.size + 1) #[.int .i64 32, .int .i64 1] 28 := rowIs_new_at _ _ _ _ (by simp)
    refine bodyPost_ret (results_cc Tryz.results10 _ _ w.heap.size (w.heap.size + 1) _ _ rfl r1 Tryz.underlying25 rfl infoCfg rfl r2 Tryz.underlying28 rfl infoFault) rfl ?_
    refine ⟨.slice none 0 0, [], ?_, ?_, sites_nil _ _, hb⟩
    · rw [HR.out]; rfl
    · rw [HR.out]; rfl
  · have hl' : T.length ≤ 4096 := by omega
    have hR : readM T = if (cfgM T).2.code = 0 then ((cfgM T).1, 0, 0) else ([], (cfgM T).2.code, lineK T (cfgM T).2.pos) := by unfold readM; rw [if_neg hl]
    have HR := hid hR
    have hwl : (ps0 T).ws.length ≤ 50000 := by
      have : ∀ (n : Nat) (s : List UInt8), (wordsF n s).length ≤ n := by
        intro n
        induction n with
        | zero => intro s; exact Nat.le_refl _
        | succ n ih =>
          intro s
          rw [wordsF]; split
          · simp
          · rw [List.length_cons]; have := ih (stepL s); omega
      have h1 : (wordsL (skipL false T)).length ≤ (skipL false T).length := this _ _
      have h2 := skipL_le T false
      show (textW T).length ≤ _
      unfold textW; omega
    obtain ⟨A, hA⟩ : ∃ A, w.heap.size = A := ⟨_, rfl⟩
    obtain ⟨B, hB⟩ : ∃ B, A + 1 = B := ⟨_, rfl⟩
    obtain ⟨g, hg⟩ : ∃ g, B + 1 = g := ⟨_, rfl⟩
    obtain ⟨W0, hW0⟩ : ∃ W, ((w.alloc (.cells #[.slice none 0 0] 25)).alloc (.cells #[.int .i64 0, .int .i64 0] 28)).alloc (.cells #[.int .i64 0, .int .i64 0, strV T, .int .i64 0, strV []] 86) = W := ⟨_, rfl⟩
    have hb0 : Below w.heap.size w W0 := by
      rw [← hW0]; exact chainP (chainP (below_alloc _ _) (below_alloc _ _)) (below_alloc _ _)
    have r1 : rowIs W0 A #[.slice none 0 0] 25 := by rw [← hW0, ← hA]; exact ((rowIs_new _ _ _).below (below_alloc _ _)).below (below_alloc _ _)
    have r2 : rowIs W0 B #[.int .i64 0, .int .i64 0] 28 := by rw [← hW0]; exact (rowIs_new_at _ _ _ _ (by simp; omega)).below (below_alloc _ _)
    have r3 : rowIs W0 g #[.int .i64 0, .int .i64 0, strV T, .int .i64 0, strV []] 86 := by rw [← hW0]; exact rowIs_new_at _ _ _ _ (by simp; omega)
    have he : Env g W0 := ⟨w, hm, ht, by omega, hb0⟩
    have HN := hid (And.intro hA (And.intro hB hg))
    have HF := hid (And.intro hb0 (And.intro r1 (And.intro r2 (And.intro r3 he))))
    have HW := hid hW0
    clear hm ht hR hW0 hb0 r1 r2 r3 he
    go_enter Tryz.func10, Tryz.ntmps10
    go_wp2_with fail
    change Calls _ _ _ (((w.alloc (.cells #[.slice none 0 0] 25)).alloc (.cells #[.int .i64 0, .int .i64 0] 28)).alloc (.cells #[.int .i64 0, .int .i64 0, strV T, .int .i64 0, strV []] 86)) _
    rw [HW.out]
    refine (step_first g T W0 HF.out.2.2.2.1 hl' HF.out.2.2.2.2).mono ?_
    intro e w1 hp1
    obtain ⟨u1, rfl, ho1, hk1⟩ := hp1.form
    have H1 := hid (And.intro ho1 hk1)
    clear hp1 ho1 hk1
    go_wp2_with fail
    refine (config_any g T _ w1 H1.out.1 hwl).mono ?_
    rintro e w2 ⟨sv, L, rfl, hL, hs2, ho2, hk2⟩
    have hk02 := kept_g H1.out.2 hk2
    have hgA : A < g ∧ B < g := by have := HN.out; omega
    obtain ⟨ao, cs, hform⟩ := ownsRow_formN hs2.own
    obtain ⟨ns, hns⟩ : ∃ ns, L.length = ns := ⟨_, rfl⟩
    rw [hns] at hform
    subst hform
    obtain ⟨w3, hW3⟩ : ∃ W, w2.alloc (.cells #[.slice ao ns cs] 25) = W := ⟨_, rfl⟩
    have hb3 : Below w2.heap.size w2 w3 := by rw [← hW3]; exact below_alloc _ _
    have r5 : rowIs w3 w2.heap.size #[.slice ao ns cs] 25 := by rw [← hW3]; exact rowIs_new _ _ _
    have q1 := (HF.out.2.1.kept hk02 (by omega)).below hb3
    have q2 := (HF.out.2.2.1.kept hk02 (by omega)).below hb3
    have H3 := hid (And.intro (ho2.below hb3) (And.intro (hs2.kept (Kept.of_below (X := fun _ => False) hb3) (fun _ _ _ h => h)) (And.intro q1 (And.intro q2 (And.intro r5 (hk02.then hb3))))))
    obtain ⟨p2, hp2⟩ : ∃ p2, (cfgF (meas (ps0 T)) [] [] (ps0 T)).2 = p2 := ⟨_, rfl⟩
    obtain ⟨c2, hc2⟩ : ∃ c2, (cfgF (meas (ps0 T)) [] [] (ps0 T)).1 = c2 := ⟨_, rfl⟩
    have hcm : (cfgM T).2 = p2 ∧ (cfgM T).1 = c2 := ⟨hp2, hc2⟩
    rw [hp2] at H3
    rw [hc2] at hL
    rw [hcm.1, hcm.2] at HR
    have HL := hid hL
    have HSZ := hid (show A < w2.heap.size ∧ B < w2.heap.size ∧ g < w2.heap.size from by have := ho2.lt; omega)
    have HW3 := hid hW3
    clear hs2 ho2 hk2 hk02 hb3 r5 q1 q2 hp2 hc2 hcm hL hW3 hwl
    go_wp2_with fail
    rw [HW3.out]
    have cf := faultless_any g T p2 w3 H3.out.1
    by_cases h0 : p2.code = 0
    · rw [show (p2.code == 0) = true by simp [h0]] at cf
      rw [if_pos h0] at HR
      have k5 := H3.out.2.2.2.2.1.cell 0
      have ka := H3.out.2.2.1.cell 0
      have kf := H3.out.2.2.1.free 0
      have hra := H3.out.2.2.1.setCell 0 (.slice ao ns cs)
      have hrb := H3.out.2.2.2.1.setCell_block (g' := A) (by have := HN.out; omega) 0 (.slice ao ns cs)
      have CF := hid cf
      clear cf h0
      refine CF.out.mono ?_
      rintro e w4 ⟨rfl, rfl⟩
      go_wp2_with (refine wpList_store_row rfl 28 _ _ rfl B _ rfl rfl 28 _ hrb infoFault rfl (oneFault _ _) ?_)
      have kk := ((Kept.refl (fun k => k = A ∨ k = B) w3).setCell (i := 0) (.inl (.inl rfl)) (.slice ao ns cs)).setRow (g := B) (.inl (.inr rfl)) #[.int .i64 0, .int .i64 0]
      refine bodyPost_ret (results_cc Tryz.results10 _ _ A B _ _ rfl (hra.setRow_other _ (by have := HN.out; omega)) Tryz.underlying25 rfl infoCfg rfl (hrb.setRow _) Tryz.underlying28 rfl infoFault) rfl ?_
      refine ⟨.slice ao ns cs, L, ?_, ?_, ?_, ?_⟩
      · rw [HR.out]; rfl
      · rw [HL.out, HR.out]
      · have hs := (H3.out.2.1.kept kk (fun k hB _ e => by have h1 := HN.out; have h2 := (HF.out.1).size; have h3 := H1.out.2.size; have h4 := HSZ.out; have h5 := HF.out.2.2.2.1.lt; omega))
        have hle : w.heap.size ≤ w1.heap.size := Nat.le_trans HF.out.1.size H1.out.2.size
        exact ⟨hs.own, hs.heads, fun x hx k hk => ⟨by have := (hs.apart x hx k hk).1; omega, (hs.apart x hx k hk).2⟩, fun k hk => by have := hs.inn k hk; omega⟩
      · have k0 := (Kept.of_below (X := fun k => w.heap.size ≤ k) HF.out.1).trans H3.out.2.2.2.2.2 (fun k h _ => by have := HN.out; omega)
        exact (k0.trans kk (fun k h _ => by have := HN.out; omega)).below (fun k h _ => h) (Nat.le_refl _)
    · rw [show (p2.code == 0) = false by simp [h0]] at cf
      rw [if_neg h0] at HR
      obtain ⟨s2, hs2⟩ := H3.out.1.at_
      have hln : lineP T p2 = lineK T p2.pos := by unfold lineP; rw [if_neg h0]
      have g0 := hs2.row.cell 0
      have g1 := hs2.row.cell 1
      simp only [rcRow, hln] at g0 g1
      have ka := H3.out.2.2.1.cell 0
      have kf := H3.out.2.2.1.free 0
      have kb0 := H3.out.2.2.2.1.cell 0
      have kb1 := H3.out.2.2.2.1.cell 1
      have kbf0 := H3.out.2.2.2.1.free 0
      have kbf1 := H3.out.2.2.2.1.free 1
      obtain ⟨cd, hcd⟩ : ∃ cd, p2.code = cd := ⟨_, rfl⟩
      obtain ⟨ln, hln2⟩ : ∃ ln, lineK T p2.pos = ln := ⟨_, rfl⟩
      rw [hcd] at g0 HR
      rw [hln2] at g1 HR
      have CF := hid cf
      clear cf h0 hs2 hln hcd hln2
      refine CF.out.mono ?_
      rintro e w4 ⟨rfl, rfl⟩
      go_wp2_with fail
      obtain ⟨W, hW⟩ : ∃ W, w3.drew = W := ⟨_, rfl⟩
      have m0 : W.cell? ⟨g, 0, none⟩ = some (.int .i64 (cd : Int)) := by rw [← hW]; exact g0
      have m1 : W.cell? ⟨g, 1, none⟩ = some (.int .i64 (ln : Int)) := by rw [← hW]; exact g1
      have n0 : W.cell? ⟨A, 0, none⟩ = some (.slice none 0 0) := by rw [← hW]; exact ka
      have n1 : W.frozen? ⟨A, 0, none⟩ = false := by rw [← hW]; exact kf
      have b0 : W.cell? ⟨B, 0, none⟩ = some (.int .i64 0) := by rw [← hW]; exact kb0
      have b1 : W.cell? ⟨B, 1, none⟩ = some (.int .i64 0) := by rw [← hW]; exact kb1
      have b2 : W.frozen? ⟨B, 0, none⟩ = false := by rw [← hW]; exact kbf0
      have b3 : W.frozen? ⟨B, 1, none⟩ = false := by rw [← hW]; exact kbf1
      have hAB : ¬ A = B := by have := HN.out; omega
      have hBA : ¬ B = A := by have := HN.out; omega
      have hgA1 : ¬ A = g := by omega
      have hgA2 : ¬ g = A := by omega
      clear g0 g1 ka kf kb0 kb1 kbf0 kbf1
      go_region_with (fail)
      all_goals
        clear m0 m1 n0 n1 b0 b1 b2 b3
        have hA1 : rowIs W A #[.slice none 0 0] 25 := by rw [← hW]; exact H3.out.2.2.1
        have hB1 : rowIs W B #[.int .i64 0, .int .i64 0] 28 := by rw [← hW]; exact H3.out.2.2.2.1
        have rA := ((hA1.setCell 0 (.slice none 0 0)).setCell_block (g' := B) hAB 0 (.int .i64 (cd : Int))).setCell_block (g' := B) hAB 1 (.int .i64 (ln : Int))
        have rB := (((hB1.setCell_block (g' := A) hBA 0 (.slice none 0 0)).setCell 0 (.int .i64 (cd : Int))).setCell 1 (.int .i64 (ln : Int)))
        have kk := (((Kept.refl (fun k => k = A ∨ k = B) W).setCell (i := 0) (.inl (.inl rfl)) (.slice none 0 0)).setCell (g := B) (i := 0) (.inl (.inr rfl)) (.int .i64 (cd : Int))).setCell (g := B) (i := 1) (.inl (.inr rfl)) (.int .i64 (ln : Int))
        go_wp2_with fail
        refine bodyPost_ret (results_cc Tryz.results10 _ _ A B _ _ rfl rA Tryz.underlying25 rfl infoCfg rfl rB Tryz.underlying28 rfl infoFault) rfl ?_
        refine ⟨.slice none 0 0, [], ?_, ?_, sites_nil _ _, ?_⟩
        · rw [HR.out]; rfl
        · rw [HR.out]; rfl
        · have k0 := ((Kept.of_below (X := fun k => w.heap.size ≤ k) HF.out.1).trans H3.out.2.2.2.2.2 (fun k h _ => by have := HN.out; omega)).drew
          rw [hW] at k0
          exact (k0.trans kk (fun k h _ => by have := HN.out; omega)).below (fun k h _ => h) (Nat.le_refl _)
end Go.Proofs.YtenijpcjemdhfaaGreatDoor
/-
  The anchor of layer 9's statements.
-/
namespace Go.Proofs.YtenijpcjemdhfaaGreatDoor
open Go.RowKit Go.Pantry

/-- a text's config as it is read, and its fault -/
def ReadQ (w : World) (T : List UInt8) (e : Ending) (w' : World) : Prop :=
  ∃ ao c L, e = .returned (.tuple #[.agg #[.slice ao L.length c], .agg #[.int .i64 ((readM T).2.1 : Int), .int .i64 ((readM T).2.2 : Int)]]) ∧ L.map (·.1) = (readM T).1 ∧ SitesAt w' w.heap.size (.slice ao L.length c) L ∧ Below w.heap.size w w'
theorem readQ_any (T : List UInt8) (w : World) (hm : MaxOk w) (ht : Tab10 w) :
    Calls Tryz.prog 10 #[strV T] w (ReadQ w T) := by
  refine (readConf_any T w hm ht).mono ?_
  rintro e w' ⟨sv, L, rfl, hL, hs, hb⟩
  obtain ⟨ao, c, rfl⟩ := ownsRow_formN hs.own
  exact ⟨ao, c, L, rfl, hL, hs, hb⟩
theorem below2 {w w' : World} (o o' : Obj) (h : Below w.heap.size w w') : Below w.heap.size w ((w'.alloc o).alloc o') := chainP (chainP h (below_alloc _ _)) (below_alloc _ _)
theorem cellsOf {W : World} {g : Nat} {cs : Array Value} {t : TypeId} (h : rowIs W g cs t) : ∀ j, W.cell? ⟨g, j, none⟩ = cs[j]? := fun j => h.cell j
set_option maxRecDepth 100000 in
set_option maxHeartbeats 2000000 in
theorem anchor_any (w : World) (hm : MaxOk w) (ht : Tab10 w) :
    Calls Tryz.prog 9 #[] w fun e w' => e = .returned (.bool true) ∧ Below w.heap.size w w' := by
  have HM := hid hm
  have HT := hid ht
  have C1 := hid (readQ_any anchT1 w hm ht)
  clear hm ht
  go_enter Tryz.func9, Tryz.ntmps9
  go_wp2_with fail
  refine C1.out.mono ?_
  rintro e w1 ⟨ao1, c1, L1, rfl, hL1, hs1, hb1⟩
  rw [anch1] at hL1 ⊢
  have hlen : L1.length = 1 := by have := congrArg List.length hL1; simpa using this
  obtain ⟨⟨s1, hv1⟩, rfl⟩ := List.length_eq_one_iff.1 hlen
  clear hlen
  have hse : s1 = anchS := by simpa using hL1
  subst hse
  obtain ⟨b, off, hao, hcell⟩ := hs1.readsP.at_ (j := 0) (x := (anchS.z, hv1)) rfl
  subst hao
  obtain ⟨ao9, c9, hv9⟩ := (hs1.heads _ (List.mem_singleton.2 rfl)).reads.form
  simp only at hv9
  subst hv9
  have hr1 := rowIs_new w1 #[.slice (some ⟨b, off, none⟩) 1 c1] 25
  have hr2 := rowIs_new (w1.alloc (.cells #[.slice (some ⟨b, off, none⟩) 1 c1] 25)) #[.int .i64 0, .int .i64 0] 28
  obtain ⟨W1, hW1⟩ : ∃ W, (w1.alloc (.cells #[.slice (some ⟨b, off, none⟩) 1 c1] 25)).alloc (.cells #[.int .i64 0, .int .i64 0] 28) = W := ⟨_, rfl⟩
  have hB1 : Below w.heap.size w W1 := by rw [← hW1]; exact below2 _ _ hb1
  have hC1 : Below w1.heap.size w1 W1 := by rw [← hW1]; exact chainP (below_alloc _ _) (below_alloc _ _)
  have q1 : rowIs W1 w1.heap.size #[.slice (some ⟨b, off, none⟩) 1 c1] 25 := by rw [← hW1]; exact hr1.below (below_alloc _ _)
  have q2 : rowIs W1 (w1.heap.size + 1) #[.int .i64 0, .int .i64 0] 28 := by rw [← hW1]; simpa using hr2
  have C2 := hid (readQ_any anchT2 W1 (HM.out.below hB1) (HT.out.below hB1))
  have HQ := hid (And.intro q1 (And.intro q2 (And.intro hB1 (And.intro hC1 hcell))))
  have HW1 := hid hW1
  clear hL1 hs1 hb1 hcell hr1 hr2 hW1 hB1 hC1 q1 q2
  go_wp2_with fail
  change Calls _ _ _ ((w1.alloc (.cells #[.slice (some ⟨b, off, none⟩) 1 c1] 25)).alloc (.cells #[.int .i64 0, .int .i64 0] 28)) _
  rw [HW1.out]
  refine C2.out.mono ?_
  rintro e w2 ⟨ao2, c2, L2, rfl, hL2, hs2, hb2⟩
  rw [anch2] at hL2 ⊢
  have hn2 : L2 = [] := List.map_eq_nil_iff.1 hL2
  subst hn2
  obtain ⟨g1, hg1⟩ : ∃ g, w1.heap.size = g := ⟨_, rfl⟩
  obtain ⟨g2, hg2⟩ : ∃ g, g1 + 1 = g := ⟨_, rfl⟩
  have hr3 := rowIs_new w2 #[.slice ao2 0 c2] 25
  have hr4 : rowIs ((w2.alloc (.cells #[.slice ao2 0 c2] 25)).alloc (.cells #[.int .i64 11, .int .i64 2] 28)) (w2.heap.size + 1) #[.int .i64 11, .int .i64 2] 28 := rowIs_new_at _ _ _ _ (by simp)
  have hB2 := below2 (.cells #[.slice ao2 0 c2] 25) (.cells #[.int .i64 11, .int .i64 2] 28) hb2
  obtain ⟨h1, h2, h3, h4, h5⟩ := HQ.out
  rw [hg1] at h1 h2
  rw [hg2] at h2
  have t1 := (h1.below hB2).cell 0
  have t2 := (h2.below hB2).cell 0
  have t3 := (h2.below hB2).cell 1
  have t4 := hr4.cell 0
  have t5 := hr4.cell 1
  have x0 := kept (kept (h5 0 _ rfl) h4) hB2
  have x1 := kept (kept (h5 1 _ rfl) h4) hB2
  have x2 := kept (kept (h5 2 _ rfl) h4) hB2
  have x3 := kept (kept (h5 3 _ rfl) h4) hB2
  have x4 := kept (kept (h5 4 _ rfl) h4) hB2
  have x5 := kept (kept (h5 5 _ rfl) h4) hB2
  rw [show off + 0 * 7 + 0 = off by omega] at x0
  rw [show off + 0 * 7 + 1 = off + 1 by omega] at x1
  rw [show off + 0 * 7 + 2 = off + 2 by omega] at x2
  rw [show off + 0 * 7 + 3 = off + 3 by omega] at x3
  rw [show off + 0 * 7 + 4 = off + 4 by omega] at x4
  rw [show off + 0 * 7 + 5 = off + 5 by omega] at x5
  have HBE := hid (chainP h3 hB2)
  clear hL2 hs2 hb2 hr3 hr4 hB2 h1 h2 h3 h4 h5
  go_wp2_with fail
  go_ret
  exact ⟨rfl, HBE.out⟩
end Go.Proofs.YtenijpcjemdhfaaGreatDoor
/-
  How much a config that was read holds; two configs that are the same.
-/
namespace Go.Pantry
open Go.RowKit
theorem wordsF_len : ∀ (n : Nat) (s : List UInt8), (wordsF n s).length ≤ n
  | 0, s => Nat.le_refl _
  | n + 1, s => by
    rw [wordsF]; split
    · simp
    · rw [List.length_cons]; have := wordsF_len n (stepL s); omega
theorem textW_len (t : List UInt8) : (textW t).length ≤ t.length := Nat.le_trans (wordsF_len _ _) (skipL_le t false)
theorem ruleF_hsz : ∀ (k : Nat) (s : SiteM) (seen : List (List UInt8)) (p : Ps), hsz (ruleF k s seen p).1 (ruleF k s seen p).2 ≤ hsz s p
  | 0, s, seen, p => Nat.le_refl _
  | k + 1, s, seen, p => by
    rw [ruleF]; split
    · exact Nat.le_trans (ruleF_hsz k _ _ _) (rule_hsz s seen p)
    · exact Nat.le_refl _
theorem site_heads (hosts : List (List UInt8)) (p : Ps) : (siteM hosts p).1.heads.length ≤ p.ws.length := by
  have h1 := ruleF_hsz (meas (headM hosts p)) (site0 (hdW p)) [] (headM hosts p)
  have h2 := (fol_head hosts p).len
  unfold hsz at h1
  have h3 : (site0 (hdW p)).heads.length = 0 := rfl
  show (ruleF (meas (headM hosts p)) (site0 (hdW p)) [] (headM hosts p)).1.heads.length ≤ _
  omega
theorem cfgF_bound (M : Nat) : ∀ (k : Nat) (c : List SiteM) (hosts : List (List UInt8)) (p : Ps), p.ws.length ≤ M → (∀ s ∈ c, s.heads.length ≤ M) → (cfgF k c hosts p).1.length ≤ c.length + k ∧ ∀ s ∈ (cfgF k c hosts p).1, s.heads.length ≤ M
  | 0, c, hosts, p, _, hc => ⟨Nat.le_refl _, hc⟩
  | k + 1, c, hosts, p, hp, hc => by
    rw [cfgF]; split
    · have h1 := (fol_at c.length p).len
      have h2 := (fol_site hosts (atSite c.length p)).len
      have h3 := site_heads hosts (atSite c.length p)
      have := cfgF_bound M k (c ++ [(siteM hosts (atSite c.length p)).1]) (hdW (atSite c.length p) :: hosts) (siteM hosts (atSite c.length p)).2 (by omega) (fun s hs => by
        rcases List.mem_append.1 hs with e | e
        · exact hc s e
        · rw [List.mem_singleton] at e; subst e; omega)
      simp only [List.length_append, List.length_singleton] at this ⊢
      exact ⟨by omega, this.2⟩
    · exact ⟨by simp, hc⟩
theorem read_bounds (t : List UInt8) : (readM t).1.length ≤ 4097 ∧ ∀ s ∈ (readM t).1, s.heads.length ≤ 4096 := by
  by_cases h : 4096 < t.length
  · rw [readM_long h]; simp
  · rw [readM_short (by omega)]
    split
    · have h1 := textW_len t
      have h2 : meas (ps0 t) ≤ 4097 := by
        unfold meas
        split
        · show (textW t).length + 1 ≤ _; omega
        · omega
      have := cfgF_bound 4096 (meas (ps0 t)) [] [] (ps0 t) (show (textW t).length ≤ _ by omega) (fun s hs => absurd hs List.not_mem_nil)
      unfold cfgM
      simp only [List.length_nil] at this
      exact ⟨Nat.le_trans this.1 (by omega), this.2⟩
    · simp
theorem line_bound (t : List UInt8) : (readM t).2.2 ≤ 4097 := by
  by_cases h : 4096 < t.length
  · rw [readM_long h]; decide
  · rw [readM_short (by omega)]
    split
    · exact Nat.zero_le _
    · have := lineK_le t (cfgM t).2.pos; simp only; omega
theorem fault_line {t : List UInt8} (h : (readM t).2.1 = 0) : (readM t).2.2 = 0 := by
  by_cases h' : 4096 < t.length
  · rw [readM_long h'] at h; cases h
  · rw [readM_short (by omega)] at h ⊢
    split
    · rfl
    · rename_i hc; rw [if_neg hc] at h; exact absurd h hc
end Go.Pantry
namespace Go.Proofs.YtenijpcjemdhfaaGreatDoor
open Go.RowKit Go.Pantry

theorem zs_map (L : List (SiteM × Value)) : (zs L).map (·.1) = L.map (fun x => x.1.z) := by unfold zs; rw [List.map_map]; rfl
theorem zs_same {L1 L2 : List (SiteM × Value)} (h : L1.map (·.1) = L2.map (·.1)) : (zs L1).map (·.1) = (zs L2).map (·.1) := by
  rw [zs_map, zs_map]
  have := congrArg (List.map SiteM.z) h
  rw [List.map_map, List.map_map] at this
  exact this
theorem zs_len (L : List (SiteM × Value)) : (zs L).length = L.length := by unfold zs; simp
/-- a config that was read is not too much -/
theorem zs_few {T : List UInt8} {L : List (SiteM × Value)} (h : L.map (·.1) = (readM T).1) : (zs L).length ≤ 1000000 ∧ ∀ x ∈ zs L, x.1.heads.length ≤ 1000000 := by
  obtain ⟨b1, b2⟩ := read_bounds T
  refine ⟨?_, fun x hx => ?_⟩
  · rw [zs_len]
    have := congrArg List.length h
    rw [List.length_map] at this; omega
  · obtain ⟨y, hy, rfl⟩ := List.mem_map.1 hx
    have hm : y.1 ∈ (readM T).1 := by rw [← h]; exact List.mem_map.2 ⟨y, hy, rfl⟩
    have := b2 _ hm
    show y.1.heads.length ≤ _
    omega
theorem readsP_empty (w : World) (ao : Option Addr) (cap : Nat) : ReadsP w (.slice ao ([] : List (SiteM × Value)).length cap) (zs []) :=
  ⟨⟨ao, cap, rfl, fun j x h => by cases h⟩, fun x hx => absurd hx List.not_mem_nil⟩
theorem read_nil {t : List UInt8} (h : (readM t).2.1 ≠ 0) : (readM t).1 = [] := by
  by_cases h' : 4096 < t.length
  · rw [readM_long h']
  · rw [readM_short (by omega)] at h ⊢
    split
    · rename_i hc; rw [if_pos hc] at h; exact absurd rfl h
    · rfl
end Go.Proofs.YtenijpcjemdhfaaGreatDoor
/-
  Contract of package pantrymade: SmallSites.
-/
namespace Go.Proofs.YtenijpcjemdhfaaGreatDoor
open Go.RowKit Go.Pantry

def SmallPost (w : World) (L : List (SiteZ × Value)) (e : Ending) (w' : World) : Prop :=
  ∃ b, e = .returned (.bool b) ∧ (b = true → L.length ≤ 12 ∧ ∀ x ∈ L, x.1.host.length ≤ 100 ∧ x.1.heads.length ≤ 10 ∧ ∀ y ∈ x.1.heads, y.length ≤ 100) ∧ Below w.heap.size w w'
theorem small_no {w w' : World} {L : List (SiteZ × Value)} (h : Below w.heap.size w w') : SmallPost w L (.returned (.bool false)) w' := ⟨false, rfl, fun e => absurd e Bool.false_ne_true, h⟩
set_option maxRecDepth 8000 in
theorem smallSites_any (v : Value) (L : List (SiteZ × Value)) (w : World) (h : ReadsP w v L) (hl : L.length ≤ 9223372036854775807) (hh : ∀ x ∈ L, x.1.heads.length ≤ 9223372036854775807) :
    Calls Tryz.prog 16 #[.agg #[v]] w (SmallPost w L) := by
  obtain ⟨n, hn⟩ : ∃ n, L.length = n := ⟨_, rfl⟩
  obtain ⟨ao, c, e1, f1⟩ := h.form
  rw [hn] at e1
  subst e1
  have HR := hid h
  have HH := hid hh
  have HL := hid hn
  have hnl : n ≤ 9223372036854775807 := by omega
  have j1 := (rowIs_new w #[.slice ao n c] 25).cell 0
  have J0 := hid (rowIs_new w #[.slice ao n c] 25)
  clear h hn hh hl f1
  go_enter Tryz.func16, Tryz.ntmps16
  go_wp2_with fail
  clear j1
  go_loopw [10] (fun z wr => ∃ (k : Nat), z = .int .i64 (k : Int) ∧ k ≤ n ∧ Below (w.heap.size + 1) (w.alloc (.cells #[.slice ao n c] 25)) wr ∧ ∀ x ∈ L.take k, x.1.host.length ≤ 100 ∧ x.1.heads.length ≤ 10 ∧ ∀ y ∈ x.1.heads, y.length ≤ 100) (fun z _ => n - (intOf z).toNat)
  case atStart => exact ⟨0, rfl, Nat.zero_le _, Below.refl _ _, fun x hx => by simp at hx⟩
  case round =>
    obtain ⟨k, rfl, hk, hb, hf⟩ := hrel
    have HB := hid (And.intro hb hf)
    have HBW : Hid (Below w.heap.size w wr) := chainP (below_alloc w (.cells #[.slice ao n c] 25)) (hb.mono (by simp))
    by_cases hlt : k < n
    · obtain ⟨⟨s, hv⟩, hx⟩ : ∃ x, L[k]? = some x := by
        have := HL.out
        exact ⟨L[k]'(by omega), List.getElem?_eq_getElem (by omega)⟩
      have hrd := (HR.out.heads _ (List.mem_of_getElem? hx)).below HBW.out
      have HRD := hid hrd
      obtain ⟨ah, ch, hfv⟩ := hrd.form
      simp only at hfv
      obtain ⟨nh, hnh⟩ : ∃ nh, s.heads.length = nh := ⟨_, rfl⟩
      rw [List.length_map, hnh] at hfv
      subst hfv
      obtain ⟨b1, o1, g1, i1⟩ := (HR.out.below HBW.out).at_ hx
      subst g1
      have hkI : (k : Int) < (n : Int) := by omega
      have hk0 : (0 : Int) ≤ (k : Int) := by omega
      have hkw : IntKind.i64.wrap ((k : Int) + 1) = (k : Int) + 1 := IntWalk.i64_in _ (by omega)
      obtain ⟨p1, hp1⟩ : ∃ p, o1 + k * 7 = p := ⟨_, rfl⟩
      rw [hp1] at i1
      have y0 := i1 0 _ rfl
      have y1 := i1 1 _ rfl
      have y2 := i1 2 _ rfl
      have y3 := i1 3 _ rfl
      have y4 := i1 4 _ rfl
      have y5 := i1 5 _ rfl
      have y6 := i1 6 _ rfl
      rw [Nat.add_zero] at y0
      have hnl2 : nh ≤ 9223372036854775807 := by rw [← hnh]; exact HH.out _ (List.mem_of_getElem? hx)
      have HX := hid (And.intro hx hnh)
      clear hb hx i1 hf hnh hrd hlt
      by_cases gh : (100 : Int) < (s.host.length : Int)
      · have d1 : decide ((100 : Int) < (s.host.length : Int)) = true := decide_eq_true gh
        go_wp2_with fail
        go_ret
        exact small_no (chainP HBW.out (below_alloc _ _))
      have d1 : decide ((100 : Int) < (s.host.length : Int)) = false := decide_eq_false gh
      by_cases gq : (10 : Int) < (nh : Int)
      · have d2 : decide ((10 : Int) < (nh : Int)) = true := decide_eq_true gq
        go_wp2_with fail
        go_ret
        exact small_no (chainP HBW.out (below_alloc _ _))
      have d2 : decide ((10 : Int) < (nh : Int)) = false := decide_eq_false gq
      go_wp2_with fail
      clear y0 y1 y2 y3 y4 y5 y6
      have HQ : Hid (∀ wq, Below (wr.heap.size + 1) (wr.alloc (.cells (rowZ (.slice ah nh ch) s) 64)) wq → Below w.heap.size w wq ∧ Reads wq (.slice ah nh ch) (s.heads.map strV) ∧ Below (w.heap.size + 1) (w.alloc (.cells #[.slice (some ⟨b1, o1, none⟩) n c] 25)) wq) := fun wq hq => by
        have h1 : Below wr.heap.size wr wq := chainP (below_alloc wr (.cells (rowZ (.slice ah nh ch) s) 64)) (hq.mono (by simp))
        refine ⟨chainP HBW.out h1, HRD.out.below h1, HB.out.1.trans (h1.mono ?_)⟩
        have := HB.out.1.size
        simpa using this
      go_loopw [27] (fun z wq => ∃ (m : Nat), z = .int .i64 (m : Int) ∧ m ≤ nh ∧ (∀ y ∈ s.heads.take m, y.length ≤ 100) ∧ Below (wr.heap.size + 1) (wr.alloc (.cells (rowZ (.slice ah nh ch) s) 64)) wq) (fun z _ => nh - (intOf z).toNat)
      case atStart => exact ⟨0, rfl, Nat.zero_le _, (fun y hy => by simp at hy), Below.refl _ _⟩
      case round =>
        obtain ⟨m, rfl, hm, hty, hbq⟩ := hrel
        have HBQ := hid hbq
        have HTY := hid hty
        clear hty
        have q1 := (HQ.out _ hbq).2.1
        by_cases hltq : m < nh
        · obtain ⟨x, hx⟩ : ∃ x, s.heads[m]? = some x := by
            have := HX.out.2
            exact ⟨s.heads[m]'(by omega), List.getElem?_eq_getElem (by omega)⟩
          have hxm : (s.heads.map strV)[m]? = some (strV x) := by rw [List.getElem?_map, hx]; rfl
          obtain ⟨a1, c1', e1, f1, -⟩ := q1
          injection e1 with e1 k1 k2
          clear k1 k2
          subst e1
          obtain ⟨b2, o2, g2, i2⟩ := f1 m _ hxm
          subst g2
          have d0 := i2
          have hmI : (m : Int) < (nh : Int) := by omega
          have hm0 : (0 : Int) ≤ (m : Int) := by omega
          have hmw : IntKind.i64.wrap ((m : Int) + 1) = (m : Int) + 1 := IntWalk.i64_in _ (by omega)
          have HXX := hid hx
          clear hbq f1 hx hxm i2
          by_cases gx : (100 : Int) < (x.length : Int)
          · have d3 : decide ((100 : Int) < (x.length : Int)) = true := decide_eq_true gx
            go_wp2_with fail
            go_ret
            exact small_no (HQ.out _ HBQ.out).1
          have d3 : decide ((100 : Int) < (x.length : Int)) = false := decide_eq_false gx
          go_wp2_with fail
          go_roundw
          case rel =>
            refine ⟨m + 1, by go_num, hltq, fun y hy => ?_, HBQ.out⟩
            rw [List.take_add_one, HXX.out] at hy
            rcases List.mem_append.1 hy with hy | hy
            · exact HTY.out y hy
            · obtain rfl : y = x := by simpa using hy
              omega
          case measure => simp [intOf]; omega
        · clear q1 hbq
          go_wp2_with fail
          go_roundw
          case rel =>
            refine ⟨k + 1, by go_num, (by omega), (HQ.out _ HBQ.out).2.2, ?_⟩
            intro x hx
            rw [List.take_add_one, HX.out.1] at hx
            rcases List.mem_append.1 hx with hx | hx
            · exact HB.out.2 x hx
            · obtain rfl : x = (s, .slice ah nh ch) := by simpa using hx
              have := HX.out.2
              refine ⟨by show s.host.length ≤ 100; omega, by show s.heads.length ≤ 10; omega, fun y hy => ?_⟩
              have e1 : s.heads.take m = s.heads := List.take_of_length_le (by omega)
              exact HTY.out y (by rw [e1]; exact hy)
          case measure => simp [intOf]; omega
    · have hkn : n = k := by omega
      subst hkn
      have j1 := (J0.out.below (show Below (w.alloc (.cells #[.slice ao n c] 25)).heap.size _ wr from hb.mono (by simp))).cell 0
      have hall := hf
      rw [List.take_of_length_le (by have := HL.out; omega)] at hall
      have HAL := hid hall
      clear hb hf hall
      by_cases g12 : (n : Int) ≤ 12
      · have d4 : decide ((n : Int) ≤ 12) = true := decide_eq_true g12
        go_wp2_with fail
        go_ret
        exact ⟨true, rfl, fun _ => ⟨by have := HL.out; omega, HAL.out⟩, HBW.out⟩
      · have d4 : decide ((n : Int) ≤ 12) = false := decide_eq_false g12
        go_wp2_with fail
        go_ret
        exact small_no HBW.out
end Go.Proofs.YtenijpcjemdhfaaGreatDoor
/-
  Contract of the document's Find of a config.
-/
namespace Go.Proofs.YtenijpcjemdhfaaGreatDoor
open Go.RowKit Go.Pantry

def RefFindPost (w : World) (L : List (SiteZ × Value)) (host : List UInt8) (e : Ending) (w' : World) : Prop :=
  ((∃ (k : Nat) (x : SiteZ × Value), e = .returned (.int .i64 (k : Int)) ∧ L[k]? = some x ∧ L.find? (fun x => x.1.host == host) = some x) ∨
    (e = .returned (.int .i64 (-1)) ∧ L.find? (fun x => x.1.host == host) = none)) ∧ Below w.heap.size w w'
set_option maxRecDepth 8000 in
theorem refFindC_any (v : Value) (L : List (SiteZ × Value)) (host : List UInt8) (w : World) (h : ReadsP w v L) (hl : L.length ≤ 1000000) :
    Calls Tryz.prog 29 #[.agg #[v], strV host] w (RefFindPost w L host) := by
  obtain ⟨n, hn⟩ : ∃ n, L.length = n := ⟨_, rfl⟩
  obtain ⟨ao, c, e1, f1⟩ := h.form
  rw [hn] at e1
  subst e1
  have HR := hid h
  have HL := hid hn
  have hnl : n ≤ 1000000 := by omega
  have J0 : Hid (rowIs (w.alloc (.cells #[.slice ao n c] 33)) w.heap.size #[.slice ao n c] 33) := rowIs_new _ _ _
  have J1 := hid (below_alloc w (.cells #[.slice ao n c] 33))
  clear h hn hl f1
  go_enter Tryz.func29, Tryz.ntmps29
  go_wp2_with fail
  go_loopw [5] (fun z wr => ∃ (k : Nat), z = .int .i64 (k : Int) ∧ k ≤ n ∧ rowIs wr w.heap.size #[.slice ao n c] 33 ∧ Below w.heap.size w wr ∧ (L.take k).find? (fun x => x.1.host == host) = none) (fun z _ => n - (intOf z).toNat)
  case atStart => exact ⟨0, rfl, Nat.zero_le _, J0.out, J1.out, rfl⟩
  case round =>
    obtain ⟨k, rfl, hk, hra, hb, hf⟩ := hrel
    have HB := hid (And.intro hra (And.intro hb hf))
    have j1 := hra.cell 0
    by_cases hlt : k < n
    · obtain ⟨⟨s, hv⟩, hx⟩ : ∃ x, L[k]? = some x := by
        have := HL.out
        exact ⟨L[k]'(by omega), List.getElem?_eq_getElem (by omega)⟩
      obtain ⟨b1, o1, g1, i1⟩ := (HR.out.below hb).at_ hx
      subst g1
      have hkI : (k : Int) < (n : Int) := by omega
      have hk0 : (0 : Int) ≤ (k : Int) := by omega
      have hkw : IntKind.i64.wrap ((k : Int) + 1) = (k : Int) + 1 := IntWalk.i64_in _ (by omega)
      obtain ⟨p1, hp1⟩ : ∃ p, o1 + k * 7 = p := ⟨_, rfl⟩
      rw [hp1] at i1
      have y0 := i1 0 _ rfl
      rw [Nat.add_zero] at y0
      have HX := hid hx
      clear hb hx i1 hra hf
      by_cases hm : s.host = host
      · subst hm
        have z1 : (s.host == s.host) = true := by simp
        go_wp2_with fail
        go_ret
        have hfd : L.find? (fun x => x.1.host == s.host) = some (s, hv) := by
          obtain ⟨hkl, hkx⟩ := List.getElem?_eq_some_iff.1 HX.out
          rw [← List.take_append_drop k L, List.find?_append, HB.out.2.2, Option.none_or, List.drop_eq_getElem_cons hkl, hkx]
          simp
        exact ⟨.inl ⟨k, (s, hv), rfl, HX.out, hfd⟩, HB.out.2.1⟩
      · have z1 : (s.host == host) = false := by simp [hm]
        go_wp2_with fail
        go_roundw
        case rel =>
          refine ⟨k + 1, by go_num, hlt, HB.out.1, HB.out.2.1, ?_⟩
          rw [List.take_add_one, HX.out]
          simp [HB.out.2.2, hm]
        case measure => simp [intOf]; omega
    · have hkn : n = k := by omega
      have hfn : L.find? (fun x => x.1.host == host) = none := by
        have := HB.out.2.2
        rwa [List.take_of_length_le (by have := HL.out; omega)] at this
      have HFN := hid hfn
      clear hra hb hf hfn
      go_wp2_with fail
      go_ret
      exact ⟨.inr ⟨rfl, HFN.out⟩, HB.out.2.1⟩
end Go.Proofs.YtenijpcjemdhfaaGreatDoor
