/-
  Contract of package conf: Read.
-/
import Derived.Test.YtffenndchmcncaaGreatDoorConfK
namespace Go.Proofs.YtffenndchmcncaaGreatDoor
open Go.RowKit Go.Pantry

theorem infoFault : (Tryz.prog.info? 28).map (·.size) = some 2 := by kernel_rfl
theorem oneFault (a b : Int) : (#[.int .i64 a, .int .i64 b] : Array Value).all (·.oneCell') = true := by simp [Value.oneCell']
theorem results_cc {P : Program} {fn : Func} {a c : Tmp} {t u e e' : TypeId} {d d' : TypeDesc} (h : fn.results = #[.cell a t, .cell c u]) (tmps : Array Value) (w : World) (g k : Nat) (cs ds : Array Value)
    (hp : tmps.getD a undef = .pointer (some ⟨g, 0, none⟩)) (hg : rowIs w g cs e) (hu : P.underlying t = some d) (hd : (match d with | .struct _ | .array _ _ => true | _ => false) = true) (hi : (P.info? t).map (·.size) = some cs.size)
    (hq : tmps.getD c undef = .pointer (some ⟨k, 0, none⟩)) (hk : rowIs w k ds e') (hu' : P.underlying u = some d') (hd' : (match d' with | .struct _ | .array _ _ => true | _ => false) = true) (hi' : (P.info? u).map (·.size) = some ds.size) :
    (results fn tmps).run P w = .ok (.tuple #[.agg cs, .agg ds]) w := by
  have h1 := run_loadVar_row (P := P) w g e t cs (0, 0) d hg hu hd hi
  have h2 := run_loadVar_row (P := P) w k e' u ds (0, 0) d' hk hu' hd' hi'
  have hp' : tmps[a]?.getD undef = .pointer (some ⟨g, 0, none⟩) := by simpa using hp
  have hq' : tmps[c]?.getD undef = .pointer (some ⟨k, 0, none⟩) := by simpa using hq
  simp [results, h, hp', hq', asAddr, h1, h2]
/-- what Read leaves -/
def ReadPostC (w : World) (T : List UInt8) (e : Ending) (w' : World) : Prop :=
  ∃ sv L, e = .returned (.tuple #[.agg #[sv], .agg #[.int .i64 ((readM T).2.1 : Int), .int .i64 ((readM T).2.2 : Int)]]) ∧ L.map (·.1) = (readM T).1 ∧ SitesAt w' w.heap.size sv L ∧ Below w.heap.size w w'
set_option maxRecDepth 8000 in
theorem readConf_any (T : List UInt8) (w : World) (hm : MaxOk w) (ht : Tab10 w) :
    Calls Tryz.prog 12 #[strV T] w (ReadPostC w T) := by
  by_cases hl : 4096 < T.length
  · have hR : readM T = ([], 32, 1) := by unfold readM; rw [if_pos hl]
    have HR := hid hR
    clear hm ht hR
    go_enter Tryz.func12, Tryz.ntmps12
    go_wp2_with fail
    have hb := chainP (below_alloc w (.cells #[.slice none 0 0] 25)) (below_alloc _ (.cells #[.int .i64 32, .int .i64 1] 28))
    have r1 : rowIs ((w.alloc (.cells #[.slice none 0 0] 25)).alloc (.cells #[.int .i64 32, .int .i64 1] 28)) w.heap.size #[.slice none 0 0] 25 := (rowIs_new _ _ _).below (below_alloc _ _)
    have r2 : rowIs ((w.alloc (.cells #[.slice none 0 0] 25)).alloc (.cells #[.int .i64 32, .int .i64 1] 28)) (w.heap.size + 1) #[.int .i64 32, .int .i64 1] 28 := rowIs_new_at _ _ _ _ (by simp)
    refine bodyPost_ret (results_cc Tryz.results12 _ _ w.heap.size (w.heap.size + 1) _ _ rfl r1 Tryz.underlying25 rfl infoCfg rfl r2 Tryz.underlying28 rfl infoFault) rfl ?_
    refine ⟨.slice none 0 0, [], ?_, ?_, sites_nil _ _, hb⟩
    · rw [HR.out]; rfl
    · rw [HR.out]; rfl
  · have hl' : T.length ≤ 4096 := by omega
    have hR : readM T = if (cfgM T).2.code = 0 then ((cfgM T).1, 0, 0) else ([], (cfgM T).2.code, lineK T (cfgM T).2.pos) := by unfold readM; rw [if_neg hl]
    have HR := hid hR
    have hwl : (ps0 T).ws.length ≤ 50000 := by
      have : ∀ (n : Nat) (s : List UInt8), (wordsF n s).length ≤ n := by
        intro n
        induction n with
        | zero => intro s; exact Nat.le_refl _
        | succ n ih =>
          intro s
          rw [wordsF]; split
          · simp
          · rw [List.length_cons]; have := ih (stepL s); omega
      have h1 : (wordsL (skipL false T)).length ≤ (skipL false T).length := this _ _
      have h2 := skipL_le T false
      show (textW T).length ≤ _
      unfold textW; omega
    obtain ⟨A, hA⟩ : ∃ A, w.heap.size = A := ⟨_, rfl⟩
    obtain ⟨B, hB⟩ : ∃ B, A + 1 = B := ⟨_, rfl⟩
    obtain ⟨g, hg⟩ : ∃ g, B + 1 = g := ⟨_, rfl⟩
    obtain ⟨W0, hW0⟩ : ∃ W, ((w.alloc (.cells #[.slice none 0 0] 25)).alloc (.cells #[.int .i64 0, .int .i64 0] 28)).alloc (.cells #[.int .i64 0, .int .i64 0, strV T, .int .i64 0, strV []] 90) = W := ⟨_, rfl⟩
    have hb0 : Below w.heap.size w W0 := by
      rw [← hW0]; exact chainP (chainP (below_alloc _ _) (below_alloc _ _)) (below_alloc _ _)
    have r1 : rowIs W0 A #[.slice none 0 0] 25 := by rw [← hW0, ← hA]; exact ((rowIs_new _ _ _).below (below_alloc _ _)).below (below_alloc _ _)
    have r2 : rowIs W0 B #[.int .i64 0, .int .i64 0] 28 := by rw [← hW0]; exact (rowIs_new_at _ _ _ _ (by simp; omega)).below (below_alloc _ _)
    have r3 : rowIs W0 g #[.int .i64 0, .int .i64 0, strV T, .int .i64 0, strV []] 90 := by rw [← hW0]; exact rowIs_new_at _ _ _ _ (by simp; omega)
    have he : Env g W0 := ⟨w, hm, ht, by omega, hb0⟩
    have HN := hid (And.intro hA (And.intro hB hg))
    have HF := hid (And.intro hb0 (And.intro r1 (And.intro r2 (And.intro r3 he))))
    have HW := hid hW0
    clear hm ht hR hW0 hb0 r1 r2 r3 he
    go_enter Tryz.func12, Tryz.ntmps12
    go_wp2_with fail
    change Calls _ _ _ (((w.alloc (.cells #[.slice none 0 0] 25)).alloc (.cells #[.int .i64 0, .int .i64 0] 28)).alloc (.cells #[.int .i64 0, .int .i64 0, strV T, .int .i64 0, strV []] 90)) _
    rw [HW.out]
    refine (step_first g T W0 HF.out.2.2.2.1 hl' HF.out.2.2.2.2).mono ?_
    intro e w1 hp1
    obtain ⟨u1, rfl, ho1, hk1⟩ := hp1.form
    have H1 := hid (And.intro ho1 hk1)
    clear hp1 ho1 hk1
    go_wp2_with fail
    refine (config_any g T _ w1 H1.out.1 hwl).mono ?_
    rintro e w2 ⟨sv, L, rfl, hL, hs2, ho2, hk2⟩
    have hk02 := kept_g H1.out.2 hk2
    have hgA : A < g ∧ B < g := by have := HN.out; omega
    obtain ⟨ao, cs, hform⟩ := ownsRow_formN hs2.own
    obtain ⟨ns, hns⟩ : ∃ ns, L.length = ns := ⟨_, rfl⟩
    rw [hns] at hform
    subst hform
    obtain ⟨w3, hW3⟩ : ∃ W, w2.alloc (.cells #[.slice ao ns cs] 25) = W := ⟨_, rfl⟩
    have hb3 : Below w2.heap.size w2 w3 := by rw [← hW3]; exact below_alloc _ _
    have r5 : rowIs w3 w2.heap.size #[.slice ao ns cs] 25 := by rw [← hW3]; exact rowIs_new _ _ _
    have q1 := (HF.out.2.1.kept hk02 (by omega)).below hb3
    have q2 := (HF.out.2.2.1.kept hk02 (by omega)).below hb3
    have H3 := hid (And.intro (ho2.below hb3) (And.intro (hs2.kept (Kept.of_below (X := fun _ => False) hb3) (fun _ _ _ h => h)) (And.intro q1 (And.intro q2 (And.intro r5 (hk02.then hb3))))))
    obtain ⟨p2, hp2⟩ : ∃ p2, (cfgF (meas (ps0 T)) [] [] (ps0 T)).2 = p2 := ⟨_, rfl⟩
    obtain ⟨c2, hc2⟩ : ∃ c2, (cfgF (meas (ps0 T)) [] [] (ps0 T)).1 = c2 := ⟨_, rfl⟩
    have hcm : (cfgM T).2 = p2 ∧ (cfgM T).1 = c2 := ⟨hp2, hc2⟩
    rw [hp2] at H3
    rw [hc2] at hL
    rw [hcm.1, hcm.2] at HR
    have HL := hid hL
    have HSZ := hid (show A < w2.heap.size ∧ B < w2.heap.size ∧ g < w2.heap.size from by have := ho2.lt; omega)
    have HW3 := hid hW3
    clear hs2 ho2 hk2 hk02 hb3 r5 q1 q2 hp2 hc2 hcm hL hW3 hwl
    go_wp2_with fail
    rw [HW3.out]
    have cf := faultless_any g T p2 w3 H3.out.1
    by_cases h0 : p2.code = 0
    · rw [show (p2.code == 0) = true by simp [h0]] at cf
      rw [if_pos h0] at HR
      have k5 := H3.out.2.2.2.2.1.cell 0
      have ka := H3.out.2.2.1.cell 0
      have kf := H3.out.2.2.1.free 0
      have hra := H3.out.2.2.1.setCell 0 (.slice ao ns cs)
      have hrb := H3.out.2.2.2.1.setCell_block (g' := A) (by have := HN.out; omega) 0 (.slice ao ns cs)
      have CF := hid cf
      clear cf h0
      refine CF.out.mono ?_
      rintro e w4 ⟨rfl, rfl⟩
      go_wp2_with (refine wpList_store_row rfl 28 _ _ rfl B _ rfl rfl 28 _ hrb infoFault rfl (oneFault _ _) ?_)
      have kk := ((Kept.refl (fun k => k = A ∨ k = B) w3).setCell (i := 0) (.inl (.inl rfl)) (.slice ao ns cs)).setRow (g := B) (.inl (.inr rfl)) #[.int .i64 0, .int .i64 0]
      refine bodyPost_ret (results_cc Tryz.results12 _ _ A B _ _ rfl (hra.setRow_other _ (by have := HN.out; omega)) Tryz.underlying25 rfl infoCfg rfl (hrb.setRow _) Tryz.underlying28 rfl infoFault) rfl ?_
      refine ⟨.slice ao ns cs, L, ?_, ?_, ?_, ?_⟩
      · rw [HR.out]; rfl
      · rw [HL.out, HR.out]
      · have hs := (H3.out.2.1.kept kk (fun k hB _ e => by have h1 := HN.out; have h2 := (HF.out.1).size; have h3 := H1.out.2.size; have h4 := HSZ.out; have h5 := HF.out.2.2.2.1.lt; omega))
        have hle : w.heap.size ≤ w1.heap.size := Nat.le_trans HF.out.1.size H1.out.2.size
        exact ⟨hs.own, hs.heads, fun x hx k hk => ⟨by have := (hs.apart x hx k hk).1; omega, (hs.apart x hx k hk).2⟩, fun k hk => by have := hs.inn k hk; omega⟩
      · have k0 := (Kept.of_below (X := fun k => w.heap.size ≤ k) HF.out.1).trans H3.out.2.2.2.2.2 (fun k h _ => by have := HN.out; omega)
        exact (k0.trans kk (fun k h _ => by have := HN.out; omega)).below (fun k h _ => h) (Nat.le_refl _)
    · rw [show (p2.code == 0) = false by simp [h0]] at cf
      rw [if_neg h0] at HR
      obtain ⟨s2, hs2⟩ := H3.out.1.at_
      have hln : lineP T p2 = lineK T p2.pos := by unfold lineP; rw [if_neg h0]
      have g0 := hs2.row.cell 0
      have g1 := hs2.row.cell 1
      simp only [rcRow, hln] at g0 g1
      have ka := H3.out.2.2.1.cell 0
      have kf := H3.out.2.2.1.free 0
      have kb0 := H3.out.2.2.2.1.cell 0
      have kb1 := H3.out.2.2.2.1.cell 1
      have kbf0 := H3.out.2.2.2.1.free 0
      have kbf1 := H3.out.2.2.2.1.free 1
      obtain ⟨cd, hcd⟩ : ∃ cd, p2.code = cd := ⟨_, rfl⟩
      obtain ⟨ln, hln2⟩ : ∃ ln, lineK T p2.pos = ln := ⟨_, rfl⟩
      rw [hcd] at g0 HR
      rw [hln2] at g1 HR
      have CF := hid cf
      clear cf h0 hs2 hln hcd hln2
      refine CF.out.mono ?_
      rintro e w4 ⟨rfl, rfl⟩
      go_wp2_with fail
      obtain ⟨W, hW⟩ : ∃ W, w3.drew = W := ⟨_, rfl⟩
      have m0 : W.cell? ⟨g, 0, none⟩ = some (.int .i64 (cd : Int)) := by rw [← hW]; exact g0
      have m1 : W.cell? ⟨g, 1, none⟩ = some (.int .i64 (ln : Int)) := by rw [← hW]; exact g1
      have n0 : W.cell? ⟨A, 0, none⟩ = some (.slice none 0 0) := by rw [← hW]; exact ka
      have n1 : W.frozen? ⟨A, 0, none⟩ = false := by rw [← hW]; exact kf
      have b0 : W.cell? ⟨B, 0, none⟩ = some (.int .i64 0) := by rw [← hW]; exact kb0
      have b1 : W.cell? ⟨B, 1, none⟩ = some (.int .i64 0) := by rw [← hW]; exact kb1
      have b2 : W.frozen? ⟨B, 0, none⟩ = false := by rw [← hW]; exact kbf0
      have b3 : W.frozen? ⟨B, 1, none⟩ = false := by rw [← hW]; exact kbf1
      have hAB : ¬ A = B := by have := HN.out; omega
      have hBA : ¬ B = A := by have := HN.out; omega
      have hgA1 : ¬ A = g := by omega
      have hgA2 : ¬ g = A := by omega
      clear g0 g1 ka kf kb0 kb1 kbf0 kbf1
      go_region_with (fail)
      all_goals
        clear m0 m1 n0 n1 b0 b1 b2 b3
        have hA1 : rowIs W A #[.slice none 0 0] 25 := by rw [← hW]; exact H3.out.2.2.1
        have hB1 : rowIs W B #[.int .i64 0, .int .i64 0] 28 := by rw [← hW]; exact H3.out.2.2.2.1
        have rA := ((hA1.setCell 0 (.slice none 0 0)).setCell_block (g' := B) hAB 0 (.int .i64 (cd : Int))).setCell_block (g' := B) hAB 1 (.int .i64 (ln : Int))
        have rB := (((hB1.setCell_block (g' := A) hBA 0 (.slice none 0 0)).setCell 0 (.int .i64 (cd : Int))).setCell 1 (.int .i64 (ln : Int)))
        have kk := (((Kept.refl (fun k => k = A ∨ k = B) W).setCell (i := 0) (.inl (.inl rfl)) (.slice none 0 0)).setCell (g := B) (i := 0) (.inl (.inr rfl)) (.int .i64 (cd : Int))).setCell (g := B) (i := 1) (.inl (.inr rfl)) (.int .i64 (ln : Int))
        go_wp2_with fail
        refine bodyPost_ret (results_cc Tryz.results12 _ _ A B _ _ rfl rA Tryz.underlying25 rfl infoCfg rfl rB Tryz.underlying28 rfl infoFault) rfl ?_
        refine ⟨.slice none 0 0, [], ?_, ?_, sites_nil _ _, ?_⟩
        · rw [HR.out]; rfl
        · rw [HR.out]; rfl
        · have k0 := ((Kept.of_below (X := fun k => w.heap.size ≤ k) HF.out.1).trans H3.out.2.2.2.2.2 (fun k h _ => by have := HN.out; omega)).drew
          rw [hW] at k0
          exact (k0.trans kk (fun k h _ => by have := HN.out; omega)).below (fun k h _ => h) (Nat.le_refl _)
end Go.Proofs.YtffenndchmcncaaGreatDoor
