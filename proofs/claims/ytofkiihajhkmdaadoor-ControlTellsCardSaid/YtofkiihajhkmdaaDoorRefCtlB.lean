/-
  Contracts of the document's answers of layer 4: Of.
-/
import Derived.Test.YtofkiihajhkmdaaDoorRefCtlA
import Derived.Test.YtofkiihajhkmdaaDoorRefFieldE
import Derived.Test.YtofkiihajhkmdaaDoorCtlV
import Derived.Test.YtofkiihajhkmdaaDoorBase3
namespace Go.Proofs.YtofkiihajhkmdaaDoor
open Go.RowKit Go.Pantry

theorem infoRC : (Tryd.prog.info? 27).map (·.size) = some 10 := by kernel_rfl

set_option maxHeartbeats 8000000 in
theorem refOf_any (v : Value) (L : List Fld) (w : World) (hr : Reads2 w v L) (hL : ∀ f ∈ L, f.1.length ≤ 100000 ∧ f.2.length ≤ 100000) (hn : L.length ≤ 1000) :
    Calls Tryd.prog 13 #[v] w fun e w' => e = .returned (ctlV (ctlF L)) ∧ Below w.heap.size w w' := by
  have hL1 : ∀ f ∈ L, f.1.length < 4294967296 := fun f hf => by have := (hL f hf).1; omega
  have hL2 : ∀ f ∈ L, f.2.length ≤ 100000 := fun f hf => (hL f hf).2
  obtain ⟨hz, hzs⟩ := elementsF_size (n := nCC) hL2 hn
  have ce := fun W h => refElements_any v L ⟨nCC.toArray⟩ W h hL1 hL2 hn (by decide)
  have cg := fun W h => refGet_any v L ⟨nCC.toArray⟩ W h hL1 hL2 hn (by decide)
  have ch := fun W h => refHas_any v L ⟨nPragma.toArray⟩ ⟨nNoCache.toArray⟩ W h hL1 hL2 hn (by decide) (by decide)
  rw [dtL] at ce cg
  rw [dtL, dtL] at ch
  have hc : ctlF L = ctlE (elementsF L nCC) ((allF L nCC).isEmpty && hasF L nPragma nNoCache) := rfl
  have hal := allF_len L nCC
  generalize elementsF L nCC = E at ce hc hz hzs
  generalize getF L nCC = G at cg
  obtain ⟨T, hT⟩ : ∃ T, allF L nCC = T := ⟨_, rfl⟩
  rw [hT] at cg hc hal
  generalize hasF L nPragma nNoCache = hp at ch hc
  have hEs : ∀ e ∈ E, e.length < 4294967296 := fun e he => by have := hzs e he; omega
  have sd := fun n W v h => refSaid_any v E n W h hEs (by omega)
  have td := fun n o b m zo zb W v hzo hzb ho hb h => refTold_any v E n o b m zo zb W hzo hzb ho hb h hEs (by omega)
  have CE := hid ce
  have CG := hid cg
  have CH := hid ch
  have SD := hid sd
  have TD := hid td
  have HC := hid hc
  have HR := hid hr
  clear ce cg ch sd td hc hr hL hL1 hL2 hzs hEs hT
  go_enter Tryd.func13, Tryd.ntmps13
  obtain ⟨W, hW⟩ : ∃ W, W = w.alloc (.cells zeroC 27) := ⟨_, rfl⟩
  have hbW : Below w.heap.size w W := by rw [hW]; exact below_alloc _ _
  have hro : rowIs W w.heap.size zeroC 27 := by rw [hW]; exact rowIs_new _ _ _
  unfold zeroC at hW
  go_wp2_with fail
  rw [← hW]
  clear hW
  refine (CE.out _ (HR.out.below hbW)).mono ?_
  rintro e w1 ⟨⟨ve, rfl, hoe⟩, hb1⟩
  replace hro := hro.below hb1
  have HE := hid hoe.reads
  have hb := chain2 hbW hbW.size hb1
  clear hb1 hbW hoe
  go_wp2_with fail
  refine (SD.out nNoStore _ _ HE.out).mono ?_
  rintro e w2 ⟨rfl, hb2⟩
  go_wp2_with fail
  refine (SD.out nNoCache _ _ (HE.out.below hb2)).mono ?_
  rintro e w3 ⟨rfl, hb3⟩
  replace hb2 := chain2 hb2 hb2.size hb3
  clear hb3
  go_wp2_with fail
  refine (SD.out nPrivate _ _ (HE.out.below hb2)).mono ?_
  rintro e w4 ⟨rfl, hb3⟩
  replace hb2 := chain2 hb2 hb2.size hb3
  clear hb3
  go_wp2_with fail
  refine (SD.out nPublic _ _ (HE.out.below hb2)).mono ?_
  rintro e w5 ⟨rfl, hb3⟩
  replace hb2 := chain2 hb2 hb2.size hb3
  clear hb3
  go_wp2_with fail
  refine (SD.out nOnly _ _ (HE.out.below hb2)).mono ?_
  rintro e w6 ⟨rfl, hb3⟩
  replace hb2 := chain2 hb2 hb2.size hb3
  clear hb3
  replace hro := hro.below hb2
  have HE6 := hid (HE.out.below hb2)
  replace hb := chain2 hb hb.size hb2
  clear hb2 HE
  obtain ⟨s0, hs0⟩ : ∃ s, saidE nNoStore E = s := ⟨_, rfl⟩
  obtain ⟨s1, hs1⟩ : ∃ s, saidE nNoCache E = s := ⟨_, rfl⟩
  obtain ⟨s2, hs2⟩ : ∃ s, saidE nPrivate E = s := ⟨_, rfl⟩
  obtain ⟨s3, hs3⟩ : ∃ s, saidE nPublic E = s := ⟨_, rfl⟩
  obtain ⟨s5, hs5⟩ : ∃ s, saidE nOnly E = s := ⟨_, rfl⟩
  rw [hs0, hs1, hs2, hs3, hs5]
  have h1 := ctl_one s0 s1 s2 s3 false s5 0 0 0 0
  obtain ⟨V, hV⟩ : ∃ V, V = (w6.alloc (.cells #[.bool false, .bool false, .bool false, .bool false, .bool false, .bool false, .int .i64 0, .int .i64 0, .int .i64 0, .int .i64 0] 27)).setRow w6.heap.size #[.bool s0, .bool s1, .bool s2, .bool s3, .bool false, .bool s5, .int .i64 0, .int .i64 0, .int .i64 0, .int .i64 0] := ⟨_, rfl⟩
  have hbg : Below w6.heap.size w6 V := by rw [hV]; exact below_setRow (below_alloc _ _) (Nat.le_refl _) _
  have hrc : rowIs V w6.heap.size #[.bool s0, .bool s1, .bool s2, .bool s3, .bool false, .bool s5, .int .i64 0, .int .i64 0, .int .i64 0, .int .i64 0] 27 := by rw [hV]; exact (rowIs_new _ _ _).setRow _
  go_wp2_with (refine wpList_store_row rfl 27 _ _ rfl w6.heap.size _ rfl rfl 27 zeroC (rowIs_new _ _ _) infoRC rfl h1 ?_)
  rw [← hV]
  clear hV h1
  refine (SD.out nMust _ _ (HE6.out.below hbg)).mono ?_
  rintro e w7 ⟨rfl, hb3⟩
  replace hrc := hrc.below hb3
  replace hbg := chain2 hbg hbg.size hb3
  clear hb3
  have hmu : ∃ (mu : Bool), mu = (saidE nMust E || saidE nProxy E) ∧ (saidE nMust E = true ∧ mu = true ∨ saidE nMust E = false ∧ mu = saidE nProxy E) := by
    cases saidE nMust E
    · exact ⟨saidE nProxy E, rfl, .inr ⟨rfl, rfl⟩⟩
    · exact ⟨true, rfl, .inl ⟨rfl, rfl⟩⟩
  obtain ⟨mu, hmu, hcase⟩ := hmu
  have HMU := hid hmu
  have hc0 : ∃ w8, True := ⟨w7, trivial⟩
  clear hmu hc0
  obtain ⟨sm, hsm⟩ : ∃ s, saidE nMust E = s := ⟨_, rfl⟩
  rw [hsm] at hcase ⊢
  clear hsm
  have hfar : (farN : Int) = 2147483648 := rfl
  rcases hcase with ⟨rfl, rfl⟩ | ⟨rfl, rfl⟩
  focus
    have hc : w7.cell? ⟨w6.heap.size, 4, none⟩ = some (.bool false) := hrc.cell 4
    have hf := hrc.free 4
    replace hrc := hrc.setCell 4 (.bool true)
    replace hbg := hbg.setCell (p := ⟨w6.heap.size, 4, none⟩) (Nat.le_refl _) (.bool true)
    go_wp2_with fail
    clear hc hf
    generalize w7.setCell ⟨w6.heap.size, 4, none⟩ (.bool true) = w8 at hrc hbg ⊢
    obtain ⟨mu, hmm⟩ : ∃ mu, mu = true := ⟨_, rfl⟩
    replace hrc : rowIs w8 w6.heap.size #[.bool s0, .bool s1, .bool s2, .bool s3, .bool mu, .bool s5, .int .i64 0, .int .i64 0, .int .i64 0, .int .i64 0] 27 := by rw [hmm]; exact hrc
    replace HMU : Hid (mu = (saidE nMust E || saidE nProxy E)) := by rw [hmm]; exact HMU
    clear hmm
  rotate_left
  focus
    go_wp2_with fail
    refine (SD.out nProxy _ _ (HE6.out.below hbg)).mono ?_
    rintro e w7 ⟨rfl, hb3⟩
    replace hrc := hrc.below hb3
    replace hbg := chain2 hbg hbg.size hb3
    clear hb3
    have hc : w7.cell? ⟨w6.heap.size, 4, none⟩ = some (.bool false) := hrc.cell 4
    have hf := hrc.free 4
    obtain ⟨sp, hsp⟩ : ∃ s, saidE nProxy E = s := ⟨_, rfl⟩
    have HMU : Hid (sp = (saidE nMust E || saidE nProxy E)) := by rw [← hsp]; exact HMU
    rw [hsp]
    replace hrc := hrc.setCell 4 (.bool sp)
    replace hbg := hbg.setCell (p := ⟨w6.heap.size, 4, none⟩) (Nat.le_refl _) (.bool sp)
    clear hsp
    go_wp2_with fail
    clear hc hf
    generalize w7.setCell ⟨w6.heap.size, 4, none⟩ (.bool sp) = w8 at hrc hbg ⊢
    obtain ⟨mu, hmm⟩ : ∃ mu, mu = sp := ⟨_, rfl⟩
    replace hrc : rowIs w8 w6.heap.size #[.bool s0, .bool s1, .bool s2, .bool s3, .bool mu, .bool s5, .int .i64 0, .int .i64 0, .int .i64 0, .int .i64 0] 27 := by rw [hmm]; exact hrc
    replace HMU : Hid (mu = (saidE nMust E || saidE nProxy E)) := by rw [hmm]; exact HMU
    clear hmm
  all_goals
    refine (TD.out nMaxAge 0 0 false 0 0 _ _ rfl rfl (by decide) (by decide) (HE6.out.below hbg)).mono ?_
    rintro e w9 ⟨rfl, hb3⟩
    replace hrc := hrc.below hb3
    replace hbg := chain2 hbg hbg.size hb3
    clear hb3
    have hc : w9.cell? ⟨w6.heap.size, 6, none⟩ = some (.int .i64 0) := hrc.cell 6
    have hf := hrc.free 6
    replace hrc := hrc.setCell 6 (.int .i64 (intO (toldE nMaxAge 0 0 false E)))
    replace hbg := hbg.setCell (p := ⟨w6.heap.size, 6, none⟩) (Nat.le_refl _) (.int .i64 (intO (toldE nMaxAge 0 0 false E)))
    go_wp2_with fail
    clear hc hf
    generalize w9.setCell ⟨w6.heap.size, 6, none⟩ (.int .i64 (intO (toldE nMaxAge 0 0 false E))) = x9 at hrc hbg ⊢
    replace hrc : rowIs x9 w6.heap.size #[.bool s0, .bool s1, .bool s2, .bool s3, .bool mu, .bool s5, .int .i64 (intO (toldE nMaxAge 0 0 false E)), .int .i64 0, .int .i64 0, .int .i64 0] 27 := hrc
    refine (TD.out nShared 0 0 false 0 0 _ _ rfl rfl (by decide) (by decide) (HE6.out.below hbg)).mono ?_
    rintro e w10 ⟨rfl, hb3⟩
    replace hrc := hrc.below hb3
    replace hbg := chain2 hbg hbg.size hb3
    clear hb3
    have hc : w10.cell? ⟨w6.heap.size, 7, none⟩ = some (.int .i64 0) := hrc.cell 7
    have hf := hrc.free 7
    replace hrc := hrc.setCell 7 (.int .i64 (intO (toldE nShared 0 0 false E)))
    replace hbg := hbg.setCell (p := ⟨w6.heap.size, 7, none⟩) (Nat.le_refl _) (.int .i64 (intO (toldE nShared 0 0 false E)))
    go_wp2_with fail
    clear hc hf
    generalize w10.setCell ⟨w6.heap.size, 7, none⟩ (.int .i64 (intO (toldE nShared 0 0 false E))) = x10 at hrc hbg ⊢
    replace hrc : rowIs x10 w6.heap.size #[.bool s0, .bool s1, .bool s2, .bool s3, .bool mu, .bool s5, .int .i64 (intO (toldE nMaxAge 0 0 false E)), .int .i64 (intO (toldE nShared 0 0 false E)), .int .i64 0, .int .i64 0] 27 := hrc
    refine (TD.out nMinFresh farN farN true farN farN _ _ rfl rfl (by decide) (by decide) (HE6.out.below hbg)).mono ?_
    rintro e w11 ⟨rfl, hb3⟩
    replace hrc := hrc.below hb3
    replace hbg := chain2 hbg hbg.size hb3
    clear hb3
    have hc : w11.cell? ⟨w6.heap.size, 8, none⟩ = some (.int .i64 0) := hrc.cell 8
    have hf := hrc.free 8
    replace hrc := hrc.setCell 8 (.int .i64 (intO (toldE nMinFresh farN farN true E)))
    replace hbg := hbg.setCell (p := ⟨w6.heap.size, 8, none⟩) (Nat.le_refl _) (.int .i64 (intO (toldE nMinFresh farN farN true E)))
    go_wp2_with fail
    clear hc hf
    generalize w11.setCell ⟨w6.heap.size, 8, none⟩ (.int .i64 (intO (toldE nMinFresh farN farN true E))) = x11 at hrc hbg ⊢
    replace hrc : rowIs x11 w6.heap.size #[.bool s0, .bool s1, .bool s2, .bool s3, .bool mu, .bool s5, .int .i64 (intO (toldE nMaxAge 0 0 false E)), .int .i64 (intO (toldE nShared 0 0 false E)), .int .i64 (intO (toldE nMinFresh farN farN true E)), .int .i64 0] 27 := hrc
    refine (TD.out nMaxStale 0 farN false 0 farN _ _ rfl rfl (by decide) (by decide) (HE6.out.below hbg)).mono ?_
    rintro e w12 ⟨rfl, hb3⟩
    replace hrc := hrc.below hb3
    replace hbg := chain2 hbg hbg.size hb3
    clear hb3
    have hc : w12.cell? ⟨w6.heap.size, 9, none⟩ = some (.int .i64 0) := hrc.cell 9
    have hf := hrc.free 9
    replace hrc := hrc.setCell 9 (.int .i64 (intO (toldE nMaxStale 0 farN false E)))
    replace hbg := hbg.setCell (p := ⟨w6.heap.size, 9, none⟩) (Nat.le_refl _) (.int .i64 (intO (toldE nMaxStale 0 farN false E)))
    go_wp2_with fail
    clear hc hf
    generalize w12.setCell ⟨w6.heap.size, 9, none⟩ (.int .i64 (intO (toldE nMaxStale 0 farN false E))) = x12 at hrc hbg ⊢
    replace hrc : rowIs x12 w6.heap.size #[.bool s0, .bool s1, .bool s2, .bool s3, .bool mu, .bool s5, .int .i64 (intO (toldE nMaxAge 0 0 false E)), .int .i64 (intO (toldE nShared 0 0 false E)), .int .i64 (intO (toldE nMinFresh farN farN true E)), .int .i64 (intO (toldE nMaxStale 0 farN false E))] 27 := hrc
    refine (CG.out _ ((HR.out.below hb).below hbg)).mono ?_
    rintro e w13 ⟨rfl, hb3⟩
    replace hrc := hrc.below hb3
    replace hbg := chain2 hbg hbg.size hb3
    clear hb3
    cases T with
    | nil =>
      go_wp2_with fail
      refine (CH.out _ ((HR.out.below hb).below hbg)).mono ?_
      rintro e w14 ⟨rfl, hb3⟩
      replace hrc := hrc.below hb3
      replace hbg := chain2 hbg hbg.size hb3
      clear hb3
      cases hp
      · have h9 := ctl_one s0 (s1) s2 s3 mu s5 (intO (toldE nMaxAge 0 0 false E)) (intO (toldE nShared 0 0 false E)) (intO (toldE nMinFresh farN farN true E)) (intO (toldE nMaxStale 0 farN false E))
        have hbf := chain2 hb hb.size hbg
        replace hro := hro.below hbg
        go_wp2_with (first
          | (refine wpList_load_row rfl 27 _ rfl w6.heap.size rfl 27 _ (0, 0) _ hrc Tryd.underlying27 rfl infoRC ?_)
          | (refine wpList_store_row rfl 27 _ _ rfl w.heap.size _ rfl rfl 27 zeroC hro infoRC rfl h9 ?_))
        refine bodyPost_ret (results_row Tryd.results13 _ _ w.heap.size _ rfl (hro.setRow _) Tryd.underlying27 rfl infoRC) rfl ?_
        refine ⟨?_, below_setRow hbf (Nat.le_refl _) _⟩
        rw [HC.out, HMU.out, ← hs0, ← hs1, ← hs2, ← hs3, ← hs5]
        simp [ctlE]

      · have hc : w14.cell? ⟨w6.heap.size, 1, none⟩ = some (.bool s1) := hrc.cell 1
        have hf := hrc.free 1
        replace hrc := hrc.setCell 1 (.bool true)
        replace hbg := hbg.setCell (p := ⟨w6.heap.size, 1, none⟩) (Nat.le_refl _) (.bool true)
        replace hrc : rowIs (w14.setCell ⟨w6.heap.size, 1, none⟩ (.bool true)) w6.heap.size #[.bool s0, .bool true, .bool s2, .bool s3, .bool mu, .bool s5, .int .i64 (intO (toldE nMaxAge 0 0 false E)), .int .i64 (intO (toldE nShared 0 0 false E)), .int .i64 (intO (toldE nMinFresh farN farN true E)), .int .i64 (intO (toldE nMaxStale 0 farN false E))] 27 := hrc
        have h9 := ctl_one s0 true s2 s3 mu s5 (intO (toldE nMaxAge 0 0 false E)) (intO (toldE nShared 0 0 false E)) (intO (toldE nMinFresh farN farN true E)) (intO (toldE nMaxStale 0 farN false E))
        have hbf := chain2 hb hb.size hbg
        replace hro := hro.below hbg
        go_wp2_with (first
          | (refine wpList_load_row rfl 27 _ rfl w6.heap.size rfl 27 _ (0, 0) _ hrc Tryd.underlying27 rfl infoRC ?_)
          | (refine wpList_store_row rfl 27 _ _ rfl w.heap.size _ rfl rfl 27 zeroC hro infoRC rfl h9 ?_))
        refine bodyPost_ret (results_row Tryd.results13 _ _ w.heap.size _ rfl (hro.setRow _) Tryd.underlying27 rfl infoRC) rfl ?_
        refine ⟨?_, below_setRow hbf (Nat.le_refl _) _⟩
        rw [HC.out, HMU.out, ← hs0, ← hs2, ← hs3, ← hs5]
        simp [ctlE]

    | cons a r =>
      have ez : (((a :: r).length : Int) == 0) = false := by simp; omega
      · have h9 := ctl_one s0 (s1) s2 s3 mu s5 (intO (toldE nMaxAge 0 0 false E)) (intO (toldE nShared 0 0 false E)) (intO (toldE nMinFresh farN farN true E)) (intO (toldE nMaxStale 0 farN false E))
        have hbf := chain2 hb hb.size hbg
        replace hro := hro.below hbg
        go_wp2_with (first
          | (refine wpList_load_row rfl 27 _ rfl w6.heap.size rfl 27 _ (0, 0) _ hrc Tryd.underlying27 rfl infoRC ?_)
          | (refine wpList_store_row rfl 27 _ _ rfl w.heap.size _ rfl rfl 27 zeroC hro infoRC rfl h9 ?_))
        refine bodyPost_ret (results_row Tryd.results13 _ _ w.heap.size _ rfl (hro.setRow _) Tryd.underlying27 rfl infoRC) rfl ?_
        refine ⟨?_, below_setRow hbf (Nat.le_refl _) _⟩
        rw [HC.out, HMU.out, ← hs0, ← hs1, ← hs2, ← hs3, ← hs5]
        simp [ctlE]

end Go.Proofs.YtofkiihajhkmdaaDoor
