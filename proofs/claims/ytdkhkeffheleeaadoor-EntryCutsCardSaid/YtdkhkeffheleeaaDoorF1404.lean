/-
  Several texts in one: Ref14T1, Ref14T2, Ref14T3, MadeE, EntA.
-/
import Derived.Test.YtdkhkeffheleeaaDoorF1403
import Derived.Test.YtdkhkeffheleeaaDoorF1402
import Derived.Test.YtdkhkeffheleeaaDoorHeldK
import Derived.Test.YtdkhkeffheleeaaDoorF14Ref14A
import Derived.Test.YtdkhkeffheleeaaDoorF1401
import Derived.Test.YtdkhkeffheleeaaDoorEntW
/-
  The document's reader of entries: an entry of the version 1.
-/
set_option linter.unusedVariables false
set_option linter.unusedSimpArgs false
namespace Go.Proofs.YtdkhkeffheleeaaDoor
open Go.RowKit Go.Pantry

set_option maxRecDepth 8000 in
set_option maxHeartbeats 8000000 in
theorem r14REntry1_any (g : Nat) (B : List UInt8) (v : Value) (l : List UInt8) (w : World) (h : RAt w g B v (some l)) (hB : B.length ≤ 100000) (hin : In (fun k => k < w.heap.size) v) :
    Calls Tryd.prog 42 #[.pointer (some ⟨g, 0, none⟩), .int .i64 1] w (EntPost w g B v 1 l) := by
  have hB : B.length ≤ 1000000 := by omega
  obtain ⟨W0, hW0⟩ : ∃ W, ((w.alloc (.cells #[.string ⟨#[]⟩, .string ⟨#[]⟩, .slice none 0 0, .int .i64 0, .int .i64 0, .int .i64 0, .slice none 0 0, .slice none 0 0, .int .i64 0] 32)).alloc (.cells #[.string ⟨#[]⟩, .string ⟨#[]⟩, .slice none 0 0, .int .i64 0, .int .i64 0, .int .i64 0, .slice none 0 0, .slice none 0 0, .int .i64 0] 32)).setRow (w.heap.size + 1) #[.string ⟨#[]⟩, .string ⟨#[]⟩, .slice none 0 0, .int .i64 0, .int .i64 0, .int .i64 0, .slice none 0 0, .slice none 0 0, .int .i64 1] = W := ⟨_, rfl⟩
  have hz1 : rowIs ((w.alloc (.cells #[.string ⟨#[]⟩, .string ⟨#[]⟩, .slice none 0 0, .int .i64 0, .int .i64 0, .int .i64 0, .slice none 0 0, .slice none 0 0, .int .i64 0] 32)).alloc (.cells #[.string ⟨#[]⟩, .string ⟨#[]⟩, .slice none 0 0, .int .i64 0, .int .i64 0, .int .i64 0, .slice none 0 0, .slice none 0 0, .int .i64 0] 32)) (w.heap.size + 1) #[.string ⟨#[]⟩, .string ⟨#[]⟩, .slice none 0 0, .int .i64 0, .int .i64 0, .int .i64 0, .slice none 0 0, .slice none 0 0, .int .i64 0] 32 := rowIs_new_at _ _ _ _ (by simp)
  have hbW : Below w.heap.size w W0 := by rw [← hW0]; exact below_setRow (chain2 (below_alloc _ _) (below_alloc _ _).size (below_alloc _ _)) (by omega) _
  have hM0 : EMid w g B v (.slice none 0 0) (.slice none 0 0) (.slice none 0 0) ⟨[], [], [], 0, 0, 0, [], [], 1⟩ (some l) W0 := by
    refine ⟨h.below hbW, ?_, ?_, World.ownsRow_nil _ _ _ _, World.ownsRow_nil _ _ _ _, (fun k e => by cases e), Kept.of_below hbW, h.lt, hin⟩
    · rw [← hW0]; exact (rowIs_new_at _ _ _ _ (by simp)).setRow _
    · rw [← hW0]; exact ((rowIs_new _ _ _).below (below_alloc _ _)).setRow_other _ (by omega)
  have M0 := hid hM0
  clear hM0 h hbW
  go_enter Tryd.func42, Tryd.ntmps42
  go_wp2_with (refine wpList_store_row rfl 32 _ _ rfl (w.heap.size + 1) _ rfl rfl 32 #[.string ⟨#[]⟩, .string ⟨#[]⟩, .slice none 0 0, .int .i64 0, .int .i64 0, .int .i64 0, .slice none 0 0, .slice none 0 0, .int .i64 0] hz1 infoEntD rfl (oneEntS _ _ _ _ _ _ _ _ _ _ _ _ _ _ _) ?_)
  try rw [hW0]
  clear hW0 hz1
  refine (r14RText_any g B v (some l) W0 M0.out.rd hB).mono ?_
  rintro e V0 ⟨rfl, hr, hk⟩
  have N0 := hid (M0.out.read hr hk)
  obtain ⟨ky, hky⟩ : ∃ x, (textO (some l)).1 = x := ⟨_, rfl⟩
  obtain ⟨st1, hst1⟩ : ∃ x, (textO (some l)).2 = x := ⟨_, rfl⟩
  rw [hky]
  rw [hst1] at N0
  have hltky : ky.length ≤ 65535 := by rw [← hky]; exact textO_len _
  have Hky := hid (And.intro hky (And.intro hst1 hltky))
  clear hr hk M0 hky hst1 hltky
  have hy : V0.cell? ⟨w.heap.size + 1, 0, none⟩ = some (strV []) := N0.out.row.cell 0
  have hf := N0.out.row.free 0
  obtain ⟨W1, hW1⟩ : ∃ W, V0.setCell ⟨w.heap.size + 1, 0, none⟩ (strV ky) = W := ⟨_, rfl⟩
  have M1 := hid (show EMid w g B v (.slice none 0 0) (.slice none 0 0) (.slice none 0 0) ⟨ky, [], [], 0, 0, 0, [], [], 1⟩ st1 W1 by rw [← hW1]; exact N0.out.store 0 _ rfl rfl rfl)
  clear N0
  go_wp2_with fail
  try rw [hW1]
  clear hW1 hy hf
  go_wp2_with fail
  refine (r14RNum_any g B v st1 6 W1 M1.out.rd hB (by decide)).mono ?_
  rintro e V1 ⟨rfl, hr, hk⟩
  have N1 := hid (M1.out.read hr hk)
  obtain ⟨ask, hask⟩ : ∃ x, (numO 6 st1).1 = x := ⟨_, rfl⟩
  obtain ⟨st2, hst2⟩ : ∃ x, (numO 6 st1).2 = x := ⟨_, rfl⟩
  rw [hask]
  rw [hst2] at N1
  have hltask : ask < 256 ^ 6 := by rw [← hask]; exact numO_lt _ _ (by decide)
  have Hask := hid (And.intro hask (And.intro hst2 hltask))
  clear hr hk M1 hask hst2 hltask
  have hy : V1.cell? ⟨w.heap.size + 1, 3, none⟩ = some (.int .i64 0) := N1.out.row.cell 3
  have hf := N1.out.row.free 3
  obtain ⟨W2, hW2⟩ : ∃ W, V1.setCell ⟨w.heap.size + 1, 3, none⟩ (.int .i64 (ask : Int)) = W := ⟨_, rfl⟩
  have M2 := hid (show EMid w g B v (.slice none 0 0) (.slice none 0 0) (.slice none 0 0) ⟨ky, [], [], (ask : Int), 0, 0, [], [], 1⟩ st2 W2 by rw [← hW2]; exact N1.out.store 3 _ rfl rfl rfl)
  clear N1
  go_wp2_with fail
  try rw [hW2]
  clear hW2 hy hf
  go_wp2_with fail
  refine (r14RNum_any g B v st2 6 W2 M2.out.rd hB (by decide)).mono ?_
  rintro e V2 ⟨rfl, hr, hk⟩
  have N2 := hid (M2.out.read hr hk)
  obtain ⟨cam, hcam⟩ : ∃ x, (numO 6 st2).1 = x := ⟨_, rfl⟩
  obtain ⟨st3, hst3⟩ : ∃ x, (numO 6 st2).2 = x := ⟨_, rfl⟩
  rw [hcam]
  rw [hst3] at N2
  have hltcam : cam < 256 ^ 6 := by rw [← hcam]; exact numO_lt _ _ (by decide)
  have Hcam := hid (And.intro hcam (And.intro hst3 hltcam))
  clear hr hk M2 hcam hst3 hltcam
  have hy : V2.cell? ⟨w.heap.size + 1, 4, none⟩ = some (.int .i64 0) := N2.out.row.cell 4
  have hf := N2.out.row.free 4
  obtain ⟨W3, hW3⟩ : ∃ W, V2.setCell ⟨w.heap.size + 1, 4, none⟩ (.int .i64 (cam : Int)) = W := ⟨_, rfl⟩
  have M3 := hid (show EMid w g B v (.slice none 0 0) (.slice none 0 0) (.slice none 0 0) ⟨ky, [], [], (ask : Int), (cam : Int), 0, [], [], 1⟩ st3 W3 by rw [← hW3]; exact N2.out.store 4 _ rfl rfl rfl)
  clear N2
  go_wp2_with fail
  try rw [hW3]
  clear hW3 hy hf
  go_wp2_with fail
  refine (r14RNum_any g B v st3 6 W3 M3.out.rd hB (by decide)).mono ?_
  rintro e V3 ⟨rfl, hr, hk⟩
  have N3 := hid (M3.out.read hr hk)
  obtain ⟨sta, hsta⟩ : ∃ x, (numO 6 st3).1 = x := ⟨_, rfl⟩
  obtain ⟨st4, hst4⟩ : ∃ x, (numO 6 st3).2 = x := ⟨_, rfl⟩
  rw [hsta]
  rw [hst4] at N3
  have hltsta : sta < 256 ^ 6 := by rw [← hsta]; exact numO_lt _ _ (by decide)
  have Hsta := hid (And.intro hsta (And.intro hst4 hltsta))
  clear hr hk M3 hsta hst4 hltsta
  have hy : V3.cell? ⟨w.heap.size + 1, 5, none⟩ = some (.int .i64 0) := N3.out.row.cell 5
  have hf := N3.out.row.free 5
  obtain ⟨W4, hW4⟩ : ∃ W, V3.setCell ⟨w.heap.size + 1, 5, none⟩ (.int .i64 (sta : Int)) = W := ⟨_, rfl⟩
  have M4 := hid (show EMid w g B v (.slice none 0 0) (.slice none 0 0) (.slice none 0 0) ⟨ky, [], [], (ask : Int), (cam : Int), (sta : Int), [], [], 1⟩ st4 W4 by rw [← hW4]; exact N3.out.store 5 _ rfl rfl rfl)
  clear N3
  go_wp2_with fail
  try rw [hW4]
  clear hW4 hy hf
  go_wp2_with fail
  refine (r14RNum_any g B v st4 2 W4 M4.out.rd hB (by decide)).mono ?_
  rintro e V4 ⟨rfl, hr, hk⟩
  have N4 := hid (M4.out.read hr hk)
  obtain ⟨fc, hfc⟩ : ∃ x, (numO 2 st4).1 = x := ⟨_, rfl⟩
  obtain ⟨st5, hst5⟩ : ∃ x, (numO 2 st4).2 = x := ⟨_, rfl⟩
  rw [hfc]
  rw [hst5] at N4
  have hltfc : fc < 256 ^ 2 := by rw [← hfc]; exact numO_lt _ _ (by decide)
  have Hfc := hid (And.intro hfc (And.intro hst5 hltfc))
  clear hr hk M4 hfc hst5 hltfc
  obtain ⟨W5, hW5⟩ : ∃ W, V4 = W := ⟨_, rfl⟩
  subst hW5
  have M5 := N4
  clear N4
  rename World => W5
  have hfc : fc < 65536 := Hfc.out.2.2
  go_wp2_with fail
  go_loopw [9] (fun i wz => ∃ (k2 : Nat) (L : List Fld) (fv : Value) (s9 : Option (List UInt8)), i = .int .i64 (k2 : Int) ∧ k2 ≤ fc ∧ L.length = k2 ∧ EMid w g B v (.slice none 0 0) fv (.slice none 0 0) ⟨ky, [], [], (ask : Int), (cam : Int), (sta : Int), L, [], 1⟩ s9 wz ∧ FldsAt st5 k2 L s9) (fun i _ => fc - (intOf i).toNat)
  case atStart => exact ⟨0, [], (.slice none 0 0), st5, rfl, Nat.zero_le _, rfl, M5.out, FldsAt.zero _⟩
  case round =>
    rename World => wz
    obtain ⟨k2, L, fv, s9, rfl, hk2, hLl, hm, hfx⟩ := hrel
    have HFX := hid hfx
    have MR := hid hm
    have HLL := hid hLl
    obtain ⟨fo, fcap, hfv⟩ := ownsRow_form2 hm.of
    obtain ⟨fn, hfn⟩ : ∃ n, (⟨ky, [], [], (ask : Int), (cam : Int), (sta : Int), L, [], 1⟩ : EntP).fields.length = n := ⟨_, rfl⟩
    rw [hfn] at hfv
    subst hfv
    have HFN := hid (show L.length = fn from hfn)
    obtain ⟨pa2, bad2, hrow, hpa, hbad, -⟩ := hm.rd.ex
    have c2 : wz.cell? ⟨g, 2, none⟩ = some (.bool bad2) := hrow.cell 2
    have hways : (k2 < fc ∧ s9.isNone = false) ∨ ((k2 < fc ∧ s9 = none) ∨ k2 = fc) := by
      by_cases h1 : k2 < fc
      · cases s9 with
        | none => exact .inr (.inl ⟨h1, rfl⟩)
        | some _ => exact .inl ⟨h1, rfl⟩
      · exact .inr (.inr (by omega))
    clear hm hfx hLl hrow hpa M5 hfn
    rcases hways with ⟨hlt, hsome⟩ | hways
    · obtain ⟨l2, hl2⟩ : ∃ l2, s9 = some l2 := by
        cases s9 with
        | none => cases hsome
        | some l2 => exact ⟨l2, rfl⟩
      subst hl2
      have hb0 : bad2 = false := hbad
      subst hb0
      have hkd : decide ((k2 : Int) < (fc : Int)) = true := decide_eq_true (by omega)
      have hkw : IntKind.i64.wrap ((k2 : Int) + 1) = (k2 : Int) + 1 := IntWalk.i64_in _ (by omega)
      have hfn9 : fn ≤ 65536 := by rw [← HFN.out, HLL.out]; omega
      obtain ⟨y1, hy1⟩ : ∃ x, (textO (some l2)).1 = x := ⟨_, rfl⟩
      obtain ⟨s10, hs10⟩ : ∃ x, (textO (some l2)).2 = x := ⟨_, rfl⟩
      obtain ⟨y2, hy2⟩ : ∃ x, (textO s10).1 = x := ⟨_, rfl⟩
      obtain ⟨s11, hs11⟩ : ∃ x, (textO s10).2 = x := ⟨_, rfl⟩
      have CT1 := hid (fun (W : World) (hw : RAt W g B v (some l2)) => (show Calls Tryd.prog 65 #[.pointer (some ⟨g, 0, none⟩)] W (RPost W g B v (strV y1) s10) by rw [← hy1, ← hs10]; exact r14RText_any g B v (some l2) W hw hB))
      have CT2 := hid (fun (W : World) (hw : RAt W g B v s10) => (show Calls Tryd.prog 65 #[.pointer (some ⟨g, 0, none⟩)] W (RPost W g B v (strV y2) s11) by rw [← hy2, ← hs11]; exact r14RText_any g B v s10 W hw hB))
      have hstep := HFX.out.step
      rw [hy1, hs10, hy2, hs11] at hstep
      have HST := hid hstep
      clear hsome hbad hy1 hs10 hy2 hs11 hstep
      go_wp2_with fail
      refine (CT1.out wz MR.out.rd).mono ?_
      rintro e va ⟨rfl, hr, hk⟩
      have Na := hid (MR.out.read hr hk)
      obtain ⟨vb, hvb⟩ : ∃ W, va.alloc (.cells #[strV y1, .string ⟨#[]⟩] 74) = W := ⟨_, rfl⟩
      have hbx : rowIs vb va.heap.size #[strV y1, .string ⟨#[]⟩] 74 := by rw [← hvb]; exact rowIs_new _ _ _
      have hbb : Below va.heap.size va vb := by rw [← hvb]; exact below_alloc _ _
      have Nb := hid (Na.out.below hbb)
      have HNF := hid (And.intro (show In (fun k => ¬ k = va.heap.size) (.slice none 0 0) from fun k e hx => by have := (Na.out.on.lt k e).2; omega) (And.intro (show In (fun k => ¬ k = va.heap.size) (.slice fo fn fcap) from fun k e hx => by have := (Na.out.of.lt k e).2; omega) (show w.heap.size + 2 ≤ va.heap.size by have := Na.out.row.lt; omega)))
      have HBX := hid hbx
      have HVB := hid hvb
      clear hr hk hbx hbb MR CT1 HFX c2 hvb
      go_wp2_with fail
      rw [HVB.out]
      clear HVB
      refine (CT2.out vb Nb.out.rd).mono ?_
      rintro e vc ⟨rfl, hr, hk⟩
      have Nc := hid (Nb.out.read hr hk)
      have hbc : rowIs vc va.heap.size #[strV y1, .string ⟨#[]⟩] 74 := HBX.out.kept hk (by have h1 := HNF.out.2.2; have h2 := Nb.out.lt; omega)
      have x1 : vc.cell? ⟨va.heap.size, 1, none⟩ = some (.string ⟨#[]⟩) := hbc.cell 1
      have f1 := hbc.free 1
      obtain ⟨vd, hvd⟩ : ∃ W, vc.setCell ⟨va.heap.size, 1, none⟩ (strV y2) = W := ⟨_, rfl⟩
      have Nd := hid (show EMid w g B v (.slice none 0 0) (.slice fo fn fcap) (.slice none 0 0) ⟨ky, [], [], (ask : Int), (cam : Int), (sta : Int), L, [], 1⟩ s11 vd by rw [← hvd]; exact Nc.out.other ((Kept.refl (fun k => k = va.heap.size) vc).setCell (i := 1) (.inl rfl) _) (fun k e => by have := HNF.out.2.2; omega) HNF.out.1 HNF.out.2.1)
      have hbd : rowIs vd va.heap.size #[strV y1, strV y2] 74 := by rw [← hvd]; exact hbc.setCell 1 _
      have HBD := hid hbd
      clear hr hk hbc Nc Nb HBX CT2 Na hbd
      have hbd := HBD.out
      have z6 : vd.cell? ⟨w.heap.size + 1, 6, none⟩ = some (.slice fo fn fcap) := Nd.out.row.cell 6
      have hre : rowIs (vd.alloc (.cells #[strV y1, strV y2] 74)) vd.heap.size #[strV y1, strV y2] 74 := rowIs_new _ _ _
      have Ne := hid (Nd.out.below (below_alloc vd (.cells #[strV y1, strV y2] 74)))
      have hof := Ne.out.of
      rw [show (⟨ky, [], [], (ask : Int), (cam : Int), (sta : Int), L, [], 1⟩ : EntP).fields.length = fn from HFN.out] at hof
      have hze := Ne.out.row.lt
      go_wp2_with (first
        | (refine wpList_load_row rfl 74 _ rfl va.heap.size rfl 74 _ (0, 0) _ hbd Tryd.underlying74 rfl infoFld3S ?_)
        | (at_builtin; go_must (refine wpList_append_genR (vd.alloc (.cells #[strV y1, strV y2] 74)) rfl _ _ 30 rfl (w.heap.size + 2) 74 Tryd.underlying30 infoFld3 rfl (by decide) (by decide) (v := (.slice fo fn fcap)) rfl hof ⟨vd.heap.size, 0, none⟩ 1 1 [strV y1, strV y2] rfl (fun j u hj => by rw [addAt2, Nat.zero_add, hre.cell j]; simpa using hj) (fun u hu => by simp at hu; rcases hu with rfl | rfl <;> rfl) rfl (by omega) (by omega) ?_); intro v5 w5 ho5 hg5 hi5; rw [fldCells_snocR L (y1, y2), ← HFN.out] at ho5; obtain ⟨ao5, n5, c5, hv5⟩ : ∃ ao n c, v5 = .slice ao n c := (by obtain ⟨ao, c, e⟩ := ownsRow_form2 ho5; exact ⟨ao, _, c, e⟩); subst hv5; obtain ⟨hrow5, hM5⟩ := Ne.out.field (x' := ⟨ky, [], [], (ask : Int), (cam : Int), (sta : Int), L ++ [(y1, y2)], [], 1⟩) (y1, y2) ho5 hg5 hi5 rfl; have M5 := hid hM5; have cc5 : w5.cell? ⟨w.heap.size + 1, 6, none⟩ = some (.slice fo fn fcap) := hrow5.cell 6; have ff5 := hrow5.free 6; clear ho5 hg5 hi5 hrow5 hM5 hof hre))
      go_roundw
      case rel => exact ⟨k2 + 1, L ++ [(y1, y2)], .slice ao5 n5 c5, s11, by go_num, hlt, by rw [List.length_append, HLL.out]; rfl, M5.out, HST.out⟩
      case measure => simp [intOf]; omega
    · have hend : FldsAt st5 fc L s9 := by
        rcases hways with ⟨h1, h2⟩ | h1
        · subst h2; exact HFX.out.end_ (Nat.le_of_lt h1) L
        · rw [← h1]; exact HFX.out
      have HFEND := hid hend
      clear hend HFX
      rcases hways with ⟨h1, h2⟩ | h1
      focus
        have hkd : decide ((k2 : Int) < (fc : Int)) = true := decide_eq_true (by omega)
        have hb1 : bad2 = true := by rw [hbad, h2]; rfl
        have hx : (k2 : Int) < (fc : Int) := by omega
        clear h1 h2 hbad
        subst hb1
      rotate_left
      focus
        have hkd : decide ((k2 : Int) < (fc : Int)) = false := decide_eq_false (by omega)
        have hx : ¬ (k2 : Int) < (fc : Int) := by omega
        clear h1 hbad
      all_goals
        have CB := r14RText_any g B v s9 wz MR.out.rd hB
        obtain ⟨bd, hbd⟩ : ∃ x, (textO s9).1 = x := ⟨_, rfl⟩
        obtain ⟨st10, hst10⟩ : ∃ x, (textO s9).2 = x := ⟨_, rfl⟩
        rw [hbd, hst10] at CB
        have Hbd := hid (And.intro hbd hst10)
        have CB9 := hid CB
        clear CB hbd hst10
        go_wp2_with fail
        refine CB9.out.mono ?_
        rintro e V9 ⟨rfl, hr, hk⟩
        have N9 := hid (MR.out.read hr hk)
        obtain ⟨cap9, W9, hcv, hrd9, hb9, hlt9⟩ := bytes_made14 (P := Tryd.prog) bd V9 9 25 5 Tryd.underlying9 Tryd.underlying25 Tryd.underlying5
        have N9b := hid (N9.out.below hb9)
        have y7 : W9.cell? ⟨w.heap.size + 1, 7, none⟩ = some (.slice none 0 0) := N9b.out.row.cell 7
        have f7 := N9b.out.row.free 7
        have hlt8 := N9.out.row.lt
        obtain ⟨W10, hW10⟩ : ∃ W, W9.setCell ⟨w.heap.size + 1, 7, none⟩ (.slice (some ⟨V9.heap.size, 0, none⟩) bd.length cap9) = W := ⟨_, rfl⟩
        have M10 := hid (show EMid w g B v (.slice none 0 0) (.slice fo fn fcap) (.slice (some ⟨V9.heap.size, 0, none⟩) bd.length cap9) ⟨ky, [], [], (ask : Int), (cam : Int), (sta : Int), L, bd, 1⟩ st10 W10 by rw [← hW10]; exact N9b.out.store 7 _ rfl rfl rfl)
        have HRD := hid (show Reads W10 (.slice (some ⟨V9.heap.size, 0, none⟩) bd.length cap9) (bd.map byteV) by rw [← hW10]; exact reads_kept hrd9 ((Kept.refl (fun k => k = w.heap.size + 1) W9).setCell (i := 7) (.inl rfl) _) (fun k e hx => by have e2 : V9.heap.size = k := Option.some.inj e; omega))
        have HBI := hid (show In (fun k => w.heap.size + 2 ≤ k) (.slice (some ⟨V9.heap.size, 0, none⟩) bd.length cap9) from fun k e => (by have e2 : V9.heap.size = k := Option.some.inj e; omega))
        clear hr hk hrd9 hb9 hlt9 N9 N9b MR CB9 hx hkd c2 hlt8
        have q1 := M10.out.row
        have q2 := M10.out.res
        go_wp2_with (first
          | (refine wpList_load_row rfl 32 _ rfl (w.heap.size + 1) rfl 32 _ (0, 0) _ q1 Tryd.underlying32 rfl infoEntD ?_)
          | (refine wpList_store_row rfl 32 _ _ rfl w.heap.size _ rfl rfl 32 _ q2 infoEntD rfl (oneEntS _ _ _ _ _ _ _ _ _ _ _ _ _ _ _) ?_))
        refine bodyPost_ret (results_row Tryd.results42 _ _ w.heap.size (rowE (.slice none 0 0) (.slice fo fn fcap) (.slice (some ⟨V9.heap.size, 0, none⟩) bd.length cap9) ⟨ky, [], [], (ask : Int), (cam : Int), (sta : Int), L, bd, 1⟩) rfl (q2.setRow _) Tryd.underlying32 rfl infoEntD) rfl ?_
        obtain ⟨p1, p2, p3, p4, p5, p6⟩ := M10.out.done HRD.out HBI.out
        have e1 := two_none (v := 1) (by decide) l
        have e2 := gen_one (v := 1) (by decide) (some l)
        have e3 := entD_parts 1 l e1 e2 (L := L) (st4 := s9) (by rw [Hky.out.2.1, Hask.out.2.1, Hcam.out.2.1, Hsta.out.2.1, Hfc.out.2.1, Hfc.out.1]; exact HFEND.out)
        rw [Hky.out.2.1, Hask.out.2.1, Hcam.out.2.1, Hky.out.1, Hask.out.1, Hcam.out.1, Hsta.out.1, Hbd.out.1, Hbd.out.2] at e3
        exact ⟨_, _, _, _, st10, rfl, p1, p2, p3, p4, p5, p6, e3⟩
end Go.Proofs.YtdkhkeffheleeaaDoor
/-
  The document's reader of entries: an entry of the version 2.
-/
set_option linter.unusedVariables false
set_option linter.unusedSimpArgs false
namespace Go.Proofs.YtdkhkeffheleeaaDoor
open Go.RowKit Go.Pantry

set_option maxRecDepth 8000 in
set_option maxHeartbeats 8000000 in
theorem r14REntry2_any (g : Nat) (B : List UInt8) (v : Value) (l : List UInt8) (w : World) (h : RAt w g B v (some l)) (hB : B.length ≤ 100000) (hin : In (fun k => k < w.heap.size) v) :
    Calls Tryd.prog 42 #[.pointer (some ⟨g, 0, none⟩), .int .i64 2] w (EntPost w g B v 2 l) := by
  have hB : B.length ≤ 1000000 := by omega
  obtain ⟨W0, hW0⟩ : ∃ W, ((w.alloc (.cells #[.string ⟨#[]⟩, .string ⟨#[]⟩, .slice none 0 0, .int .i64 0, .int .i64 0, .int .i64 0, .slice none 0 0, .slice none 0 0, .int .i64 0] 32)).alloc (.cells #[.string ⟨#[]⟩, .string ⟨#[]⟩, .slice none 0 0, .int .i64 0, .int .i64 0, .int .i64 0, .slice none 0 0, .slice none 0 0, .int .i64 0] 32)).setRow (w.heap.size + 1) #[.string ⟨#[]⟩, .string ⟨#[]⟩, .slice none 0 0, .int .i64 0, .int .i64 0, .int .i64 0, .slice none 0 0, .slice none 0 0, .int .i64 1] = W := ⟨_, rfl⟩
  have hz1 : rowIs ((w.alloc (.cells #[.string ⟨#[]⟩, .string ⟨#[]⟩, .slice none 0 0, .int .i64 0, .int .i64 0, .int .i64 0, .slice none 0 0, .slice none 0 0, .int .i64 0] 32)).alloc (.cells #[.string ⟨#[]⟩, .string ⟨#[]⟩, .slice none 0 0, .int .i64 0, .int .i64 0, .int .i64 0, .slice none 0 0, .slice none 0 0, .int .i64 0] 32)) (w.heap.size + 1) #[.string ⟨#[]⟩, .string ⟨#[]⟩, .slice none 0 0, .int .i64 0, .int .i64 0, .int .i64 0, .slice none 0 0, .slice none 0 0, .int .i64 0] 32 := rowIs_new_at _ _ _ _ (by simp)
  have hbW : Below w.heap.size w W0 := by rw [← hW0]; exact below_setRow (chain2 (below_alloc _ _) (below_alloc _ _).size (below_alloc _ _)) (by omega) _
  have hM0 : EMid w g B v (.slice none 0 0) (.slice none 0 0) (.slice none 0 0) ⟨[], [], [], 0, 0, 0, [], [], 1⟩ (some l) W0 := by
    refine ⟨h.below hbW, ?_, ?_, World.ownsRow_nil _ _ _ _, World.ownsRow_nil _ _ _ _, (fun k e => by cases e), Kept.of_below hbW, h.lt, hin⟩
    · rw [← hW0]; exact (rowIs_new_at _ _ _ _ (by simp)).setRow _
    · rw [← hW0]; exact ((rowIs_new _ _ _).below (below_alloc _ _)).setRow_other _ (by omega)
  have M0 := hid hM0
  clear hM0 h hbW
  go_enter Tryd.func42, Tryd.ntmps42
  go_wp2_with (refine wpList_store_row rfl 32 _ _ rfl (w.heap.size + 1) _ rfl rfl 32 #[.string ⟨#[]⟩, .string ⟨#[]⟩, .slice none 0 0, .int .i64 0, .int .i64 0, .int .i64 0, .slice none 0 0, .slice none 0 0, .int .i64 0] hz1 infoEntD rfl (oneEntS _ _ _ _ _ _ _ _ _ _ _ _ _ _ _) ?_)
  try rw [hW0]
  clear hW0 hz1
  refine (r14RNum_any g B v (some l) 6 W0 M0.out.rd hB (by decide)).mono ?_
  rintro e V0 ⟨rfl, hr, hk⟩
  have N0 := hid (M0.out.read hr hk)
  obtain ⟨gn, hgn⟩ : ∃ x, (numO 6 (some l)).1 = x := ⟨_, rfl⟩
  obtain ⟨st1, hst1⟩ : ∃ x, (numO 6 (some l)).2 = x := ⟨_, rfl⟩
  rw [hgn]
  rw [hst1] at N0
  have hltgn : gn < 256 ^ 6 := by rw [← hgn]; exact numO_lt _ _ (by decide)
  have Hgn := hid (And.intro hgn (And.intro hst1 hltgn))
  clear hr hk M0 hgn hst1 hltgn
  have hy : V0.cell? ⟨w.heap.size + 1, 8, none⟩ = some (.int .i64 1) := N0.out.row.cell 8
  have hf := N0.out.row.free 8
  obtain ⟨W1, hW1⟩ : ∃ W, V0.setCell ⟨w.heap.size + 1, 8, none⟩ (.int .i64 (gn : Int)) = W := ⟨_, rfl⟩
  have M1 := hid (show EMid w g B v (.slice none 0 0) (.slice none 0 0) (.slice none 0 0) ⟨[], [], [], 0, 0, 0, [], [], (gn : Int)⟩ st1 W1 by rw [← hW1]; exact N0.out.store 8 _ rfl rfl rfl)
  clear N0
  go_wp2_with fail
  try rw [hW1]
  clear hW1 hy hf
  go_wp2_with fail
  refine (r14RText_any g B v st1 W1 M1.out.rd hB).mono ?_
  rintro e V1 ⟨rfl, hr, hk⟩
  have N1 := hid (M1.out.read hr hk)
  obtain ⟨ky, hky⟩ : ∃ x, (textO st1).1 = x := ⟨_, rfl⟩
  obtain ⟨st2, hst2⟩ : ∃ x, (textO st1).2 = x := ⟨_, rfl⟩
  rw [hky]
  rw [hst2] at N1
  have hltky : ky.length ≤ 65535 := by rw [← hky]; exact textO_len _
  have Hky := hid (And.intro hky (And.intro hst2 hltky))
  clear hr hk M1 hky hst2 hltky
  have hy : V1.cell? ⟨w.heap.size + 1, 0, none⟩ = some (strV []) := N1.out.row.cell 0
  have hf := N1.out.row.free 0
  obtain ⟨W2, hW2⟩ : ∃ W, V1.setCell ⟨w.heap.size + 1, 0, none⟩ (strV ky) = W := ⟨_, rfl⟩
  have M2 := hid (show EMid w g B v (.slice none 0 0) (.slice none 0 0) (.slice none 0 0) ⟨ky, [], [], 0, 0, 0, [], [], (gn : Int)⟩ st2 W2 by rw [← hW2]; exact N1.out.store 0 _ rfl rfl rfl)
  clear N1
  go_wp2_with fail
  try rw [hW2]
  clear hW2 hy hf
  go_wp2_with fail
  refine (r14RNum_any g B v st2 6 W2 M2.out.rd hB (by decide)).mono ?_
  rintro e V2 ⟨rfl, hr, hk⟩
  have N2 := hid (M2.out.read hr hk)
  obtain ⟨ask, hask⟩ : ∃ x, (numO 6 st2).1 = x := ⟨_, rfl⟩
  obtain ⟨st3, hst3⟩ : ∃ x, (numO 6 st2).2 = x := ⟨_, rfl⟩
  rw [hask]
  rw [hst3] at N2
  have hltask : ask < 256 ^ 6 := by rw [← hask]; exact numO_lt _ _ (by decide)
  have Hask := hid (And.intro hask (And.intro hst3 hltask))
  clear hr hk M2 hask hst3 hltask
  have hy : V2.cell? ⟨w.heap.size + 1, 3, none⟩ = some (.int .i64 0) := N2.out.row.cell 3
  have hf := N2.out.row.free 3
  obtain ⟨W3, hW3⟩ : ∃ W, V2.setCell ⟨w.heap.size + 1, 3, none⟩ (.int .i64 (ask : Int)) = W := ⟨_, rfl⟩
  have M3 := hid (show EMid w g B v (.slice none 0 0) (.slice none 0 0) (.slice none 0 0) ⟨ky, [], [], (ask : Int), 0, 0, [], [], (gn : Int)⟩ st3 W3 by rw [← hW3]; exact N2.out.store 3 _ rfl rfl rfl)
  clear N2
  go_wp2_with fail
  try rw [hW3]
  clear hW3 hy hf
  go_wp2_with fail
  refine (r14RNum_any g B v st3 6 W3 M3.out.rd hB (by decide)).mono ?_
  rintro e V3 ⟨rfl, hr, hk⟩
  have N3 := hid (M3.out.read hr hk)
  obtain ⟨cam, hcam⟩ : ∃ x, (numO 6 st3).1 = x := ⟨_, rfl⟩
  obtain ⟨st4, hst4⟩ : ∃ x, (numO 6 st3).2 = x := ⟨_, rfl⟩
  rw [hcam]
  rw [hst4] at N3
  have hltcam : cam < 256 ^ 6 := by rw [← hcam]; exact numO_lt _ _ (by decide)
  have Hcam := hid (And.intro hcam (And.intro hst4 hltcam))
  clear hr hk M3 hcam hst4 hltcam
  have hy : V3.cell? ⟨w.heap.size + 1, 4, none⟩ = some (.int .i64 0) := N3.out.row.cell 4
  have hf := N3.out.row.free 4
  obtain ⟨W4, hW4⟩ : ∃ W, V3.setCell ⟨w.heap.size + 1, 4, none⟩ (.int .i64 (cam : Int)) = W := ⟨_, rfl⟩
  have M4 := hid (show EMid w g B v (.slice none 0 0) (.slice none 0 0) (.slice none 0 0) ⟨ky, [], [], (ask : Int), (cam : Int), 0, [], [], (gn : Int)⟩ st4 W4 by rw [← hW4]; exact N3.out.store 4 _ rfl rfl rfl)
  clear N3
  go_wp2_with fail
  try rw [hW4]
  clear hW4 hy hf
  go_wp2_with fail
  refine (r14RNum_any g B v st4 6 W4 M4.out.rd hB (by decide)).mono ?_
  rintro e V4 ⟨rfl, hr, hk⟩
  have N4 := hid (M4.out.read hr hk)
  obtain ⟨sta, hsta⟩ : ∃ x, (numO 6 st4).1 = x := ⟨_, rfl⟩
  obtain ⟨st5, hst5⟩ : ∃ x, (numO 6 st4).2 = x := ⟨_, rfl⟩
  rw [hsta]
  rw [hst5] at N4
  have hltsta : sta < 256 ^ 6 := by rw [← hsta]; exact numO_lt _ _ (by decide)
  have Hsta := hid (And.intro hsta (And.intro hst5 hltsta))
  clear hr hk M4 hsta hst5 hltsta
  have hy : V4.cell? ⟨w.heap.size + 1, 5, none⟩ = some (.int .i64 0) := N4.out.row.cell 5
  have hf := N4.out.row.free 5
  obtain ⟨W5, hW5⟩ : ∃ W, V4.setCell ⟨w.heap.size + 1, 5, none⟩ (.int .i64 (sta : Int)) = W := ⟨_, rfl⟩
  have M5 := hid (show EMid w g B v (.slice none 0 0) (.slice none 0 0) (.slice none 0 0) ⟨ky, [], [], (ask : Int), (cam : Int), (sta : Int), [], [], (gn : Int)⟩ st5 W5 by rw [← hW5]; exact N4.out.store 5 _ rfl rfl rfl)
  clear N4
  go_wp2_with fail
  try rw [hW5]
  clear hW5 hy hf
  go_wp2_with fail
  refine (r14RNum_any g B v st5 2 W5 M5.out.rd hB (by decide)).mono ?_
  rintro e V5 ⟨rfl, hr, hk⟩
  have N5 := hid (M5.out.read hr hk)
  obtain ⟨fc, hfc⟩ : ∃ x, (numO 2 st5).1 = x := ⟨_, rfl⟩
  obtain ⟨st6, hst6⟩ : ∃ x, (numO 2 st5).2 = x := ⟨_, rfl⟩
  rw [hfc]
  rw [hst6] at N5
  have hltfc : fc < 256 ^ 2 := by rw [← hfc]; exact numO_lt _ _ (by decide)
  have Hfc := hid (And.intro hfc (And.intro hst6 hltfc))
  clear hr hk M5 hfc hst6 hltfc
  obtain ⟨W6, hW6⟩ : ∃ W, V5 = W := ⟨_, rfl⟩
  subst hW6
  have M6 := N5
  clear N5
  rename World => W6
  have hfc : fc < 65536 := Hfc.out.2.2
  go_wp2_with fail
  go_loopw [9] (fun i wz => ∃ (k2 : Nat) (L : List Fld) (fv : Value) (s9 : Option (List UInt8)), i = .int .i64 (k2 : Int) ∧ k2 ≤ fc ∧ L.length = k2 ∧ EMid w g B v (.slice none 0 0) fv (.slice none 0 0) ⟨ky, [], [], (ask : Int), (cam : Int), (sta : Int), L, [], (gn : Int)⟩ s9 wz ∧ FldsAt st6 k2 L s9) (fun i _ => fc - (intOf i).toNat)
  case atStart => exact ⟨0, [], (.slice none 0 0), st6, rfl, Nat.zero_le _, rfl, M6.out, FldsAt.zero _⟩
  case round =>
    rename World => wz
    obtain ⟨k2, L, fv, s9, rfl, hk2, hLl, hm, hfx⟩ := hrel
    have HFX := hid hfx
    have MR := hid hm
    have HLL := hid hLl
    obtain ⟨fo, fcap, hfv⟩ := ownsRow_form2 hm.of
    obtain ⟨fn, hfn⟩ : ∃ n, (⟨ky, [], [], (ask : Int), (cam : Int), (sta : Int), L, [], (gn : Int)⟩ : EntP).fields.length = n := ⟨_, rfl⟩
    rw [hfn] at hfv
    subst hfv
    have HFN := hid (show L.length = fn from hfn)
    obtain ⟨pa2, bad2, hrow, hpa, hbad, -⟩ := hm.rd.ex
    have c2 : wz.cell? ⟨g, 2, none⟩ = some (.bool bad2) := hrow.cell 2
    have hways : (k2 < fc ∧ s9.isNone = false) ∨ ((k2 < fc ∧ s9 = none) ∨ k2 = fc) := by
      by_cases h1 : k2 < fc
      · cases s9 with
        | none => exact .inr (.inl ⟨h1, rfl⟩)
        | some _ => exact .inl ⟨h1, rfl⟩
      · exact .inr (.inr (by omega))
    clear hm hfx hLl hrow hpa M6 hfn
    rcases hways with ⟨hlt, hsome⟩ | hways
    · obtain ⟨l2, hl2⟩ : ∃ l2, s9 = some l2 := by
        cases s9 with
        | none => cases hsome
        | some l2 => exact ⟨l2, rfl⟩
      subst hl2
      have hb0 : bad2 = false := hbad
      subst hb0
      have hkd : decide ((k2 : Int) < (fc : Int)) = true := decide_eq_true (by omega)
      have hkw : IntKind.i64.wrap ((k2 : Int) + 1) = (k2 : Int) + 1 := IntWalk.i64_in _ (by omega)
      have hfn9 : fn ≤ 65536 := by rw [← HFN.out, HLL.out]; omega
      obtain ⟨y1, hy1⟩ : ∃ x, (textO (some l2)).1 = x := ⟨_, rfl⟩
      obtain ⟨s10, hs10⟩ : ∃ x, (textO (some l2)).2 = x := ⟨_, rfl⟩
      obtain ⟨y2, hy2⟩ : ∃ x, (textO s10).1 = x := ⟨_, rfl⟩
      obtain ⟨s11, hs11⟩ : ∃ x, (textO s10).2 = x := ⟨_, rfl⟩
      have CT1 := hid (fun (W : World) (hw : RAt W g B v (some l2)) => (show Calls Tryd.prog 65 #[.pointer (some ⟨g, 0, none⟩)] W (RPost W g B v (strV y1) s10) by rw [← hy1, ← hs10]; exact r14RText_any g B v (some l2) W hw hB))
      have CT2 := hid (fun (W : World) (hw : RAt W g B v s10) => (show Calls Tryd.prog 65 #[.pointer (some ⟨g, 0, none⟩)] W (RPost W g B v (strV y2) s11) by rw [← hy2, ← hs11]; exact r14RText_any g B v s10 W hw hB))
      have hstep := HFX.out.step
      rw [hy1, hs10, hy2, hs11] at hstep
      have HST := hid hstep
      clear hsome hbad hy1 hs10 hy2 hs11 hstep
      go_wp2_with fail
      refine (CT1.out wz MR.out.rd).mono ?_
      rintro e va ⟨rfl, hr, hk⟩
      have Na := hid (MR.out.read hr hk)
      obtain ⟨vb, hvb⟩ : ∃ W, va.alloc (.cells #[strV y1, .string ⟨#[]⟩] 74) = W := ⟨_, rfl⟩
      have hbx : rowIs vb va.heap.size #[strV y1, .string ⟨#[]⟩] 74 := by rw [← hvb]; exact rowIs_new _ _ _
      have hbb : Below va.heap.size va vb := by rw [← hvb]; exact below_alloc _ _
      have Nb := hid (Na.out.below hbb)
      have HNF := hid (And.intro (show In (fun k => ¬ k = va.heap.size) (.slice none 0 0) from fun k e hx => by have := (Na.out.on.lt k e).2; omega) (And.intro (show In (fun k => ¬ k = va.heap.size) (.slice fo fn fcap) from fun k e hx => by have := (Na.out.of.lt k e).2; omega) (show w.heap.size + 2 ≤ va.heap.size by have := Na.out.row.lt; omega)))
      have HBX := hid hbx
      have HVB := hid hvb
      clear hr hk hbx hbb MR CT1 HFX c2 hvb
      go_wp2_with fail
      rw [HVB.out]
      clear HVB
      refine (CT2.out vb Nb.out.rd).mono ?_
      rintro e vc ⟨rfl, hr, hk⟩
      have Nc := hid (Nb.out.read hr hk)
      have hbc : rowIs vc va.heap.size #[strV y1, .string ⟨#[]⟩] 74 := HBX.out.kept hk (by have h1 := HNF.out.2.2; have h2 := Nb.out.lt; omega)
      have x1 : vc.cell? ⟨va.heap.size, 1, none⟩ = some (.string ⟨#[]⟩) := hbc.cell 1
      have f1 := hbc.free 1
      obtain ⟨vd, hvd⟩ : ∃ W, vc.setCell ⟨va.heap.size, 1, none⟩ (strV y2) = W := ⟨_, rfl⟩
      have Nd := hid (show EMid w g B v (.slice none 0 0) (.slice fo fn fcap) (.slice none 0 0) ⟨ky, [], [], (ask : Int), (cam : Int), (sta : Int), L, [], (gn : Int)⟩ s11 vd by rw [← hvd]; exact Nc.out.other ((Kept.refl (fun k => k = va.heap.size) vc).setCell (i := 1) (.inl rfl) _) (fun k e => by have := HNF.out.2.2; omega) HNF.out.1 HNF.out.2.1)
      have hbd : rowIs vd va.heap.size #[strV y1, strV y2] 74 := by rw [← hvd]; exact hbc.setCell 1 _
      have HBD := hid hbd
      clear hr hk hbc Nc Nb HBX CT2 Na hbd
      have hbd := HBD.out
      have z6 : vd.cell? ⟨w.heap.size + 1, 6, none⟩ = some (.slice fo fn fcap) := Nd.out.row.cell 6
      have hre : rowIs (vd.alloc (.cells #[strV y1, strV y2] 74)) vd.heap.size #[strV y1, strV y2] 74 := rowIs_new _ _ _
      have Ne := hid (Nd.out.below (below_alloc vd (.cells #[strV y1, strV y2] 74)))
      have hof := Ne.out.of
      rw [show (⟨ky, [], [], (ask : Int), (cam : Int), (sta : Int), L, [], (gn : Int)⟩ : EntP).fields.length = fn from HFN.out] at hof
      have hze := Ne.out.row.lt
      go_wp2_with (first
        | (refine wpList_load_row rfl 74 _ rfl va.heap.size rfl 74 _ (0, 0) _ hbd Tryd.underlying74 rfl infoFld3S ?_)
        | (at_builtin; go_must (refine wpList_append_genR (vd.alloc (.cells #[strV y1, strV y2] 74)) rfl _ _ 30 rfl (w.heap.size + 2) 74 Tryd.underlying30 infoFld3 rfl (by decide) (by decide) (v := (.slice fo fn fcap)) rfl hof ⟨vd.heap.size, 0, none⟩ 1 1 [strV y1, strV y2] rfl (fun j u hj => by rw [addAt2, Nat.zero_add, hre.cell j]; simpa using hj) (fun u hu => by simp at hu; rcases hu with rfl | rfl <;> rfl) rfl (by omega) (by omega) ?_); intro v5 w5 ho5 hg5 hi5; rw [fldCells_snocR L (y1, y2), ← HFN.out] at ho5; obtain ⟨ao5, n5, c5, hv5⟩ : ∃ ao n c, v5 = .slice ao n c := (by obtain ⟨ao, c, e⟩ := ownsRow_form2 ho5; exact ⟨ao, _, c, e⟩); subst hv5; obtain ⟨hrow5, hM5⟩ := Ne.out.field (x' := ⟨ky, [], [], (ask : Int), (cam : Int), (sta : Int), L ++ [(y1, y2)], [], (gn : Int)⟩) (y1, y2) ho5 hg5 hi5 rfl; have M5 := hid hM5; have cc5 : w5.cell? ⟨w.heap.size + 1, 6, none⟩ = some (.slice fo fn fcap) := hrow5.cell 6; have ff5 := hrow5.free 6; clear ho5 hg5 hi5 hrow5 hM5 hof hre))
      go_roundw
      case rel => exact ⟨k2 + 1, L ++ [(y1, y2)], .slice ao5 n5 c5, s11, by go_num, hlt, by rw [List.length_append, HLL.out]; rfl, M5.out, HST.out⟩
      case measure => simp [intOf]; omega
    · have hend : FldsAt st6 fc L s9 := by
        rcases hways with ⟨h1, h2⟩ | h1
        · subst h2; exact HFX.out.end_ (Nat.le_of_lt h1) L
        · rw [← h1]; exact HFX.out
      have HFEND := hid hend
      clear hend HFX
      rcases hways with ⟨h1, h2⟩ | h1
      focus
        have hkd : decide ((k2 : Int) < (fc : Int)) = true := decide_eq_true (by omega)
        have hb1 : bad2 = true := by rw [hbad, h2]; rfl
        have hx : (k2 : Int) < (fc : Int) := by omega
        clear h1 h2 hbad
        subst hb1
      rotate_left
      focus
        have hkd : decide ((k2 : Int) < (fc : Int)) = false := decide_eq_false (by omega)
        have hx : ¬ (k2 : Int) < (fc : Int) := by omega
        clear h1 hbad
      all_goals
        have CB := r14RText_any g B v s9 wz MR.out.rd hB
        obtain ⟨bd, hbd⟩ : ∃ x, (textO s9).1 = x := ⟨_, rfl⟩
        obtain ⟨st10, hst10⟩ : ∃ x, (textO s9).2 = x := ⟨_, rfl⟩
        rw [hbd, hst10] at CB
        have Hbd := hid (And.intro hbd hst10)
        have CB9 := hid CB
        clear CB hbd hst10
        go_wp2_with fail
        refine CB9.out.mono ?_
        rintro e V9 ⟨rfl, hr, hk⟩
        have N9 := hid (MR.out.read hr hk)
        obtain ⟨cap9, W9, hcv, hrd9, hb9, hlt9⟩ := bytes_made14 (P := Tryd.prog) bd V9 9 25 5 Tryd.underlying9 Tryd.underlying25 Tryd.underlying5
        have N9b := hid (N9.out.below hb9)
        have y7 : W9.cell? ⟨w.heap.size + 1, 7, none⟩ = some (.slice none 0 0) := N9b.out.row.cell 7
        have f7 := N9b.out.row.free 7
        have hlt8 := N9.out.row.lt
        obtain ⟨W10, hW10⟩ : ∃ W, W9.setCell ⟨w.heap.size + 1, 7, none⟩ (.slice (some ⟨V9.heap.size, 0, none⟩) bd.length cap9) = W := ⟨_, rfl⟩
        have M10 := hid (show EMid w g B v (.slice none 0 0) (.slice fo fn fcap) (.slice (some ⟨V9.heap.size, 0, none⟩) bd.length cap9) ⟨ky, [], [], (ask : Int), (cam : Int), (sta : Int), L, bd, (gn : Int)⟩ st10 W10 by rw [← hW10]; exact N9b.out.store 7 _ rfl rfl rfl)
        have HRD := hid (show Reads W10 (.slice (some ⟨V9.heap.size, 0, none⟩) bd.length cap9) (bd.map byteV) by rw [← hW10]; exact reads_kept hrd9 ((Kept.refl (fun k => k = w.heap.size + 1) W9).setCell (i := 7) (.inl rfl) _) (fun k e hx => by have e2 : V9.heap.size = k := Option.some.inj e; omega))
        have HBI := hid (show In (fun k => w.heap.size + 2 ≤ k) (.slice (some ⟨V9.heap.size, 0, none⟩) bd.length cap9) from fun k e => (by have e2 : V9.heap.size = k := Option.some.inj e; omega))
        clear hr hk hrd9 hb9 hlt9 N9 N9b MR CB9 hx hkd c2 hlt8
        have q1 := M10.out.row
        have q2 := M10.out.res
        go_wp2_with (first
          | (refine wpList_load_row rfl 32 _ rfl (w.heap.size + 1) rfl 32 _ (0, 0) _ q1 Tryd.underlying32 rfl infoEntD ?_)
          | (refine wpList_store_row rfl 32 _ _ rfl w.heap.size _ rfl rfl 32 _ q2 infoEntD rfl (oneEntS _ _ _ _ _ _ _ _ _ _ _ _ _ _ _) ?_))
        refine bodyPost_ret (results_row Tryd.results42 _ _ w.heap.size (rowE (.slice none 0 0) (.slice fo fn fcap) (.slice (some ⟨V9.heap.size, 0, none⟩) bd.length cap9) ⟨ky, [], [], (ask : Int), (cam : Int), (sta : Int), L, bd, (gn : Int)⟩) rfl (q2.setRow _) Tryd.underlying32 rfl infoEntD) rfl ?_
        obtain ⟨p1, p2, p3, p4, p5, p6⟩ := M10.out.done HRD.out HBI.out
        have e1 := two_none (v := 2) (by decide) l
        have e2 := gen_two (v := 2) (by decide) (some l)
        rw [Hgn.out.1, Hgn.out.2.1] at e2
        have e3 := entD_parts 2 l e1 e2 (L := L) (st4 := s9) (by rw [Hky.out.2.1, Hask.out.2.1, Hcam.out.2.1, Hsta.out.2.1, Hfc.out.2.1, Hfc.out.1]; exact HFEND.out)
        rw [Hky.out.2.1, Hask.out.2.1, Hcam.out.2.1, Hky.out.1, Hask.out.1, Hcam.out.1, Hsta.out.1, Hbd.out.1, Hbd.out.2] at e3
        exact ⟨_, _, _, _, st10, rfl, p1, p2, p3, p4, p5, p6, e3⟩
end Go.Proofs.YtdkhkeffheleeaaDoor
/-
  The document's reader of entries: an entry of the version 3.
-/
set_option linter.unusedVariables false
set_option linter.unusedSimpArgs false
namespace Go.Proofs.YtdkhkeffheleeaaDoor
open Go.RowKit Go.Pantry

set_option maxRecDepth 8000 in
set_option maxHeartbeats 8000000 in
theorem r14REntry3_any (g : Nat) (B : List UInt8) (v : Value) (l : List UInt8) (w : World) (h : RAt w g B v (some l)) (hB : B.length ≤ 100000) (hin : In (fun k => k < w.heap.size) v) :
    Calls Tryd.prog 42 #[.pointer (some ⟨g, 0, none⟩), .int .i64 3] w (EntPost w g B v 3 l) := by
  have hB : B.length ≤ 1000000 := by omega
  obtain ⟨W0, hW0⟩ : ∃ W, ((w.alloc (.cells #[.string ⟨#[]⟩, .string ⟨#[]⟩, .slice none 0 0, .int .i64 0, .int .i64 0, .int .i64 0, .slice none 0 0, .slice none 0 0, .int .i64 0] 32)).alloc (.cells #[.string ⟨#[]⟩, .string ⟨#[]⟩, .slice none 0 0, .int .i64 0, .int .i64 0, .int .i64 0, .slice none 0 0, .slice none 0 0, .int .i64 0] 32)).setRow (w.heap.size + 1) #[.string ⟨#[]⟩, .string ⟨#[]⟩, .slice none 0 0, .int .i64 0, .int .i64 0, .int .i64 0, .slice none 0 0, .slice none 0 0, .int .i64 1] = W := ⟨_, rfl⟩
  have hz1 : rowIs ((w.alloc (.cells #[.string ⟨#[]⟩, .string ⟨#[]⟩, .slice none 0 0, .int .i64 0, .int .i64 0, .int .i64 0, .slice none 0 0, .slice none 0 0, .int .i64 0] 32)).alloc (.cells #[.string ⟨#[]⟩, .string ⟨#[]⟩, .slice none 0 0, .int .i64 0, .int .i64 0, .int .i64 0, .slice none 0 0, .slice none 0 0, .int .i64 0] 32)) (w.heap.size + 1) #[.string ⟨#[]⟩, .string ⟨#[]⟩, .slice none 0 0, .int .i64 0, .int .i64 0, .int .i64 0, .slice none 0 0, .slice none 0 0, .int .i64 0] 32 := rowIs_new_at _ _ _ _ (by simp)
  have hbW : Below w.heap.size w W0 := by rw [← hW0]; exact below_setRow (chain2 (below_alloc _ _) (below_alloc _ _).size (below_alloc _ _)) (by omega) _
  have hM0 : EMid w g B v (.slice none 0 0) (.slice none 0 0) (.slice none 0 0) ⟨[], [], [], 0, 0, 0, [], [], 1⟩ (some l) W0 := by
    refine ⟨h.below hbW, ?_, ?_, World.ownsRow_nil _ _ _ _, World.ownsRow_nil _ _ _ _, (fun k e => by cases e), Kept.of_below hbW, h.lt, hin⟩
    · rw [← hW0]; exact (rowIs_new_at _ _ _ _ (by simp)).setRow _
    · rw [← hW0]; exact ((rowIs_new _ _ _).below (below_alloc _ _)).setRow_other _ (by omega)
  have M0 := hid hM0
  clear hM0 h hbW
  go_enter Tryd.func42, Tryd.ntmps42
  go_wp2_with (refine wpList_store_row rfl 32 _ _ rfl (w.heap.size + 1) _ rfl rfl 32 #[.string ⟨#[]⟩, .string ⟨#[]⟩, .slice none 0 0, .int .i64 0, .int .i64 0, .int .i64 0, .slice none 0 0, .slice none 0 0, .int .i64 0] hz1 infoEntD rfl (oneEntS _ _ _ _ _ _ _ _ _ _ _ _ _ _ _) ?_)
  try rw [hW0]
  clear hW0 hz1
  refine (r14RText_any g B v (some l) W0 M0.out.rd hB).mono ?_
  rintro e V0 ⟨rfl, hr, hk⟩
  have N0 := hid (M0.out.read hr hk)
  obtain ⟨sec, hsec⟩ : ∃ x, (textO (some l)).1 = x := ⟨_, rfl⟩
  obtain ⟨st1, hst1⟩ : ∃ x, (textO (some l)).2 = x := ⟨_, rfl⟩
  rw [hsec]
  rw [hst1] at N0
  have hltsec : sec.length ≤ 65535 := by rw [← hsec]; exact textO_len _
  have Hsec := hid (And.intro hsec (And.intro hst1 hltsec))
  clear hr hk M0 hsec hst1 hltsec
  have hy : V0.cell? ⟨w.heap.size + 1, 1, none⟩ = some (strV []) := N0.out.row.cell 1
  have hf := N0.out.row.free 1
  obtain ⟨W1, hW1⟩ : ∃ W, V0.setCell ⟨w.heap.size + 1, 1, none⟩ (strV sec) = W := ⟨_, rfl⟩
  have M1 := hid (show EMid w g B v (.slice none 0 0) (.slice none 0 0) (.slice none 0 0) ⟨[], sec, [], 0, 0, 0, [], [], 1⟩ st1 W1 by rw [← hW1]; exact N0.out.store 1 _ rfl rfl rfl)
  clear N0
  go_wp2_with fail
  try rw [hW1]
  clear hW1 hy hf
  go_wp2_with fail
  refine (r14RNum_any g B v st1 2 W1 M1.out.rd hB (by decide)).mono ?_
  rintro e V1 ⟨rfl, hr, hk⟩
  have N1 := hid (M1.out.read hr hk)
  obtain ⟨cn, hcn⟩ : ∃ x, (numO 2 st1).1 = x := ⟨_, rfl⟩
  obtain ⟨st2, hst2⟩ : ∃ x, (numO 2 st1).2 = x := ⟨_, rfl⟩
  rw [hcn]
  rw [hst2] at N1
  have hltcn : cn < 256 ^ 2 := by rw [← hcn]; exact numO_lt _ _ (by decide)
  have Hcn := hid (And.intro hcn (And.intro hst2 hltcn))
  clear hr hk M1 hcn hst2 hltcn
  obtain ⟨W2, hW2⟩ : ∃ W, V1 = W := ⟨_, rfl⟩
  subst hW2
  have M2 := N1
  clear N1
  rename World => W2
  have hcn : cn < 65536 := Hcn.out.2.2
  go_wp2_with fail
  go_loopw [7] (fun i wr => ∃ (k : Nat) (ns : List (List UInt8)) (nv : Value) (s2 : Option (List UInt8)), i = .int .i64 (k : Int) ∧ k ≤ cn ∧ ns.length = k ∧ EMid w g B v nv (.slice none 0 0) (.slice none 0 0) ⟨[], sec, ns, 0, 0, 0, [], [], 1⟩ s2 wr ∧ TextsAt st2 k ns s2) (fun i _ => cn - (intOf i).toNat)
  case atStart => exact ⟨0, [], .slice none 0 0, st2, rfl, Nat.zero_le _, rfl, M2.out, TextsAt.zero _⟩
  case round =>
    obtain ⟨k, ns, nv, s2, rfl, hk, hnl, hm, htx⟩ := hrel
    have HTX := hid htx
    have MR := hid hm
    have HNL := hid hnl
    obtain ⟨no, nn, nc, hnv⟩ : ∃ a n c, nv = .slice a n c := by obtain ⟨a, c, e⟩ := hm.on.reads.form; exact ⟨_, _, _, e⟩
    subst hnv
    obtain ⟨pa, bad, hrow, hpa, hbad, -⟩ := hm.rd.ex
    have c2 : wr.cell? ⟨g, 2, none⟩ = some (.bool bad) := hrow.cell 2
    have hways : (k < cn ∧ s2.isNone = false) ∨ ((k < cn ∧ s2 = none) ∨ k = cn) := by
      by_cases h1 : k < cn
      · cases s2 with
        | none => exact .inr (.inl ⟨h1, rfl⟩)
        | some _ => exact .inl ⟨h1, rfl⟩
      · exact .inr (.inr (by omega))
    clear hm htx hnl hrow hpa M2
    rcases hways with ⟨hlt, hsome⟩ | hways
    · obtain ⟨l2, hl2⟩ : ∃ l2, s2 = some l2 := by
        cases s2 with
        | none => cases hsome
        | some l2 => exact ⟨l2, rfl⟩
      subst hl2
      have hb0 : bad = false := hbad
      subst hb0
      have hkd : decide ((k : Int) < (cn : Int)) = true := decide_eq_true (by omega)
      have hkw : IntKind.i64.wrap ((k : Int) + 1) = (k : Int) + 1 := IntWalk.i64_in _ (by omega)
      obtain ⟨y, hy⟩ : ∃ x, (textO (some l2)).1 = x := ⟨_, rfl⟩
      obtain ⟨s3, hs3⟩ : ∃ x, (textO (some l2)).2 = x := ⟨_, rfl⟩
      have CT := hid (fun (W : World) (hw : RAt W g B v (some l2)) => (show Calls Tryd.prog 65 #[.pointer (some ⟨g, 0, none⟩)] W (RPost W g B v (strV y) s3) by rw [← hy, ← hs3]; exact r14RText_any g B v (some l2) W hw hB))
      have hstep := HTX.out.step
      rw [hy, hs3] at hstep
      have HST := hid hstep
      have c62 : wr.cell? ⟨w.heap.size + 1, 2, none⟩ = some (.slice no nn nc) := MR.out.row.cell 2
      clear hsome hbad hy hs3 hstep
      go_wp2_with fail
      refine wp_region_K 7 (by kernel_rfl) (fun W' => W'.cell? ⟨w.heap.size + 1, 2, none⟩ = some (.slice no nn nc)) (by exact c62) (fun hH => ?_)
      refine wpAnyK_take (i := 0) (v := ?_) rfl (by kernel_rfl) (by kernel_rfl) (by kernel_rfl) (by decide) (by kernel_rfl) (fun _ _ _ h => h) (Or.inl ⟨by kernel_rfl, ?_⟩) hH ?_
      rotate_left
      · intro W hS
        go_simp
        first | done | with_reducible rfl
      simp only [Act.put, List.getElem_toArray, List.getElem_cons_succ, List.getElem_cons_zero, List.setIfInBounds_toArray, List.set_cons_zero, List.set_cons_succ]
      refine wpAnyK_take (i := 1) (v := ?_) rfl (by kernel_rfl) (by kernel_rfl) (by kernel_rfl) (by decide) (by kernel_rfl) (fun _ _ _ h => h) (Or.inl ⟨by kernel_rfl, ?_⟩) hH ?_
      rotate_left
      · intro W hS
        go_simp
        first | done | with_reducible rfl
      simp only [Act.put, List.getElem_toArray, List.getElem_cons_succ, List.getElem_cons_zero, List.setIfInBounds_toArray, List.set_cons_zero, List.set_cons_succ]
      refine wpAnyK_take (i := 2) (v := ?_) rfl (by kernel_rfl) (by kernel_rfl) (by kernel_rfl) (by decide) (by kernel_rfl) (fun _ _ _ h => h) (Or.inl ⟨by kernel_rfl, ?_⟩) hH ?_
      rotate_left
      · intro W hS
        go_simp
        first | done | with_reducible rfl
      simp only [Act.put, List.getElem_toArray, List.getElem_cons_succ, List.getElem_cons_zero, List.setIfInBounds_toArray, List.set_cons_zero, List.set_cons_succ]
      refine wpAnyK_next (i := 3) (by kernel_rfl) rfl (by decide) (fun K hK => ?_)
      go_simp
      refine (CT.out wr.drew (MR.out.below (Below.refl _ _).drew).rd).mono ?_
      rintro e w3 ⟨rfl, hr3, hk3⟩
      have N3 := hid ((MR.out.below (Below.refl _ _).drew).read hr3 hk3)
      have cc3 : w3.cell? ⟨w.heap.size + 1, 2, none⟩ = some (.slice no nn nc) := N3.out.row.cell 2
      clear hr3 hk3
      refine hK.out _ _ cc3 (fun hH => ?_)
      clear hK K
      try simp only [Act.put, List.getElem_toArray, List.getElem_cons_succ, List.getElem_cons_zero, List.setIfInBounds_toArray, List.set_cons_zero, List.set_cons_succ]
      refine wpAnyK_next (i := 4) (by kernel_rfl) rfl (by decide) (fun K hK => ?_)
      obtain ⟨w4, hW4⟩ : ∃ W, W = w3.alloc (.cells #[strV y] 9) := ⟨_, rfl⟩
      have hb4 : Below w3.heap.size w3 w4 := by rw [hW4]; exact below_alloc _ _
      have N4 := hid (N3.out.below hb4)
      have HC4 : Hid (w4.cell? ⟨w3.heap.size, 0, none⟩ = some (strV y)) := by rw [hW4]; exact World.cell?_alloc_at _ _ _ _ rfl
      have cc4 : w4.cell? ⟨w.heap.size + 1, 2, none⟩ = some (.slice no nn nc) := N4.out.row.cell 2
      have hz4 := N4.out.row.lt
      go_simp
      rw [← hW4]
      clear hW4 hb4
      refine hK.out _ _ cc4 (fun hH => ?_)
      clear hK K
      try simp only [Act.put, List.getElem_toArray, List.getElem_cons_succ, List.getElem_cons_zero, List.setIfInBounds_toArray, List.set_cons_zero, List.set_cons_succ]
      refine wpAnyK_next (i := 5) (by kernel_rfl) rfl (by decide) (fun K hK => ?_)
      have hn4 := HNL.out
      refine wp_append_gen w4 (.tmp 32) (.tmp 35) 22 rfl (w.heap.size + 2) 9 Tryd.underlying22 infoStr rfl (by decide) (by decide) (v := .slice no nn nc) rfl N4.out.on ⟨w3.heap.size, 0, none⟩ 1 1 [strV y] rfl (fun j u hj => ?_) (fun u hu => ?_) rfl (by show ns.length + 1 < 4294967296; omega) (by omega) (fun v5 w5 ho5 hg5 hi5 => ?_)
      · cases j with
        | zero => cases hj; rw [addAt2]; exact HC4.out
        | succ j => cases hj
      · rw [List.mem_singleton] at hu; subst hu; rfl
      obtain ⟨ao5, n5, c5, hv5⟩ : ∃ ao n c, v5 = .slice ao n c := by obtain ⟨ao, c, e⟩ := ho5.reads.form; exact ⟨ao, _, c, e⟩
      subst hv5
      obtain ⟨hrow5, hM5⟩ := N4.out.name (x' := ⟨[], sec, ns ++ [y], 0, 0, 0, [], [], 1⟩) y ho5 hg5 rfl
      have M5 := hid hM5
      have cc5 : w5.cell? ⟨w.heap.size + 1, 2, none⟩ = some (.slice no nn nc) := hrow5.cell 2
      have ff5 := hrow5.free 2
      clear ho5 hg5 hi5 hrow5 hM5 hn4 hz4
      refine hK.out _ _ cc5 (fun hH => ?_)
      clear hK K
      try simp only [Act.put, List.getElem_toArray, List.getElem_cons_succ, List.getElem_cons_zero, List.setIfInBounds_toArray, List.set_cons_zero, List.set_cons_succ]
      refine wpAnyK_take (i := 6) (v := ?_) rfl (by kernel_rfl) (by kernel_rfl) (by kernel_rfl) (by decide) (by kernel_rfl) (fun _ _ _ h => h) (Or.inl ⟨by kernel_rfl, ?_⟩) hH ?_
      rotate_left
      · intro W hS
        go_simp
        first | done | with_reducible rfl
      simp only [Act.put, List.getElem_toArray, List.getElem_cons_succ, List.getElem_cons_zero, List.setIfInBounds_toArray, List.set_cons_zero, List.set_cons_succ]
      refine wpAnyK_last (by kernel_rfl) rfl (fun K hK => ?_)
      go_simp
      refine hK.out _ _ ?_
      clear hK K
      try simp only [Act.put, List.getElem_toArray, List.getElem_cons_succ, List.getElem_cons_zero, List.setIfInBounds_toArray, List.set_cons_zero, List.set_cons_succ]
      refine wpAnyK_done (by kernel_rfl) ?_ _
      clear cc3 cc4 cc5 ff5 c62 hH
      go_wp2_with fail
      go_roundw
      case rel => exact ⟨k + 1, ns ++ [y], .slice ao5 n5 c5, s3, by go_num, hlt, by rw [List.length_append, HNL.out]; rfl, M5.out, HST.out⟩
      case measure => simp [intOf]; omega
    · have hend : TextsAt st2 cn ns s2 := by
        rcases hways with ⟨h1, h2⟩ | h1
        · subst h2; exact HTX.out.end_ (Nat.le_of_lt h1) ns
        · rw [← h1]; exact HTX.out
      have HEND := hid hend
      clear hend HTX
      rcases hways with ⟨h1, h2⟩ | h1
      focus
        have hkd : decide ((k : Int) < (cn : Int)) = true := decide_eq_true (by omega)
        have hb1 : bad = true := by rw [hbad, h2]; rfl
        have hx : (k : Int) < (cn : Int) := by omega
        clear h1 h2 hbad
        subst hb1
      rotate_left
      focus
        have hkd : decide ((k : Int) < (cn : Int)) = false := decide_eq_false (by omega)
        have hx : ¬ (k : Int) < (cn : Int) := by omega
        clear h1 hbad
      all_goals
        obtain ⟨W2, hW2⟩ : ∃ W, wr = W := ⟨_, rfl⟩
        rw [hW2] at MR c2
        try rw [hW2]
        have M2 := MR
        clear hW2 MR
        go_wp2_with fail
        clear hx hkd c2
        refine (r14RNum_any g B v s2 6 W2 M2.out.rd hB (by decide)).mono ?_
        rintro e V2 ⟨rfl, hr, hk⟩
        have N2 := hid (M2.out.read hr hk)
        obtain ⟨gn, hgn⟩ : ∃ x, (numO 6 s2).1 = x := ⟨_, rfl⟩
        obtain ⟨st3, hst3⟩ : ∃ x, (numO 6 s2).2 = x := ⟨_, rfl⟩
        rw [hgn]
        rw [hst3] at N2
        have hltgn : gn < 256 ^ 6 := by rw [← hgn]; exact numO_lt _ _ (by decide)
        have Hgn := hid (And.intro hgn (And.intro hst3 hltgn))
        clear hr hk M2 hgn hst3 hltgn
        have hy : V2.cell? ⟨w.heap.size + 1, 8, none⟩ = some (.int .i64 1) := N2.out.row.cell 8
        have hf := N2.out.row.free 8
        obtain ⟨W3, hW3⟩ : ∃ W, V2.setCell ⟨w.heap.size + 1, 8, none⟩ (.int .i64 (gn : Int)) = W := ⟨_, rfl⟩
        have M3 := hid (show EMid w g B v (.slice no nn nc) (.slice none 0 0) (.slice none 0 0) ⟨[], sec, ns, 0, 0, 0, [], [], (gn : Int)⟩ st3 W3 by rw [← hW3]; exact N2.out.store 8 _ rfl rfl rfl)
        clear N2
        go_wp2_with fail
        try rw [hW3]
        clear hW3 hy hf
        go_wp2_with fail
        refine (r14RText_any g B v st3 W3 M3.out.rd hB).mono ?_
        rintro e V3 ⟨rfl, hr, hk⟩
        have N3 := hid (M3.out.read hr hk)
        obtain ⟨ky, hky⟩ : ∃ x, (textO st3).1 = x := ⟨_, rfl⟩
        obtain ⟨st4, hst4⟩ : ∃ x, (textO st3).2 = x := ⟨_, rfl⟩
        rw [hky]
        rw [hst4] at N3
        have hltky : ky.length ≤ 65535 := by rw [← hky]; exact textO_len _
        have Hky := hid (And.intro hky (And.intro hst4 hltky))
        clear hr hk M3 hky hst4 hltky
        have hy : V3.cell? ⟨w.heap.size + 1, 0, none⟩ = some (strV []) := N3.out.row.cell 0
        have hf := N3.out.row.free 0
        obtain ⟨W4, hW4⟩ : ∃ W, V3.setCell ⟨w.heap.size + 1, 0, none⟩ (strV ky) = W := ⟨_, rfl⟩
        have M4 := hid (show EMid w g B v (.slice no nn nc) (.slice none 0 0) (.slice none 0 0) ⟨ky, sec, ns, 0, 0, 0, [], [], (gn : Int)⟩ st4 W4 by rw [← hW4]; exact N3.out.store 0 _ rfl rfl rfl)
        clear N3
        go_wp2_with fail
        try rw [hW4]
        clear hW4 hy hf
        go_wp2_with fail
        refine (r14RNum_any g B v st4 6 W4 M4.out.rd hB (by decide)).mono ?_
        rintro e V4 ⟨rfl, hr, hk⟩
        have N4 := hid (M4.out.read hr hk)
        obtain ⟨ask, hask⟩ : ∃ x, (numO 6 st4).1 = x := ⟨_, rfl⟩
        obtain ⟨st5, hst5⟩ : ∃ x, (numO 6 st4).2 = x := ⟨_, rfl⟩
        rw [hask]
        rw [hst5] at N4
        have hltask : ask < 256 ^ 6 := by rw [← hask]; exact numO_lt _ _ (by decide)
        have Hask := hid (And.intro hask (And.intro hst5 hltask))
        clear hr hk M4 hask hst5 hltask
        have hy : V4.cell? ⟨w.heap.size + 1, 3, none⟩ = some (.int .i64 0) := N4.out.row.cell 3
        have hf := N4.out.row.free 3
        obtain ⟨W5, hW5⟩ : ∃ W, V4.setCell ⟨w.heap.size + 1, 3, none⟩ (.int .i64 (ask : Int)) = W := ⟨_, rfl⟩
        have M5 := hid (show EMid w g B v (.slice no nn nc) (.slice none 0 0) (.slice none 0 0) ⟨ky, sec, ns, (ask : Int), 0, 0, [], [], (gn : Int)⟩ st5 W5 by rw [← hW5]; exact N4.out.store 3 _ rfl rfl rfl)
        clear N4
        go_wp2_with fail
        try rw [hW5]
        clear hW5 hy hf
        go_wp2_with fail
        refine (r14RNum_any g B v st5 6 W5 M5.out.rd hB (by decide)).mono ?_
        rintro e V5 ⟨rfl, hr, hk⟩
        have N5 := hid (M5.out.read hr hk)
        obtain ⟨cam, hcam⟩ : ∃ x, (numO 6 st5).1 = x := ⟨_, rfl⟩
        obtain ⟨st6, hst6⟩ : ∃ x, (numO 6 st5).2 = x := ⟨_, rfl⟩
        rw [hcam]
        rw [hst6] at N5
        have hltcam : cam < 256 ^ 6 := by rw [← hcam]; exact numO_lt _ _ (by decide)
        have Hcam := hid (And.intro hcam (And.intro hst6 hltcam))
        clear hr hk M5 hcam hst6 hltcam
        have hy : V5.cell? ⟨w.heap.size + 1, 4, none⟩ = some (.int .i64 0) := N5.out.row.cell 4
        have hf := N5.out.row.free 4
        obtain ⟨W6, hW6⟩ : ∃ W, V5.setCell ⟨w.heap.size + 1, 4, none⟩ (.int .i64 (cam : Int)) = W := ⟨_, rfl⟩
        have M6 := hid (show EMid w g B v (.slice no nn nc) (.slice none 0 0) (.slice none 0 0) ⟨ky, sec, ns, (ask : Int), (cam : Int), 0, [], [], (gn : Int)⟩ st6 W6 by rw [← hW6]; exact N5.out.store 4 _ rfl rfl rfl)
        clear N5
        go_wp2_with fail
        try rw [hW6]
        clear hW6 hy hf
        go_wp2_with fail
        refine (r14RNum_any g B v st6 6 W6 M6.out.rd hB (by decide)).mono ?_
        rintro e V6 ⟨rfl, hr, hk⟩
        have N6 := hid (M6.out.read hr hk)
        obtain ⟨sta, hsta⟩ : ∃ x, (numO 6 st6).1 = x := ⟨_, rfl⟩
        obtain ⟨st7, hst7⟩ : ∃ x, (numO 6 st6).2 = x := ⟨_, rfl⟩
        rw [hsta]
        rw [hst7] at N6
        have hltsta : sta < 256 ^ 6 := by rw [← hsta]; exact numO_lt _ _ (by decide)
        have Hsta := hid (And.intro hsta (And.intro hst7 hltsta))
        clear hr hk M6 hsta hst7 hltsta
        have hy : V6.cell? ⟨w.heap.size + 1, 5, none⟩ = some (.int .i64 0) := N6.out.row.cell 5
        have hf := N6.out.row.free 5
        obtain ⟨W7, hW7⟩ : ∃ W, V6.setCell ⟨w.heap.size + 1, 5, none⟩ (.int .i64 (sta : Int)) = W := ⟨_, rfl⟩
        have M7 := hid (show EMid w g B v (.slice no nn nc) (.slice none 0 0) (.slice none 0 0) ⟨ky, sec, ns, (ask : Int), (cam : Int), (sta : Int), [], [], (gn : Int)⟩ st7 W7 by rw [← hW7]; exact N6.out.store 5 _ rfl rfl rfl)
        clear N6
        go_wp2_with fail
        try rw [hW7]
        clear hW7 hy hf
        go_wp2_with fail
        refine (r14RNum_any g B v st7 2 W7 M7.out.rd hB (by decide)).mono ?_
        rintro e V7 ⟨rfl, hr, hk⟩
        have N7 := hid (M7.out.read hr hk)
        obtain ⟨fc, hfc⟩ : ∃ x, (numO 2 st7).1 = x := ⟨_, rfl⟩
        obtain ⟨st8, hst8⟩ : ∃ x, (numO 2 st7).2 = x := ⟨_, rfl⟩
        rw [hfc]
        rw [hst8] at N7
        have hltfc : fc < 256 ^ 2 := by rw [← hfc]; exact numO_lt _ _ (by decide)
        have Hfc := hid (And.intro hfc (And.intro hst8 hltfc))
        clear hr hk M7 hfc hst8 hltfc
        obtain ⟨W8, hW8⟩ : ∃ W, V7 = W := ⟨_, rfl⟩
        subst hW8
        have M8 := N7
        clear N7
        rename World => W8
        have hfc : fc < 65536 := Hfc.out.2.2
        go_wp2_with fail
        go_loopw [9] (fun i wz => ∃ (k2 : Nat) (L : List Fld) (fv : Value) (s9 : Option (List UInt8)), i = .int .i64 (k2 : Int) ∧ k2 ≤ fc ∧ L.length = k2 ∧ EMid w g B v (.slice no nn nc) fv (.slice none 0 0) ⟨ky, sec, ns, (ask : Int), (cam : Int), (sta : Int), L, [], (gn : Int)⟩ s9 wz ∧ FldsAt st8 k2 L s9) (fun i _ => fc - (intOf i).toNat)
        case atStart => exact ⟨0, [], (.slice none 0 0), st8, rfl, Nat.zero_le _, rfl, M8.out, FldsAt.zero _⟩
        case round =>
          rename World => wz
          obtain ⟨k2, L, fv, s9, rfl, hk2, hLl, hm, hfx⟩ := hrel
          have HFX := hid hfx
          have MR := hid hm
          have HLL := hid hLl
          obtain ⟨fo, fcap, hfv⟩ := ownsRow_form2 hm.of
          obtain ⟨fn, hfn⟩ : ∃ n, (⟨ky, sec, ns, (ask : Int), (cam : Int), (sta : Int), L, [], (gn : Int)⟩ : EntP).fields.length = n := ⟨_, rfl⟩
          rw [hfn] at hfv
          subst hfv
          have HFN := hid (show L.length = fn from hfn)
          obtain ⟨pa2, bad2, hrow, hpa, hbad, -⟩ := hm.rd.ex
          have c2 : wz.cell? ⟨g, 2, none⟩ = some (.bool bad2) := hrow.cell 2
          have hways : (k2 < fc ∧ s9.isNone = false) ∨ ((k2 < fc ∧ s9 = none) ∨ k2 = fc) := by
            by_cases h1 : k2 < fc
            · cases s9 with
              | none => exact .inr (.inl ⟨h1, rfl⟩)
              | some _ => exact .inl ⟨h1, rfl⟩
            · exact .inr (.inr (by omega))
          clear hm hfx hLl hrow hpa M8 hfn
          rcases hways with ⟨hlt, hsome⟩ | hways
          · obtain ⟨l2, hl2⟩ : ∃ l2, s9 = some l2 := by
              cases s9 with
              | none => cases hsome
              | some l2 => exact ⟨l2, rfl⟩
            subst hl2
            have hb0 : bad2 = false := hbad
            subst hb0
            have hkd : decide ((k2 : Int) < (fc : Int)) = true := decide_eq_true (by omega)
            have hkw : IntKind.i64.wrap ((k2 : Int) + 1) = (k2 : Int) + 1 := IntWalk.i64_in _ (by omega)
            have hfn9 : fn ≤ 65536 := by rw [← HFN.out, HLL.out]; omega
            obtain ⟨y1, hy1⟩ : ∃ x, (textO (some l2)).1 = x := ⟨_, rfl⟩
            obtain ⟨s10, hs10⟩ : ∃ x, (textO (some l2)).2 = x := ⟨_, rfl⟩
            obtain ⟨y2, hy2⟩ : ∃ x, (textO s10).1 = x := ⟨_, rfl⟩
            obtain ⟨s11, hs11⟩ : ∃ x, (textO s10).2 = x := ⟨_, rfl⟩
            have CT1 := hid (fun (W : World) (hw : RAt W g B v (some l2)) => (show Calls Tryd.prog 65 #[.pointer (some ⟨g, 0, none⟩)] W (RPost W g B v (strV y1) s10) by rw [← hy1, ← hs10]; exact r14RText_any g B v (some l2) W hw hB))
            have CT2 := hid (fun (W : World) (hw : RAt W g B v s10) => (show Calls Tryd.prog 65 #[.pointer (some ⟨g, 0, none⟩)] W (RPost W g B v (strV y2) s11) by rw [← hy2, ← hs11]; exact r14RText_any g B v s10 W hw hB))
            have hstep := HFX.out.step
            rw [hy1, hs10, hy2, hs11] at hstep
            have HST := hid hstep
            clear hsome hbad hy1 hs10 hy2 hs11 hstep
            go_wp2_with fail
            refine (CT1.out wz MR.out.rd).mono ?_
            rintro e va ⟨rfl, hr, hk⟩
            have Na := hid (MR.out.read hr hk)
            obtain ⟨vb, hvb⟩ : ∃ W, va.alloc (.cells #[strV y1, .string ⟨#[]⟩] 74) = W := ⟨_, rfl⟩
            have hbx : rowIs vb va.heap.size #[strV y1, .string ⟨#[]⟩] 74 := by rw [← hvb]; exact rowIs_new _ _ _
            have hbb : Below va.heap.size va vb := by rw [← hvb]; exact below_alloc _ _
            have Nb := hid (Na.out.below hbb)
            have HNF := hid (And.intro (show In (fun k => ¬ k = va.heap.size) (.slice no nn nc) from fun k e hx => by have := (Na.out.on.lt k e).2; omega) (And.intro (show In (fun k => ¬ k = va.heap.size) (.slice fo fn fcap) from fun k e hx => by have := (Na.out.of.lt k e).2; omega) (show w.heap.size + 2 ≤ va.heap.size by have := Na.out.row.lt; omega)))
            have HBX := hid hbx
            have HVB := hid hvb
            clear hr hk hbx hbb MR CT1 HFX c2 hvb
            go_wp2_with fail
            rw [HVB.out]
            clear HVB
            refine (CT2.out vb Nb.out.rd).mono ?_
            rintro e vc ⟨rfl, hr, hk⟩
            have Nc := hid (Nb.out.read hr hk)
            have hbc : rowIs vc va.heap.size #[strV y1, .string ⟨#[]⟩] 74 := HBX.out.kept hk (by have h1 := HNF.out.2.2; have h2 := Nb.out.lt; omega)
            have x1 : vc.cell? ⟨va.heap.size, 1, none⟩ = some (.string ⟨#[]⟩) := hbc.cell 1
            have f1 := hbc.free 1
            obtain ⟨vd, hvd⟩ : ∃ W, vc.setCell ⟨va.heap.size, 1, none⟩ (strV y2) = W := ⟨_, rfl⟩
            have Nd := hid (show EMid w g B v (.slice no nn nc) (.slice fo fn fcap) (.slice none 0 0) ⟨ky, sec, ns, (ask : Int), (cam : Int), (sta : Int), L, [], (gn : Int)⟩ s11 vd by rw [← hvd]; exact Nc.out.other ((Kept.refl (fun k => k = va.heap.size) vc).setCell (i := 1) (.inl rfl) _) (fun k e => by have := HNF.out.2.2; omega) HNF.out.1 HNF.out.2.1)
            have hbd : rowIs vd va.heap.size #[strV y1, strV y2] 74 := by rw [← hvd]; exact hbc.setCell 1 _
            have HBD := hid hbd
            clear hr hk hbc Nc Nb HBX CT2 Na hbd
            have hbd := HBD.out
            have z6 : vd.cell? ⟨w.heap.size + 1, 6, none⟩ = some (.slice fo fn fcap) := Nd.out.row.cell 6
            have hre : rowIs (vd.alloc (.cells #[strV y1, strV y2] 74)) vd.heap.size #[strV y1, strV y2] 74 := rowIs_new _ _ _
            have Ne := hid (Nd.out.below (below_alloc vd (.cells #[strV y1, strV y2] 74)))
            have hof := Ne.out.of
            rw [show (⟨ky, sec, ns, (ask : Int), (cam : Int), (sta : Int), L, [], (gn : Int)⟩ : EntP).fields.length = fn from HFN.out] at hof
            have hze := Ne.out.row.lt
            go_wp2_with (first
              | (refine wpList_load_row rfl 74 _ rfl va.heap.size rfl 74 _ (0, 0) _ hbd Tryd.underlying74 rfl infoFld3S ?_)
              | (at_builtin; go_must (refine wpList_append_genR (vd.alloc (.cells #[strV y1, strV y2] 74)) rfl _ _ 30 rfl (w.heap.size + 2) 74 Tryd.underlying30 infoFld3 rfl (by decide) (by decide) (v := (.slice fo fn fcap)) rfl hof ⟨vd.heap.size, 0, none⟩ 1 1 [strV y1, strV y2] rfl (fun j u hj => by rw [addAt2, Nat.zero_add, hre.cell j]; simpa using hj) (fun u hu => by simp at hu; rcases hu with rfl | rfl <;> rfl) rfl (by omega) (by omega) ?_); intro v5 w5 ho5 hg5 hi5; rw [fldCells_snocR L (y1, y2), ← HFN.out] at ho5; obtain ⟨ao5, n5, c5, hv5⟩ : ∃ ao n c, v5 = .slice ao n c := (by obtain ⟨ao, c, e⟩ := ownsRow_form2 ho5; exact ⟨ao, _, c, e⟩); subst hv5; obtain ⟨hrow5, hM5⟩ := Ne.out.field (x' := ⟨ky, sec, ns, (ask : Int), (cam : Int), (sta : Int), L ++ [(y1, y2)], [], (gn : Int)⟩) (y1, y2) ho5 hg5 hi5 rfl; have M5 := hid hM5; have cc5 : w5.cell? ⟨w.heap.size + 1, 6, none⟩ = some (.slice fo fn fcap) := hrow5.cell 6; have ff5 := hrow5.free 6; clear ho5 hg5 hi5 hrow5 hM5 hof hre))
            go_roundw
            case rel => exact ⟨k2 + 1, L ++ [(y1, y2)], .slice ao5 n5 c5, s11, by go_num, hlt, by rw [List.length_append, HLL.out]; rfl, M5.out, HST.out⟩
            case measure => simp [intOf]; omega
          · have hend : FldsAt st8 fc L s9 := by
              rcases hways with ⟨h1, h2⟩ | h1
              · subst h2; exact HFX.out.end_ (Nat.le_of_lt h1) L
              · rw [← h1]; exact HFX.out
            have HFEND := hid hend
            clear hend HFX
            rcases hways with ⟨h1, h2⟩ | h1
            focus
              have hkd : decide ((k2 : Int) < (fc : Int)) = true := decide_eq_true (by omega)
              have hb1 : bad2 = true := by rw [hbad, h2]; rfl
              have hx : (k2 : Int) < (fc : Int) := by omega
              clear h1 h2 hbad
              subst hb1
            rotate_left
            focus
              have hkd : decide ((k2 : Int) < (fc : Int)) = false := decide_eq_false (by omega)
              have hx : ¬ (k2 : Int) < (fc : Int) := by omega
              clear h1 hbad
            all_goals
              have CB := r14RText_any g B v s9 wz MR.out.rd hB
              obtain ⟨bd, hbd⟩ : ∃ x, (textO s9).1 = x := ⟨_, rfl⟩
              obtain ⟨st10, hst10⟩ : ∃ x, (textO s9).2 = x := ⟨_, rfl⟩
              rw [hbd, hst10] at CB
              have Hbd := hid (And.intro hbd hst10)
              have CB9 := hid CB
              clear CB hbd hst10
              go_wp2_with fail
              refine CB9.out.mono ?_
              rintro e V9 ⟨rfl, hr, hk⟩
              have N9 := hid (MR.out.read hr hk)
              obtain ⟨cap9, W9, hcv, hrd9, hb9, hlt9⟩ := bytes_made14 (P := Tryd.prog) bd V9 9 25 5 Tryd.underlying9 Tryd.underlying25 Tryd.underlying5
              have N9b := hid (N9.out.below hb9)
              have y7 : W9.cell? ⟨w.heap.size + 1, 7, none⟩ = some (.slice none 0 0) := N9b.out.row.cell 7
              have f7 := N9b.out.row.free 7
              have hlt8 := N9.out.row.lt
              obtain ⟨W10, hW10⟩ : ∃ W, W9.setCell ⟨w.heap.size + 1, 7, none⟩ (.slice (some ⟨V9.heap.size, 0, none⟩) bd.length cap9) = W := ⟨_, rfl⟩
              have M10 := hid (show EMid w g B v (.slice no nn nc) (.slice fo fn fcap) (.slice (some ⟨V9.heap.size, 0, none⟩) bd.length cap9) ⟨ky, sec, ns, (ask : Int), (cam : Int), (sta : Int), L, bd, (gn : Int)⟩ st10 W10 by rw [← hW10]; exact N9b.out.store 7 _ rfl rfl rfl)
              have HRD := hid (show Reads W10 (.slice (some ⟨V9.heap.size, 0, none⟩) bd.length cap9) (bd.map byteV) by rw [← hW10]; exact reads_kept hrd9 ((Kept.refl (fun k => k = w.heap.size + 1) W9).setCell (i := 7) (.inl rfl) _) (fun k e hx => by have e2 : V9.heap.size = k := Option.some.inj e; omega))
              have HBI := hid (show In (fun k => w.heap.size + 2 ≤ k) (.slice (some ⟨V9.heap.size, 0, none⟩) bd.length cap9) from fun k e => (by have e2 : V9.heap.size = k := Option.some.inj e; omega))
              clear hr hk hrd9 hb9 hlt9 N9 N9b MR CB9 hx hkd c2 hlt8
              have q1 := M10.out.row
              have q2 := M10.out.res
              go_wp2_with (first
                | (refine wpList_load_row rfl 32 _ rfl (w.heap.size + 1) rfl 32 _ (0, 0) _ q1 Tryd.underlying32 rfl infoEntD ?_)
                | (refine wpList_store_row rfl 32 _ _ rfl w.heap.size _ rfl rfl 32 _ q2 infoEntD rfl (oneEntS _ _ _ _ _ _ _ _ _ _ _ _ _ _ _) ?_))
              refine bodyPost_ret (results_row Tryd.results42 _ _ w.heap.size (rowE (.slice no nn nc) (.slice fo fn fcap) (.slice (some ⟨V9.heap.size, 0, none⟩) bd.length cap9) ⟨ky, sec, ns, (ask : Int), (cam : Int), (sta : Int), L, bd, (gn : Int)⟩) rfl (q2.setRow _) Tryd.underlying32 rfl infoEntD) rfl ?_
              obtain ⟨p1, p2, p3, p4, p5, p6⟩ := M10.out.done HRD.out HBI.out
              have e1 := two_parts l (ns := ns) (st2 := s2) (by rw [Hsec.out.2.1, Hcn.out.1, Hcn.out.2.1]; exact HEND.out)
              rw [Hsec.out.1] at e1
              have e2 := gen_two (v := 3) (by decide) s2
              rw [Hgn.out.1, Hgn.out.2.1] at e2
              have e3 := entD_parts 3 l e1 e2 (L := L) (st4 := s9) (by rw [Hky.out.2.1, Hask.out.2.1, Hcam.out.2.1, Hsta.out.2.1, Hfc.out.2.1, Hfc.out.1]; exact HFEND.out)
              rw [Hky.out.2.1, Hask.out.2.1, Hcam.out.2.1, Hky.out.1, Hask.out.1, Hcam.out.1, Hsta.out.1, Hbd.out.1, Hbd.out.2] at e3
              exact ⟨_, _, _, _, st10, rfl, p1, p2, p3, p4, p5, p6, e3⟩
end Go.Proofs.YtdkhkeffheleeaaDoor
/-
  pantrymade.Entry: an entry as the document has it.
-/
set_option linter.unusedVariables false
set_option linter.unusedSimpArgs false
namespace Go.Proofs.YtdkhkeffheleeaaDoor
open Go.RowKit Go.Pantry

theorem oneEntE (a b : List UInt8) (o : Option Addr) (n c : Nat) (x y z : Int) (o2 : Option Addr) (n2 c2 : Nat) (o3 : Option Addr) (n3 c3 : Nat) (g : Int) : (#[strV a, strV b, .slice o n c, .int .i64 x, .int .i64 y, .int .i64 z, .slice o2 n2 c2, .slice o3 n3 c3, .int .i64 g] : Array Value).all (·.oneCell') = true := by simp [Value.oneCell']
theorem own_farE {w : World} {B : Nat} {e : TypeId} {ao : Option Addr} {n c size : Nat} {xs : List Value} (h : w.ownsRow B e size (.slice ao n c) n xs) : ∀ a, ao = some a → B ≤ a.block := fun a ha => by
  subst ha
  exact (h.lt a.block rfl).1
theorem reads2_setRowE {w : World} {ao : Option Addr} {n c G : Nat} {L : List Fld} (h : Reads2 w (.slice ao n c) L) (hf : ∀ a, ao = some a → G < a.block) (cs : Array Value) : Reads2 (w.setRow G cs) (.slice ao n c) L := by
  obtain ⟨ao', cap', hv, hc, hz, hn⟩ := h
  cases hv
  refine ⟨_, _, rfl, fun j p hj => ?_, hz, hn⟩
  obtain ⟨b, off, ha, g1, g2⟩ := hc j p hj
  have hb := hf _ ha
  simp only at hb
  exact ⟨b, off, ha, (World.cell?_of_block (w := w) (a := ⟨b, off + j * 2, none⟩) (_root_.Go.setRow_other w G b cs (by omega))).trans g1, (World.cell?_of_block (w := w) (a := ⟨b, off + j * 2 + 1, none⟩) (_root_.Go.setRow_other w G b cs (by omega))).trans g2⟩
/-- an entry that was made of another one: the same parts -/
def MadeEnt (nv bv : Value) (e : EntP) (x : Ending) (w' : World) : Prop := ∃ fv', x = .returned (.agg (rowE nv fv' bv e)) ∧ EntAt w' nv fv' bv e
set_option maxRecDepth 8000 in
set_option maxHeartbeats 8000000 in
theorem madeEnt_any (e : EntP) (nv fv bv : Value) (w : World) (hat : EntAt w nv fv bv e) (hl : e.fields.length < 1000000) (hn : ∃ a n c, nv = .slice a n c) (hbv : ∃ a n c, bv = .slice a n c) :
    Calls Tryd.prog 12 #[.agg (rowE nv fv bv e)] w fun x w' => MadeEnt nv bv e x w' ∧ Below w.heap.size w w' := by
  obtain ⟨fo, fc, rfl⟩ := hat.flds.form
  obtain ⟨na, nn, nc, rfl⟩ := hn
  obtain ⟨ba, bn, bc, rfl⟩ := hbv
  obtain ⟨A, hA⟩ : ∃ A, w.heap.size = A := ⟨_, rfl⟩
  obtain ⟨B, hB⟩ : ∃ B, A + 1 = B := ⟨_, rfl⟩
  obtain ⟨w2, hw2⟩ : ∃ W, (w.alloc (.cells (rowE (.slice na nn nc) (.slice fo e.fields.length fc) (.slice ba bn bc) e) 27)).alloc (.cells #[.string ⟨#[]⟩, .string ⟨#[]⟩, .slice none 0 0, .int .i64 0, .int .i64 0, .int .i64 0, .slice none 0 0, .slice none 0 0, .int .i64 0] 32) = W := ⟨_, rfl⟩
  have r1 : rowIs w2 A (rowE (.slice na nn nc) (.slice fo e.fields.length fc) (.slice ba bn bc) e) 27 := by rw [← hw2, ← hA]; exact (rowIs_new _ _ _).below (below_alloc _ _)
  have r2 : rowIs w2 B #[.string ⟨#[]⟩, .string ⟨#[]⟩, .slice none 0 0, .int .i64 0, .int .i64 0, .int .i64 0, .slice none 0 0, .slice none 0 0, .int .i64 0] 32 := by rw [← hw2]; exact rowIs_new_at _ _ _ _ (by simp; omega)
  have hbb : Below w.heap.size w w2 := by rw [← hw2]; exact chain2 (below_alloc _ _) (below_alloc _ _).size (below_alloc _ _)
  have CF := hid (fun (W : World) (h : Below w2.heap.size w2 W) => Fields_any (.slice fo e.fields.length fc) e.fields W ((hat.flds.below hbb).below h) hl)
  have hsz : w2.heap.size = B + 1 := by rw [← hw2]; simp; omega
  have HSZ := hid hsz
  clear hsz
  have HAT := hid hat
  have HB := hid hbb
  have R1 := hid r1
  have R2 := hid r2
  have HAB := hid (And.intro hA hB)
  clear hbb r1 r2 hat hl
  go_enter Tryd.func12, Tryd.ntmps12
  go_wp2_with (refine wp_region_K 20 (by kernel_rfl) (fun W' => rowIs W' A (rowE (.slice na nn nc) (.slice fo e.fields.length fc) (.slice ba bn bc) e) 27 ∧ Below w2.heap.size w2 W') ⟨R1.out, (Below.refl _ _).drew⟩ (fun hH => ?_))
  refine wpAnyK_take (i := 0) (v := ?_) rfl (by kernel_rfl) (by kernel_rfl) (by kernel_rfl) (by decide) (by kernel_rfl) (fun _ _ _ h => h) (Or.inl ⟨by kernel_rfl, ?_⟩) hH ?_
  rotate_left
  · intro W hS
    have h0 : W.cell? ⟨A, 0, none⟩ = some (strV e.key) := hS.1.cell 0
    have h1 : W.cell? ⟨A, 1, none⟩ = some (strV e.second) := hS.1.cell 1
    have h2 : W.cell? ⟨A, 2, none⟩ = some (.slice na nn nc) := hS.1.cell 2
    have h3 : W.cell? ⟨A, 3, none⟩ = some (.int .i64 e.asked) := hS.1.cell 3
    have h4 : W.cell? ⟨A, 4, none⟩ = some (.int .i64 e.came) := hS.1.cell 4
    have h5 : W.cell? ⟨A, 5, none⟩ = some (.int .i64 e.status) := hS.1.cell 5
    have h6 : W.cell? ⟨A, 6, none⟩ = some (.slice fo e.fields.length fc) := hS.1.cell 6
    have h7 : W.cell? ⟨A, 7, none⟩ = some (.slice ba bn bc) := hS.1.cell 7
    have h8 : W.cell? ⟨A, 8, none⟩ = some (.int .i64 e.gen) := hS.1.cell 8
    go_simp
    first | done | with_reducible rfl
  simp only [Act.put, List.getElem_toArray, List.getElem_cons_succ, List.getElem_cons_zero, List.setIfInBounds_toArray, List.set_cons_zero, List.set_cons_succ]
  refine wpAnyK_take (i := 1) (v := ?_) rfl (by kernel_rfl) (by kernel_rfl) (by kernel_rfl) (by decide) (by kernel_rfl) (fun _ _ _ h => h) (Or.inl ⟨by kernel_rfl, ?_⟩) hH ?_
  rotate_left
  · intro W hS
    have h0 : W.cell? ⟨A, 0, none⟩ = some (strV e.key) := hS.1.cell 0
    have h1 : W.cell? ⟨A, 1, none⟩ = some (strV e.second) := hS.1.cell 1
    have h2 : W.cell? ⟨A, 2, none⟩ = some (.slice na nn nc) := hS.1.cell 2
    have h3 : W.cell? ⟨A, 3, none⟩ = some (.int .i64 e.asked) := hS.1.cell 3
    have h4 : W.cell? ⟨A, 4, none⟩ = some (.int .i64 e.came) := hS.1.cell 4
    have h5 : W.cell? ⟨A, 5, none⟩ = some (.int .i64 e.status) := hS.1.cell 5
    have h6 : W.cell? ⟨A, 6, none⟩ = some (.slice fo e.fields.length fc) := hS.1.cell 6
    have h7 : W.cell? ⟨A, 7, none⟩ = some (.slice ba bn bc) := hS.1.cell 7
    have h8 : W.cell? ⟨A, 8, none⟩ = some (.int .i64 e.gen) := hS.1.cell 8
    go_simp
    first | done | with_reducible rfl
  simp only [Act.put, List.getElem_toArray, List.getElem_cons_succ, List.getElem_cons_zero, List.setIfInBounds_toArray, List.set_cons_zero, List.set_cons_succ]
  refine wpAnyK_take (i := 2) (v := ?_) rfl (by kernel_rfl) (by kernel_rfl) (by kernel_rfl) (by decide) (by kernel_rfl) (fun _ _ _ h => h) (Or.inl ⟨by kernel_rfl, ?_⟩) hH ?_
  rotate_left
  · intro W hS
    have h0 : W.cell? ⟨A, 0, none⟩ = some (strV e.key) := hS.1.cell 0
    have h1 : W.cell? ⟨A, 1, none⟩ = some (strV e.second) := hS.1.cell 1
    have h2 : W.cell? ⟨A, 2, none⟩ = some (.slice na nn nc) := hS.1.cell 2
    have h3 : W.cell? ⟨A, 3, none⟩ = some (.int .i64 e.asked) := hS.1.cell 3
    have h4 : W.cell? ⟨A, 4, none⟩ = some (.int .i64 e.came) := hS.1.cell 4
    have h5 : W.cell? ⟨A, 5, none⟩ = some (.int .i64 e.status) := hS.1.cell 5
    have h6 : W.cell? ⟨A, 6, none⟩ = some (.slice fo e.fields.length fc) := hS.1.cell 6
    have h7 : W.cell? ⟨A, 7, none⟩ = some (.slice ba bn bc) := hS.1.cell 7
    have h8 : W.cell? ⟨A, 8, none⟩ = some (.int .i64 e.gen) := hS.1.cell 8
    go_simp
    first | done | with_reducible rfl
  simp only [Act.put, List.getElem_toArray, List.getElem_cons_succ, List.getElem_cons_zero, List.setIfInBounds_toArray, List.set_cons_zero, List.set_cons_succ]
  refine wpAnyK_take (i := 3) (v := ?_) rfl (by kernel_rfl) (by kernel_rfl) (by kernel_rfl) (by decide) (by kernel_rfl) (fun _ _ _ h => h) (Or.inl ⟨by kernel_rfl, ?_⟩) hH ?_
  rotate_left
  · intro W hS
    have h0 : W.cell? ⟨A, 0, none⟩ = some (strV e.key) := hS.1.cell 0
    have h1 : W.cell? ⟨A, 1, none⟩ = some (strV e.second) := hS.1.cell 1
    have h2 : W.cell? ⟨A, 2, none⟩ = some (.slice na nn nc) := hS.1.cell 2
    have h3 : W.cell? ⟨A, 3, none⟩ = some (.int .i64 e.asked) := hS.1.cell 3
    have h4 : W.cell? ⟨A, 4, none⟩ = some (.int .i64 e.came) := hS.1.cell 4
    have h5 : W.cell? ⟨A, 5, none⟩ = some (.int .i64 e.status) := hS.1.cell 5
    have h6 : W.cell? ⟨A, 6, none⟩ = some (.slice fo e.fields.length fc) := hS.1.cell 6
    have h7 : W.cell? ⟨A, 7, none⟩ = some (.slice ba bn bc) := hS.1.cell 7
    have h8 : W.cell? ⟨A, 8, none⟩ = some (.int .i64 e.gen) := hS.1.cell 8
    go_simp
    first | done | with_reducible rfl
  simp only [Act.put, List.getElem_toArray, List.getElem_cons_succ, List.getElem_cons_zero, List.setIfInBounds_toArray, List.set_cons_zero, List.set_cons_succ]
  refine wpAnyK_take (i := 4) (v := ?_) rfl (by kernel_rfl) (by kernel_rfl) (by kernel_rfl) (by decide) (by kernel_rfl) (fun _ _ _ h => h) (Or.inl ⟨by kernel_rfl, ?_⟩) hH ?_
  rotate_left
  · intro W hS
    have h0 : W.cell? ⟨A, 0, none⟩ = some (strV e.key) := hS.1.cell 0
    have h1 : W.cell? ⟨A, 1, none⟩ = some (strV e.second) := hS.1.cell 1
    have h2 : W.cell? ⟨A, 2, none⟩ = some (.slice na nn nc) := hS.1.cell 2
    have h3 : W.cell? ⟨A, 3, none⟩ = some (.int .i64 e.asked) := hS.1.cell 3
    have h4 : W.cell? ⟨A, 4, none⟩ = some (.int .i64 e.came) := hS.1.cell 4
    have h5 : W.cell? ⟨A, 5, none⟩ = some (.int .i64 e.status) := hS.1.cell 5
    have h6 : W.cell? ⟨A, 6, none⟩ = some (.slice fo e.fields.length fc) := hS.1.cell 6
    have h7 : W.cell? ⟨A, 7, none⟩ = some (.slice ba bn bc) := hS.1.cell 7
    have h8 : W.cell? ⟨A, 8, none⟩ = some (.int .i64 e.gen) := hS.1.cell 8
    go_simp
    first | done | with_reducible rfl
  simp only [Act.put, List.getElem_toArray, List.getElem_cons_succ, List.getElem_cons_zero, List.setIfInBounds_toArray, List.set_cons_zero, List.set_cons_succ]
  refine wpAnyK_take (i := 5) (v := ?_) rfl (by kernel_rfl) (by kernel_rfl) (by kernel_rfl) (by decide) (by kernel_rfl) (fun _ _ _ h => h) (Or.inl ⟨by kernel_rfl, ?_⟩) hH ?_
  rotate_left
  · intro W hS
    have h0 : W.cell? ⟨A, 0, none⟩ = some (strV e.key) := hS.1.cell 0
    have h1 : W.cell? ⟨A, 1, none⟩ = some (strV e.second) := hS.1.cell 1
    have h2 : W.cell? ⟨A, 2, none⟩ = some (.slice na nn nc) := hS.1.cell 2
    have h3 : W.cell? ⟨A, 3, none⟩ = some (.int .i64 e.asked) := hS.1.cell 3
    have h4 : W.cell? ⟨A, 4, none⟩ = some (.int .i64 e.came) := hS.1.cell 4
    have h5 : W.cell? ⟨A, 5, none⟩ = some (.int .i64 e.status) := hS.1.cell 5
    have h6 : W.cell? ⟨A, 6, none⟩ = some (.slice fo e.fields.length fc) := hS.1.cell 6
    have h7 : W.cell? ⟨A, 7, none⟩ = some (.slice ba bn bc) := hS.1.cell 7
    have h8 : W.cell? ⟨A, 8, none⟩ = some (.int .i64 e.gen) := hS.1.cell 8
    go_simp
    first | done | with_reducible rfl
  simp only [Act.put, List.getElem_toArray, List.getElem_cons_succ, List.getElem_cons_zero, List.setIfInBounds_toArray, List.set_cons_zero, List.set_cons_succ]
  refine wpAnyK_take (i := 6) (v := ?_) rfl (by kernel_rfl) (by kernel_rfl) (by kernel_rfl) (by decide) (by kernel_rfl) (fun _ _ _ h => h) (Or.inl ⟨by kernel_rfl, ?_⟩) hH ?_
  rotate_left
  · intro W hS
    have h0 : W.cell? ⟨A, 0, none⟩ = some (strV e.key) := hS.1.cell 0
    have h1 : W.cell? ⟨A, 1, none⟩ = some (strV e.second) := hS.1.cell 1
    have h2 : W.cell? ⟨A, 2, none⟩ = some (.slice na nn nc) := hS.1.cell 2
    have h3 : W.cell? ⟨A, 3, none⟩ = some (.int .i64 e.asked) := hS.1.cell 3
    have h4 : W.cell? ⟨A, 4, none⟩ = some (.int .i64 e.came) := hS.1.cell 4
    have h5 : W.cell? ⟨A, 5, none⟩ = some (.int .i64 e.status) := hS.1.cell 5
    have h6 : W.cell? ⟨A, 6, none⟩ = some (.slice fo e.fields.length fc) := hS.1.cell 6
    have h7 : W.cell? ⟨A, 7, none⟩ = some (.slice ba bn bc) := hS.1.cell 7
    have h8 : W.cell? ⟨A, 8, none⟩ = some (.int .i64 e.gen) := hS.1.cell 8
    go_simp
    first | done | with_reducible rfl
  simp only [Act.put, List.getElem_toArray, List.getElem_cons_succ, List.getElem_cons_zero, List.setIfInBounds_toArray, List.set_cons_zero, List.set_cons_succ]
  refine wpAnyK_take (i := 7) (v := ?_) rfl (by kernel_rfl) (by kernel_rfl) (by kernel_rfl) (by decide) (by kernel_rfl) (fun _ _ _ h => h) (Or.inl ⟨by kernel_rfl, ?_⟩) hH ?_
  rotate_left
  · intro W hS
    have h0 : W.cell? ⟨A, 0, none⟩ = some (strV e.key) := hS.1.cell 0
    have h1 : W.cell? ⟨A, 1, none⟩ = some (strV e.second) := hS.1.cell 1
    have h2 : W.cell? ⟨A, 2, none⟩ = some (.slice na nn nc) := hS.1.cell 2
    have h3 : W.cell? ⟨A, 3, none⟩ = some (.int .i64 e.asked) := hS.1.cell 3
    have h4 : W.cell? ⟨A, 4, none⟩ = some (.int .i64 e.came) := hS.1.cell 4
    have h5 : W.cell? ⟨A, 5, none⟩ = some (.int .i64 e.status) := hS.1.cell 5
    have h6 : W.cell? ⟨A, 6, none⟩ = some (.slice fo e.fields.length fc) := hS.1.cell 6
    have h7 : W.cell? ⟨A, 7, none⟩ = some (.slice ba bn bc) := hS.1.cell 7
    have h8 : W.cell? ⟨A, 8, none⟩ = some (.int .i64 e.gen) := hS.1.cell 8
    go_simp
    first | done | with_reducible rfl
  simp only [Act.put, List.getElem_toArray, List.getElem_cons_succ, List.getElem_cons_zero, List.setIfInBounds_toArray, List.set_cons_zero, List.set_cons_succ]
  refine wpAnyK_take (i := 8) (v := ?_) rfl (by kernel_rfl) (by kernel_rfl) (by kernel_rfl) (by decide) (by kernel_rfl) (fun _ _ _ h => h) (Or.inl ⟨by kernel_rfl, ?_⟩) hH ?_
  rotate_left
  · intro W hS
    have h0 : W.cell? ⟨A, 0, none⟩ = some (strV e.key) := hS.1.cell 0
    have h1 : W.cell? ⟨A, 1, none⟩ = some (strV e.second) := hS.1.cell 1
    have h2 : W.cell? ⟨A, 2, none⟩ = some (.slice na nn nc) := hS.1.cell 2
    have h3 : W.cell? ⟨A, 3, none⟩ = some (.int .i64 e.asked) := hS.1.cell 3
    have h4 : W.cell? ⟨A, 4, none⟩ = some (.int .i64 e.came) := hS.1.cell 4
    have h5 : W.cell? ⟨A, 5, none⟩ = some (.int .i64 e.status) := hS.1.cell 5
    have h6 : W.cell? ⟨A, 6, none⟩ = some (.slice fo e.fields.length fc) := hS.1.cell 6
    have h7 : W.cell? ⟨A, 7, none⟩ = some (.slice ba bn bc) := hS.1.cell 7
    have h8 : W.cell? ⟨A, 8, none⟩ = some (.int .i64 e.gen) := hS.1.cell 8
    go_simp
    first | done | with_reducible rfl
  simp only [Act.put, List.getElem_toArray, List.getElem_cons_succ, List.getElem_cons_zero, List.setIfInBounds_toArray, List.set_cons_zero, List.set_cons_succ]
  refine wpAnyK_take (i := 9) (v := ?_) rfl (by kernel_rfl) (by kernel_rfl) (by kernel_rfl) (by decide) (by kernel_rfl) (fun _ _ _ h => h) (Or.inl ⟨by kernel_rfl, ?_⟩) hH ?_
  rotate_left
  · intro W hS
    have h0 : W.cell? ⟨A, 0, none⟩ = some (strV e.key) := hS.1.cell 0
    have h1 : W.cell? ⟨A, 1, none⟩ = some (strV e.second) := hS.1.cell 1
    have h2 : W.cell? ⟨A, 2, none⟩ = some (.slice na nn nc) := hS.1.cell 2
    have h3 : W.cell? ⟨A, 3, none⟩ = some (.int .i64 e.asked) := hS.1.cell 3
    have h4 : W.cell? ⟨A, 4, none⟩ = some (.int .i64 e.came) := hS.1.cell 4
    have h5 : W.cell? ⟨A, 5, none⟩ = some (.int .i64 e.status) := hS.1.cell 5
    have h6 : W.cell? ⟨A, 6, none⟩ = some (.slice fo e.fields.length fc) := hS.1.cell 6
    have h7 : W.cell? ⟨A, 7, none⟩ = some (.slice ba bn bc) := hS.1.cell 7
    have h8 : W.cell? ⟨A, 8, none⟩ = some (.int .i64 e.gen) := hS.1.cell 8
    go_simp
    first | done | with_reducible rfl
  simp only [Act.put, List.getElem_toArray, List.getElem_cons_succ, List.getElem_cons_zero, List.setIfInBounds_toArray, List.set_cons_zero, List.set_cons_succ]
  refine wpAnyK_take (i := 10) (v := ?_) rfl (by kernel_rfl) (by kernel_rfl) (by kernel_rfl) (by decide) (by kernel_rfl) (fun _ _ _ h => h) (Or.inl ⟨by kernel_rfl, ?_⟩) hH ?_
  rotate_left
  · intro W hS
    have h0 : W.cell? ⟨A, 0, none⟩ = some (strV e.key) := hS.1.cell 0
    have h1 : W.cell? ⟨A, 1, none⟩ = some (strV e.second) := hS.1.cell 1
    have h2 : W.cell? ⟨A, 2, none⟩ = some (.slice na nn nc) := hS.1.cell 2
    have h3 : W.cell? ⟨A, 3, none⟩ = some (.int .i64 e.asked) := hS.1.cell 3
    have h4 : W.cell? ⟨A, 4, none⟩ = some (.int .i64 e.came) := hS.1.cell 4
    have h5 : W.cell? ⟨A, 5, none⟩ = some (.int .i64 e.status) := hS.1.cell 5
    have h6 : W.cell? ⟨A, 6, none⟩ = some (.slice fo e.fields.length fc) := hS.1.cell 6
    have h7 : W.cell? ⟨A, 7, none⟩ = some (.slice ba bn bc) := hS.1.cell 7
    have h8 : W.cell? ⟨A, 8, none⟩ = some (.int .i64 e.gen) := hS.1.cell 8
    go_simp
    first | done | with_reducible rfl
  simp only [Act.put, List.getElem_toArray, List.getElem_cons_succ, List.getElem_cons_zero, List.setIfInBounds_toArray, List.set_cons_zero, List.set_cons_succ]
  refine wpAnyK_take (i := 11) (v := ?_) rfl (by kernel_rfl) (by kernel_rfl) (by kernel_rfl) (by decide) (by kernel_rfl) (fun _ _ _ h => h) (Or.inl ⟨by kernel_rfl, ?_⟩) hH ?_
  rotate_left
  · intro W hS
    have h0 : W.cell? ⟨A, 0, none⟩ = some (strV e.key) := hS.1.cell 0
    have h1 : W.cell? ⟨A, 1, none⟩ = some (strV e.second) := hS.1.cell 1
    have h2 : W.cell? ⟨A, 2, none⟩ = some (.slice na nn nc) := hS.1.cell 2
    have h3 : W.cell? ⟨A, 3, none⟩ = some (.int .i64 e.asked) := hS.1.cell 3
    have h4 : W.cell? ⟨A, 4, none⟩ = some (.int .i64 e.came) := hS.1.cell 4
    have h5 : W.cell? ⟨A, 5, none⟩ = some (.int .i64 e.status) := hS.1.cell 5
    have h6 : W.cell? ⟨A, 6, none⟩ = some (.slice fo e.fields.length fc) := hS.1.cell 6
    have h7 : W.cell? ⟨A, 7, none⟩ = some (.slice ba bn bc) := hS.1.cell 7
    have h8 : W.cell? ⟨A, 8, none⟩ = some (.int .i64 e.gen) := hS.1.cell 8
    go_simp
    first | done | with_reducible rfl
  simp only [Act.put, List.getElem_toArray, List.getElem_cons_succ, List.getElem_cons_zero, List.setIfInBounds_toArray, List.set_cons_zero, List.set_cons_succ]
  refine wpAnyK_take (i := 12) (v := ?_) rfl (by kernel_rfl) (by kernel_rfl) (by kernel_rfl) (by decide) (by kernel_rfl) (fun _ _ _ h => h) (Or.inl ⟨by kernel_rfl, ?_⟩) hH ?_
  rotate_left
  · intro W hS
    have h0 : W.cell? ⟨A, 0, none⟩ = some (strV e.key) := hS.1.cell 0
    have h1 : W.cell? ⟨A, 1, none⟩ = some (strV e.second) := hS.1.cell 1
    have h2 : W.cell? ⟨A, 2, none⟩ = some (.slice na nn nc) := hS.1.cell 2
    have h3 : W.cell? ⟨A, 3, none⟩ = some (.int .i64 e.asked) := hS.1.cell 3
    have h4 : W.cell? ⟨A, 4, none⟩ = some (.int .i64 e.came) := hS.1.cell 4
    have h5 : W.cell? ⟨A, 5, none⟩ = some (.int .i64 e.status) := hS.1.cell 5
    have h6 : W.cell? ⟨A, 6, none⟩ = some (.slice fo e.fields.length fc) := hS.1.cell 6
    have h7 : W.cell? ⟨A, 7, none⟩ = some (.slice ba bn bc) := hS.1.cell 7
    have h8 : W.cell? ⟨A, 8, none⟩ = some (.int .i64 e.gen) := hS.1.cell 8
    go_simp
    first | done | with_reducible rfl
  simp only [Act.put, List.getElem_toArray, List.getElem_cons_succ, List.getElem_cons_zero, List.setIfInBounds_toArray, List.set_cons_zero, List.set_cons_succ]
  refine wpAnyK_take (i := 13) (v := ?_) rfl (by kernel_rfl) (by kernel_rfl) (by kernel_rfl) (by decide) (by kernel_rfl) (fun _ _ _ h => h) (Or.inl ⟨by kernel_rfl, ?_⟩) hH ?_
  rotate_left
  · intro W hS
    have h0 : W.cell? ⟨A, 0, none⟩ = some (strV e.key) := hS.1.cell 0
    have h1 : W.cell? ⟨A, 1, none⟩ = some (strV e.second) := hS.1.cell 1
    have h2 : W.cell? ⟨A, 2, none⟩ = some (.slice na nn nc) := hS.1.cell 2
    have h3 : W.cell? ⟨A, 3, none⟩ = some (.int .i64 e.asked) := hS.1.cell 3
    have h4 : W.cell? ⟨A, 4, none⟩ = some (.int .i64 e.came) := hS.1.cell 4
    have h5 : W.cell? ⟨A, 5, none⟩ = some (.int .i64 e.status) := hS.1.cell 5
    have h6 : W.cell? ⟨A, 6, none⟩ = some (.slice fo e.fields.length fc) := hS.1.cell 6
    have h7 : W.cell? ⟨A, 7, none⟩ = some (.slice ba bn bc) := hS.1.cell 7
    have h8 : W.cell? ⟨A, 8, none⟩ = some (.int .i64 e.gen) := hS.1.cell 8
    go_simp
    first | done | with_reducible rfl
  simp only [Act.put, List.getElem_toArray, List.getElem_cons_succ, List.getElem_cons_zero, List.setIfInBounds_toArray, List.set_cons_zero, List.set_cons_succ]
  refine wpAnyK_take (i := 15) (v := ?_) rfl (by kernel_rfl) (by kernel_rfl) (by kernel_rfl) (by decide) (by kernel_rfl) (fun _ _ _ h => h) (Or.inl ⟨by kernel_rfl, ?_⟩) hH ?_
  rotate_left
  · intro W hS
    have h0 : W.cell? ⟨A, 0, none⟩ = some (strV e.key) := hS.1.cell 0
    have h1 : W.cell? ⟨A, 1, none⟩ = some (strV e.second) := hS.1.cell 1
    have h2 : W.cell? ⟨A, 2, none⟩ = some (.slice na nn nc) := hS.1.cell 2
    have h3 : W.cell? ⟨A, 3, none⟩ = some (.int .i64 e.asked) := hS.1.cell 3
    have h4 : W.cell? ⟨A, 4, none⟩ = some (.int .i64 e.came) := hS.1.cell 4
    have h5 : W.cell? ⟨A, 5, none⟩ = some (.int .i64 e.status) := hS.1.cell 5
    have h6 : W.cell? ⟨A, 6, none⟩ = some (.slice fo e.fields.length fc) := hS.1.cell 6
    have h7 : W.cell? ⟨A, 7, none⟩ = some (.slice ba bn bc) := hS.1.cell 7
    have h8 : W.cell? ⟨A, 8, none⟩ = some (.int .i64 e.gen) := hS.1.cell 8
    go_simp
    first | done | with_reducible rfl
  simp only [Act.put, List.getElem_toArray, List.getElem_cons_succ, List.getElem_cons_zero, List.setIfInBounds_toArray, List.set_cons_zero, List.set_cons_succ]
  refine wpAnyK_take (i := 16) (v := ?_) rfl (by kernel_rfl) (by kernel_rfl) (by kernel_rfl) (by decide) (by kernel_rfl) (fun _ _ _ h => h) (Or.inl ⟨by kernel_rfl, ?_⟩) hH ?_
  rotate_left
  · intro W hS
    have h0 : W.cell? ⟨A, 0, none⟩ = some (strV e.key) := hS.1.cell 0
    have h1 : W.cell? ⟨A, 1, none⟩ = some (strV e.second) := hS.1.cell 1
    have h2 : W.cell? ⟨A, 2, none⟩ = some (.slice na nn nc) := hS.1.cell 2
    have h3 : W.cell? ⟨A, 3, none⟩ = some (.int .i64 e.asked) := hS.1.cell 3
    have h4 : W.cell? ⟨A, 4, none⟩ = some (.int .i64 e.came) := hS.1.cell 4
    have h5 : W.cell? ⟨A, 5, none⟩ = some (.int .i64 e.status) := hS.1.cell 5
    have h6 : W.cell? ⟨A, 6, none⟩ = some (.slice fo e.fields.length fc) := hS.1.cell 6
    have h7 : W.cell? ⟨A, 7, none⟩ = some (.slice ba bn bc) := hS.1.cell 7
    have h8 : W.cell? ⟨A, 8, none⟩ = some (.int .i64 e.gen) := hS.1.cell 8
    go_simp
    first | done | with_reducible rfl
  simp only [Act.put, List.getElem_toArray, List.getElem_cons_succ, List.getElem_cons_zero, List.setIfInBounds_toArray, List.set_cons_zero, List.set_cons_succ]
  refine wpAnyK_take (i := 17) (v := ?_) rfl (by kernel_rfl) (by kernel_rfl) (by kernel_rfl) (by decide) (by kernel_rfl) (fun _ _ _ h => h) (Or.inl ⟨by kernel_rfl, ?_⟩) hH ?_
  rotate_left
  · intro W hS
    have h0 : W.cell? ⟨A, 0, none⟩ = some (strV e.key) := hS.1.cell 0
    have h1 : W.cell? ⟨A, 1, none⟩ = some (strV e.second) := hS.1.cell 1
    have h2 : W.cell? ⟨A, 2, none⟩ = some (.slice na nn nc) := hS.1.cell 2
    have h3 : W.cell? ⟨A, 3, none⟩ = some (.int .i64 e.asked) := hS.1.cell 3
    have h4 : W.cell? ⟨A, 4, none⟩ = some (.int .i64 e.came) := hS.1.cell 4
    have h5 : W.cell? ⟨A, 5, none⟩ = some (.int .i64 e.status) := hS.1.cell 5
    have h6 : W.cell? ⟨A, 6, none⟩ = some (.slice fo e.fields.length fc) := hS.1.cell 6
    have h7 : W.cell? ⟨A, 7, none⟩ = some (.slice ba bn bc) := hS.1.cell 7
    have h8 : W.cell? ⟨A, 8, none⟩ = some (.int .i64 e.gen) := hS.1.cell 8
    go_simp
    first | done | with_reducible rfl
  simp only [Act.put, List.getElem_toArray, List.getElem_cons_succ, List.getElem_cons_zero, List.setIfInBounds_toArray, List.set_cons_zero, List.set_cons_succ]
  refine wpAnyK_take (i := 18) (v := ?_) rfl (by kernel_rfl) (by kernel_rfl) (by kernel_rfl) (by decide) (by kernel_rfl) (fun _ _ _ h => h) (Or.inl ⟨by kernel_rfl, ?_⟩) hH ?_
  rotate_left
  · intro W hS
    have h0 : W.cell? ⟨A, 0, none⟩ = some (strV e.key) := hS.1.cell 0
    have h1 : W.cell? ⟨A, 1, none⟩ = some (strV e.second) := hS.1.cell 1
    have h2 : W.cell? ⟨A, 2, none⟩ = some (.slice na nn nc) := hS.1.cell 2
    have h3 : W.cell? ⟨A, 3, none⟩ = some (.int .i64 e.asked) := hS.1.cell 3
    have h4 : W.cell? ⟨A, 4, none⟩ = some (.int .i64 e.came) := hS.1.cell 4
    have h5 : W.cell? ⟨A, 5, none⟩ = some (.int .i64 e.status) := hS.1.cell 5
    have h6 : W.cell? ⟨A, 6, none⟩ = some (.slice fo e.fields.length fc) := hS.1.cell 6
    have h7 : W.cell? ⟨A, 7, none⟩ = some (.slice ba bn bc) := hS.1.cell 7
    have h8 : W.cell? ⟨A, 8, none⟩ = some (.int .i64 e.gen) := hS.1.cell 8
    go_simp
    first | done | with_reducible rfl
  simp only [Act.put, List.getElem_toArray, List.getElem_cons_succ, List.getElem_cons_zero, List.setIfInBounds_toArray, List.set_cons_zero, List.set_cons_succ]
  refine wpAnyK_next (i := 14) (by kernel_rfl) rfl (by decide) (fun K hK => ?_)
  go_simp
  refine (CF.out _ hH.2).mono ?_
  rintro y5 w5 ⟨v5, rfl, ho5, hb5⟩
  have hr5 := ho5.reads2.2
  obtain ⟨ao5, c5, rfl⟩ := hr5.form
  have hf5 : ∀ a, ao5 = some a → B < a.block := fun a ha => by have h1 := own_farE ho5 a ha; have h2 := hH.2.size; have h3 := HSZ.out; omega
  refine hK.out _ _ ⟨hH.1.below hb5, chain2 hH.2 hH.2.size hb5⟩ (fun hH => ?_)
  clear hK K
  try simp only [Act.put, List.getElem_toArray, List.getElem_cons_succ, List.getElem_cons_zero, List.setIfInBounds_toArray, List.set_cons_zero, List.set_cons_succ]
  refine wpAnyK_take (i := 19) (v := ?_) rfl (by kernel_rfl) (by kernel_rfl) (by kernel_rfl) (by decide) (by kernel_rfl) (fun _ _ _ h => h) (Or.inl ⟨by kernel_rfl, ?_⟩) hH ?_
  rotate_left
  · intro W hS
    have h0 : W.cell? ⟨A, 0, none⟩ = some (strV e.key) := hS.1.cell 0
    have h1 : W.cell? ⟨A, 1, none⟩ = some (strV e.second) := hS.1.cell 1
    have h2 : W.cell? ⟨A, 2, none⟩ = some (.slice na nn nc) := hS.1.cell 2
    have h3 : W.cell? ⟨A, 3, none⟩ = some (.int .i64 e.asked) := hS.1.cell 3
    have h4 : W.cell? ⟨A, 4, none⟩ = some (.int .i64 e.came) := hS.1.cell 4
    have h5 : W.cell? ⟨A, 5, none⟩ = some (.int .i64 e.status) := hS.1.cell 5
    have h6 : W.cell? ⟨A, 6, none⟩ = some (.slice fo e.fields.length fc) := hS.1.cell 6
    have h7 : W.cell? ⟨A, 7, none⟩ = some (.slice ba bn bc) := hS.1.cell 7
    have h8 : W.cell? ⟨A, 8, none⟩ = some (.int .i64 e.gen) := hS.1.cell 8
    go_simp
    first | done | with_reducible rfl
  simp only [Act.put, List.getElem_toArray, List.getElem_cons_succ, List.getElem_cons_zero, List.setIfInBounds_toArray, List.set_cons_zero, List.set_cons_succ]
  refine wpAnyK_last (by kernel_rfl) rfl (fun K hK => ?_)
  have r2 := R2.out.below hH.2
  refine Gives.upon (R := fun W => W = w5.setRow B (rowE (.slice na nn nc) (.slice ao5 e.fields.length c5) (.slice ba bn bc) e)) (store_gives rfl B (rowE (.slice na nn nc) (.slice ao5 e.fields.length c5) (.slice ba bn bc) e) rfl rfl r2 infoEntD rfl (oneEntE _ _ _ _ _ _ _ _ _ _ _ _ _ _ _) rfl) ?_
  rintro w6 rfl
  refine hK.out _ _ ?_
  clear hK K
  try simp only [Act.put, List.getElem_toArray, List.getElem_cons_succ, List.getElem_cons_zero, List.setIfInBounds_toArray, List.set_cons_zero, List.set_cons_succ]
  refine wpAnyK_done (by kernel_rfl) ?_ _
  clear hw2
  have HR2 := hid r2
  have HR5 := hid hr5
  have HF5 := hid hf5
  have HHH := hid hH.2
  clear r2 hr5 hf5 hH hb5 ho5
  go_wp2_with fail
  have r2 := HR2.out
  have hr5 := HR5.out
  have hf5 := HF5.out
  refine bodyPost_ret (results_row Tryd.results12 _ _ B (rowE (.slice na nn nc) (.slice ao5 e.fields.length c5) (.slice ba bn bc) e) rfl (r2.setRow _) Tryd.underlying32 rfl infoEntD) rfl ?_
  have hKb := ((Kept.of_below (X := fun k => k = B) (HB.out.trans (HHH.out.mono HB.out.size))).setRow (g := B) (.inl rfl) (rowE (.slice na nn nc) (.slice ao5 e.fields.length c5) (.slice ba bn bc) e)).below (fun k h _ => by have := HAB.out.1; have := HAB.out.2; omega) (Nat.le_refl _)
  refine ⟨⟨_, rfl, ?_⟩, hKb⟩
  exact ⟨(HAT.out.below hKb).names, reads2_setRowE hr5 hf5 _, (HAT.out.below hKb).body⟩
end Go.Proofs.YtdkhkeffheleeaaDoor
/-
  Contracts of package entry: put, putNumber, putText, sum, numberOf.
-/
set_option linter.unusedVariables false
set_option linter.unusedSimpArgs false
namespace Go.Pantry
open Go.RowKit
theorem madeIn {v v1 v2 : Value} {w w1 : World} {X : Nat → Prop} (h1 : In (fun k => v.ownBlock = some k ∨ w.heap.size ≤ k) v1) (hk : Kept X w w1) (h2 : In (fun k => v1.ownBlock = some k ∨ w1.heap.size ≤ k) v2) : In (fun k => v.ownBlock = some k ∨ w.heap.size ≤ k) v2 := fun k e => by
  rcases h2 k e with h | h
  · exact h1 k h
  · have := hk.size; exact .inr (by omega)
theorem numB_next (n p size : Nat) (h : p + 1 ≤ size) : numB (n / 256 ^ p) (size - p) = numB (n / 256 ^ (p + 1)) (size - (p + 1)) ++ [UInt8.ofNat (n / 256 ^ p % 256)] := by
  obtain ⟨q, hq⟩ : ∃ q, size - p = q + 1 := ⟨size - p - 1, by omega⟩
  rw [hq, show size - (p + 1) = q by omega, numB, Nat.div_div_eq_div_mul, Nat.pow_succ]
theorem row_put {w : World} {B : Nat} {e : TypeId} {v : Value} {L : List UInt8} {m : Nat} {x : Value} (h : w.ownsRow B e 1 v (L.length + 1) (L.map byteV ++ [x])) (hx : x = .int .u8 ((m : Int) % 256)) :
    w.ownsRow B e 1 v (L ++ [UInt8.ofNat (m % 256)]).length ((L ++ [UInt8.ofNat (m % 256)]).map byteV) := by
  have hc : ((UInt8.ofNat (m % 256)).toNat : Int) = (m : Int) % 256 := by have := ofNat_mod m; omega
  have hev : byteV (UInt8.ofNat (m % 256)) = .int .u8 ((m : Int) % 256) := by show Value.int .u8 _ = _; rw [hc]
  rw [hx, ← hev] at h
  simpa using h
end Go.Pantry
namespace Go.Proofs.YtdkhkeffheleeaaDoor
open Go.RowKit Go.Pantry

set_option maxRecDepth 8000 in
set_option maxHeartbeats 4000000 in
theorem put_any (v : Value) (B : Nat) (l : List UInt8) (n size : Nat) (w : World) (ho : OwnL 5 w B v l) (hB : B ≤ w.heap.size) (hl : l.length ≤ 100000000) (hn : n < 9223372036854775807) (hs : size ≤ 6) :
    Calls Tryd.prog 51 #[v, .int .i64 (n : Int), .int .i64 (size : Int)] w (MadeK 5 B v (l ++ numB n size) w) := by
  have k0 : IntKind.i64.wrap ((size : Int) - 1) = (size : Int) - 1 := IntWalk.i64_in _ (by omega)
  obtain ⟨R, hR⟩ : ∃ R, l ++ numB n size = R := ⟨_, rfl⟩
  have HR := hid hR
  rw [hR]
  clear hR
  go_enter Tryd.func51, Tryd.ntmps51
  go_wp2_with fail
  go_loopw [0, 7] (fun v' i wr => ∃ (q : Nat) (L : List UInt8), q ≤ size ∧ i = .int .i64 ((q : Int) - 1) ∧ L = l ++ numB (n / 256 ^ q) (size - q) ∧ wr.ownsRow B 5 1 v' L.length (L.map byteV) ∧ In (fun k => v.ownBlock = some k ∨ w.heap.size ≤ k) v' ∧ Kept (fun k => v.ownBlock = some k) w wr) (fun _ i _ => (intOf i + 1).toNat)
  case atStart => exact ⟨size, l, Nat.le_refl _, rfl, by rw [Nat.sub_self]; simp [numB], ho, (fun k hk => .inl hk), Kept.refl _ _⟩
  case round =>
    obtain ⟨q, L, hq, rfl, hL, ho', hi, hb⟩ := hrel
    have hLl : L.length ≤ 100000006 := by rw [hL, List.length_append, numB_len]; omega
    have hBr : B ≤ wr.heap.size := Nat.le_trans hB hb.size
    clear ho
    cases q with
    | zero =>
      have e : L = R := by rw [hL, ← HR.out]; simp
      subst e
      clear hL
      go_wp2_with fail
      go_ret
      exact ⟨_, rfl, ho', hi, hb⟩
    | succ p =>
      have e1 : (((p + 1 : Nat) : Int) - 1) = (p : Int) := by omega
      rw [e1]
      have HN := hid (show L ++ [UInt8.ofNat (n / 256 ^ p % 256)] = l ++ numB (n / 256 ^ p) (size - p) by rw [hL, numB_next n p size hq, List.append_assoc])
      have HB := hid (And.intro hi hb)
      have hp5 : p = 0 ∨ p = 1 ∨ p = 2 ∨ p = 3 ∨ p = 4 ∨ p = 5 := by omega
      clear hL hb hi e1
      have HQ := hid hq
      clear hq
      rcases hp5 with rfl | rfl | rfl | rfl | rfl | rfl
      all_goals
        go_wp2_with ((at_builtin; go_must (refine wpList_append_oneE _ rfl _ _ 25 rfl B 5 Tryd.underlying25 infoU8 rfl (by decide) rfl ho' rfl rfl (by omega) hBr ?_); intro v' w1 hown1 hi1 hb1))
      focus
        have hrow := row_put (m := n / 256 ^ 0) hown1 (by first | (congr 1; done) | (congr 1; rw [Nat.pow_zero, Nat.div_one]))
        rw [HN.out] at hrow
        go_roundw
        case rel => exact ⟨0, _, by have := HQ.out; omega, rfl, rfl, hrow, madeIn HB.out.1 HB.out.2 hi1, HB.out.2.trans hb1 (fun k e h => (HB.out.1 k e).resolve_right (by omega))⟩
        case measure => simp [intOf]
      focus
        have hrow := row_put (m := n / 256 ^ 1) hown1 (by first | (congr 1; done) | (congr 1; rw [Nat.pow_zero, Nat.div_one]))
        rw [HN.out] at hrow
        go_roundw
        case rel => exact ⟨1, _, by have := HQ.out; omega, rfl, rfl, hrow, madeIn HB.out.1 HB.out.2 hi1, HB.out.2.trans hb1 (fun k e h => (HB.out.1 k e).resolve_right (by omega))⟩
        case measure => simp [intOf]
      focus
        have hrow := row_put (m := n / 256 ^ 2) hown1 (by first | (congr 1; done) | (congr 1; rw [Nat.pow_zero, Nat.div_one]))
        rw [HN.out] at hrow
        go_roundw
        case rel => exact ⟨2, _, by have := HQ.out; omega, rfl, rfl, hrow, madeIn HB.out.1 HB.out.2 hi1, HB.out.2.trans hb1 (fun k e h => (HB.out.1 k e).resolve_right (by omega))⟩
        case measure => simp [intOf]
      focus
        have hrow := row_put (m := n / 256 ^ 3) hown1 (by first | (congr 1; done) | (congr 1; rw [Nat.pow_zero, Nat.div_one]))
        rw [HN.out] at hrow
        go_roundw
        case rel => exact ⟨3, _, by have := HQ.out; omega, rfl, rfl, hrow, madeIn HB.out.1 HB.out.2 hi1, HB.out.2.trans hb1 (fun k e h => (HB.out.1 k e).resolve_right (by omega))⟩
        case measure => simp [intOf]
      focus
        have hrow := row_put (m := n / 256 ^ 4) hown1 (by first | (congr 1; done) | (congr 1; rw [Nat.pow_zero, Nat.div_one]))
        rw [HN.out] at hrow
        go_roundw
        case rel => exact ⟨4, _, by have := HQ.out; omega, rfl, rfl, hrow, madeIn HB.out.1 HB.out.2 hi1, HB.out.2.trans hb1 (fun k e h => (HB.out.1 k e).resolve_right (by omega))⟩
        case measure => simp [intOf]
      focus
        have hrow := row_put (m := n / 256 ^ 5) hown1 (by first | (congr 1; done) | (congr 1; rw [Nat.pow_zero, Nat.div_one]))
        rw [HN.out] at hrow
        go_roundw
        case rel => exact ⟨5, _, by have := HQ.out; omega, rfl, rfl, hrow, madeIn HB.out.1 HB.out.2 hi1, HB.out.2.trans hb1 (fun k e h => (HB.out.1 k e).resolve_right (by omega))⟩
        case measure => simp [intOf]
theorem u32_xor_nat (a b : Nat) (ha : a < 4294967296) (hb : b < 4294967296) : bits .xor .u32 (a : Int) (b : Int) = ((a ^^^ b : Nat) : Int) := by
  have hx : a ^^^ b < 2 ^ 32 := Nat.xor_lt_two_pow (by omega) (by omega)
  have h1 : (BitVec.ofInt 32 (a : Int)).toNat = a := by
    rw [BitVec.ofInt_natCast, BitVec.toNat_ofNat]; exact Nat.mod_eq_of_lt (by omega)
  have h2 : (BitVec.ofInt 32 (b : Int)).toNat = b := by
    rw [BitVec.ofInt_natCast, BitVec.toNat_ofNat]; exact Nat.mod_eq_of_lt (by omega)
  show IntKind.u32.wrap ((BitVec.ofInt 32 (a : Int) ^^^ BitVec.ofInt 32 (b : Int)).toNat : Int) = _
  rw [BitVec.toNat_xor, h1, h2]
  exact IntWalk.u32_in _ (by omega)
theorem i64_or_nat (a b : Nat) (ha : a < 9223372036854775808) (hb : b < 9223372036854775808) : bits .or .i64 (a : Int) (b : Int) = ((a ||| b : Nat) : Int) := by
  have hx : a ||| b < 2 ^ 63 := Nat.or_lt_two_pow (by omega) (by omega)
  have h1 : (BitVec.ofInt 64 (a : Int)).toNat = a := by
    rw [BitVec.ofInt_natCast, BitVec.toNat_ofNat]; exact Nat.mod_eq_of_lt (by omega)
  have h2 : (BitVec.ofInt 64 (b : Int)).toNat = b := by
    rw [BitVec.ofInt_natCast, BitVec.toNat_ofNat]; exact Nat.mod_eq_of_lt (by omega)
  show IntKind.i64.wrap ((BitVec.ofInt 64 (a : Int) ||| BitVec.ofInt 64 (b : Int)).toNat : Int) = _
  rw [BitVec.toNat_or, h1, h2]
  exact IntWalk.i64_in _ (by omega)
theorem or_low (m c : Nat) (hc : c < 256) : (256 * m) ||| c = 256 * m + c := by
  have := Nat.shiftLeft_add_eq_or_of_lt (i := 8) (b := c) (by omega) m
  rw [Nat.shiftLeft_eq] at this
  rw [show 256 * m = m * 2 ^ 8 by omega]
  exact this.symm
set_option maxRecDepth 8000 in
set_option maxHeartbeats 4000000 in
theorem sum_any (v : Value) (l : List UInt8) (w : World) (hr : Reads w v (l.map byteV)) (hl : l.length ≤ 1000000000) :
    Calls Tryd.prog 52 #[v] w fun e w' => e = .returned (.int .u32 (sumL l : Int)) ∧ Below w.heap.size w w' := by
  obtain ⟨ao, cap, rfl, -⟩ := id hr
  have HR := hid hr
  rw [List.length_map] at *
  obtain ⟨n, hn⟩ : ∃ n, l.length = n := ⟨_, rfl⟩
  rw [hn] at hl ⊢
  have HN := hid hn
  clear hr hn
  go_enter Tryd.func52, Tryd.ntmps52
  go_wp2_with fail
  go_loopw [3, 8] (fun s i wr => ∃ (k m : Nat), k ≤ n ∧ i = .int .i64 (k : Int) ∧ s = .int .u32 (m : Int) ∧ m < 4294967296 ∧ m = sumL (l.take k) ∧ Below w.heap.size w wr) (fun _ i _ => n - (intOf i).toNat)
  case atStart => exact ⟨0, 2166136261, Nat.zero_le _, rfl, rfl, by decide, by rw [List.take_zero]; exact sumL_nil.symm, Below.refl _ _⟩
  case round =>
    obtain ⟨k, m, hk, rfl, rfl, hm, hms, hb⟩ := hrel
    have HM := hid hms
    clear hms
    by_cases hlt : k < n
    · obtain ⟨c, hc⟩ : ∃ c, l[k]? = some c := ⟨_, List.getElem?_eq_getElem (by rw [HN.out]; exact hlt)⟩
      obtain ⟨bb, off, cap', hv, hcell⟩ := (HR.out.below hb).at_some (by rw [List.length_map, HN.out]; omega)
      have hcc := hcell k (byteV c) (by simp [hc])
      have hv2 : ao = some ⟨bb, off, none⟩ := by simp only [Value.slice.injEq] at hv; exact hv.1
      subst hv2
      have hkI : (k : Int) < (n : Int) := by omega
      have hk0 : (0 : Int) ≤ (k : Int) := by omega
      have hkw : IntKind.i64.wrap ((k : Int) + 1) = (k : Int) + 1 := IntWalk.i64_in _ (by omega)
      have HT := hid (show sumL (l.take (k + 1)) = sumC m c by
        obtain ⟨hk', e⟩ := List.getElem?_eq_some_iff.1 hc
        rw [List.take_succ_eq_append_getElem hk', e, HM.out]
        unfold sumL sumF
        rw [List.foldl_append, List.foldl_cons, List.foldl_nil])
      have hx := xor_lt hm c
      have hcl := c.toNat_lt
      have HXX := hid (show sumC m c = (m ^^^ c.toNat) * 16777619 % 4294967296 by unfold sumC; exact Eq.refl _)
      have hbx := u32_xor_nat m c.toNat hm (by omega)
      obtain ⟨X, hX⟩ : ∃ X, m ^^^ c.toNat = X := ⟨_, rfl⟩
      rw [hX] at hx HXX hbx
      have HX := hid hX
      have hw0 : IntKind.u32.wrap (c.toNat : Int) = (c.toNat : Int) := IntWalk.u32_in _ (by omega)
      have hw1 : IntKind.u32.wrap ((X : Int) * 16777619) = ((X * 16777619 % 4294967296 : Nat) : Int) := by rw [IntKind.wrap_u32]; omega
      have HB := hid hb
      clear hv hcell hc hb hX
      generalize hY : ((X * 16777619 % 4294967296 : Nat) : Int) = Y at hw1
      have HY := hid hY
      clear hY
      go_wp2_with fail
      go_roundw
      case rel => exact ⟨k + 1, X * 16777619 % 4294967296, hlt, by go_num, by rw [HY.out], Nat.mod_lt _ (by decide), by rw [HT.out, HXX.out], HB.out⟩
      case measure => simp [intOf]; omega
    · have hkn : k = n := by omega
      subst hkn
      have htk : l.take k = l := List.take_of_length_le (by rw [HN.out]; exact Nat.le_refl _)
      have HS := hid (show m = sumL l by rw [HM.out, htk])
      clear htk
      go_wp2_with fail
      go_ret
      exact ⟨by rw [HS.out]; rfl, hb⟩
theorem numN_bound (l : List UInt8) (hl : l.length ≤ 6) : numN l < 281474976710656 := by
  have h := (numB_numN l.length l rfl).2
  have h3 : 256 ^ l.length ≤ 256 ^ 6 := Nat.pow_le_pow_right (by decide) hl
  have h4 : (256 : Nat) ^ 6 = 281474976710656 := by decide
  omega
set_option maxRecDepth 8000 in
set_option maxHeartbeats 4000000 in
theorem numberOf_any (v : Value) (l : List UInt8) (w : World) (hr : Reads w v (l.map byteV)) (hl : l.length ≤ 6) :
    Calls Tryd.prog 59 #[v] w fun e w' => e = .returned (.int .i64 (numN l : Int)) ∧ Below w.heap.size w w' := by
  obtain ⟨ao, cap, rfl, -⟩ := id hr
  have HR := hid hr
  rw [List.length_map] at *
  obtain ⟨n, hn⟩ : ∃ n, l.length = n := ⟨_, rfl⟩
  rw [hn] at hl ⊢
  have HN := hid hn
  clear hr hn
  go_enter Tryd.func59, Tryd.ntmps59
  go_wp2_with fail
  go_loopw [3, 8] (fun s i wr => ∃ (k m : Nat), k ≤ n ∧ i = .int .i64 (k : Int) ∧ s = .int .i64 (m : Int) ∧ m = numN (l.take k) ∧ Below w.heap.size w wr) (fun _ i _ => n - (intOf i).toNat)
  case atStart => exact ⟨0, 0, Nat.zero_le _, rfl, rfl, rfl, Below.refl _ _⟩
  case round =>
    obtain ⟨k, m, hk, rfl, rfl, hms, hb⟩ := hrel
    have HM := hid hms
    clear hms
    by_cases hlt : k < n
    · obtain ⟨c, hc⟩ : ∃ c, l[k]? = some c := ⟨_, List.getElem?_eq_getElem (by rw [HN.out]; exact hlt)⟩
      obtain ⟨bb, off, cap', hv, hcell⟩ := (HR.out.below hb).at_some (by rw [List.length_map, HN.out]; omega)
      have hcc := hcell k (byteV c) (by simp [hc])
      have hv2 : ao = some ⟨bb, off, none⟩ := by simp only [Value.slice.injEq] at hv; exact hv.1
      subst hv2
      have hkI : (k : Int) < (n : Int) := by omega
      have hk0 : (0 : Int) ≤ (k : Int) := by omega
      have hkw : IntKind.i64.wrap ((k : Int) + 1) = (k : Int) + 1 := IntWalk.i64_in _ (by omega)
      have hcl := c.toNat_lt
      have HT := hid (show numN (l.take (k + 1)) = 256 * m + c.toNat by
        obtain ⟨hk', e⟩ := List.getElem?_eq_some_iff.1 hc
        rw [List.take_succ_eq_append_getElem hk', e, numN_snoc, HM.out])
      have hmb : m < 1099511627776 := by
        have h := (numB_numN (l.take k).length (l.take k) rfl).2
        have h2 : (l.take k).length ≤ 5 := by rw [List.length_take]; omega
        have h3 : 256 ^ (l.take k).length ≤ 256 ^ 5 := Nat.pow_le_pow_right (by decide) h2
        have h4 : (256 : Nat) ^ 5 = 1099511627776 := by decide
        rw [HM.out]; omega
      have hbo := i64_or_nat (256 * m) c.toNat (by omega) (by omega)
      rw [or_low m c.toNat hcl, show ((256 * m : Nat) : Int) = 256 * (m : Int) by omega] at hbo
      have hw0 : IntKind.i64.wrap (c.toNat : Int) = (c.toNat : Int) := IntWalk.i64_in _ (by omega)
      have hw1 : IntKind.i64.wrap ((m : Int) * 256) = ((256 * m : Nat) : Int) := by rw [IntWalk.i64_in _ (by omega)]; omega
      have HB := hid hb
      clear hv hcell hc hb
      go_wp2_with fail
      go_roundw
      case rel => exact ⟨k + 1, 256 * m + c.toNat, hlt, by go_num, rfl, HT.out.symm, HB.out⟩
      case measure => simp [intOf]; omega
    · have hkn : k = n := by omega
      subst hkn
      have htk : l.take k = l := List.take_of_length_le (by rw [HN.out]; exact Nat.le_refl _)
      have HS := hid (show m = numN l by rw [HM.out, htk])
      clear htk
      go_wp2_with fail
      go_ret
      exact ⟨ret_int (by rw [HS.out]), hb⟩
set_option maxRecDepth 8000 in
theorem putNumber_any (v : Value) (B : Nat) (l : List UInt8) (n : Nat) (w : World) (ho : OwnL 5 w B v l) (hB : B ≤ w.heap.size) (hl : l.length ≤ 100000000) (hn : n < 9223372036854775807) :
    Calls Tryd.prog 48 #[v, .int .i64 (n : Int)] w (MadeK 5 B v (l ++ numB n 6) w) := by
  have C := hid (put_any v B l n 6 w ho hB hl hn (by decide))
  clear ho
  go_enter Tryd.func48, Tryd.ntmps48
  go_wp2_with fail
  refine C.out.mono ?_
  rintro e w1 ⟨v1, rfl, h1, h2, h3⟩
  go_wp2_with fail
  go_ret
  exact ⟨v1, rfl, h1, h2, h3⟩
set_option maxRecDepth 8000 in
set_option maxHeartbeats 4000000 in
theorem putText_any (v : Value) (B : Nat) (l s : List UInt8) (w : World) (ho : OwnL 5 w B v l) (hB : B ≤ w.heap.size) (hl : l.length ≤ 50000000) (hs : s.length ≤ 50000000) :
    Calls Tryd.prog 46 #[v, strV s] w (MadeK 5 B v (l ++ textB s) w) := by
  have C := hid (put_any v B l s.length 2 w ho hB (by omega) (by omega) (by decide))
  have hz : ((⟨s.toArray⟩ : ByteArray).size : Int) = (s.length : Int) := by rw [szL]
  have hT : textB s = numB s.length 2 ++ s := rfl
  have h2 := numB_len 2 s.length
  rw [hT]
  generalize numB s.length 2 = x at C h2
  clear hT ho
  go_enter Tryd.func46, Tryd.ntmps46
  go_wp2_with fail
  refine C.out.mono ?_
  rintro e w1 ⟨v1, rfl, h1, hi1, hb1⟩
  have hs1 := Nat.le_trans hB hb1.size
  have hxl : (l ++ x).length = l.length + 2 := by rw [List.length_append, h2]
  go_wp2_with (at_builtin; refine wpList_append_strE _ rfl _ _ 25 9 rfl B 5 Tryd.underlying25 Tryd.underlying9 infoU8 rfl h1 (l := s) rfl (by omega) hs1 ?_; intro v4 w4 ho4 hi4 hb4)
  go_ret
  refine ⟨v4, rfl, ?_, madeIn hi1 hb1 hi4, hb1.trans hb4 (fun k e h => (hi1 k e).resolve_right (by omega))⟩
  rw [show l ++ (x ++ s) = (l ++ x) ++ s by rw [List.append_assoc]]
  show w4.ownsRow B _ 1 v4 ((l ++ x) ++ s).length (((l ++ x) ++ s).map byteV)
  rw [List.length_append, List.map_append]
  exact ho4
end Go.Proofs.YtdkhkeffheleeaaDoor
