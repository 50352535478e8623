/-
  Package disk: Crash.
-/
import Derived.Test.YtgdeiokaicjkdaaDiskD
import Derived.Test.YtgdeiokaicjkdaaDiskP
set_option linter.unusedVariables false
set_option linter.unusedSimpArgs false
namespace Go.Proofs.Ytgdeiokaicjkdaa
open Go.RowKit Go.Pantry

/-- what the loop of Crash keeps: j sectors are done -/
structure CrashAt (w wr : World) (g gs gm gb N : Nat) (left : Int) (D : DataW Value) (m : DiskM) (vp vk : Value) (keep : List Bool) (j : Nat) (ss : List (List UInt8)) : Prop where
  disk : LAt wr g gs gm gb N left D (stoodDk m ss)
  same : crF m.pend ss (keep.drop j) ((pendDkL 0 m.pend).drop j) = crashDkL m.stands m.pend keep
  nums : wr.ownsRow w.heap.size 3 1 vp (pendDkL 0 m.pend).length ((pendDkL 0 m.pend).map (fun k : Nat => Value.int .i64 (k : Int)))
  keep : Reads wr vk (keep.map .bool)
  kept : Kept (FL g gs gm gb) w wr
theorem CrashAt.step {w wr V : World} {g gs gm gb N : Nat} {left : Int} {D : DataW Value} {m : DiskM} {vp vk : Value} {keep : List Bool} {j i : Nat} {ss : List (List UInt8)} (h : CrashAt w wr g gs gm gb N left D m vp vk keep j ss) (hlt : ∀ k, FL g gs gm gb k → k < w.heap.size) (hk : keep ≠ [] → In (fun k => ¬ FL g gs gm gb k) vk)
    (hi : (pendDkL 0 m.pend)[j]? = some i) (hg : keep.getD j false = true) (hr : SecRow V gs (ss.set i (m.pend.getD i [])) 64) (hkp : Kept (fun k => k = gs) wr V) : CrashAt w V g gs gm gb N left D m vp vk keep (j + 1) (ss.set i (m.pend.getD i [])) := by
  refine ⟨h.disk.stood hr hkp, ?_, ownsRow_kept h.nums hkp (fun k hk e => by have h1 := hlt gs (.inr (.inl rfl)); have h2 := h.nums.lt k hk; omega), ?_, h.kept.trans hkp (fun x hx _ => .inr (.inl hx))⟩
  · have := crF_step m.pend ss keep (pendDkL 0 m.pend) j i hi
    rw [hg, if_pos rfl] at this
    rw [← this]
    exact h.same
  · exact reads_stayS h.keep hkp (fun hne x hx e => hk (fun e => hne (by rw [e]; rfl)) x hx (.inr (.inl e)))
theorem CrashAt.skip {w wr : World} {g gs gm gb N : Nat} {left : Int} {D : DataW Value} {m : DiskM} {vp vk : Value} {keep : List Bool} {j i : Nat} {ss : List (List UInt8)} (h : CrashAt w wr g gs gm gb N left D m vp vk keep j ss)
    (hi : (pendDkL 0 m.pend)[j]? = some i) (hg : keep.getD j false = false) : CrashAt w wr g gs gm gb N left D m vp vk keep (j + 1) ss := by
  refine ⟨h.disk, ?_, h.nums, h.keep, h.kept⟩
  have := crF_step m.pend ss keep (pendDkL 0 m.pend) j i hi
  rw [hg, if_neg (by simp)] at this
  rw [← this]
  exact h.same
theorem CrashAt.below {w wr V : World} {g gs gm gb N : Nat} {left : Int} {D : DataW Value} {m : DiskM} {vp vk : Value} {keep : List Bool} {j : Nat} {ss : List (List UInt8)} (h : CrashAt w wr g gs gm gb N left D m vp vk keep j ss) (hb : Below wr.heap.size wr V) : CrashAt w V g gs gm gb N left D m vp vk keep j ss :=
  ⟨h.disk.below hb, h.same, ownsRow_kept h.nums (Kept.of_below (X := fun _ => False) hb) (fun _ _ h => h), h.keep.below hb, h.kept.then hb⟩
set_option maxRecDepth 8000 in
set_option maxHeartbeats 2000000 in
theorem lCrash_any (g gs gm gb N : Nat) (left : Int) (D : DataW Value) (m : DiskM) (vk : Value) (keep : List Bool) (w : World) (h : LAt w g gs gm gb N left D m) (hr : Reads w vk (keep.map .bool)) (hk : keep ≠ [] → In (fun k => ¬ FL g gs gm gb k) vk) :
    Calls Try.prog 22 #[.pointer (some ⟨g, 0, none⟩), vk] w fun e w' => (∃ u, e = .returned u) ∧ Kept (FL g gs gm gb) w w' ∧ ∃ left' D', LAt w' g gs gm gb N left' D' (crashDk m keep) := by
  have C1 := hid (lPending_any g gs gm gb N left D m w h)
  obtain ⟨ao, cap, rfl⟩ : ∃ ao cap, vk = .slice ao keep.length cap := by obtain ⟨a, c, h, _⟩ := hr; exact ⟨a, c, by rw [h, List.length_map]⟩
  have hsp : m.stands.length = m.pend.length := h.ok.len.trans h.ok.lenP.symm
  have HL := hid (And.intro h (And.intro hr (And.intro hk (And.intro (crF_whole hsp keep) (fun k (hk : FL g gs gm gb k) => h.lt hk)))))
  have hN : N ≤ 4096 := h.n1
  have hnl : (pendDkL 0 m.pend).length ≤ 4096 := by have := pendDkL_le m.pend 0; have := h.ok.lenP; omega
  clear h hr hk hsp
  go_enter Try.func22, Try.ntmps22
  go_wp2_with fail
  refine C1.out.mono ?_
  rintro e w1 ⟨hb1, v, rfl, ho1⟩
  obtain ⟨ap, cp, rfl⟩ := own1_form ho1
  have hI : CrashAt w w1 g gs gm gb N left D m (.slice ap (pendDkL 0 m.pend).length cp) (.slice ao keep.length cap) keep 0 m.stands :=
    ⟨HL.out.1.below hb1, by rw [List.drop_zero, List.drop_zero]; exact HL.out.2.2.2.1, ho1, HL.out.2.1.below hb1, Kept.of_below hb1⟩
  have HI := hid (show ∃ (j : Nat) (ss : List (List UInt8)), j ≤ (pendDkL 0 m.pend).length ∧ Value.int .i64 0 = .int .i64 (j : Int) ∧ CrashAt w w1 g gs gm gb N left D m (.slice ap (pendDkL 0 m.pend).length cp) (.slice ao keep.length cap) keep j ss from ⟨0, _, Nat.zero_le _, rfl, hI⟩)
  clear hI ho1 hb1 C1
  obtain ⟨n, hn⟩ : ∃ n, n = (pendDkL 0 m.pend).length := ⟨_, rfl⟩
  rw [← hn] at HI hnl ⊢
  have HN := hid hn
  clear hn
  go_wp2_with fail
  go_loopw [9] (fun i wr => ∃ (j : Nat) (ss : List (List UInt8)), j ≤ n ∧ i = .int .i64 (j : Int) ∧ CrashAt w wr g gs gm gb N left D m (.slice ap n cp) (.slice ao keep.length cap) keep j ss) (fun i _ => n - (RowKit.intOf i).toNat)
  case atStart => exact HI.out
  case round =>
    clear HI
    obtain ⟨j, ss, hj, rfl, hC⟩ := hrel
    by_cases hjn : j < n
    case neg =>
      have hje : j = n := by omega
      subst hje
      have hss : ss = crashDkL m.stands m.pend keep := by
        have h1 := hC.same
        rw [crF_done _ _ _ _ _ (by have := HN.out; omega)] at h1
        exact h1
      have c1 := hC.disk.row.cell 1
      have f1 := hC.disk.row.free 1
      have HC := hid (And.intro hC hss)
      clear hC hss
      go_wp2_with (refine wpList_clear_own rfl _ 59 rfl 3 64 Try.underlying59 secElem gm _ D rfl HC.out.1.disk.om ?_; intro W hW1 hW2 hW3
                   have hL := HC.out.1.disk.cleared hW1 hW2
                   have c3 := hL.row.cell 3
                   have c4 := hL.row.cell 4
                   have f3 := hL.row.free 3
                   have f4 := hL.row.free 4
                   have HW := hid (And.intro hL hW2)
                   clear hW1 hW2 hW3 hL)
      go_end0
      have hL := HW.out.1
      have r2 := (hL.row.setCell 4 (.bool false)).setCell 3 (.int .i64 (-1))
      have kk := ((Kept.refl (fun k => k = g) W).setCell (i := 4) (.inl rfl) (.bool false)).setCell (i := 3) (.inl rfl) (.int .i64 (-1))
      have hfin := hL.box (left' := -1) kk none false r2 (by omega) (by omega) (fun _ => rfl)
      refine ⟨⟨_, rfl⟩, (HC.out.1.kept.trans HW.out.2 (fun x hx _ => .inr (.inr (.inl hx)))).trans kk (fun x hx _ => .inl hx), -1, .map [], ?_⟩
      unfold crashDk
      rw [← HC.out.2]
      exact hfin
    case pos =>
      obtain ⟨i, hi⟩ : ∃ i, (pendDkL 0 m.pend)[j]? = some i := ⟨_, List.getElem?_eq_getElem (show j < (pendDkL 0 m.pend).length by have := HN.out; omega)⟩
      obtain ⟨hip, hine⟩ := pendDkL_at hi
      have hiN : i < N := by have := HL.out.1.ok.lenP; omega
      obtain ⟨gp, cp', hv, -, hcell, hfree⟩ := own1_cells (by have := hC.nums; rw [← HN.out] at this; exact this) (show 0 < n by omega)
      cases hv
      have cj := hcell j (.int .i64 (i : Int)) (by rw [List.getElem?_map, hi]; rfl)
      have HIi := hid (And.intro hi (And.intro hip hine))
      clear hcell hfree hi hip hine
      by_cases hkk : j < keep.length
      case neg =>
        have HC := hid (And.intro hC (show keep.getD j false = false by rw [List.getD_eq_getElem?_getD, List.getElem?_eq_none (by omega)]; rfl))
        clear hC
        go_wp2_with fail
        go_roundw
        case rel => exact ⟨j + 1, ss, by omega, by first | rfl | simp, HC.out.1.skip HIi.out.1 HC.out.2⟩
        case measure => simp [RowKit.intOf]; omega
      case pos =>
        obtain ⟨kb, hkb⟩ : ∃ kb, keep.getD j false = kb := ⟨_, rfl⟩
        have hkv : (keep.map Value.bool)[j]? = some (.bool kb) := by
          rw [List.getElem?_map, List.getElem?_eq_getElem hkk]
          rw [List.getD_eq_getElem?_getD, List.getElem?_eq_getElem hkk] at hkb
          rw [← hkb]
          rfl
        obtain ⟨ao', cap', hv, hc, -⟩ := id hC.keep
        obtain ⟨kbb, koff, hao, hkc⟩ := hc j _ hkv
        rw [hao, List.length_map] at hv
        cases hv
        have HC := hid (And.intro hC hkb)
        clear hC hc hkv hkb
        cases kb with
        | false =>
          go_wp2_with fail
          go_roundw
          case rel => exact ⟨j + 1, ss, by omega, by first | rfl | simp, HC.out.1.skip HIi.out.1 HC.out.2⟩
          case measure => simp [RowKit.intOf]; omega
        | true =>
          go_wp2_with fail
          obtain ⟨s, hs⟩ : ∃ s, s = m.pend.getD i [] := ⟨_, rfl⟩
          have hlk : ∀ V, LAt V g gs gm gb N left D (stoodDk m ss) → (Instr.lookup 59 (.map (some gm)) (.int .i64 (i : Int)) false).run Try.prog V = .ok (secV s) V := fun V hV => by
            have := hV.look hiN false
            rw [hs]
            have hne : ¬ (stoodDk m ss).pend.getD i [] = [] := HIi.out.2.2
            rw [if_neg hne] at this
            exact this
          have hsl : s.length = 64 := by
            have hip := HIi.out.2.1
            have hne := HIi.out.2.2
            rw [hs]
            rw [List.getD_eq_getElem?_getD, List.getElem?_eq_getElem hip] at hne ⊢
            exact (HC.out.1.disk.ok.fullP _ (List.getElem_mem hip)).resolve_left hne
          have hCd := HC.out.1.below (V := wr.drew) (Below.refl _ _).drew
          have c0 := hCd.disk.row.cell 0
          have f0 := hCd.disk.row.free 0
          have c1 := hCd.disk.row.cell 1
          have f1 := hCd.disk.row.free 1
          have H4 := hid (And.intro hCd (And.intro hlk (And.intro hsl hs)))
          clear hCd hlk hsl hs cj hkc hkk hN
          refine wp_region_still_tail 12 (by kernel_rfl) (by kernel_rfl) ?_
          simp only [List.take_succ_cons, List.take_zero, List.drop_succ_cons, List.drop_zero]
          iterate 10 still_step
          refine wpStill_lookup rfl 59 _ _ false rfl rfl rfl (H4.out.2.1 _ H4.out.1.disk) ?_
          still_step
          refine wpStill_nil ?_
          change wpList _ _ _ _ _ wr.drew
          clear c0 f0 c1 f1
          have HS := hid (show (stoodDk m ss).stands.length = N from H4.out.1.disk.ok.len)
          generalize wr.drew = V4 at *
          go_wp2_with (refine wpList_store_stand rfl 64 _ _ rfl gs i rfl rfl H4.out.1.disk.os (by rw [HS.out]; exact hiN) H4.out.2.2.1 sizeS ?_; intro V5 hr5 hk5 hs5; have HR5 := hid (And.intro hr5 hk5); clear hr5 hk5 hs5)
          try simp only [Act.put]
          go_roundw
          case rel =>
            refine ⟨j + 1, _, by omega, by first | rfl | simp, H4.out.1.step HL.out.2.2.2.2 HL.out.2.2.1 HIi.out.1 HC.out.2 ?_ HR5.out.2⟩
            rw [← H4.out.2.2.2]
            exact HR5.out.1
          case measure => simp [RowKit.intOf]; omega
end Go.Proofs.Ytgdeiokaicjkdaa
