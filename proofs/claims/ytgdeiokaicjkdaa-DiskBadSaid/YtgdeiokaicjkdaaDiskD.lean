/-
  Package disk: Flush.
-/
import Derived.Test.YtgdeiokaicjkdaaDiskC
set_option linter.unusedVariables false
set_option linter.unusedSimpArgs false
namespace Go.Proofs.Ytgdeiokaicjkdaa
open Go.RowKit Go.Pantry

/-- what stands, with other sectors -/
def stoodDk (m : DiskM) (ss : List (List UInt8)) : DiskM := { m with stands := ss }
theorem LAt.stood {w W : World} {g gs gm gb N : Nat} {left : Int} {D : DataW Value} {m : DiskM} {ss : List (List UInt8)} (h : LAt w g gs gm gb N left D (stoodDk m ss)) {k : Nat} {s : List UInt8} (hr : SecRow W gs (ss.set k s) 64) (hk : Kept (fun j => j = gs) w W) : LAt W g gs gm gb N left D (stoodDk m (ss.set k s)) := by
  have hn := h.ne
  exact ⟨h.row.kept hk hn.1, hr, map_kept h.om hk (fun e => hn.2.2.2.1 e.symm), h.ob.kept hk (fun e => hn.2.2.2.2.1 e.symm), h.pd, ⟨by show (ss.set k s).length = N; rw [List.length_set]; exact h.ok.len, h.ok.lenP, h.ok.lenB, hr.full, h.ok.fullP⟩, h.n0, h.n1, h.lo, h.hi, h.lf, h.ne⟩
/-- none is pending any more -/
theorem LAt.cleared {w W : World} {g gs gm gb N : Nat} {left : Int} {D : DataW Value} {m : DiskM} (h : LAt w g gs gm gb N left D m) (ho : W.ownsMap Try.prog 3 secElem gm 0 (.map [])) (hk : Kept (fun j => j = gm) w W) : LAt W g gs gm gb N left (.map []) { m with pend := List.replicate m.pend.length [] } := by
  have hn := h.ne
  exact ⟨h.row.kept hk hn.2.1, h.os.kept hk hn.2.2.2.1, map_small ho, h.ob.kept hk (fun e => hn.2.2.2.2.2 e.symm), PendAt.new _, ⟨h.ok.len, by show (List.replicate _ _).length = N; rw [List.length_replicate]; exact h.ok.lenP, h.ok.lenB, h.ok.full, fun s hs => .inl (List.mem_replicate.1 hs).2⟩, h.n0, h.n1, h.lo, h.hi, h.lf, h.ne⟩
set_option maxRecDepth 8000 in
set_option maxHeartbeats 2000000 in
theorem lFlush_any (g gs gm gb N : Nat) (left : Int) (D : DataW Value) (m : DiskM) (w : World) (h : LAt w g gs gm gb N left D m) :
    Calls Try.prog 17 #[.pointer (some ⟨g, 0, none⟩)] w (LPost w g gs gm gb N (flushDk m)) := by
  have h5 := h.row.cell 4
  have f5 := h.row.free 4
  cases hd : m.down with
  | true =>
    have e : flushDk m = (40, m) := by unfold flushDk; rw [hd]; rfl
    rw [e]
    rw [hd] at h5
    have HF := hid h
    clear h hd e
    go_enter Try.func17, Try.ntmps17
    go_wp2
    go_ret
    exact HF.out.refl_post 40 rfl
  | false =>
    rw [hd] at h5
    have C2 := hid (lLasts_any g gs gm gb N left D m w h hd)
    have e : flushDk m = if m.arm = some 0 then (40, fellDk m) else (0, { lessDk m with stands := standDkL m.stands m.pend, pend := List.replicate m.pend.length [] }) := by
      unfold flushDk
      rw [hd, if_neg (by simp)]
    rw [e]
    by_cases ha : m.arm = some 0
    · rw [if_pos ha]
      rw [decide_eq_true ha, if_pos ha] at C2
      clear h hd e ha
      go_enter Try.func17, Try.ntmps17
      go_wp2_with fail
      refine C2.out.mono ?_
      rintro e w2 ⟨rfl, hk2, hs2, left', h2⟩
      go_wp2
      go_ret
      exact ⟨rfl, hk2.mono (fun x hx _ => .inl hx), _, _, h2⟩
    · rw [if_neg ha]
      rw [decide_eq_false ha, if_neg ha] at C2
      have hsp : m.stands.length = m.pend.length := h.ok.len.trans h.ok.lenP.symm
      have hlen : m.stands.length = N := h.ok.len
      clear h hd e ha
      go_enter Try.func17, Try.ntmps17
      go_wp2_with fail
      refine C2.out.mono ?_
      rintro e w2 ⟨rfl, hk2, hs2, left', h2⟩
      clear C2 h5 f5
      have c1 := h2.row.cell 1
      have f1 := h2.row.free 1
      have hlt2 := fun j hj => h2.lt (k := j) hj
      have HL := hid (And.intro h2 (And.intro hk2 hs2))
      have HLT := hid hlt2
      clear h2 hk2 hs2 hlt2
      go_wp2_with (refine wpList_range_own _ rfl _ 59 rfl 3 64 lawI Try.underlying59 secElem gm _ D rfl HL.out.1.om ?_; intro w0 hrg0 hg0 hs0)
      go_frame
      have h0 : LAt w0 g gs gm gb N left' D (stoodDk (lessDk m) (mixD (Maps.has D) 0 m.stands m.pend)) := by
        rw [mixD_start m.stands m.pend 0 (fun j hj hn => by rw [Nat.zero_add]; exact (HL.out.1.pd.there j hj hn).1)]
        exact HL.out.1.kept (kept_grown0 hg0) (fun _ _ h => h)
      have k0 : Kept (FL g gs gm gb) w w0 := (HL.out.2.1.mono (Y := FL g gs gm gb) (fun x hx _ => .inl hx)).trans (kept_grown0 hg0) (fun x hx _ => hx.elim)
      have hrs : w2.heap.size = w.heap.size := HL.out.2.2
      have HI := hid (And.intro hrg0 (And.intro h0 k0))
      have HRS := hid hrs
      clear hrg0 hg0 hs0 h0 k0 c1 f1 hrs
      generalize w2.heap.size = r at *
      go_loopw [3] (fun _ wr => ∃ (left : Lit → Bool) (cnt : Nat), wr.ranges Try.prog 3 secElem gm r (Maps.size D) D left cnt ∧ LAt wr g gs gm gb N left' D (stoodDk (lessDk m) (mixD left 0 m.stands m.pend)) ∧ Kept (FL g gs gm gb) w wr) (fun _ wr => wr.rangeLeft gm r)
      case atStart => exact ⟨_, _, HI.out⟩
      case round =>
        obtain ⟨left, cnt, hrg, hL, hK⟩ := hrel
        have c1 := hL.row.cell 1
        have f1 := hL.row.free 1
        have HH := hid (And.intro hrg (And.intro hL hK))
        clear hrg hL hK HI
        go_wp2_with (refine wpList_next_sec _ rfl _ rfl 3 lawI Try.underlying3 gm r _ D left cnt rfl HH.out.1 (pp := m.pend) HH.out.2.1.pd ?_ ?_)
        · intro hl0
          have hm := mixD_end hl0 m.stands m.pend 0
          have HM := hid hm
          clear hm
          go_wp2_with (refine wpList_clear_own rfl _ 59 rfl 3 64 Try.underlying59 secElem gm _ D rfl HH.out.2.1.om ?_; intro W hW1 hW2 hW3; have HW := hid (And.intro hW1 hW2); clear hW1 hW2 hW3)
          go_ret
          have hfin := HH.out.2.1.cleared HW.out.1 HW.out.2
          unfold stoodDk at hfin
          rw [HM.out] at hfin
          exact ⟨rfl, HH.out.2.2.trans HW.out.2 (fun x hx _ => .inr (.inr (.inl hx))), _, _, hfin⟩
        · intro j s w1 cnt1 hjs hrg1 hlt hg1 hs1 hen
          obtain ⟨hj, hs, hne⟩ := hjs
          have hjN : j < N := by rw [← hlen, hsp]; exact hj
          have hk1 := kept_grown hg1
          have h1 := HH.out.2.1.kept hk1 (fun x hx e => by have := HLT.out x hx; omega)
          have hps : s.length = 64 := by
            refine (h1.ok.fullP s ?_).resolve_left hne
            rw [hs, List.getD_eq_getElem?_getD, List.getElem?_eq_getElem hj]
            exact List.getElem_mem hj
          have hmx := mixD_step (left := left) m.stands m.pend 0 j hsp hj (by rw [← hs]; exact hne)
          rw [Nat.zero_add, ← hs] at hmx
          have H1 := hid (And.intro hrg1 (And.intro h1 (And.intro hk1 (And.intro hlt (And.intro hmx hps)))))
          have HRL := hid (show r < w1.heap.size from hrg1.lt)
          have HJ := hid hjN
          clear hrg1 h1 hk1 hlt hg1 hs1 hne hps c1 f1 hj hsp hlen hs hmx hjN
          go_wp2_with (first
            | (refine wpList_alloc_sec rfl 64 rfl zeroS ?_; intro V2 hr2 hb2 hs2; have HR2 := hid (And.intro hr2 hb2); clear hr2 hb2 hs2)
            | (refine wpList_store_sec rfl 64 _ _ rfl w1.heap.size rfl rfl HR2.out.1 zeroL H1.out.2.2.2.2.2 sizeS ?_; intro V3 hr3 hk3 hs3; have HR3 := hid (And.intro hr3 hk3); clear hr3 hk3 hs3)
            | fail)
          simp only [Act.put]
          have k13 : Kept (fun _ => False) w1 V3 := ((Kept.of_below (X := fun x => x = w1.heap.size) HR2.out.2).trans HR3.out.2 (fun x hx _ => hx)).mono (fun x hx hlt => by omega)
          have h3 := H1.out.2.1.kept k13 (fun _ _ h => h)
          have hrg3 := ranges_kept H1.out.1 k13 (fun h => h) (fun h => h)
          have hd3 : Below V3.heap.size V3 V3.drew := (Below.refl _ _).drew
          have h4 := h3.below hd3
          have hrg4 := ranges_kept hrg3 (Kept.of_below (X := fun _ => False) hd3) (fun h => h) (fun h => h)
          have hr4 := HR3.out.1.below hd3
          have k4 : Kept (FL g gs gm gb) w V3.drew := (((HH.out.2.2.trans H1.out.2.2.1 (fun x hx hlt => by have := HRS.out; omega)).trans k13 (fun x hx _ => hx.elim)).then hd3)
          have c0 := h4.row.cell 0
          have f0 := h4.row.free 0
          have H4 := hid (And.intro hrg4 (And.intro h4 (And.intro hr4 k4)))
          clear k13 h3 hrg3 hd3 h4 hrg4 hr4 k4
          have hjN := HJ.out
          refine wp_region_still_tail 7 (by kernel_rfl) (by kernel_rfl) ?_
          simp only [List.take_succ_cons, List.take_zero, List.drop_succ_cons, List.drop_zero]
          iterate 5 still_step
          refine wpStill_load rfl 64 _ rfl rfl (load_sec H4.out.2.2.1 H1.out.2.2.2.2.2 Try.underlying64 rfl sizeS) ?_
          still_step
          refine wpStill_nil ?_
          change wpList _ _ _ _ _ V3.drew
          clear hjN c0 f0
          generalize V3.drew = V4 at *
          go_wp2_with (refine wpList_store_stand rfl 64 _ _ rfl gs j rfl rfl H4.out.2.1.os (by show j < (mixD left 0 m.stands m.pend).length; rw [mixD_len]; have := HL.out.1.ok.len; have := HJ.out; show j < (lessDk m).stands.length; omega) H1.out.2.2.2.2.2 sizeS ?_; intro V5 hr5 hk5 hs5; have HR5 := hid (And.intro hr5 hk5); clear hr5 hk5 hs5)
          have hn := H4.out.2.1.ne
          have hrg5 := ranges_kept H4.out.1 HR5.out.2 (fun e => hn.2.2.2.1 e.symm) (fun e => by have := HLT.out gs (.inr (.inl rfl)); omega)
          simp only [Act.put]
          go_roundw
          case rel =>
            refine ⟨_, cnt1, hrg5, ?_, H4.out.2.2.2.trans HR5.out.2 (fun x hx _ => .inr (.inl hx))⟩
            rw [H1.out.2.2.2.2.1]
            exact H4.out.2.1.stood HR5.out.1 HR5.out.2
          case measure => rw [hrg5.left_eq, HH.out.1.left_eq]; exact H1.out.2.2.2.1
end Go.Proofs.Ytgdeiokaicjkdaa
