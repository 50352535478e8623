/-
  The document's disk: Flush.
-/
import Derived.Test.YtgdeiokaicjkdaaRef15B
import Derived.Test.YtgdeiokaicjkdaaPureDisk2
import Derived.Deep.QuietTactic
import Derived.BigQuiet
set_option linter.unusedVariables false
set_option linter.unusedSimpArgs false
namespace Go.Proofs.Ytgdeiokaicjkdaa
open Go.RowKit Go.Pantry

/-- sector k stands as it was to be -/
theorem DAt.stood {S : Nat → Prop} {w : World} {g gs cs N : Nat} {vp vb : Value} {ks kp : List Value} {left : Int} {arm : Bool} {m : DiskM} (h : DAt w g (.slice (some ⟨gs, 0, none⟩) N cs) vp vb ks kp left arm S m) (hN : m.stands.length = N) {k : Nat} {u : Value} {s : List UInt8} (hu : Bytes w u s) (hi : In S u) :
    DAt (w.setCell ⟨gs, k, none⟩ u) g (.slice (some ⟨gs, 0, none⟩) N cs) vp vb (ks.set k u) kp left arm S { m with stands := m.stands.set k s } ∧ Kept (fun x => x = gs) w (w.setCell ⟨gs, k, none⟩ u) := by
  subst hN
  have hs1 := h.inS gs rfl
  have kk := (Kept.refl (fun x => x = gs) w).setCell (i := k) (.inl rfl) u
  have hs2 : ∀ x, S x → x ≠ gs := fun x hx e => hs1.2 (e ▸ hx)
  have hsz : (w.setCell ⟨gs, k, none⟩ u).heap.size = w.heap.size := by simp
  refine ⟨⟨h.row.kept kk (fun e => hs1.1 e.symm), ?_, ownsRow_kept h.op kk (fun x hx e => (h.inP x hx).2.2 (by rw [e]; rfl)), ownsRow_kept h.ob kk (fun x hx e => (h.inB x hx).2.2.1 (by rw [e]; rfl)), ?_, h.rp.kept kk hs2, h.off, h.on, h.inS, h.inP, h.inB, h.sg, fun x hx => by rw [hsz]; exact h.sl x hx⟩, kk⟩
  · have := ownsRow_set1 h.os k u
    simpa using this
  · exact (h.rs.set k hu hi).kept kk hs2
/-- sector k is no longer pending -/
theorem DAt.cleared {S : Nat → Prop} {w : World} {g gp cp N : Nat} {vs vb : Value} {ks kp : List Value} {left : Int} {arm : Bool} {m : DiskM} (h : DAt w g vs (.slice (some ⟨gp, 0, none⟩) N cp) vb ks kp left arm S m) (hN : m.pend.length = N) (k : Nat) :
    DAt (w.setCell ⟨gp, k, none⟩ (.slice none 0 0)) g vs (.slice (some ⟨gp, 0, none⟩) N cp) vb ks (kp.set k (.slice none 0 0)) left arm S { m with pend := m.pend.set k [] } ∧ Kept (fun x => x = gp) w (w.setCell ⟨gp, k, none⟩ (.slice none 0 0)) := by
  subst hN
  have hp1 := h.inP gp rfl
  have kk := (Kept.refl (fun x => x = gp) w).setCell (i := k) (.inl rfl) (.slice none 0 0)
  have hs2 : ∀ x, S x → x ≠ gp := fun x hx e => hp1.2.1 (e ▸ hx)
  have hsz : (w.setCell ⟨gp, k, none⟩ (.slice none 0 0)).heap.size = w.heap.size := by simp
  refine ⟨⟨h.row.kept kk (fun e => hp1.1 e.symm), ownsRow_kept h.os kk (fun x hx e => hp1.2.2 (by rw [hx, e])), ?_, ownsRow_kept h.ob kk (fun x hx e => (h.inB x hx).2.2.2 (by rw [e]; rfl)), h.rs.kept kk hs2, ?_, h.off, h.on, h.inS, h.inP, h.inB, h.sg, fun x hx => by rw [hsz]; exact h.sl x hx⟩, kk⟩
  · have := ownsRow_set1 h.op k (.slice none 0 0)
    simpa using this
  · exact (h.rp.set k (bytes_nil w) (In.nil _ _)).kept kk hs2
theorem DAt.drew {S : Nat → Prop} {w : World} {g : Nat} {vs vp vb : Value} {ks kp : List Value} {left : Int} {arm : Bool} {m : DiskM} (h : DAt w g vs vp vb ks kp left arm S m) : DAt w.drew g vs vp vb ks kp left arm S m := h.kept (Kept.refl (fun _ => False) w).drew (fun _ _ h => h)
/-- what Flush leaves -/
def FlushPost (w : World) (g : Nat) (vs vp vb : Value) (S : Nat → Prop) (r : Nat × DiskM) (e : Ending) (w' : World) : Prop :=
  e = .returned (.int .i64 (r.1 : Int)) ∧ Kept (fun k => k = g ∨ vs.ownBlock = some k ∨ vp.ownBlock = some k) w w' ∧ ∃ ks' kp' left' arm', DAt w' g vs vp vb ks' kp' left' arm' S r.2
set_option maxRecDepth 8000 in
set_option maxHeartbeats 4000000 in
theorem dFlush_any (g : Nat) (vs vp vb : Value) (ks kp : List Value) (left : Int) (arm : Bool) (S : Nat → Prop) (m : DiskM) (n : Nat) (w : World) (h : DAt w g vs vp vb ks kp left arm S m) (ho : DiskOk n m) (hn0 : 0 < n) (hn : n ≤ 4096) :
    Calls Try.prog 18 #[.pointer (some ⟨g, 0, none⟩)] w (FlushPost w g vs vp vb S (flushDk m)) := by
  have h5 := h.row.cell 5
  have f5 := h.row.free 5
  cases hd : m.down with
  | true =>
    have e : flushDk m = (40, m) := by unfold flushDk; rw [hd]; rfl
    rw [e]
    rw [hd] at h5
    have HF := hid h
    clear h hd e
    go_enter Try.func18, Try.ntmps18
    go_wp2
    go_ret
    exact ⟨rfl, Kept.refl _ _, _, _, _, _, HF.out⟩
  | false =>
    rw [hd] at h5
    have C2 := hid (dFalls_any g vs vp vb ks kp left arm S m w h hd)
    by_cases ha : m.arm = some 0
    · have e : flushDk m = (40, fellDk m) := by unfold flushDk; rw [hd, if_neg (by simp), if_pos ha]
      rw [e]
      rw [decide_eq_true ha, if_pos ha] at C2
      clear h hd e ha ho
      go_enter Try.func18, Try.ntmps18
      go_wp2_with fail
      refine C2.out.mono ?_
      rintro e w2 ⟨rfl, hk2, hs2, left', arm', h2⟩
      go_wp2
      go_ret
      exact ⟨rfl, hk2.mono (fun x hx _ => .inl hx), _, _, _, _, h2⟩
    · have hol : DiskOk n (lessDk m) := ⟨ho.len, ho.lenP, ho.lenB, ho.full, ho.fullP⟩
      have e : flushDk m = (0, runDk (lessDk m) n) := by
        unfold flushDk
        rw [hd, if_neg (by simp), if_neg ha, runDk_all hol]
        rfl
      rw [e]
      rw [decide_eq_false ha, if_neg ha] at C2
      have HO := hid hol
      have HG := hid h.row.lt
      clear h hd e ha ho hol
      generalize lessDk m = M at *
      go_enter Try.func18, Try.ntmps18
      go_wp2_with fail
      refine C2.out.mono ?_
      rintro e w2 ⟨rfl, hk2, hs2, left', arm', h2⟩
      have HI : Hid (∃ (k : Nat) (ks' kp' : List Value), k ≤ n ∧ Value.int .i64 0 = .int .i64 (k : Int) ∧ DAt w2 g vs vp vb ks' kp' left' arm' S (runDk M k) ∧ Kept (fun x => vs.ownBlock = some x ∨ vp.ownBlock = some x) w2 w2) := ⟨0, _, _, Nat.zero_le _, rfl, h2, Kept.refl _ _⟩
      have HK := hid (And.intro hk2 hs2)
      clear hk2 hs2 h2 C2
      go_wp2_with fail
      go_loopw [3] (fun i wr => ∃ (k : Nat) (ks' kp' : List Value), k ≤ n ∧ i = .int .i64 (k : Int) ∧ DAt wr g vs vp vb ks' kp' left' arm' S (runDk M k) ∧ Kept (fun x => vs.ownBlock = some x ∨ vp.ownBlock = some x) w2 wr) (fun i _ => n - (intOf i).toNat)
      case atStart => exact HI.out
      case round =>
        clear HI
        obtain ⟨k, ks', kp', hk, rfl, hD, hkr⟩ := hrel
        have hok := HO.out.run k
        obtain ⟨gs, cs, rfl, -⟩ := ownsRow_cells hD.os (by rw [hok.len]; exact hn0)
        obtain ⟨gp, cp, rfl, -⟩ := ownsRow_cells hD.op (by rw [hok.lenP]; exact hn0)
        have h0 := hD.row.cell 0
        have f0 := hD.row.free 0
        have h1 := hD.row.cell 1
        have f1 := hD.row.free 1
        by_cases hkl : k < n
        · have hks : k < (runDk M k).stands.length := by rw [hok.len]; exact hkl
          have hkp : k < (runDk M k).pend.length := by rw [hok.lenP]; exact hkl
          have hkz : (k : Int) < ((runDk M k).stands.length : Int) := by omega
          have hkzp : (k : Int) < ((runDk M k).pend.length : Int) := by omega
          have hk0 : (0 : Int) ≤ (k : Int) := by omega
          have hwk : IntKind.i64.wrap ((k : Int) + 1) = ((k + 1 : Nat) : Int) := by rw [IntWalk.i64_in _ (by omega)]; simp
          obtain ⟨aop, cpp, hup, hbp, hip⟩ := hD.rp.at hkp
          obtain ⟨gp', cp', hv, hcp, hfp⟩ := cell_at hD.op hkp hup
          cases hv
          obtain ⟨aos, css, hus, hbs, his⟩ := hD.rs.at hks
          obtain ⟨gs', cs', hv, hcs, hfs⟩ := cell_at hD.os hks hus
          cases hv
          by_cases hp : (runDk M k).pend.getD k [] = []
          · have er : runDk M (k + 1) = runDk M k := by rw [runDk, stepDk, if_pos hp]
            have HD : Hid (DAt wr g (.slice (some ⟨gs, 0, none⟩) (runDk M k).stands.length cs) (.slice (some ⟨gp, 0, none⟩) (runDk M k).pend.length cp) vb ks' kp' left' arm' S (runDk M (k + 1)) ∧ Kept (fun x => (Value.slice (some ⟨gs, 0, none⟩) (runDk M k).stands.length cs).ownBlock = some x ∨ (Value.slice (some ⟨gp, 0, none⟩) (runDk M k).pend.length cp).ownBlock = some x) w2 wr) := ⟨by rw [er]; exact hD, hkr⟩
            have hl0 : ((runDk M k).pend.getD k []).length = 0 := by rw [hp]; rfl
            rw [hl0] at hcp
            clear hD hkr hbp hip hbs his hup hus hp er hl0 hcs hfs hok
            go_wp2_with fail
            go_roundw
            case rel => exact ⟨k + 1, ks', kp', hkl, by simp, HD.out.1, HD.out.2⟩
            case measure => simp only [intOf]; omega
          · obtain ⟨pp, hpp⟩ : ∃ x, (runDk M k).pend.getD k [] = x := ⟨_, rfl⟩
            rw [hpp] at hcp hbp hip hp hup
            have hl0 : 0 < pp.length := List.length_pos_iff.2 hp
            have hg1 := (hD.inS gs rfl).1
            have hg2 := hD.inP gp rfl
            have hne : gs ≠ gp := fun e => hg2.2.2 (by rw [← e]; rfl)
            have hne2 : gp ≠ gs := fun e => hne e.symm
            have hng : gs ≠ g := hg1
            have hng2 : gp ≠ g := hg2.1
            have HD := hid (And.intro hD (And.intro hkr (And.intro hbp (And.intro hip (And.intro hp hpp)))))
            clear hD hkr hbp hip hbs his hup hus hp hpp hok hg1 hg2
            go_wp2_with fail
            go_region
            obtain ⟨hD, hkr, hbp, hip, hp, hpp⟩ := HD.out
            obtain ⟨d1, q1⟩ := hD.stood rfl (k := k) hbp hip
            have d2 := d1.drew
            have q2 := q1.drew
            obtain ⟨W, hW⟩ : ∃ W, (wr.setCell ⟨gs, k, none⟩ (.slice aop pp.length cpp)).drew = W := ⟨_, rfl⟩
            rw [hW] at d2 q2 ⊢
            have w1 := d2.row.cell 1
            have w2' := d2.row.free 1
            have hkp2 : k < kp'.length := by rw [hD.rp.len]; exact hkp
            obtain ⟨u, hu⟩ : ∃ u, kp'[k]? = some u := ⟨_, List.getElem?_eq_getElem hkp2⟩
            obtain ⟨gp', cp', hv, hcp2, hfp2⟩ := cell_at d2.op hkp hu
            cases hv
            have er : runDk M (k + 1) = { (runDk M k) with stands := (runDk M k).stands.set k pp, pend := (runDk M k).pend.set k [] } := by rw [runDk, stepDk, if_neg (by rw [hpp]; exact hp), hpp]
            obtain ⟨d3, q3⟩ := d2.cleared rfl k
            have HF := hid (And.intro d3 (And.intro ((hkr.trans q2 (fun x hx _ => .inl (by rw [hx]; rfl))).trans q3 (fun x hx _ => .inr (by rw [hx]; rfl))) er))
            clear hD hkr hbp hip hp hpp d1 q1 d2 q2 d3 q3 hW er hu hkp2 HD hcs hfs hcp hfp h0 f0 h1 f1
            go_wp2_with fail
            go_roundw
            case rel => exact ⟨k + 1, _, _, hkl, by simp, by rw [HF.out.2.2]; simpa using HF.out.1, HF.out.2.1⟩
            case measure => simp only [intOf]; omega
        · have hke : k = n := by omega
          subst hke
          have hkz : ¬ (k : Int) < ((runDk M k).stands.length : Int) := by rw [hok.len]; omega
          have HD := hid (And.intro hD hkr)
          clear hD hkr hok
          go_wp2_with fail
          go_ret
          exact ⟨rfl, (HK.out.1.mono (Y := fun x => x = g ∨ (Value.slice (some ⟨gs, 0, none⟩) (runDk M k).stands.length cs).ownBlock = some x ∨ (Value.slice (some ⟨gp, 0, none⟩) (runDk M k).pend.length cp).ownBlock = some x) (fun x hx _ => .inl hx)).trans HD.out.2 (fun x hx _ => .inr hx), _, _, _, _, HD.out.1⟩
end Go.Proofs.Ytgdeiokaicjkdaa
