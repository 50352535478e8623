/-
  The document's disk: Crash.
-/
import Derived.Test.YtgdeiokaicjkdaaRef15C
set_option linter.unusedVariables false
set_option linter.unusedSimpArgs false
namespace Go.Proofs.Ytgdeiokaicjkdaa
open Go.RowKit Go.Pantry

/-- what Crash leaves -/
def CrashPost (w : World) (g : Nat) (vs vp vb : Value) (S : Nat → Prop) (M : DiskM) (e : Ending) (w' : World) : Prop :=
  (∃ u, e = .returned u) ∧ Kept (fun k => k = g ∨ vs.ownBlock = some k ∨ vp.ownBlock = some k) w w' ∧ ∃ ks' kp' left' arm', DAt w' g vs vp vb ks' kp' left' arm' S M
set_option maxRecDepth 8000 in
set_option maxHeartbeats 8000000 in
theorem dCrash_any (g : Nat) (vs vp vb : Value) (ks kp : List Value) (left : Int) (arm : Bool) (S : Nat → Prop) (m : DiskM) (n : Nat) (vk : Value) (keep : List Bool) (w : World) (h : DAt w g vs vp vb ks kp left arm S m) (ho : DiskOk n m) (hn0 : 0 < n) (hn : n ≤ 4096) (hr : Reads w vk (keep.map .bool)) (hi : keep ≠ [] → In (fun x => x ≠ g ∧ vs.ownBlock ≠ some x ∧ vp.ownBlock ≠ some x) vk) :
    Calls Try.prog 23 #[.pointer (some ⟨g, 0, none⟩), vk] w (CrashPost w g vs vp vb S (crashDk m keep)) := by
  obtain ⟨ak, ck, rfl⟩ : ∃ a c, vk = .slice a keep.length c := by obtain ⟨a, c, h, _⟩ := hr; exact ⟨a, c, by rw [h, List.length_map]⟩
  have HI : Hid (∃ (k : Nat) (ks' kp' : List Value), k ≤ n ∧ Value.int .i64 0 = .int .i64 (k : Int) ∧ Value.int .i64 0 = .int .i64 ((runCr keep m k).2 : Int) ∧ DAt w g vs vp vb ks' kp' left arm S (runCr keep m k).1 ∧ Kept (fun x => vs.ownBlock = some x ∨ vp.ownBlock = some x) w w) := ⟨0, _, _, Nat.zero_le _, rfl, rfl, h, Kept.refl _ _⟩
  have HR := hid (And.intro hr (And.intro hi ho))
  have HA := hid (And.intro h.inS h.inP)
  clear h hr hi ho
  go_enter Try.func23, Try.ntmps23
  go_wp2_with fail
  go_loopw [4, 5] (fun kv i wr => ∃ (k : Nat) (ks' kp' : List Value), k ≤ n ∧ i = .int .i64 (k : Int) ∧ kv = .int .i64 ((runCr keep m k).2 : Int) ∧ DAt wr g vs vp vb ks' kp' left arm S (runCr keep m k).1 ∧ Kept (fun x => vs.ownBlock = some x ∨ vp.ownBlock = some x) w wr) (fun _ i _ => n - (intOf i).toNat)
  case atStart => exact HI.out
  case round =>
    clear HI
    obtain ⟨k, ks', kp', hk, rfl, rfl, hD, hkr⟩ := hrel
    have hok := runCr_ok HR.out.2.2 keep k
    have hle := runCr_le keep m k
    have hstep : runCr keep m (k + 1) = stepCr keep (runCr keep m k) k := rfl
    obtain ⟨X, hX⟩ : ∃ X, runCr keep m k = X := ⟨_, rfl⟩
    rw [hX] at hD hok hle hstep ⊢
    obtain ⟨M, j⟩ := X
    simp only at hD hok hle hstep ⊢
    obtain ⟨gs, cs, rfl, -⟩ := ownsRow_cells hD.os (by rw [hok.len]; exact hn0)
    obtain ⟨gp, cp, rfl, -⟩ := ownsRow_cells hD.op (by rw [hok.lenP]; exact hn0)
    have h0 := hD.row.cell 0
    have f0 := hD.row.free 0
    have h1 := hD.row.cell 1
    have f1 := hD.row.free 1
    have hrk : Reads wr (.slice ak keep.length ck) (keep.map .bool) := reads_stay15 HR.out.1 hkr (fun hne x hx e => by
      have h1 := HR.out.2.1 (fun e => hne (by rw [e]; rfl)) x hx
      rcases e with e | e
      · exact h1.2.1 e
      · exact h1.2.2 e)
    by_cases hkl : k < n
    · have hks : k < M.stands.length := by rw [hok.len]; exact hkl
      have hkp : k < M.pend.length := by rw [hok.lenP]; exact hkl
      have hkz : (k : Int) < (M.stands.length : Int) := by omega
      have hkzp : (k : Int) < (M.pend.length : Int) := by omega
      have hwk : IntKind.i64.wrap ((k : Int) + 1) = ((k + 1 : Nat) : Int) := by rw [IntWalk.i64_in _ (by omega)]; simp
      have hwj : IntKind.i64.wrap ((j : Int) + 1) = ((j + 1 : Nat) : Int) := by rw [IntWalk.i64_in _ (by omega)]; simp
      obtain ⟨aop, cpp, hup, hbp, hip⟩ := hD.rp.at hkp
      obtain ⟨gp', cp', hv, hcp, hfp⟩ := cell_at hD.op hkp hup
      cases hv
      obtain ⟨aos, css, hus, hbs, his⟩ := hD.rs.at hks
      obtain ⟨gs', cs', hv, hcs, hfs⟩ := cell_at hD.os hks hus
      cases hv
      obtain ⟨pp, hpp⟩ : ∃ x, M.pend.getD k [] = x := ⟨_, rfl⟩
      rw [hpp] at hcp hbp hip hup
      by_cases hp : pp = []
      · have er : runCr keep m (k + 1) = (M, j) := by rw [hstep, stepCr, if_pos (by rw [hpp]; exact hp)]
        have HD := hid (And.intro hD (And.intro hkr er))
        have hl0 : pp.length = 0 := by rw [hp]; rfl
        rw [hl0] at hcp
        clear hD hkr hbp hip hbs his hup hus hp er hl0 hcs hfs hok hstep hX hpp hrk
        go_wp2_with fail
        go_roundw
        case rel => exact ⟨k + 1, ks', kp', hkl, by simp, by rw [HD.out.2.2], by rw [HD.out.2.2]; exact HD.out.1, HD.out.2.1⟩
        case measure => simp only [intOf]; omega
      · have hl0 : 0 < pp.length := List.length_pos_iff.2 hp
        have hl1 : ((pp.length : Int) == 0) = false := by simpa using hp
        have hg1 := (hD.inS gs rfl).1
        have hg2 := hD.inP gp rfl
        have hne : gs ≠ gp := fun e => hg2.2.2 (by rw [← e]; rfl)
        have hne2 : gp ≠ gs := fun e => hne e.symm
        have hng : gs ≠ g := hg1
        have hng2 : gp ≠ g := hg2.1
        have hkp2 : k < kp'.length := by rw [hD.rp.len]; exact hkp
        by_cases hkeep : keep.getD j false = true
        · have hj : j < keep.length := by
            refine Decidable.byContradiction fun hj => ?_
            rw [List.getD_eq_getElem?_getD, List.getElem?_eq_none (by omega)] at hkeep
            cases hkeep
          have hjz : (j : Int) < (keep.length : Int) := by omega
          obtain ⟨ao', cap', hv, hcell, _⟩ := hrk
          obtain rfl : ao' = ak := by injection hv with e _ _; exact e.symm
          clear hv
          have hkj : (keep.map Value.bool)[j]? = some (.bool true) := by
            rw [List.getElem?_map]
            rw [List.getD_eq_getElem?_getD, List.getElem?_eq_getElem hj] at hkeep
            rw [List.getElem?_eq_getElem hj]
            show some (Value.bool keep[j]) = _
            rw [show keep[j] = true from hkeep]
          obtain ⟨bk, off, rfl, hck⟩ := hcell j _ hkj
          have er : runCr keep m (k + 1) = ({ M with stands := M.stands.set k pp, pend := M.pend.set k [] }, j + 1) := by rw [hstep, stepCr, if_neg (by rw [hpp]; exact hp), hpp, if_pos hkeep]
          have HD := hid (And.intro hD (And.intro hkr (And.intro hbp (And.intro hip er))))
          clear hD hkr hbp hip hbs his hup hus hp hpp hok hg1 hg2 hcell hkj hkeep hstep hX er
          go_wp2_with fail
          go_region
          obtain ⟨hD, hkr, hbp, hip, er⟩ := HD.out
          obtain ⟨d1, q1⟩ := hD.stood rfl (k := k) hbp hip
          have d2 := d1.drew
          have q2 := q1.drew
          obtain ⟨W, hW⟩ : ∃ W, (wr.setCell ⟨gs, k, none⟩ (.slice aop pp.length cpp)).drew = W := ⟨_, rfl⟩
          rw [hW] at d2 q2 ⊢
          have w1 := d2.row.cell 1
          have w2' := d2.row.free 1
          obtain ⟨u, hu⟩ : ∃ u, kp'[k]? = some u := ⟨_, List.getElem?_eq_getElem hkp2⟩
          obtain ⟨gp', cp', hv, hcp2, hfp2⟩ := cell_at d2.op hkp hu
          cases hv
          obtain ⟨d3, q3⟩ := d2.cleared rfl k
          have HF := hid (And.intro d3 (And.intro ((hkr.trans q2 (fun x hx _ => .inl (by rw [hx]; rfl))).trans q3 (fun x hx _ => .inr (by rw [hx]; rfl))) er))
          clear hD hkr hbp hip d1 q1 d2 q2 d3 q3 hW er hu hkp2 HD hcs hfs hcp hfp h0 f0 h1 f1 hck
          go_wp2_with fail
          go_roundw
          case rel => exact ⟨k + 1, _, _, hkl, by simp, by rw [HF.out.2.2]; simp, by rw [HF.out.2.2]; simpa using HF.out.1, HF.out.2.1⟩
          case measure => simp only [intOf]; omega
        · have er : runCr keep m (k + 1) = ({ M with pend := M.pend.set k [] }, j + 1) := by rw [hstep, stepCr, if_neg (by rw [hpp]; exact hp), if_neg hkeep]
          obtain ⟨d3, q3⟩ := hD.cleared rfl k
          have HF := hid (And.intro d3 (And.intro (hkr.trans q3 (fun x hx _ => .inr (by rw [hx]; rfl))) er))
          by_cases hj : j < keep.length
          · have hjz : (j : Int) < (keep.length : Int) := by omega
            obtain ⟨ao', cap', hv, hcell, _⟩ := hrk
            obtain rfl : ao' = ak := by injection hv with e _ _; exact e.symm
            clear hv
            have hkj : (keep.map Value.bool)[j]? = some (.bool false) := by
              rw [List.getElem?_map]
              rw [List.getD_eq_getElem?_getD, List.getElem?_eq_getElem hj] at hkeep
              rw [List.getElem?_eq_getElem hj]
              show some (Value.bool keep[j]) = _
              rw [show keep[j] = false from Bool.eq_false_iff.2 hkeep]
            obtain ⟨bk, off, rfl, hck⟩ := hcell j _ hkj
            clear hD hkr hbp hip hbs his hup hus hp hpp hok hg1 hg2 hcell hkj hkeep hstep hX er d3 q3 hcs hfs
            go_wp2_with fail
            go_roundw
            case rel => exact ⟨k + 1, _, _, hkl, by simp, by rw [HF.out.2.2]; simp, by rw [HF.out.2.2]; exact HF.out.1, HF.out.2.1⟩
            case measure => simp only [intOf]; omega
          · have hjz : ¬ (j : Int) < (keep.length : Int) := by omega
            clear hD hkr hbp hip hbs his hup hus hp hpp hok hg1 hg2 hkeep hstep hX er d3 q3 hrk hcs hfs
            go_wp2_with fail
            go_roundw
            case rel => exact ⟨k + 1, _, _, hkl, by simp, by rw [HF.out.2.2]; simp, by rw [HF.out.2.2]; exact HF.out.1, HF.out.2.1⟩
            case measure => simp only [intOf]; omega
    · have hke : k = n := by omega
      subst hke
      have hkz : ¬ (k : Int) < (M.stands.length : Int) := by rw [hok.len]; omega
      have h4 := hD.row.cell 4
      have f4 := hD.row.free 4
      have h5 := hD.row.cell 5
      have f5 := hD.row.free 5
      have r2 := (hD.row.setCell 4 (.bool false)).setCell 5 (.bool false)
      have kk := ((Kept.refl (fun k => k = g) wr).setCell (i := 4) (.inl rfl) (.bool false)).setCell (i := 5) (.inl rfl) (.bool false)
      have d2 := hD.box (left' := left) (arm' := false) kk none false r2 (fun _ => rfl) (fun _ h => by cases h)
      have er := runCr_all HR.out.2.2 keep
      rw [hX] at er
      simp only at er
      rw [er] at d2
      have HD := hid (And.intro d2 (And.intro hkr kk))
      clear hD hkr hok hle hstep hX hrk r2 kk d2 er
      go_wp2_with fail
      go_end0
      exact ⟨⟨_, rfl⟩, (HD.out.2.1.mono (Y := fun x => x = g ∨ (Value.slice (some ⟨gs, 0, none⟩) M.stands.length cs).ownBlock = some x ∨ (Value.slice (some ⟨gp, 0, none⟩) M.pend.length cp).ownBlock = some x) (fun x hx _ => .inr hx)).trans HD.out.2.2 (fun x hx _ => .inl hx), _, _, _, _, HD.out.1⟩
end Go.Proofs.Ytgdeiokaicjkdaa
