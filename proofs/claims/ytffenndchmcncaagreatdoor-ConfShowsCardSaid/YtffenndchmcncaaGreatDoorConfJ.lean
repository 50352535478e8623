/-
  Contracts of package conf: the reader's site.
-/
import Derived.Test.YtffenndchmcncaaGreatDoorConfI
namespace Go.Pantry
open Go.RowKit
theorem ruleF_stop {k : Nat} {s : SiteM} {seen : List (List UInt8)} {p : Ps} (h : ruleGo p = false) : ruleF k s seen p = (s, p) := by
  cases k with
  | zero => rfl
  | succ k => rw [ruleF, h]; rfl
theorem ruleF_go {k : Nat} {s : SiteM} {seen : List (List UInt8)} {p : Ps} (h : ruleGo p = true) : ruleF (k + 1) s seen p = ruleF k (ruleM s seen p).1 (ruleM s seen p).2.1 (ruleM s seen p).2.2 := by
  rw [ruleF, if_pos h]
end Go.Pantry
namespace Go.Proofs.YtffenndchmcncaaGreatDoor
open Go.RowKit Go.Pantry

abbrev zeroSite : Array Value := #[.string ⟨#[]⟩, .int .i64 0, .int .i64 0, .int .i64 0, .bool false, .bool false, .slice none 0 0]
theorem infoSite : (Tryz.prog.info? 42).map (·.size) = some 7 := by kernel_rfl
theorem oneSite (h : List UInt8) (a b c : Int) (d e : Bool) (ao : Option Addr) (n cap : Nat) : (#[strV h, .int .i64 a, .int .i64 b, .int .i64 c, .bool d, .bool e, .slice ao n cap] : Array Value).all (·.oneCell') = true := by simp [Value.oneCell']
/-- what site leaves -/
structure SitePost (w : World) (g mh : Nat) (T : List UInt8) (hosts : List (List UInt8)) (p : Ps) (hv : Value) (w' : World) : Prop where
  ok : RcOk w' g T (siteM hosts p).2
  seen : Seen w' mh (hdW p :: hosts)
  own : w'.ownsRow 0 9 1 hv (siteM hosts p).1.heads.length ((siteM hosts p).1.heads.map strV)
  fresh : In (fun k => w.heap.size ≤ k) hv
  kept : Kept (fun k => k = g ∨ k = mh) w w'
/-- between the calls of site -/
structure SiteB (w0 wr : World) (g mh A b : Nat) (T : List UInt8) (H : List (List UInt8)) (p : Ps) (hv : Value) (s : SiteM) : Prop where
  ok : RcOk wr g T p
  hosts : Seen wr mh H
  box : SbAt wr b hv s
  out : rowIs wr A zeroSite 42
  kept : Kept (fun k => k = g ∨ k = mh) w0 wr
theorem SiteB.rc {w0 w1 w2 : World} {g mh A b : Nat} {T : List UInt8} {H : List (List UInt8)} {p q : Ps} {hv : Value} {s : SiteM} (h : SiteB w0 w1 g mh A b T H p hv s) (ho : RcOk w2 g T q) (hk : Kept (fun k => k = g) w1 w2) (hgm : g < mh) (hgA : g < A) (hgb : g < b) : SiteB w0 w2 g mh A b T H q hv s :=
  ⟨ho, h.hosts.kept hk (by omega), h.box.other hk hgb, h.out.kept hk (by omega), h.kept.trans hk (fun k h _ => .inl h)⟩
theorem SiteB.below {w0 w1 w2 : World} {g mh A b : Nat} {T : List UInt8} {H : List (List UInt8)} {p : Ps} {hv : Value} {s : SiteM} (h : SiteB w0 w1 g mh A b T H p hv s) (hb : Below w1.heap.size w1 w2) : SiteB w0 w2 g mh A b T H p hv s :=
  ⟨h.ok.below hb, h.hosts.kept (Kept.of_below (X := fun _ => False) hb) (fun h => h), h.box.below hb, h.out.below hb, h.kept.then hb⟩
/-- at the head of the loop over rules -/
structure RuleJ (w0 wr : World) (g mh A b m : Nat) (T : List UInt8) (H : List (List UInt8)) (R : SiteM × Ps) (k : Nat) (s : SiteM) (p : Ps) (L : List (List UInt8)) (hv : Value) : Prop where
  base : SiteB w0 wr g mh A b T H p hv s
  seen : Seen wr m L
  apart : In (fun k => b < k ∧ k ≠ m) hv
  size : meas p ≤ k
  is : ruleF k s L p = R
  few : hsz s p ≤ 100000
  less : L.length + meas p ≤ 100000
theorem RuleJ.next {w0 w1 w2 : World} {g mh A b m : Nat} {T : List UInt8} {H : List (List UInt8)} {R : SiteM × Ps} {k : Nat} {s : SiteM} {p : Ps} {L : List (List UInt8)} {hv hv' : Value} (h : RuleJ w0 w1 g mh A b m T H R (k + 1) s p L hv) (hgo : ruleGo p = true)
    (hp : RulePost w1 g b m T hv (ruleM s L p) hv' w2) (hgm : g < mh) (hmA : mh < A) (hAb : A < b) (hbm : b < m) (hsz0 : w0.heap.size ≤ A) : RuleJ w0 w2 g mh A b m T H R k (ruleM s L p).1 (ruleM s L p).2.2 (ruleM s L p).2.1 hv' := by
  have hlt := rule_less (s := s) (seen := L) hgo
  have h1 := h.size
  have h2 := rule_hsz s L p
  have h3 := rule_seen s L p
  have h4 := h.few
  have h5 := h.less
  have hi := h.is
  rw [ruleF_go hgo] at hi
  have hno : ∀ k, k ≠ g → k < b → ¬ Fr g b m hv k := fun k hkg hkb e => by
    rcases e with e | e | e
    · exact hkg e
    · have := Fb.ge h.base.box e; omega
    · omega
  refine ⟨⟨hp.ok, h.base.hosts.kept hp.kept (hno mh (by omega) (by omega)), hp.box, h.base.out.kept hp.kept (hno A (by omega) hAb), h.base.kept.trans hp.kept (fun k e hk => ?_)⟩, hp.seen, fun k hk => ?_, by omega, hi, by omega, by omega⟩
  · rcases e with e | e | e
    · exact .inl e
    · have := Fb.ge h.base.box e; omega
    · omega
  · rcases hp.moves k hk with e | e
    · exact h.apart k e
    · have := h.seen.lt
      omega
set_option maxRecDepth 8000 in
theorem site_any (g mh : Nat) (T : List UInt8) (p : Ps) (hosts : List (List UInt8)) (w : World) (h : RcOk w g T p) (hsn : Seen w mh hosts) (hgm : g < mh) (hL : hosts.length ≤ 100000) (hws : p.ws.length ≤ 50000) :
    Calls Tryz.prog 63 #[.pointer (some ⟨g, 0, none⟩), .map (some mh)] w fun e w' => ∃ hv, e = .returned (.agg (siteRow hv (siteM hosts p).1)) ∧ SitePost w g mh T hosts p hv w' := by
  have hmm := @run_makeMap Tryz.prog
  have hmlt := hsn.lt
  have hglt := h.lt
  obtain ⟨x, hx⟩ : ∃ x, hdW p = x := ⟨_, rfl⟩
  have hxl := h.hd_len
  rw [hx] at hxl
  obtain ⟨b, hb⟩ : ∃ b, w.heap.size + 1 = b := ⟨_, rfl⟩
  have hs0 : (w.alloc (.cells #[.string ⟨#[]⟩, .int .i64 0, .int .i64 0, .int .i64 0, .bool false, .bool false, .slice none 0 0] 42)).heap.size = b := by rw [← hb]; simp
  have hB0 : Below w.heap.size w (w.alloc (.cells #[.string ⟨#[]⟩, .int .i64 0, .int .i64 0, .int .i64 0, .bool false, .bool false, .slice none 0 0] 42)) := below_alloc _ _
  have hr0 : rowIs (w.alloc (.cells #[.string ⟨#[]⟩, .int .i64 0, .int .i64 0, .int .i64 0, .bool false, .bool false, .slice none 0 0] 42)) w.heap.size zeroSite 42 := rowIs_new _ _ _
  have hB1 : Below (w.alloc (.cells #[.string ⟨#[]⟩, .int .i64 0, .int .i64 0, .int .i64 0, .bool false, .bool false, .slice none 0 0] 42)).heap.size (w.alloc (.cells #[.string ⟨#[]⟩, .int .i64 0, .int .i64 0, .int .i64 0, .bool false, .bool false, .slice none 0 0] 42)) ((w.alloc (.cells #[.string ⟨#[]⟩, .int .i64 0, .int .i64 0, .int .i64 0, .bool false, .bool false, .slice none 0 0] 42)).alloc (.cells #[.string ⟨#[]⟩, .int .i64 0, .int .i64 0, .int .i64 0, .bool false, .bool false, .slice none 0 0] 42)) := below_alloc _ _
  have hr1 : rowIs ((w.alloc (.cells #[.string ⟨#[]⟩, .int .i64 0, .int .i64 0, .int .i64 0, .bool false, .bool false, .slice none 0 0] 42)).alloc (.cells #[.string ⟨#[]⟩, .int .i64 0, .int .i64 0, .int .i64 0, .bool false, .bool false, .slice none 0 0] 42)) b #[.string ⟨#[]⟩, .int .i64 0, .int .i64 0, .int .i64 0, .bool false, .bool false, .slice none 0 0] 42 := rowIs_new_at _ _ _ _ hs0.symm
  have hr2 : rowIs (((w.alloc (.cells #[.string ⟨#[]⟩, .int .i64 0, .int .i64 0, .int .i64 0, .bool false, .bool false, .slice none 0 0] 42)).alloc (.cells #[.string ⟨#[]⟩, .int .i64 0, .int .i64 0, .int .i64 0, .bool false, .bool false, .slice none 0 0] 42)).setRow b #[strV x, .int .i64 1, .int .i64 0, .int .i64 3600, .bool true, .bool true, .slice none 0 0]) b #[strV x, .int .i64 1, .int .i64 0, .int .i64 3600, .bool true, .bool true, .slice none 0 0] 42 := hr1.setRow _
  have hk1 : Kept (fun _ => False) w ((w.alloc (.cells #[.string ⟨#[]⟩, .int .i64 0, .int .i64 0, .int .i64 0, .bool false, .bool false, .slice none 0 0] 42)).alloc (.cells #[.string ⟨#[]⟩, .int .i64 0, .int .i64 0, .int .i64 0, .bool false, .bool false, .slice none 0 0] 42)) := (Kept.of_below hB0).then hB1
  have hk2 : Kept (fun _ => False) w (((w.alloc (.cells #[.string ⟨#[]⟩, .int .i64 0, .int .i64 0, .int .i64 0, .bool false, .bool false, .slice none 0 0] 42)).alloc (.cells #[.string ⟨#[]⟩, .int .i64 0, .int .i64 0, .int .i64 0, .bool false, .bool false, .slice none 0 0] 42)).setRow b #[strV x, .int .i64 1, .int .i64 0, .int .i64 3600, .bool true, .bool true, .slice none 0 0]) := hk1.setRow (.inr (by omega)) _
  have hA2 : rowIs (((w.alloc (.cells #[.string ⟨#[]⟩, .int .i64 0, .int .i64 0, .int .i64 0, .bool false, .bool false, .slice none 0 0] 42)).alloc (.cells #[.string ⟨#[]⟩, .int .i64 0, .int .i64 0, .int .i64 0, .bool false, .bool false, .slice none 0 0] 42)).setRow b #[strV x, .int .i64 1, .int .i64 0, .int .i64 3600, .bool true, .bool true, .slice none 0 0]) w.heap.size zeroSite 42 := (hr0.below hB1).setRow_other _ (by omega)
  have h4 : (w.alloc (.cells #[.string ⟨#[]⟩, .int .i64 0, .int .i64 0, .int .i64 0, .bool false, .bool false, .slice none 0 0] 42)).cell? ⟨g, 4, none⟩ = some (strV x) := by rw [← hx]; exact (h.below hB0).word
  have hc0 : (((w.alloc (.cells #[.string ⟨#[]⟩, .int .i64 0, .int .i64 0, .int .i64 0, .bool false, .bool false, .slice none 0 0] 42)).alloc (.cells #[.string ⟨#[]⟩, .int .i64 0, .int .i64 0, .int .i64 0, .bool false, .bool false, .slice none 0 0] 42)).setRow b #[strV x, .int .i64 1, .int .i64 0, .int .i64 3600, .bool true, .bool true, .slice none 0 0]).cell? ⟨b, 0, none⟩ = some (strV x) := hr2.cell 0
  obtain ⟨W2, hW2⟩ : ∃ W, ((w.alloc (.cells #[.string ⟨#[]⟩, .int .i64 0, .int .i64 0, .int .i64 0, .bool false, .bool false, .slice none 0 0] 42)).alloc (.cells #[.string ⟨#[]⟩, .int .i64 0, .int .i64 0, .int .i64 0, .bool false, .bool false, .slice none 0 0] 42)).setRow b #[strV x, .int .i64 1, .int .i64 0, .int .i64 3600, .bool true, .bool true, .slice none 0 0] = W := ⟨_, rfl⟩
  rw [hW2] at hk2 hr2 hA2
  have HP := hid (And.intro (h.kept hk2 (fun _ h => h.elim)) (And.intro (hsn.kept hk2 (fun h => h)) (And.intro (show SbAt W2 b (.slice none 0 0) (site0 x) from ⟨hr2, World.ownsRow_nil _ _ _ _, In.nil _ _⟩) (And.intro hA2 (show Kept (fun k => k = g ∨ k = mh) w W2 from hk2.mono (fun _ h _ => h.elim))))))
  have HN := hid (And.intro hgm (And.intro hmlt (And.intro hglt hb)))
  obtain ⟨R, hR⟩ : ∃ R, ruleF (meas (headM hosts p)) (site0 x) [] (headM hosts p) = R := ⟨_, rfl⟩
  have HS : Hid (siteM hosts p = (R.1, expM [125] R.2)) := by
    show siteM hosts p = _
    unfold siteM; rw [hx, hR]
  have HRR := hid hR
  have HL := hid (And.intro hL (And.intro hws hxl))
  have HX := hid hx
  have HW := hid hW2
  clear h hsn hgm hL hws hmlt hglt hxl hs0 hB0 hr0 hB1 hk1 hk2 hA2 hr2 hR hW2
  go_enter Tryz.func63, Tryz.ntmps63
  go_wp2_with (refine wpList_store_row rfl 42 _ _ rfl b _ rfl rfl 42 #[.string ⟨#[]⟩, .int .i64 0, .int .i64 0, .int .i64 0, .bool false, .bool false, .slice none 0 0] hr1 infoSite rfl (oneSite x 1 0 3600 true true none 0 0) ?_)
  rw [HW.out]
  have hB := hid (show SiteB w W2 g mh w.heap.size b T hosts p (.slice none 0 0) (site0 x) from ⟨HP.out.1, HP.out.2.1, HP.out.2.2.1, HP.out.2.2.2.1, HP.out.2.2.2.2⟩)
  clear hc0 h4 hr1 HP HW
  refine (ownHost_conf x W2 (by have := HL.out; omega) hB.out.ok.env.max hB.out.ok.env.tab).mono ?_
  rintro e w3 ⟨rfl, hb3⟩
  have H3 := hid (hB.out.below hb3)
  clear hb3
  go_wp2_with fail
  refine (check_any g T p (ownH x) 30 w3 H3.out.ok (by decide)).mono ?_
  intro e w4 hp4
  obtain ⟨u4, rfl, ho4, hk4⟩ := hp4.form
  have H4 := hid (H3.out.rc ho4 hk4 HN.out.1 HN.out.2.2.1 (by have := HN.out; omega))
  clear hp4 ho4 hk4
  go_wp2_with fail
  refine (once_any g mh T _ hosts w4 H4.out.ok H4.out.hosts HN.out.1 HL.out.1).mono ?_
  rintro e w5 ⟨⟨u5, rfl⟩, ho5, hs5, hk5⟩
  rw [chk_hd, HX.out] at hs5
  have H5 := hid (show SiteB w w5 g mh w.heap.size b T (x :: hosts) _ (.slice none 0 0) (site0 x) from ⟨ho5, hs5, H4.out.box.kept hk5 (fun k hk e => by
    have h1 := Fb.ge H4.out.box hk
    have h2 := HN.out
    omega), H4.out.out.kept hk5 (by have h2 := HN.out; omega), H4.out.kept.trans hk5 (fun k h _ => h)⟩)
  clear ho5 hs5 hk5
  go_wp2_with fail
  refine (expect_any g T _ [123] w5 H5.out.ok).mono ?_
  intro e w6 hp6
  obtain ⟨u6, rfl, ho6, hk6⟩ := hp6.form
  have H6 := hid (H5.out.rc ho6 hk6 HN.out.1 HN.out.2.2.1 (by have := HN.out; omega))
  clear hp6 ho6 hk6
  have hm6 : b < w6.heap.size := H6.out.box.row.lt
  have hhd : Hid (expM [123] (onceM hosts (chk (ownH x) 30 p)) = headM hosts p) := by rw [← HX.out]; exact rfl
  rw [hhd.out] at H6
  have hJ : Hid (RuleJ w (w6.alloc (.map #[] 0)) g mh w.heap.size b w6.heap.size T (x :: hosts) R (meas (headM hosts p)) (site0 x) (headM hosts p) [] (.slice none 0 0)) := by
    refine ⟨H6.out.below (below_alloc _ _), seen_new w6, In.nil _ _, Nat.le_refl _, HRR.out, ?_, ?_⟩
    · have := hsz_fol (s := site0 x) (s' := site0 x) (fol_head hosts p) rfl
      have h2 := HL.out
      have h3 : hsz (site0 x) p = p.ws.length := by unfold hsz site0; simp
      omega
    · have h1 := (fol_head hosts p).len
      have h2 := HL.out
      have h3 : meas (headM hosts p) ≤ (headM hosts p).ws.length + 1 := by unfold meas; split <;> omega
      simp only [List.length_nil]
      omega
  obtain ⟨m, hm⟩ : ∃ m, w6.heap.size = m := ⟨_, rfl⟩
  rw [hm] at hJ hm6
  clear hhd HRR
  have HM := hid hm6
  have HMM := hid hm
  go_wp2_with fail
  clear hm hm6
  go_loopg [] (meas (headM hosts p)) (fun k wr => ∃ s' p' L' hv', RuleJ w wr g mh w.heap.size b m T (x :: hosts) R k s' p' L' hv')
  case atStart => exact ⟨_, _, _, _, hJ.out⟩
  case round =>
    clear hJ H6 HMM
    obtain ⟨s1, p1, L1, hv1, hJ⟩ := hrel
    have HJ := hid hJ
    have h4 := hJ.base.ok.word
    have cf := faultless_any g T p1 wr hJ.base.ok
    obtain ⟨y, hy⟩ : ∃ y, hdW p1 = y := ⟨_, rfl⟩
    rw [hy] at h4
    have HY := hid hy
    by_cases hgo : ruleGo p1 = true
    · have hgo2 := hgo
      unfold ruleGo at hgo2
      rw [hy, Bool.and_eq_true, bne_iff_ne] at hgo2
      have hy1 : (y == ([125] : List UInt8)) = false := by simpa using hgo2.2
      rw [hgo2.1] at cf
      have CF := hid cf
      obtain ⟨k', hk'⟩ : ∃ k', gk = k' + 1 := ⟨gk - 1, by have h1 := hJ.size; have h2 := meas_pos (beq_iff_eq.1 hgo2.1); omega⟩
      have CR := hid (rule_any g b m T p1 hv1 s1 L1 wr hJ.base.ok hJ.base.box hJ.seen (by have := HN.out; omega) HM.out (fun k hk => (hJ.apart k hk).2) hJ.few (by have := hJ.less; omega))
      have HG := hid hgo
      have HK := hid hk'
      clear hJ cf hy hgo hgo2 hk'
      go_wp2_with (first | (go_at_call 45; refine CF.out.mono ?_; rintro e w2 ⟨rfl, rfl⟩))
      refine CR.out.mono ?_
      rintro e w2 ⟨⟨u2, rfl⟩, hv2, hp2⟩
      have HP2 := hid hp2
      clear hp2 h4
      go_wp2_with fail
      have hJ1 := HJ.out
      rw [HK.out] at hJ1
      have h1 := HK.out
      go_roundg k'
      case measure => omega
      case rel => exact ⟨_, _, _, hv2, hJ1.next HG.out HP2.out HN.out.1 HN.out.2.1 (by have := HN.out; omega) HM.out (Nat.le_refl _)⟩
    · have hi := hJ.is
      rw [ruleF_stop (Bool.eq_false_iff.2 hgo)] at hi
      have HI := hid hi
      have hor : p1.code ≠ 0 ∨ (p1.code = 0 ∧ y = [125]) := by
        by_cases h0 : p1.code = 0
        · refine .inr ⟨h0, ?_⟩
          unfold ruleGo at hgo
          rw [h0, hy] at hgo
          simpa using hgo
        · exact .inl h0
      obtain ⟨hvf, hform⟩ : ∃ f : Option Addr × Nat × Nat, hv1 = .slice f.1 f.2.1 f.2.2 := by
        obtain ⟨ao, c, e⟩ := hJ.base.box.own.reads.form
        exact ⟨(ao, _, c), e⟩
      obtain ⟨ao1, n1, c1⟩ := hvf
      simp only at hform
      have HV := hid hform
      clear hJ hi hgo hy hform
      rcases hor with h0 | ⟨h0, rfl⟩
      focus
        have e0 : (p1.code == 0) = false := by simp [h0]
        rw [e0] at cf
        have CF := hid cf
        clear cf h0 e0
        go_wp2_with (first | (go_at_call 45; refine CF.out.mono ?_; rintro e w2 ⟨rfl, rfl⟩))
      rotate_left
      focus
        have e0 : (p1.code == 0) = true := by simp [h0]
        rw [e0] at cf
        have CF := hid cf
        clear cf h0 e0
        go_wp2_with (first | (go_at_call 45; refine CF.out.mono ?_; rintro e w2 ⟨rfl, rfl⟩))
      all_goals
        clear CF h4
        refine (expect_any g T p1 [125] wr HJ.out.base.ok).mono ?_
        intro e w3 hp3
        obtain ⟨u3, rfl, ho3, hk3⟩ := hp3.form
        have H3 := hid (HJ.out.base.rc ho3 hk3 HN.out.1 HN.out.2.2.1 (by have := HN.out; omega))
        have hrb := H3.out.box.row
        rw [HV.out] at hrb
        have hra := H3.out.out
        clear hp3 ho3 hk3
        go_wp2_with (first
          | (refine wpList_load_row rfl 42 _ rfl b rfl 42 _ (0, 0) _ hrb Tryz.underlying42 rfl infoSite ?_)
          | (refine wpList_store_row rfl 42 _ _ rfl w.heap.size _ rfl rfl 42 _ hra infoSite rfl (oneSite _ _ _ _ _ _ _ _ _) ?_))
        refine bodyPost_ret (results_row Tryz.results63 _ _ w.heap.size _ rfl (hra.setRow _) Tryz.underlying42 rfl infoSite) rfl ?_
        have kA := (Kept.refl (fun k => k = w.heap.size) w3).setRow (g := w.heap.size) (.inl rfl) (siteRow (.slice ao1 n1 c1) s1)
        have hbx := H3.out.box.kept kA (fun k hk e => by have := Fb.ge H3.out.box hk; have := HN.out; omega)
        refine ⟨.slice ao1 n1 c1, ?_, ?_⟩
        · rw [HS.out, ← HI.out]
        · rw [HV.out] at hbx
          have hap := HJ.out.apart
          rw [HV.out] at hap
          refine ⟨?_, ?_, ?_, fun k hk => ?_, ?_⟩
          · rw [HS.out, ← HI.out]
            exact H3.out.ok.kept kA (fun k hk => by rw [hk]; exact HN.out.2.2.1)
          · rw [HX.out]
            exact H3.out.hosts.kept kA (by have := HN.out; omega)
          · rw [HS.out, ← HI.out]
            exact hbx.own
          · have := (hap k hk).1
            have := HN.out
            omega
          · exact H3.out.kept.trans kA (fun k h hk => by omega)
end Go.Proofs.YtffenndchmcncaaGreatDoor
