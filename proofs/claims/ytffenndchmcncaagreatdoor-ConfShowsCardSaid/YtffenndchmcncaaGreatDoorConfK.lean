/-
  Contracts of package conf: the reader's config.
-/
import Derived.Test.YtffenndchmcncaaGreatDoorConfJ
namespace Go.Pantry
open Go.RowKit
theorem cfgF_stop {k : Nat} {c : List SiteM} {hosts : List (List UInt8)} {p : Ps} (h : cfgGo p = false) : cfgF k c hosts p = (c, p) := by
  cases k with
  | zero => rfl
  | succ k => rw [cfgF, h]; rfl
theorem cfgF_go {k : Nat} {c : List SiteM} {hosts : List (List UInt8)} {p : Ps} (h : cfgGo p = true) :
    cfgF (k + 1) c hosts p = cfgF k (c ++ [(siteM hosts (atSite c.length p)).1]) (hdW (atSite c.length p) :: hosts) (siteM hosts (atSite c.length p)).2 := by
  rw [cfgF, if_pos h]
end Go.Pantry
namespace Go.Proofs.YtffenndchmcncaaGreatDoor
open Go.RowKit Go.Pantry

theorem infoSiteA : (Tryz.prog.info? 42).map (fun i => (i.zero, i.size, i.bytes)) = some (some (.agg zeroSite), 7, 72) := by kernel_rfl
/-- the cells of sites, each with its heads' slice -/
def siteCells (L : List (SiteM × Value)) : List Value := L.flatMap fun x => (siteRow x.2 x.1).toList
/-- sites that the call has made: their row, their heads, all of them above block B -/
structure SitesAt (w : World) (B : Nat) (sv : Value) (L : List (SiteM × Value)) : Prop where
  own : w.ownsRow 0 42 7 sv L.length (siteCells L)
  heads : ∀ x ∈ L, w.ownsRow 0 9 1 x.2 x.1.heads.length (x.1.heads.map strV)
  apart : ∀ x ∈ L, In (fun k => B < k ∧ sv.ownBlock ≠ some k) x.2
  inn : In (fun k => B < k) sv
theorem SitesAt.kept {X : Nat → Prop} {w w' : World} {B : Nat} {sv : Value} {L : List (SiteM × Value)} (h : SitesAt w B sv L) (hk : Kept X w w') (hx : ∀ k, B < k → k < w.heap.size → ¬ X k) : SitesAt w' B sv L :=
  ⟨ownsRow_kept h.own hk (fun k hk => hx k (h.inn k hk) (h.own.lt k hk).2), fun x hm => ownsRow_kept (h.heads x hm) hk (fun k hk => hx k (h.apart x hm k hk).1 ((h.heads x hm).lt k hk).2), h.apart, h.inn⟩
theorem sites_nil (w : World) (B : Nat) : SitesAt w B (.slice none 0 0) [] :=
  ⟨World.ownsRow_nil _ _ _ _, (fun _ h => absurd h (List.not_mem_nil)), (fun _ h => absurd h (List.not_mem_nil)), In.nil _ _⟩
theorem ownsRow_formN {w : World} {B : Nat} {e : TypeId} {size : Nat} {v : Value} {n : Nat} {xs : List Value} (h : w.ownsRow B e size v n xs) : ∃ ao c, v = .slice ao n c := by
  rcases h.2 with ⟨rfl, hn⟩ | ⟨g, cap, cur, rfl, _⟩
  · exact ⟨none, 0, by rw [hn]⟩
  · exact ⟨_, _, rfl⟩
theorem siteRow_one {ao : Option Addr} {n c : Nat} {s : SiteM} : ∀ u ∈ (siteRow (.slice ao n c) s).toList, u.oneCell' = true := by
  intro u hu
  have := oneSite s.host s.origin s.min s.max s.query s.keep ao n c
  rw [Array.all_eq_true'] at this
  exact this u (by simpa using hu)
/-- a reader's config as it grows: its boxes, and its sites -/
structure CfgB (w : World) (A C B : Nat) (sv : Value) (L : List (SiteM × Value)) : Prop where
  out : rowIs w A #[.slice none 0 0] 25
  box : rowIs w C #[sv] 25
  sites : SitesAt w B sv L
theorem CfgB.two {w w' : World} {g mh A C : Nat} {sv : Value} {L : List (SiteM × Value)} (h : CfgB w A C mh sv L) (hk : Kept (fun k => k = g ∨ k = mh) w w') (hgA : g < A) (hm : A < C ∧ C < mh) : CfgB w' A C mh sv L :=
  ⟨h.out.kept hk (by omega), h.box.kept hk (by omega), h.sites.kept hk (fun k hB _ e => by omega)⟩
theorem CfgB.below {w w' : World} {mh A C : Nat} {sv : Value} {L : List (SiteM × Value)} (h : CfgB w A C mh sv L) (hb : Below w.heap.size w w') : CfgB w' A C mh sv L :=
  ⟨h.out.below hb, h.box.below hb, h.sites.kept (Kept.of_below (X := fun _ => False) hb) (fun _ _ _ h => h)⟩
theorem CfgB.more {w0 w w' : World} {mh A C : Nat} {hosts : List (List UInt8)} {q : Ps} {ao : Option Addr} {n c : Nat} {sv v' hv : Value} {L : List (SiteM × Value)} (h : CfgB w A C mh sv L) (hv' : hv = .slice ao n c)
    (ho : w.ownsRow 0 9 1 hv (siteM hosts q).1.heads.length ((siteM hosts q).1.heads.map strV)) (hf : In (fun k => w0.heap.size ≤ k) hv) (hmh : mh < w0.heap.size) (hs0 : ∀ k, sv.ownBlock = some k → k < w0.heap.size)
    (ho6 : w'.ownsRow 0 42 7 v' (L.length + 1) (siteCells L ++ (siteRow hv (siteM hosts q).1).toList)) (hg6 : w.grownBy w' sv.ownBlock) (hi6 : In (fun k => sv.ownBlock = some k ∨ w.heap.size ≤ k) v') (hC : A < C ∧ C < mh) (hmw : mh < w.heap.size) :
    SitesAt w' mh v' (L ++ [((siteM hosts q).1, hv)]) ∧ rowIs w' A #[.slice none 0 0] 25 ∧ rowIs w' C #[sv] 25 := by
  have kk : Kept (fun k => sv.ownBlock = some k) w w' := (Kept.refl (fun k => sv.ownBlock = some k) w).grown hg6 (fun k hk _ => hk)
  have hnb : ∀ k, k < mh → ¬ sv.ownBlock = some k := fun k hk e => by have := h.sites.inn k e; omega
  have hall : ∀ x ∈ L ++ [((siteM hosts q).1, hv)], w.ownsRow 0 9 1 x.2 x.1.heads.length (x.1.heads.map strV) ∧ In (fun k => mh < k ∧ sv.ownBlock ≠ some k) x.2 := by
    intro x hx
    rcases List.mem_append.1 hx with e | e
    · exact ⟨h.sites.heads x e, h.sites.apart x e⟩
    · rw [List.mem_singleton] at e
      subst e
      refine ⟨ho, fun k hk => ⟨by have := hf k hk; omega, fun e => ?_⟩⟩
      have h1 := hf k hk
      have h2 := hs0 k e
      omega
  refine ⟨⟨?_, fun x hx => ownsRow_kept (hall x hx).1 kk (fun k hk => ((hall x hx).2 k hk).2), fun x hx k hk => ⟨((hall x hx).2 k hk).1, fun e => ?_⟩, fun k hk => ?_⟩, h.out.kept kk (hnb A (by omega)), h.box.kept kk (hnb C hC.2)⟩
  · have e : siteCells (L ++ [((siteM hosts q).1, hv)]) = siteCells L ++ (siteRow hv (siteM hosts q).1).toList := by
      unfold siteCells; rw [List.flatMap_append]; simp
    rw [e, List.length_append]
    exact ho6
  · rcases hi6 k e with e1 | e1
    · exact ((hall x hx).2 k hk).2 e1
    · have := ((hall x hx).1.lt k hk).2; omega
  · rcases hi6 k hk with e1 | e1
    · exact h.sites.inn k e1
    · omega
theorem CfgB.rc {w w' : World} {g mh A C : Nat} {sv : Value} {L : List (SiteM × Value)} (h : CfgB w A C mh sv L) (hk : Kept (fun k => k = g) w w') (hgA : g < A) (hm : A < C ∧ C < mh) : CfgB w' A C mh sv L :=
  h.two (hk.mono (fun k h _ => .inl h)) hgA hm
/-- at the head of the loop over sites -/
structure CfgJ (w0 wr : World) (g mh A C : Nat) (T : List UInt8) (R : List SiteM × Ps) (k : Nat) (L : List (SiteM × Value)) (sv : Value) (hosts : List (List UInt8)) (p : Ps) : Prop where
  base : CfgB wr A C mh sv L
  ok : RcOk wr g T p
  seen : Seen wr mh hosts
  kept : Kept (fun k => k = g) w0 wr
  size : meas p ≤ k
  is : cfgF k (L.map (·.1)) hosts p = R
  few : L.length + meas p ≤ 100000
  less : hosts.length + meas p ≤ 100000
  words : p.ws.length ≤ 50000
theorem infoCfg : (Tryz.prog.info? 25).map (·.size) = some 1 := by kernel_rfl
/-- what config leaves -/
def CfgPost (w : World) (g : Nat) (T : List UInt8) (R : List SiteM × Ps) (e : Ending) (w' : World) : Prop :=
  ∃ sv L, e = .returned (.agg #[sv]) ∧ L.map (·.1) = R.1 ∧ SitesAt w' w.heap.size sv L ∧ RcOk w' g T R.2 ∧ Kept (fun k => k = g) w w'
set_option maxRecDepth 8000 in
theorem config_any (g : Nat) (T : List UInt8) (p : Ps) (w : World) (h : RcOk w g T p) (hws : p.ws.length ≤ 50000) :
    Calls Tryz.prog 44 #[.pointer (some ⟨g, 0, none⟩)] w (CfgPost w g T (cfgF (meas p) [] [] p)) := by
  have hmm := @run_makeMap Tryz.prog
  have hglt := h.lt
  obtain ⟨R, hR⟩ : ∃ R, cfgF (meas p) [] [] p = R := ⟨_, rfl⟩
  rw [hR]
  have hm1 : meas p ≤ p.ws.length + 1 := by unfold meas; split <;> omega
  have hB1 : Below w.heap.size w (w.alloc (.cells #[.slice none 0 0] 25)) := below_alloc _ _
  have hB2 : Below (w.alloc (.cells #[.slice none 0 0] 25)).heap.size (w.alloc (.cells #[.slice none 0 0] 25)) ((w.alloc (.cells #[.slice none 0 0] 25)).alloc (.cells #[.slice none 0 0] 25)) := below_alloc _ _
  have hB3 : Below ((w.alloc (.cells #[.slice none 0 0] 25)).alloc (.cells #[.slice none 0 0] 25)).heap.size ((w.alloc (.cells #[.slice none 0 0] 25)).alloc (.cells #[.slice none 0 0] 25)) (((w.alloc (.cells #[.slice none 0 0] 25)).alloc (.cells #[.slice none 0 0] 25)).alloc (.map #[] 0)) := below_alloc _ _
  have hBB := chainP (chainP hB1 hB2) hB3
  have hs1 : (w.alloc (.cells #[.slice none 0 0] 25)).heap.size = w.heap.size + 1 := by simp
  have hs2 : ((w.alloc (.cells #[.slice none 0 0] 25)).alloc (.cells #[.slice none 0 0] 25)).heap.size = w.heap.size + 2 := by simp
  have hJ : CfgJ w (((w.alloc (.cells #[.slice none 0 0] 25)).alloc (.cells #[.slice none 0 0] 25)).alloc (.map #[] 0)) g (w.heap.size + 2) w.heap.size (w.heap.size + 1) T R (meas p) [] (.slice none 0 0) [] p := by
    refine ⟨⟨((rowIs_new _ _ _).below hB2).below hB3, (rowIs_new_at _ _ _ _ hs1.symm).below hB3, sites_nil _ _⟩, h.below hBB, ?_, Kept.of_below hBB, Nat.le_refl _, hR, by simp; omega, by simp; omega, hws⟩
    rw [← hs2]; exact seen_new _
  obtain ⟨A, hA⟩ : ∃ A, w.heap.size = A := ⟨_, rfl⟩
  obtain ⟨C, hC⟩ : ∃ C, A + 1 = C := ⟨_, rfl⟩
  obtain ⟨mh, hmh⟩ : ∃ mh, C + 1 = mh := ⟨_, rfl⟩
  rw [hA, show A + 2 = mh by omega, hC] at hJ
  have HN := hid (show g < A ∧ (A < C ∧ C < mh) ∧ g < mh ∧ w.heap.size = A from ⟨by omega, by omega, by omega, hA⟩)
  have HJ0 := hid hJ
  clear h hws hglt hR hm1 hB1 hB2 hB3 hBB hs1 hs2 hJ
  go_enter Tryz.func44, Tryz.ntmps44
  go_wp2_with fail
  go_loopg [] (meas p) (fun k wr => ∃ L' sv' hosts' p', CfgJ w wr g mh A C T R k L' sv' hosts' p')
  case atStart => exact ⟨_, _, _, _, HJ0.out⟩
  case round =>
    clear HJ0 hA hC hmh
    obtain ⟨L1, sv, hosts1, p1, hJ⟩ := hrel
    have HJ := hid hJ
    have h4 := hJ.ok.word
    have cf := faultless_any g T p1 wr hJ.ok
    obtain ⟨y, hy⟩ : ∃ y, hdW p1 = y := ⟨_, rfl⟩
    rw [hy] at h4
    have HY := hid hy
    obtain ⟨aos, cs, hsv⟩ := ownsRow_formN hJ.base.sites.own
    obtain ⟨ns, hns⟩ : ∃ ns, L1.length = ns := ⟨_, rfl⟩
    rw [hns] at hsv
    subst hsv
    by_cases hgo : cfgGo p1 = true
    · have hgo2 := hgo
      unfold cfgGo at hgo2
      rw [hy, Bool.and_eq_true, bne_iff_ne] at hgo2
      have hy1 : (y == ([] : List UInt8)) = false := by simpa using hgo2.2
      rw [hgo2.1] at cf
      have CF := hid cf
      obtain ⟨k', hk'⟩ : ∃ k', gk = k' + 1 := ⟨gk - 1, by have h1 := hJ.size; have h2 := meas_pos (beq_iff_eq.1 hgo2.1); omega⟩
      have hi := hJ.is
      rw [hk', cfgF_go hgo] at hi
      have hlt := cfg_less (n := ns) (hosts := hosts1) hgo
      have hmap : (L1.map (·.1)).length = ns := by rw [List.length_map, hns]
      rw [hmap] at hi
      obtain ⟨q3, hq3⟩ : ∃ q, atSite ns p1 = q := ⟨_, rfl⟩
      rw [hq3] at hi hlt
      have hq4 : stp (chk (decide ((ns : Int) < 8)) 32 (chk (y == ([115, 105, 116, 101] : List UInt8)) 30 p1)) = q3 := by
        rw [← hq3, show decide ((ns : Int) < 8) = decide (ns < 8) from decide_eq_decide.2 (by omega), ← hy]; rfl
      have HI := hid (And.intro hi (And.intro hk' (And.intro hlt hq4)))
      have HQ := hid (show hosts1.length ≤ 100000 ∧ q3.ws.length ≤ 50000 ∧ L1.length ≤ 100000 from ⟨by have := hJ.less; omega, by have h1 := (fol_at ns p1).len; rw [hq3] at h1; have := hJ.words; omega, by have := hJ.few; omega⟩)
      clear cf hgo hgo2 hk' hi hlt hmap hq3 hq4 hns hy
      have CK := hid (check_any g T p1 (y == ([115, 105, 116, 101] : List UInt8)) 30 wr hJ.ok (by decide))
      clear hJ
      go_wp2_with (first | (go_at_call 45; refine CF.out.mono ?_; rintro e w2 ⟨rfl, rfl⟩))
      refine CK.out.mono ?_
      intro e w1 hp1
      obtain ⟨u1, rfl, ho1, hk1⟩ := hp1.form
      have H1 := hid (And.intro ho1 (And.intro (HJ.out.seen.kept hk1 (by have := HN.out; omega)) (And.intro (HJ.out.base.rc hk1 HN.out.1 HN.out.2.1) (HJ.out.kept.trans hk1 (fun k h _ => h)))))
      have c0 := H1.out.2.2.1.box.cell 0
      clear hp1 ho1 hk1 h4
      go_wp2_with fail
      refine (check_any g T _ (decide ((ns : Int) < 8)) 32 w1 H1.out.1 (by decide)).mono ?_
      intro e w2 hp2
      obtain ⟨u2, rfl, ho2, hk2⟩ := hp2.form
      have H2 := hid (And.intro ho2 (And.intro (H1.out.2.1.kept hk2 (by have := HN.out; omega)) (And.intro (H1.out.2.2.1.rc hk2 HN.out.1 HN.out.2.1) (H1.out.2.2.2.trans hk2 (fun k h _ => h)))))
      clear hp2 ho2 hk2 c0
      go_wp2_with fail
      refine (step_any g T _ w2 H2.out.1).mono ?_
      intro e w3 hp3
      obtain ⟨u3, rfl, ho3, hk3⟩ := hp3.form
      rw [HI.out.2.2.2] at ho3
      have H3 := hid (And.intro ho3 (And.intro (H2.out.2.1.kept hk3 (by have := HN.out; omega)) (And.intro (H2.out.2.2.1.rc hk3 HN.out.1 HN.out.2.1) (H2.out.2.2.2.trans hk3 (fun k h _ => h)))))
      have c0 := H3.out.2.2.1.box.cell 0
      clear hp3 ho3 hk3
      go_wp2_with fail
      refine wp_region_K 8 (by kernel_rfl) (fun w' => w'.cell? ⟨C, 0, none⟩ = some (.slice aos ns cs)) (by exact c0) (fun hH => ?_)
      refine wpAnyK_take (i := 0) (v := ?_) rfl (by kernel_rfl) (by kernel_rfl) (by kernel_rfl) (by decide) (by kernel_rfl) (fun _ _ _ h => h) (Or.inl ⟨by kernel_rfl, ?_⟩) hH ?_
      rotate_left
      · intro W hS
        go_simp
        first | done | with_reducible rfl
      simp only [Act.put, List.getElem_toArray, List.getElem_cons_succ, List.getElem_cons_zero, List.setIfInBounds_toArray, List.set_cons_zero, List.set_cons_succ]
      refine wpAnyK_take (i := 1) (v := ?_) rfl (by kernel_rfl) (by kernel_rfl) (by kernel_rfl) (by decide) (by kernel_rfl) (fun _ _ _ h => h) (Or.inl ⟨by kernel_rfl, ?_⟩) hH ?_
      rotate_left
      · intro W hS
        go_simp
        first | done | with_reducible rfl
      simp only [Act.put, List.getElem_toArray, List.getElem_cons_succ, List.getElem_cons_zero, List.setIfInBounds_toArray, List.set_cons_zero, List.set_cons_succ]
      refine wpAnyK_take (i := 2) (v := ?_) rfl (by kernel_rfl) (by kernel_rfl) (by kernel_rfl) (by decide) (by kernel_rfl) (fun _ _ _ h => h) (Or.inl ⟨by kernel_rfl, ?_⟩) hH ?_
      rotate_left
      · intro W hS
        go_simp
        first | done | with_reducible rfl
      simp only [Act.put, List.getElem_toArray, List.getElem_cons_succ, List.getElem_cons_zero, List.setIfInBounds_toArray, List.set_cons_zero, List.set_cons_succ]
      refine wpAnyK_take (i := 3) (v := ?_) rfl (by kernel_rfl) (by kernel_rfl) (by kernel_rfl) (by decide) (by kernel_rfl) (fun _ _ _ h => h) (Or.inl ⟨by kernel_rfl, ?_⟩) hH ?_
      rotate_left
      · intro W hS
        go_simp
        first | done | with_reducible rfl
      simp only [Act.put, List.getElem_toArray, List.getElem_cons_succ, List.getElem_cons_zero, List.setIfInBounds_toArray, List.set_cons_zero, List.set_cons_succ]
      refine wpAnyK_next (i := 4) (by kernel_rfl) rfl (by decide) (fun K hK => ?_)
      go_simp
      refine (site_any g mh T q3 hosts1 w3.drew (H3.out.1.below ((Below.refl _ _).drew)) (H3.out.2.1.kept (Kept.of_below (X := fun _ => False) ((Below.refl _ _).drew)) (fun h => h)) HN.out.2.2.1 HQ.out.1 HQ.out.2.1).mono ?_
      rintro e w4 ⟨hv4, rfl, hp4⟩
      have HP4 := hid hp4
      have hkb4 : Kept (fun k => k = g ∨ k = mh) w3 w4 := ((Kept.refl (fun k => k = g ∨ k = mh) w3).drew).trans hp4.kept (fun k h _ => h)
      have hB4 := hid (H3.out.2.2.1.two hkb4 HN.out.1 HN.out.2.1)
      have HK4 := hid hkb4
      have cc4 := hB4.out.box.cell 0
      obtain ⟨ao4, n4, k4, hf4⟩ : ∃ ao n c, hv4 = .slice ao n c := by obtain ⟨ao, c, e⟩ := hp4.own.reads.form; exact ⟨ao, _, c, e⟩
      subst hf4
      clear hp4 hkb4
      refine hK.out _ _ cc4 (fun hH => ?_)
      clear hK K
      try simp only [Act.put, List.getElem_toArray, List.getElem_cons_succ, List.getElem_cons_zero, List.setIfInBounds_toArray, List.set_cons_zero, List.set_cons_succ]
      refine wpAnyK_next (i := 5) (by kernel_rfl) rfl (by decide) (fun K hK => ?_)
      obtain ⟨w5, hW5⟩ : ∃ W, W = w4.alloc (.cells (siteRow (.slice ao4 n4 k4) (siteM hosts1 q3).1) 42) := ⟨_, rfl⟩
      have hb5 : Below w4.heap.size w4 w5 := by rw [hW5]; exact below_alloc _ _
      have hB5 := hid (hB4.out.below hb5)
      have HO5 := hid (HP4.out.own.below hb5)
      have HR5 := hid (HP4.out.ok.below hb5)
      have HS5 := hid (HP4.out.seen.kept (Kept.of_below (X := fun _ => False) hb5) (fun h => h))
      have HK5 := hid (HK4.out.then hb5)
      have HC5 : Hid (rowIs w5 w4.heap.size (siteRow (.slice ao4 n4 k4) (siteM hosts1 q3).1) 42) := by rw [hW5]; exact rowIs_new _ _ _
      have cc5 := hB5.out.box.cell 0
      go_simp
      rw [← hW5]
      clear hW5 hb5
      refine hK.out _ _ cc5 (fun hH => ?_)
      clear hK K
      try simp only [Act.put, List.getElem_toArray, List.getElem_cons_succ, List.getElem_cons_zero, List.setIfInBounds_toArray, List.set_cons_zero, List.set_cons_succ]
      refine wpAnyK_next (i := 6) (by kernel_rfl) rfl (by decide) (fun K hK => ?_)
      rw [if_pos (by kernel_rfl)]
      refine wp_append_gen w5 (.tmp 31) (.tmp 35) 23 rfl 0 42 Tryz.underlying23 infoSiteA rfl (by decide) (by decide) (v := .slice aos ns cs) rfl hB5.out.sites.own ⟨w4.heap.size, 0, none⟩ 1 1 (siteRow (.slice ao4 n4 k4) (siteM hosts1 q3).1).toList rfl (fun j u hj => ?_) siteRow_one rfl (by have := HQ.out.2.2; omega) (Nat.zero_le _) (fun v6 w6 ho6 hg6 hi6 => ?_)
      · rw [addAt2, Nat.zero_add, HC5.out.cell j]; simpa using hj
      have hsv : ∀ k, (Value.slice aos ns cs).ownBlock = some k → k < w3.drew.heap.size := fun k hk => (H3.out.2.2.1.sites.own.lt k hk).2
      have kk6 : Kept (fun k => (Value.slice aos ns cs).ownBlock = some k) w5 w6 := (Kept.refl (fun k => (Value.slice aos ns cs).ownBlock = some k) w5).grown hg6 (fun k hk _ => hk)
      obtain ⟨S6, O6, C6⟩ := hB5.out.more rfl HO5.out HP4.out.fresh (by exact H3.out.2.1.lt) hsv ho6 hg6 hi6 HN.out.2.1 HS5.out.lt
      have R6 := HR5.out.kept kk6 (fun k hk => by have := hB5.out.sites.inn k hk; have := HN.out; omega)
      have N6 := HS5.out.kept kk6 (fun e => by have := hB5.out.sites.inn _ e; omega)
      have K6 : Kept (fun k => k = g) w w6 := (H3.out.2.2.2.trans HK5.out (fun k h hk => by have := HN.out; omega)).trans kk6 (fun k h hk => by have := hB5.out.sites.inn _ h; have := HN.out; omega)
      obtain ⟨ao6, n6, c6, rfl⟩ : ∃ ao n c, v6 = .slice ao n c := by obtain ⟨ao, c, e⟩ := ownsRow_formN ho6; exact ⟨ao, _, c, e⟩
      have kC := (Kept.refl (fun k => k = C) w6).setCell (i := 0) (.inl rfl) (.slice ao6 n6 c6)
      have H6 : Hid (CfgB (w6.setCell ⟨C, 0, none⟩ (.slice ao6 n6 c6)) A C mh (.slice ao6 n6 c6) (L1 ++ [((siteM hosts1 q3).1, .slice ao4 n4 k4)]) ∧ RcOk (w6.setCell ⟨C, 0, none⟩ (.slice ao6 n6 c6)) g T (siteM hosts1 q3).2 ∧ Seen (w6.setCell ⟨C, 0, none⟩ (.slice ao6 n6 c6)) mh (hdW q3 :: hosts1) ∧ Kept (fun k => k = g) w (w6.setCell ⟨C, 0, none⟩ (.slice ao6 n6 c6))) := ⟨⟨O6.kept kC (by have := HN.out; omega), C6.setCell 0 _, S6.kept kC (fun k hB _ e => by have := HN.out; omega)⟩, R6.kept kC (fun k hk => by have := HN.out; omega), N6.kept kC (by have := HN.out; omega), K6.trans kC (fun k h hk => by have := HN.out; omega)⟩
      have cc6 := C6.cell 0
      have ff6 := C6.free 0
      clear hsv kk6 S6 O6 C6 R6 N6 K6 kC ho6 hg6 hi6
      refine hK.out _ _ cc6 (fun hH => ?_)
      clear hK K
      try simp only [Act.put, List.getElem_toArray, List.getElem_cons_succ, List.getElem_cons_zero, List.setIfInBounds_toArray, List.set_cons_zero, List.set_cons_succ]
      refine wpAnyK_take (i := 7) (v := ?_) rfl (by kernel_rfl) (by kernel_rfl) (by kernel_rfl) (by decide) (by kernel_rfl) (fun _ _ _ h => h) (Or.inl ⟨by kernel_rfl, ?_⟩) hH ?_
      rotate_left
      · intro W hS
        go_simp
        first | done | with_reducible rfl
      simp only [Act.put, List.getElem_toArray, List.getElem_cons_succ, List.getElem_cons_zero, List.setIfInBounds_toArray, List.set_cons_zero, List.set_cons_succ]
      refine wpAnyK_last (by kernel_rfl) rfl (fun K hK => ?_)
      go_simp
      refine hK.out _ _ ?_
      clear hK K
      try simp only [Act.put, List.getElem_toArray, List.getElem_cons_succ, List.getElem_cons_zero, List.setIfInBounds_toArray, List.set_cons_zero, List.set_cons_succ]
      refine wpAnyK_done (by kernel_rfl) ?_ _
      clear cc4 cc5 cc6 ff6 c0 hH
      go_wp2_with fail
      have hJ1 := HJ.out
      obtain ⟨hi, hk', hlt, hq4⟩ := HI.out
      go_roundg k'
      case measure => omega
      case rel =>
        refine ⟨_, _, _, _, H6.out.1, H6.out.2.1, H6.out.2.2.1, H6.out.2.2.2, by have := hJ1.size; omega, ?_, ?_, ?_, ?_⟩
        · rw [List.map_append]; exact hi
        · rw [List.length_append]
          have := hJ1.few
          simp only [List.length_singleton]; omega
        · have := hJ1.less
          simp only [List.length_cons]; omega
        · have h1 := (fol_site hosts1 q3).len
          have := HQ.out.2.1
          omega
    · have hi := hJ.is
      rw [cfgF_stop (Bool.eq_false_iff.2 hgo)] at hi
      have HI := hid hi
      have hor : p1.code ≠ 0 ∨ (p1.code = 0 ∧ y = []) := by
        by_cases h0 : p1.code = 0
        · refine .inr ⟨h0, ?_⟩
          unfold cfgGo at hgo
          rw [h0, hy] at hgo
          simpa using hgo
        · exact .inl h0
      have hrc := hJ.base.box
      have hra := hJ.base.out
      have hcc := hrc.cell 0
      have hca := hra.cell 0
      have hfa := hra.free 0
      have HRA := hid hra
      clear hJ hi hgo hy hns hra hrc
      rcases hor with h0 | ⟨h0, rfl⟩
      focus
        have e0 : (p1.code == 0) = false := by simp [h0]
        rw [e0] at cf
        have CF := hid cf
        clear cf h0 e0
        go_wp2_with (first
          | (go_at_call 45; refine CF.out.mono ?_; rintro e w2 ⟨rfl, rfl⟩))
      rotate_left
      focus
        have e0 : (p1.code == 0) = true := by simp [h0]
        rw [e0] at cf
        have CF := hid cf
        clear cf h0 e0
        go_wp2_with (first
          | (go_at_call 45; refine CF.out.mono ?_; rintro e w2 ⟨rfl, rfl⟩))
      all_goals
        refine bodyPost_ret (results_row Tryz.results44 _ _ A _ rfl (HRA.out.setCell 0 _) Tryz.underlying25 rfl infoCfg) rfl ?_
        have kA := (Kept.refl (fun k => k = A) wr).setCell (i := 0) (.inl rfl) (.slice aos ns cs)
        have hn := HN.out
        refine ⟨.slice aos ns cs, L1, rfl, by rw [← HI.out], ?_, by rw [← HI.out]; exact HJ.out.ok.kept kA (fun k hk => by rw [hk]; exact hn.1), HJ.out.kept.trans kA (fun k h hk => by omega)⟩
        have hst := HJ.out.base.sites.kept kA (fun k hB _ e => by omega)
        exact ⟨hst.own, hst.heads, fun x hx k hk => ⟨by have := (hst.apart x hx k hk).1; omega, (hst.apart x hx k hk).2⟩, fun k hk => by have := hst.inn k hk; omega⟩
end Go.Proofs.YtffenndchmcncaaGreatDoor
