/-
  The document's reader: site.
-/
import Derived.Test.YtenijpcjemdhfaaGreatDoorP10dRef9U
import Derived.Test.YtenijpcjemdhfaaGreatDoorP10d06
import Derived.Deep.CutRange
namespace Go.Pantry
open Go.RowKit
theorem ruleE_sim {s s' : SiteM} {q q' : Ps} {seen seen' : List (List UInt8)} (h : Sim (s, q) (s', q')) (hs : q.code = 0 → seen = seen') : Sim (ruleE s seen q) (ruleE s' seen' q') := by
  by_cases h0 : q.code = 0
  · have := h.ok h0
    cases this
    rw [hs h0]
    exact Sim.refl _
  · have e1 : ruleGo q = false := by unfold ruleGo; rw [beq_eq_false_iff_ne.2 h0]; rfl
    have h0' : q'.code ≠ 0 := by have := h.code; simp only at this; rw [← this]; exact h0
    have e2 : ruleGo q' = false := by unfold ruleGo; rw [beq_eq_false_iff_ne.2 h0']; rfl
    rw [ruleE_stop e1, ruleE_stop e2]; exact h
/-- heads stand there only if a key was seen -/
theorem rule_heads {s : SiteM} {seen : List (List UInt8)} {p : Ps} (hk : seen.contains wKey = false → s.heads = []) (h0 : (ruleM s seen p).2.2.code = 0) : (ruleM s seen p).2.1 = hdW p :: seen ∧ ((hdW p :: seen).contains wKey = false → (ruleM s seen p).1.heads = []) := by
  unfold ruleM at h0 ⊢
  split
  · refine ⟨rfl, fun h => ?_⟩
    simp only [List.contains_cons, Bool.or_eq_false_iff] at h
    have hne : (hdW p == wKey) = false := by rw [BEq.comm]; exact h.1
    show (kindM (hdW p) s (onceM seen p)).1.heads = []
    unfold kindM
    rw [hne]
    split
    · exact hk h.2
    · split
      · exact hk h.2
      · exact hk h.2
  · rename_i hr
    rw [if_neg hr] at h0
    exfalso
    have h0' : (chk false 30 p).code = 0 := h0
    have := (chk_ok (by decide) h0').2.1
    cases this
end Go.Pantry
namespace Go.Proofs.YtenijpcjemdhfaaGreatDoor
open Go.RowKit Go.Pantry

theorem infoRefSite' : (Tryz.prog.info? 70).map (·.size) = some 7 := by kernel_rfl
/-- how far the rules are -/
structure RulesD (w0 w : World) (g D b : Nat) (T : List UInt8) (R : SiteM × Ps) (N k : Nat) (s : SiteM) (q : Ps) (hv vs : Value) (L seen : List (List UInt8)) : Prop where
  dc : Dc w g D T q
  ds : Ds w b hv s
  own : w.ownsRow 0 9 1 vs L.length (L.map strV)
  apart : ∀ k, vs.ownBlock = some k → b < k ∧ ¬ hv.ownBlock = some k
  left : k = meas q
  few : L.length + meas q ≤ N
  see : q.code = 0 → (∀ x, L.contains x = seen.contains x) ∧ (seen.contains wKey = false → s.heads = [])
  sim : Sim (ruleE s seen q) R
  kept : Kept (fun k => k = g ∨ b ≤ k) w0 w
/-- the sites so far: a row of the reader's own, with heads of its own -/
structure Cz (w : World) (D : Nat) (cv : Value) (Lz : List (SiteZ × Value)) : Prop where
  own : w.ownsRow 0 70 7 cv Lz.length (rowsZ Lz)
  heads : ∀ x ∈ Lz, w.ownsRow 0 9 1 x.2 x.1.heads.length (x.1.heads.map strV)
  inn : In (fun k => D ≤ k) cv
  inh : ∀ x ∈ Lz, In (fun k => D ≤ k) x.2
theorem Cz.kept {X : Nat → Prop} {w w' : World} {D : Nat} {cv : Value} {Lz : List (SiteZ × Value)} (h : Cz w D cv Lz) (hk : Kept X w w') (hx : ∀ k, D ≤ k → k < w.heap.size → ¬ X k) : Cz w' D cv Lz :=
  ⟨ownsRow_kept h.own hk (fun k e => hx k (h.inn k e) (h.own.lt k e).2), fun x hm => ownsRow_kept (h.heads x hm) hk (fun k e => hx k (h.inh x hm k e) ((h.heads x hm).lt k e).2), h.inn, h.inh⟩
theorem Cz.reads {w : World} {D : Nat} {cv : Value} {Lz : List (SiteZ × Value)} (h : Cz w D cv Lz) : ReadsP w cv Lz := readsP_own h.own (fun x hx => (h.heads x hx).reads)
/-- what site leaves: its reader, and a site of its own -/
def SitePostD (w : World) (g D : Nat) (T : List UInt8) (r : SiteM × Ps) (e : Ending) (w' : World) : Prop :=
  ∃ hv s', e = .returned (.agg (siteRow hv s')) ∧ Dc w' g D T r.2 ∧ w'.ownsRow 0 9 1 hv s'.heads.length (s'.heads.map strV) ∧ (∀ k, hv.ownBlock = some k → w.heap.size ≤ k) ∧ (r.2.code = 0 → s' = r.1) ∧ Kept (fun k => k = g) w w'
set_option maxRecDepth 8000 in
set_option maxHeartbeats 8000000 in
theorem docSite_any (g D : Nat) (T : List UInt8) (p : Ps) (cv : Value) (Lz : List (SiteZ × Value)) (hosts : List (List UInt8)) (w : World) (h : Dc w g D T p) (hDw : D ≤ w.heap.size) (h0 : p.code = 0) (hp : p.ws.length ≤ 4096)
    (hr : Cz w D cv Lz) (h8 : Lz.length ≤ 8) (hho : ∀ x, (Lz.any fun z => z.1.host == x) = hosts.contains x) :
    Calls Tryz.prog 41 #[.pointer (some ⟨g, 0, none⟩), .agg #[cv]] w (SitePostD w g D T (siteM hosts (atSite Lz.length p))) := by
  obtain ⟨ac, cc, ec, -⟩ := hr.reads.form
  obtain ⟨n, hn⟩ : ∃ n, Lz.length = n := ⟨_, rfl⟩
  rw [hn] at ec h8 ⊢
  subst ec
  have hgw : g < w.heap.size := Nat.lt_of_lt_of_le h.lt hDw
  obtain ⟨W, hW⟩ : ∃ W, (w.alloc (.cells #[.slice ac n cc] 33)).alloc (.cells zeroSite 70) = W := ⟨_, rfl⟩
  have hbW : Below w.heap.size w W := by rw [← hW]; exact chainP (below_alloc _ _) (below_alloc _ _)
  have q1 : rowIs W w.heap.size #[.slice ac n cc] 33 := by rw [← hW]; exact (rowIs_new _ _ _).below (below_alloc _ _)
  have q2 : rowIs W (w.heap.size + 1) zeroSite 70 := by rw [← hW]; exact rowIs_new_at _ _ _ _ (by simp)
  have RCx : Hid (∀ W', Kept (fun k => k = g ∨ w.heap.size + 2 ≤ k) W W' → rowIs W' w.heap.size #[.slice ac n cc] 33) := fun W' h => q1.kept h (by omega)
  have RSx : Hid (∀ W', Kept (fun k => k = g ∨ w.heap.size + 2 ≤ k) W W' → rowIs W' (w.heap.size + 1) zeroSite 70) := fun W' h => q2.kept h (by omega)
  have hsz : W.heap.size = w.heap.size + 2 := by rw [← hW]; simp
  have HD := hid (h.below hbW)
  have HC := hid h0
  have HG := hid (And.intro hgw (And.intro hDw (And.intro hsz hbW)))
  have HR := hid (And.intro (hr.kept (Kept.of_below (X := fun _ => False) hbW) (fun _ _ _ h => h)) (And.intro h8 (And.intro hho hn)))
  have HP := hid hp
  have HDG := hid (show g < D from h.lt)
  have yc : W.cell? ⟨w.heap.size, 0, none⟩ = some (.slice ac n cc) := q1.cell 0
  clear h hDw h0 hr h8 hho hn hgw hbW q1 q2 hsz hp
  go_enter Tryz.func41, Tryz.ntmps41
  go_upto_region 1 with fail
  try rw [hW]
  clear hW
  go_cut [17] from 9 to 16 (fun u W' => u = .bool (hdW p == wSite && n == 8) ∧ Below W.heap.size W W')
  case first =>
    go_wp2_with fail
    refine (docWord_any g D T p W HD.out).mono ?_
    rintro e w1 ⟨⟨y, rfl, hy, -⟩, hb1⟩
    have HY := hid (hy HC.out)
    have HB1 := hid hb1
    have yc1 : w1.cell? ⟨w.heap.size, 0, none⟩ = some (.slice ac n cc) := kept yc hb1
    clear hy hb1 yc
    by_cases hy : y = wSite
    · subst hy
      have zo : (wSite == [115, 105, 116, 101]) = true := rfl
      by_cases hn8 : n = 8
      · have zn : ((n : Int) == 8) = true := by simp; omega
        have znn : (n == 8) = true := by simpa using hn8
        have HE := hid (show (hdW p == wSite && n == 8) = true by rw [← HY.out, znn]; rfl)
        clear hn8
        go_wp2_with fail
        go_meet
        case rel => exact ⟨by rw [HE.out], HB1.out⟩
      · have zn : ((n : Int) == 8) = false := by simp; omega
        have znn : (n == 8) = false := by simpa using hn8
        have HE := hid (show (hdW p == wSite && n == 8) = false by rw [← HY.out, znn]; rfl)
        clear hn8
        go_wp2_with fail
        go_meet
        case rel => exact ⟨by rw [HE.out], HB1.out⟩
    · have zo : (y == [115, 105, 116, 101]) = false := by have hh : ¬ y = [115, 105, 116, 101] := hy; simpa using hh
      have HE := hid (show (hdW p == wSite && n == 8) = false by rw [← HY.out, show (y == wSite) = false from zo]; rfl)
      clear hy
      go_wp2_with fail
      go_meet
      case rel => exact ⟨by rw [HE.out], HB1.out⟩
  case rest =>
  rename World => w1
  obtain ⟨rfl, hb1⟩ := hcut
  obtain ⟨t17, ht17⟩ : ∃ t, (hdW p == wSite && n == 8) = t := ⟨_, rfl⟩
  have HT17 := hid ht17
  have HB1 := hid hb1
  rw [ht17]
  clear ht17 hb1 yc
  go_upto_if 17 with fail
  go_cut [] from 9 to 19 (fun W' => Dc W' g D T (if t17 then chk false 32 p else p) ∧ Kept (fun k => k = g) W W')
  case first =>
    cases t17
    · go_wp2_with fail
      go_meet
      case rel => exact ⟨HD.out.below HB1.out, Kept.of_below HB1.out⟩
    · go_wp2_with fail
      refine (docFail_any g D 32 T p w1 (HD.out.below HB1.out) (by decide)).mono ?_
      rintro e w2 ⟨⟨u, rfl⟩, hd2, hk2⟩
      have H2 := hid (And.intro hd2 hk2)
      clear hd2 hk2
      go_wp2_with fail
      go_meet
      case rel => exact ⟨H2.out.1, (Kept.of_below (X := fun k => k = g) HB1.out).trans H2.out.2 (fun k h _ => h)⟩
  case rest =>
  rename World => w2
  obtain ⟨hd2, hk2⟩ := hcut
  rw [← HT17.out] at hd2
  have H2 := hid (And.intro hd2 hk2)
  have hmust : expM wSite (if hdW p == wSite && n == 8 then chk false 32 p else p) = atSite n p := by
    unfold atSite
    by_cases hy : hdW p = wSite
    · rw [hy, show (wSite == wSite) = true from rfl, chk_true]
      by_cases hn8 : n = 8
      · rw [hn8]
        show expM wSite (chk false 32 p) = stp (chk false 32 p)
        unfold expM
        rw [chk_off (show (chk false 32 p).code ≠ 0 by rw [chk_no HC.out]; exact (by decide : (32 : Nat) ≠ 0))]
      · have : (n == 8) = false := by simpa using hn8
        rw [this, Bool.and_false]
        show expM wSite p = _
        unfold expM
        rw [hy, show (wSite == wSite) = true from rfl, chk_true, decide_eq_true (show n < 8 by have := HR.out.2.1; omega), chk_true]
    · have hyb : (hdW p == wSite) = false := by simpa using hy
      rw [hyb, Bool.false_and]
      show expM wSite p = _
      unfold expM
      rw [hyb, chk_off (show (chk false 30 p).code ≠ 0 by rw [chk_no HC.out]; exact (by decide : (30 : Nat) ≠ 0))]
  have HMU := hid hmust
  clear hd2 hk2 hmust
  go_wp2_with fail
  refine (docMust_any g D T wSite _ w2 H2.out.1).mono ?_
  rw [HMU.out]
  obtain ⟨p1, hp1⟩ : ∃ q, atSite n p = q := ⟨_, rfl⟩
  have HP1 := hid (And.intro hp1 (show p1.ws.length ≤ 4096 by rw [← hp1]; exact Nat.le_trans (fol_at n p).len HP.out))
  rw [hp1]
  clear hp1 HMU
  rintro e w3 ⟨⟨u3, rfl⟩, hd3, hk3⟩
  have H3 := hid (And.intro hd3 (H2.out.2.trans hk3 (fun k h _ => h)))
  clear hd3 hk3
  go_wp2_with fail
  refine (docWord_any g D T p1 w3 H3.out.1).mono ?_
  rintro e w4 ⟨⟨x, rfl, hx, hxl⟩, hb4⟩
  obtain ⟨b, hb⟩ : ∃ b, w4.heap.size = b := ⟨_, rfl⟩
  obtain ⟨W5, hW5⟩ : ∃ W, w4.alloc (.cells (siteRow (.slice none 0 0) (site0 x)) 70) = W := ⟨_, rfl⟩
  have hb5 : Below w4.heap.size w4 W5 := by rw [← hW5]; exact below_alloc _ _
  have hkW4 : Kept (fun k => k = g) W w4 := H3.out.2.trans (Kept.of_below (X := fun k => k = g) hb4) (fun k h _ => h)
  have hbge : w.heap.size + 2 ≤ b := by have := hkW4.size; have := HG.out.2.2.1; omega
  have s5 : Ds W5 b (.slice none 0 0) (site0 x) := ⟨by rw [← hW5, ← hb]; exact rowIs_new _ _ _, World.ownsRow_nil _ _ _ _, In.nil _ _⟩
  have H5 := hid (And.intro ((H3.out.1.below hb4).below hb5) (And.intro s5 (hkW4.trans (Kept.of_below (X := fun k => k = g) hb5) (fun k h _ => h))))
  have HX := hid (And.intro hx hxl)
  have HB := hid hbge
  have HW5 := hid (And.intro hW5 hb)
  clear hx hxl hb4 hb5 hkW4 hbge s5 hW5 hb
  go_upto_region 5 with fail
  try change Code.wp _ _ _ _ (w4.alloc (.cells (siteRow (.slice none 0 0) (site0 x)) 70))
  rw [HW5.out.1, HW5.out.2]
  have ch : W5.cell? ⟨b, 0, none⟩ = some (strV x) := H5.out.2.1.row.cell 0
  have rh := refHost_any ⟨x.toArray⟩ W5 (by rw [szL]; have := HX.out.2; omega)
  rw [dtL] at rh
  have RH := hid rh
  clear rh
  go_wp2_with fail
  refine RH.out.mono ?_
  rintro e w6 ⟨rfl, hb6⟩
  have H6 := hid (And.intro (H5.out.1.below hb6) (And.intro (H5.out.2.1.below hb6) (H5.out.2.2.trans (Kept.of_below (X := fun k => k = g) hb6) (fun k h _ => h))))
  clear hb6 ch RH
  obtain ⟨c1, hc1⟩ : ∃ c, p1.code = c := ⟨_, rfl⟩
  have HC1 := hid hc1
  obtain ⟨oh, hoh⟩ : ∃ o, hostL x = o := ⟨_, rfl⟩
  rw [hoh]
  have HOH := hid hoh
  clear hc1 hoh
  go_upto_region 6 with fail
  have c3 : w6.cell? ⟨g, 3, none⟩ = some (.int .i64 (c1 : Int)) := by have := H6.out.1.code; rw [HC1.out] at this; exact this
  have ch : w6.cell? ⟨b, 0, none⟩ = some (strV x) := H6.out.2.1.row.cell 0
  go_cut [45] from 31 to 44 (fun u W' => u = .bool (c1 == 0 && !(ownH x)) ∧ W' = w6)
  case first =>
    by_cases h0 : c1 = 0
    rotate_left
    · have z1 : ((c1 : Int) == 0) = false := by simp; omega
      have HE := hid (show (c1 == 0 && !(ownH x)) = false by rw [beq_eq_false_iff_ne.2 h0]; rfl)
      clear h0
      go_wp2_with fail
      go_meet
      case rel => exact ⟨by rw [HE.out], rfl⟩
    subst h0
    cases oh with
    | none =>
      have HE := hid (show ((0 : Nat) == 0 && !(ownH x)) = true by unfold ownH; rw [HOH.out]; rfl)
      go_wp2_with fail
      go_meet
      case rel => exact ⟨by rw [HE.out], rfl⟩
    | some hh =>
      by_cases hx : hh = x
      · have z2 : (hh == x) = true := by simpa using hx
        have z3 : (hh != x) = false := by simpa using hx
        have HE := hid (show ((0 : Nat) == 0 && !(ownH x)) = false by unfold ownH; rw [HOH.out, hx]; simp)
        clear hx
        go_wp2_with fail
        go_meet
        case rel => exact ⟨by rw [HE.out], rfl⟩
      · have z2 : (hh == x) = false := by simpa using hx
        have z3 : (hh != x) = true := by simpa using hx
        have HE := hid (show ((0 : Nat) == 0 && !(ownH x)) = true by
          unfold ownH; rw [HOH.out]
          have : (some hh == some x) = false := by simpa using hx
          rw [this]; rfl)
        clear hx
        go_wp2_with fail
        go_meet
        case rel => exact ⟨by rw [HE.out], rfl⟩
  case rest =>
  obtain ⟨rfl, hw6⟩ := hcut
  have hw6' := hw6.symm
  subst hw6'
  clear hw6
  obtain ⟨t45, ht45⟩ : ∃ t, (c1 == 0 && !(ownH x)) = t := ⟨_, rfl⟩
  have HT45 := hid ht45
  rw [ht45]
  clear ht45 c3 ch
  go_upto_if 45 with fail
  go_cut [] from 31 to 47 (fun W' => Dc W' g D T (chk (ownH (hdW p1)) 30 p1) ∧ Kept (fun k => k = g) w6 W')
  case first =>
    cases t45
    · have HE := hid (show chk (ownH (hdW p1)) 30 p1 = p1 by
        by_cases h0 : p1.code = 0
        · have h1 := HT45.out
          rw [← HC1.out, h0] at h1
          have : ownH x = true := by simpa using h1
          rw [← HX.out.1 h0, this, chk_true]
        · rw [chk_off h0])
      go_wp2_with fail
      go_meet
      case rel => exact ⟨by rw [HE.out]; exact H6.out.1, Kept.refl _ _⟩
    · have h1 := HT45.out
      rw [Bool.and_eq_true, beq_iff_eq] at h1
      have h0 : p1.code = 0 := HC1.out.trans h1.1
      have hw : ownH x = false := by simpa using h1.2
      have HE := hid (show chk (ownH (hdW p1)) 30 p1 = chk false 30 p1 by rw [← HX.out.1 h0, hw])
      clear h1 h0 hw
      go_wp2_with fail
      refine (docFail_any g D 30 T p1 w6 H6.out.1 (by decide)).mono ?_
      rintro e w7 ⟨⟨u7, rfl⟩, hd7, hk7⟩
      have H7 := hid (And.intro hd7 hk7)
      clear hd7 hk7
      go_wp2_with fail
      go_meet
      case rel => exact ⟨by rw [HE.out]; exact H7.out.1, H7.out.2⟩
  case rest =>
  rename World => w7
  obtain ⟨hd7, hk7⟩ := hcut
  obtain ⟨p2, hp2⟩ : ∃ q, chk (ownH (hdW p1)) 30 p1 = q := ⟨_, rfl⟩
  rw [hp2] at hd7
  have HP2 := hid hp2
  have hs7 := H6.out.2.1.other hk7 (by have := HB.out; have := HG.out.1; omega)
  have H7 := hid (And.intro hd7 (And.intro hs7 (H6.out.2.2.trans hk7 (fun k h _ => h))))
  obtain ⟨c2, hc2⟩ : ∃ c, p2.code = c := ⟨_, rfl⟩
  have HC2 := hid hc2
  have HX2 := hid (show c2 = 0 → x = hdW p2 from fun e => by
    have e1 : p2.code = 0 := hc2.trans e
    rw [← hp2] at e1
    rw [← hp2, chk_hd]
    exact HX.out.1 ((chk_ok (by decide) e1).1))
  clear hd7 hk7 hp2 hs7 hc2
  go_upto_region 8 with fail
  have c3 : w7.cell? ⟨g, 3, none⟩ = some (.int .i64 (c2 : Int)) := by have := H7.out.1.code; rw [HC2.out] at this; exact this
  have ch : w7.cell? ⟨b, 0, none⟩ = some (strV x) := H7.out.2.1.row.cell 0
  have yc : w7.cell? ⟨w.heap.size, 0, none⟩ = some (.slice ac n cc) := (RCx.out w7 (H7.out.2.2.mono (fun k h _ => .inl h))).cell 0
  have hr7 : ReadsP w7 (.slice ac n cc) Lz := (HR.out.1.kept H7.out.2.2 (fun k hk _ e => by have := HDG.out; omega)).reads
  have CFN := hid (refFindC_any (.slice ac n cc) Lz x w7 hr7 (by have h1 := HR.out.2.2.2; have h2 := HR.out.2.1; omega))
  clear hr7
  go_cut [59] from 48 to 58 (fun u W' => u = .bool (c2 == 0 && hosts.contains x) ∧ Below w7.heap.size w7 W')
  case first =>
    by_cases h0 : c2 = 0
    rotate_left
    · have z1 : ((c2 : Int) == 0) = false := by simp; omega
      have HE := hid (show (c2 == 0 && hosts.contains x) = false by rw [beq_eq_false_iff_ne.2 h0]; rfl)
      clear h0
      go_wp2_with fail
      go_meet
      case rel => exact ⟨by rw [HE.out], Below.refl _ _⟩
    subst h0
    go_wp2_with fail
    refine CFN.out.mono ?_
    rintro e w8 ⟨hq8, hb8⟩
    have HB8 := hid hb8
    clear hb8
    rcases hq8 with ⟨k, z, rfl, -, hfd⟩ | ⟨rfl, hfd⟩
    · have HE := hid (show ((0 : Nat) == 0 && hosts.contains x) = true by
        rw [← HR.out.2.2.1]
        show (Lz.any fun z => z.1.host == x) = true
        rw [List.any_eq_true]
        exact ⟨z, List.mem_of_find?_eq_some hfd, by have h := List.find?_some hfd; exact h⟩)
      have hk0 : (0 : Int) ≤ (k : Int) := by omega
      have dk : decide ((0 : Int) ≤ (k : Int)) = true := decide_eq_true hk0
      clear hfd
      go_wp2_with fail
      go_meet
      case rel => exact ⟨by rw [HE.out], HB8.out⟩
    · have HE := hid (show ((0 : Nat) == 0 && hosts.contains x) = false by
        rw [← HR.out.2.2.1]
        show (Lz.any fun z => z.1.host == x) = false
        rw [List.any_eq_false]
        exact fun z hz => List.find?_eq_none.1 hfd z hz)
      clear hfd
      go_wp2_with fail
      go_meet
      case rel => exact ⟨by rw [HE.out], HB8.out⟩
  case rest =>
  rename World => w8
  obtain ⟨rfl, hb8⟩ := hcut
  obtain ⟨t59, ht59⟩ : ∃ t, (c2 == 0 && hosts.contains x) = t := ⟨_, rfl⟩
  have HT59 := hid ht59
  rw [ht59]
  have HB8 := hid hb8
  clear ht59 hb8 c3 ch yc CFN
  go_upto_if 59 with fail
  go_cut [] from 48 to 61 (fun W' => Dc W' g D T (chk (!(hosts.contains (hdW p2))) 31 p2) ∧ Kept (fun k => k = g) w7 W')
  case first =>
    cases t59
    · have HE := hid (show chk (!(hosts.contains (hdW p2))) 31 p2 = p2 by
        by_cases h0 : p2.code = 0
        · have h1 := HT59.out
          have h2 : c2 = 0 := HC2.out.symm.trans h0
          rw [h2] at h1
          have : hosts.contains x = false := by simpa using h1
          rw [← HX2.out h2, this]; exact chk_true _ _
        · rw [chk_off h0])
      go_wp2_with fail
      go_meet
      case rel => exact ⟨by rw [HE.out]; exact H7.out.1.below HB8.out, Kept.of_below HB8.out⟩
    · have h1 := HT59.out
      rw [Bool.and_eq_true, beq_iff_eq] at h1
      have HE := hid (show chk (!(hosts.contains (hdW p2))) 31 p2 = chk false 31 p2 by rw [← HX2.out h1.1, h1.2]; rfl)
      clear h1
      go_wp2_with fail
      refine (docFail_any g D 31 T p2 w8 (H7.out.1.below HB8.out) (by decide)).mono ?_
      rintro e w9 ⟨⟨u9, rfl⟩, hd9, hk9⟩
      have H9 := hid (And.intro hd9 ((Kept.of_below (X := fun k => k = g) HB8.out).trans hk9 (fun k h _ => h)))
      clear hd9 hk9
      go_wp2_with fail
      go_meet
      case rel => exact ⟨by rw [HE.out]; exact H9.out.1, H9.out.2⟩
  case rest =>
  rename World => w9
  obtain ⟨hd9, hk9⟩ := hcut
  have HD9 := hid hd9
  have HK9 := hid (H7.out.2.2.trans hk9 (fun k h _ => h))
  have HS9 := hid (H7.out.2.1.other hk9 (by have := HB.out; have := HG.out.1; omega))
  clear hd9 hk9
  go_wp2_with fail
  refine (docStep_any g D T _ w9 HD9.out).mono ?_
  rintro e w10 ⟨⟨u10, rfl⟩, hd10, hk10⟩
  have H10 := hid (And.intro hd10 hk10)
  clear hd10 hk10
  go_wp2_with fail
  refine (docMust_any g D T [123] _ w10 H10.out.1).mono ?_
  have hhead : expM [123] (stp (chk (!(hosts.contains (hdW p2))) 31 p2)) = headM hosts p1 := by
    unfold headM onceM
    rw [HP2.out]
  rw [hhead]
  rintro e w11 ⟨⟨u11, rfl⟩, hd11, hk11⟩
  have hkall := (HK9.out.trans H10.out.2 (fun k h _ => h)).trans hk11 (fun k h _ => h)
  have hs11 := (HS9.out.other H10.out.2 (by have := HB.out; have := HG.out.1; omega)).other hk11 (by have := HB.out; have := HG.out.1; omega)
  have hlen11 : (headM hosts p1).ws.length ≤ 4096 := Nat.le_trans (fol_head hosts p1).len HP1.out.2
  have J : Hid (RulesD W w11 g D b T (ruleE (site0 x) [] (headM hosts p1)) 4098 (meas (headM hosts p1)) (site0 x) (headM hosts p1) (.slice none 0 0) (.slice none 0 0) [] []) :=
    ⟨hd11, hs11, World.ownsRow_nil _ _ _ _, (fun k hk => by cases hk), rfl, (by show 0 + meas _ ≤ 4098; unfold meas; split <;> omega), fun _ => ⟨fun _ => rfl, fun _ => rfl⟩, Sim.refl _, hkall.mono (fun k h _ => .inl h)⟩
  clear hhead hd11 hk11 hkall hs11 hlen11
  go_wp2_with fail
  -- the end
  have HSIM0 := hid (show Sim (ruleE (site0 x) [] (headM hosts p1)) (ruleE (site0 (hdW p1)) [] (headM hosts p1)) from
    ruleE_sim ⟨rfl, fun _ => rfl, fun e => by
      have e1 : p1.code = 0 := (fol_head hosts p1).ok e
      show (site0 x, _) = (site0 (hdW p1), _)
      rw [HX.out.1 e1]⟩ (fun _ => rfl))
  have ENDL : Hid (∀ (q : Ps) (s1 : SiteM) (hv1 : Value) (seen : List (List UInt8)) (w20 : World), ruleGo q = false → Sim (ruleE s1 seen q) (ruleE (site0 x) [] (headM hosts p1)) → Dc w20 g D T (expM [125] q) → Ds w20 b hv1 s1 → Kept (fun k => k = g ∨ b ≤ k) W w20 → SitePostD w g D T (siteM hosts p1) (.returned (.agg (siteRow hv1 s1))) (w20.setRow (w.heap.size + 1) (siteRow hv1 s1))) := by
    intro q s1 hv1 seen w20 hgo hsim hd hs hk
    rw [ruleE_stop hgo] at hsim
    have hs2 := hsim.trans HSIM0.out
    have kk := (Kept.refl (fun k => k = w.heap.size + 1) w20).setRow (g := w.heap.size + 1) (.inl rfl) (siteRow hv1 s1)
    have hbig : w.heap.size + 2 ≤ b := HB.out
    have hD1 : D ≤ w.heap.size := HG.out.2.1
    refine ⟨hv1, s1, rfl, ?_, ?_, ?_, ?_, ?_⟩
    · have : Dc w20 g D T (expM [125] (ruleE (site0 (hdW p1)) [] (headM hosts p1)).2) := by
        by_cases h0 : q.code = 0
        · have := hs2.ok h0
          rw [← this]; exact hd
        · have h1 : (ruleE (site0 (hdW p1)) [] (headM hosts p1)).2.code ≠ 0 := by rw [← hs2.code]; exact h0
          have e1 : expM [125] q = stp q := by unfold expM; rw [chk_off h0]
          have e2 : expM [125] (ruleE (site0 (hdW p1)) [] (headM hosts p1)).2 = stp (ruleE (site0 (hdW p1)) [] (headM hosts p1)).2 := by unfold expM; rw [chk_off h1]
          rw [e1] at hd
          rw [e2]
          exact hd.off h0 hs2.code.symm (hs2.pos h0).symm
      exact this.kept kk (fun k hk e => by omega)
    · exact ownsRow_kept hs.own kk (fun k hk e => by have := hs.apart k hk; omega)
    · intro k e
      have := hs.apart k e
      omega
    · intro e
      have e0 : (expM [125] (ruleE (site0 (hdW p1)) [] (headM hosts p1)).2).code = 0 := e
      have e1 := (fol_exp [125] _).ok e0
      have e2 : q.code = 0 := hs2.code.trans e1
      have := hs2.ok e2
      show s1 = (ruleE (site0 (hdW p1)) [] (headM hosts p1)).1
      rw [← this]
    · have k1 : Kept (fun k => k = g ∨ w.heap.size ≤ k) w W := Kept.of_below HG.out.2.2.2
      have k2 := (k1.trans hk (fun k h _ => h.imp id (fun h => by omega))).trans kk (fun k h _ => .inr (by omega))
      exact (Kept.refl (fun k => k = g) w).trans k2 (fun k h hlt => h.elim id (fun h => by omega))
  go_loopg [8] (meas (headM hosts p1)) (fun k vs wr => ∃ s' q hv' L seen, RulesD W wr g D b T (ruleE (site0 x) [] (headM hosts p1)) 4098 k s' q hv' vs L seen)
  case atStart => exact ⟨_, _, _, _, _, J.out⟩
  case round =>
    clear J
    obtain ⟨s1, q, hv1, L, seen, hJ⟩ := hrel
    have HJ := hid hJ
    obtain ⟨c, hc⟩ : ∃ c, q.code = c := ⟨_, rfl⟩
    have c3 : wr.cell? ⟨g, 3, none⟩ = some (.int .i64 (c : Int)) := by rw [← hc]; exact hJ.dc.code
    have HC0 := hid hc
    clear hJ hc
    by_cases h0 : c = 0
    rotate_left
    · have z1 : ((c : Int) == 0) = false := by simp; omega
      have HGO := hid (show ruleGo q = false by unfold ruleGo; rw [beq_eq_false_iff_ne.2 (show q.code ≠ 0 by rw [HC0.out]; exact h0)]; rfl)
      clear h0
      go_wp2_with fail
      refine (docMust_any g D T [125] q wr HJ.out.dc).mono ?_
      rintro e w20 ⟨⟨u20, rfl⟩, hd20, hk20⟩
      have hs20 := HJ.out.ds.other hk20 (by have := HB.out; have := HG.out.1; omega)
      have hkk := HJ.out.kept.trans hk20 (fun k h _ => .inl h)
      have r5 := hs20.row
      have r4 := RSx.out w20 (hkk.mono (fun k h _ => h.imp id (fun h => by have := HB.out; omega)))
      obtain ⟨ah, ch, eh⟩ := hs20.own.reads.form
      have HF := hid (ENDL.out q s1 hv1 seen w20 HGO.out HJ.out.sim hd20 hs20 hkk)
      rw [List.length_map] at eh
      obtain ⟨nh, hnh⟩ : ∃ n, s1.heads.length = n := ⟨_, rfl⟩
      rw [hnh] at eh
      subst eh
      clear hd20 hk20 hs20 hkk c3 hnh
      go_wp2_with (first
        | (refine wpList_load_row rfl 70 _ rfl b rfl 70 _ (0, 0) _ r5 Tryz.underlying70 rfl infoRefSite' ?_)
        | (refine wpList_store_row rfl 70 _ _ rfl (w.heap.size + 1) _ rfl rfl 70 _ r4 infoRefSite' rfl (oneSite _ _ _ _ _ _ _ _ _) ?_))
      exact bodyPost_ret (results_row Tryz.results41 _ _ (w.heap.size + 1) _ rfl (r4.setRow _) Tryz.underlying70 rfl infoRefSite') rfl (by rw [HP1.out.1]; exact HF.out)
    subst h0
    go_wp2_with fail
    refine (docWord_any g D T q wr HJ.out.dc).mono ?_
    rintro e w19 ⟨⟨y, rfl, hy, -⟩, hb19⟩
    have HY := hid (hy HC0.out)
    have HB19 := hid hb19
    clear hy hb19 c3
    by_cases hbr : y = [125]
    · subst hbr
      have zo : (([125] : List UInt8) == [125]) = true := rfl
      have zn : (([125] : List UInt8) != [125]) = false := rfl
      have HGO := hid (show ruleGo q = false by unfold ruleGo; rw [← HY.out]; simp)
      go_wp2_with fail
      refine (docMust_any g D T [125] q w19 (HJ.out.dc.below HB19.out)).mono ?_
      rintro e w20 ⟨⟨u20, rfl⟩, hd20, hk20⟩
      have hs20 := (HJ.out.ds.below HB19.out).other hk20 (by have := HB.out; have := HG.out.1; omega)
      have hkk := (HJ.out.kept.trans (Kept.of_below (X := fun _ => False) HB19.out) (fun k h _ => h.elim)).trans hk20 (fun k h _ => .inl h)
      have r5 := hs20.row
      have r4 := RSx.out w20 (hkk.mono (fun k h _ => h.imp id (fun h => by have := HB.out; omega)))
      obtain ⟨ah, ch, eh⟩ := hs20.own.reads.form
      have HF := hid (ENDL.out q s1 hv1 seen w20 HGO.out HJ.out.sim hd20 hs20 hkk)
      rw [List.length_map] at eh
      obtain ⟨nh, hnh⟩ : ∃ n, s1.heads.length = n := ⟨_, rfl⟩
      rw [hnh] at eh
      subst eh
      clear hd20 hk20 hs20 hkk hnh zo zn
      go_wp2_with (first
        | (refine wpList_load_row rfl 70 _ rfl b rfl 70 _ (0, 0) _ r5 Tryz.underlying70 rfl infoRefSite' ?_)
        | (refine wpList_store_row rfl 70 _ _ rfl (w.heap.size + 1) _ rfl rfl 70 _ r4 infoRefSite' rfl (oneSite _ _ _ _ _ _ _ _ _) ?_))
      exact bodyPost_ret (results_row Tryz.results41 _ _ (w.heap.size + 1) _ rfl (r4.setRow _) Tryz.underlying70 rfl infoRefSite') rfl (by rw [HP1.out.1]; exact HF.out)
    have zo : (y == [125]) = false := by simpa using hbr
    have zn : (y != [125]) = true := by simpa using hbr
    have HGO := hid (show ruleGo q = true by unfold ruleGo; rw [← HY.out, HC0.out, zn]; rfl)
    clear hbr
    go_wp2_with fail
    have hfew := HJ.out.few
    have hsee := HJ.out.see HC0.out
    refine (docRule_any g D b T q hv1 _ s1 L seen w19 (HJ.out.dc.below HB19.out) (HJ.out.ds.below HB19.out) (by have := HB.out; have := HG.out.2.1; omega) HC0.out (ownsRow_kept HJ.out.own (Kept.of_below (X := fun _ => False) HB19.out) (fun _ _ h => h)) HJ.out.apart (by omega) hsee.1 hsee.2).mono ?_
    rintro e w21 ⟨v', rfl, hown, hd, hv', s', hs', hs0, hm, hk, hnew, hap⟩
    have hless := rule_less (s := s1) (seen := seen) HGO.out
    have J2 : Hid (RulesD W w21 g D b T (ruleE (site0 x) [] (headM hosts p1)) 4098 (meas (ruleM s1 seen q).2.2) s' (ruleM s1 seen q).2.2 hv' v' (L ++ [hdW q]) (hdW q :: seen)) := by
      have s19 := (HJ.out.ds.below HB19.out)
      refine ⟨hd, hs', by rw [List.length_append]; exact hown, fun k e => ?_, rfl, by rw [List.length_append]; simp only [List.length_singleton]; omega, fun e => ?_, ?_, ?_⟩
      · refine ⟨?_, hap k e⟩
        rcases hnew k e with e1 | e1
        · exact (HJ.out.apart k e1).1
        · have := s19.row.lt; omega
      · obtain ⟨h1, h2⟩ := rule_heads hsee.2 e
        refine ⟨fun z => ?_, fun h => by rw [hs0 e]; exact h2 h⟩
        rw [contains_snoc, List.contains_cons, hsee.1, Bool.or_comm, BEq.comm]
      · refine Sim.trans ?_ HJ.out.sim
        rw [ruleE_go HGO.out]
        exact ruleE_sim ⟨rfl, fun _ => rfl, fun e => by
          show (s', _) = ((ruleM s1 seen q).1, _)
          rw [hs0 e]⟩ (fun e => (rule_heads hsee.2 e).1.symm)
      · refine (HJ.out.kept.trans (Kept.of_below (X := fun _ => False) HB19.out) (fun k h _ => h.elim)).trans hk (fun k h _ => ?_)
        rcases h with e | e | e
        · exact .inl e
        · exact .inr (s19.ge e)
        · exact .inr (Nat.le_of_lt (HJ.out.apart k e).1)
    have HLE := hid (show meas (ruleM s1 seen q).2.2 < meas q from hless)
    clear hown hd hs' hs0 hm hk hnew hap hless hfew hsee zo zn
    go_wp2_with fail
    go_roundg (meas (ruleM s1 seen q).2.2)
    case measure => have h1 := HJ.out.left; have h2 := HLE.out; omega
    case rel => exact ⟨_, _, _, _, _, J2.out⟩
end Go.Proofs.YtenijpcjemdhfaaGreatDoor
