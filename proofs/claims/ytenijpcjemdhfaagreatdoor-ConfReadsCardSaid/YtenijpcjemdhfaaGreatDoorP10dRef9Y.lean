/-
  The document's Read.
-/
import Derived.Test.YtenijpcjemdhfaaGreatDoorP10dRef9V
import Derived.Test.YtenijpcjemdhfaaGreatDoorPureR
import Derived.Test.YtenijpcjemdhfaaGreatDoorP10d04
namespace Go.Pantry
open Go.RowKit
theorem wordsF_ne : ∀ (n : Nat) (s : List UInt8), Norm s → ∀ x ∈ wordsF n s, x ≠ []
  | 0, s, _ => by intro x hx; rw [wordsF] at hx; exact absurd hx List.not_mem_nil
  | n + 1, s, hs => by
    rw [wordsF]
    split
    · intro x hx; exact absurd hx List.not_mem_nil
    · rename_i he
      intro x hx
      rcases List.mem_cons.1 hx with rfl | hx
      · cases s with
        | nil => exact absurd rfl he
        | cons c r => exact wordL_ne hs
      · exact wordsF_ne n _ (norm_step s) x hx
theorem textW_ne {t x : List UInt8} (h : x ∈ textW t) : x ≠ [] := wordsF_ne _ _ (norm_skip t false) x h
/-- two readings that are the same, but for what a fault leaves -/
structure SimC (r r' : List SiteM × Ps) : Prop where
  code : r.2.code = r'.2.code
  pos : r.2.code ≠ 0 → r.2.pos = r'.2.pos
  ok : r.2.code = 0 → r = r'
theorem SimC.trans {a b c : List SiteM × Ps} (h : SimC a b) (k : SimC b c) : SimC a c :=
  ⟨h.code.trans k.code, fun e => (h.pos e).trans (k.pos (by rw [← h.code]; exact e)), fun e => (h.ok e).trans (k.ok (by rw [← h.code]; exact e))⟩
def cfgE (c : List SiteM) (hosts : List (List UInt8)) (p : Ps) : List SiteM × Ps := cfgF (meas p) c hosts p
theorem cfgE_go {c : List SiteM} {hosts : List (List UInt8)} {p : Ps} (h : cfgGo p = true) : cfgE c hosts p = cfgE (c ++ [(siteM hosts (atSite c.length p)).1]) (hdW (atSite c.length p) :: hosts) (siteM hosts (atSite c.length p)).2 := by
  have hl := cfg_less (n := c.length) (hosts := hosts) h
  unfold cfgE
  obtain ⟨n, hn⟩ : ∃ n, meas p = n + 1 := ⟨meas p - 1, by omega⟩
  rw [hn, cfgF, if_pos h]
  exact cfgF_fuel _ _ _ _ _ (by omega) (Nat.le_refl _)
theorem cfgE_stop {c : List SiteM} {hosts : List (List UInt8)} {p : Ps} (h : cfgGo p = false) : cfgE c hosts p = (c, p) := by
  unfold cfgE
  cases meas p with
  | zero => rfl
  | succ n => rw [cfgF, h]; rfl
theorem at_few {n : Nat} {p : Ps} (h : (atSite n p).code = 0) : n < 8 := by
  have h1 : (chk (decide (n < 8)) 32 (chk (hdW p == wSite) 30 p)).code = 0 := h
  exact of_decide_eq_true (chk_ok (by decide) h1).2.1
end Go.Pantry
namespace Go.Proofs.YtenijpcjemdhfaaGreatDoor
open Go.RowKit Go.Pantry

theorem siteRow_oneD {ao : Option Addr} {n c : Nat} {s : SiteM} : ∀ u ∈ (siteRow (.slice ao n c) s).toList, u.oneCell' = true := by
  intro u hu
  have := oneSite s.host s.origin s.min s.max s.query s.keep ao n c
  rw [Array.all_eq_true'] at this
  exact this u (by simpa using hu)
theorem oneCfgD (ao : Option Addr) (n c : Nat) : (#[.slice ao n c] : Array Value).all (·.oneCell') = true := by simp [Value.oneCell']
/-- how far the document's Read is -/
structure RdJ (w0 w : World) (g D bc : Nat) (T : List UInt8) (k : Nat) (cv : Value) (Lz : List (SiteZ × Value)) (c : List SiteM) (hosts : List (List UInt8)) (q : Ps) : Prop where
  dc : Dc w g D T q
  box : rowIs w bc #[cv] 33
  sites : OwnAt w 70 7 9 bc cv Lz.length (rowsZ Lz) (Lz.map fun x => (x.2, x.1.heads))
  left : k = meas q
  words : q.ws.length ≤ 4096
  is : q.code = 0 → Lz.map (·.1) = c.map SiteM.z ∧ Lz.length ≤ 8 ∧ ∀ x, (Lz.any fun z => z.1.host == x) = hosts.contains x
  sim : SimC (cfgE c hosts q) (cfgM T)
  kept : Kept (fun k => k = g ∨ bc ≤ k) w0 w
theorem RdJ.cz {w0 w : World} {g D bc : Nat} {T : List UInt8} {k : Nat} {cv : Value} {Lz : List (SiteZ × Value)} {c : List SiteM} {hosts : List (List UInt8)} {q : Ps} (h : RdJ w0 w g D bc T k cv Lz c hosts q) (hD : D ≤ bc) : Cz w D cv Lz :=
  ⟨h.sites.own, fun x hx => h.sites.heads _ (List.mem_map.2 ⟨x, hx, rfl⟩), fun k hk => by have := h.sites.inn k hk; omega, fun x hx k hk => by have := (h.sites.apart _ (List.mem_map.2 ⟨x, hx, rfl⟩) k hk).1; omega⟩
theorem RdJ.below {w0 w w' : World} {g D bc : Nat} {T : List UInt8} {k : Nat} {cv : Value} {Lz : List (SiteZ × Value)} {c : List SiteM} {hosts : List (List UInt8)} {q : Ps} (h : RdJ w0 w g D bc T k cv Lz c hosts q) (hb : Below w.heap.size w w') : RdJ w0 w' g D bc T k cv Lz c hosts q :=
  ⟨h.dc.below hb, h.box.below hb, h.sites.below hb, h.left, h.words, h.is, h.sim, h.kept.trans (Kept.of_below (X := fun _ => False) hb) (fun k h _ => h.elim)⟩
/-- what Read leaves -/
def RefReadPost (w : World) (T : List UInt8) (e : Ending) (w' : World) : Prop :=
  ∃ v Lz, e = .returned (.tuple #[.agg #[v], .int .i64 ((readM T).2.1 : Int), .int .i64 ((readM T).2.2 : Int)]) ∧ Lz.map (·.1) = (readM T).1.map SiteM.z ∧ ReadsP w' v Lz ∧ Below w.heap.size w w'
set_option maxRecDepth 8000 in
set_option maxHeartbeats 8000000 in
theorem refRead_any (s : ByteArray) (w : World) (hs : s.size ≤ 100000) :
    Calls Tryz.prog 11 #[.string s] w (RefReadPost w s.data.toList) := by
  obtain ⟨T, hT⟩ : ∃ T, s.data.toList = T := ⟨_, rfl⟩
  have hTl : T.length = s.size := by rw [← hT, size_list]
  rw [hT]
  obtain ⟨W, hW⟩ : ∃ W, w.alloc (.cells #[.slice none 0 0] 33) = W := ⟨_, rfl⟩
  have hbW : Below w.heap.size w W := by rw [← hW]; exact below_alloc _ _
  have r2 : rowIs W w.heap.size #[.slice none 0 0] 33 := by rw [← hW]; exact rowIs_new _ _ _
  have HW := hid (And.intro hbW r2)
  have HSW := hid (show W.heap.size = w.heap.size + 1 by rw [← hW]; simp)
  have CWD := hid (words_any s W hs)
  have HT := hid hT
  clear hbW hT
  go_enter Tryz.func11, Tryz.ntmps11
  go_upto_region 1 with fail
  try rw [hW]
  clear hW
  by_cases hlen : 4096 < s.size
  · have d1 : decide ((4096 : Int) < (s.size : Int)) = true := decide_eq_true (by omega)
    have HRD := hid (readM_long (t := T) (by omega))
    clear hlen hTl
    go_wp2_with (refine wpList_store_row rfl 33 _ _ rfl w.heap.size _ rfl rfl 33 _ r2 infoRefCfg rfl (oneCfgD none 0 0) ?_)
    refine bodyPost_ret (results_row3 Tryz.results11 _ _ w.heap.size _ rfl (r2.setRow #[.slice none 0 0]) Tryz.underlying33 rfl infoRefCfg) rfl ?_
    refine ⟨_, [], by rw [HRD.out]; rfl, by rw [HRD.out]; rfl, ReadsP.nil _ _, below_setRow HW.out.1 (Nat.le_refl _) _⟩
  have d1 : decide ((4096 : Int) < (s.size : Int)) = false := decide_eq_false (by omega)
  have HLN := hid (show T.length ≤ 4096 by omega)
  clear hlen hTl r2
  go_wp2_with fail
  refine CWD.out.mono ?_
  rw [HT.out]
  rintro e w1 ⟨g, wv, lv, rfl, hg, hp, hb1⟩
  obtain ⟨bc, hbc⟩ : ∃ b, w1.heap.size = b := ⟨_, rfl⟩
  obtain ⟨W2, hW2⟩ : ∃ W, w1.alloc (.cells #[.slice none 0 0] 33) = W := ⟨_, rfl⟩
  have hb2 : Below w1.heap.size w1 W2 := by rw [← hW2]; exact below_alloc _ _
  have hgl : g < bc := by rw [← hbc]; exact hp.row.lt
  have J : Hid (RdJ W2 W2 g bc bc T (meas (ps0 T)) (.slice none 0 0) [] [] [] (ps0 T)) := by
    refine ⟨⟨HLN.out, hgl, wv, lv, 0, 0, hp.below hb2, fun k e => by have := (hp.ow.lt k e).2; omega, fun k e => by have := (hp.ol.lt k e).2; omega, Nat.zero_le _, fun _ => rfl, fun e => absurd rfl e⟩, ?_, OwnAt.nil _ _ _ _ _, rfl, Nat.le_trans (textW_len T) HLN.out, fun _ => ⟨rfl, Nat.zero_le _, fun _ => rfl⟩, ⟨rfl, fun _ => rfl, fun _ => rfl⟩, Kept.refl _ _⟩
    rw [← hW2, ← hbc]; exact rowIs_new _ _ _
  have HG := hid (show g < bc ∧ W.heap.size ≤ g from ⟨hgl, hg⟩)
  have HB2 := hid (chainP hb1 hb2)
  have HS2 := hid (show bc < W2.heap.size by rw [← hW2, ← hbc]; simp)
  have HGB := hid (show W.heap.size ≤ g ∧ g < bc from ⟨hg, hgl⟩)
  have HW2 := hid (And.intro hW2 hbc)
  clear hg hp hb1 hb2 hgl hW2 hbc d1 CWD
  go_wp2_with fail
  try change Code.wp _ _ _ _ (w1.alloc (.cells #[.slice none 0 0] 33))
  rw [HW2.out.1, HW2.out.2]
  go_loopg [] (meas (ps0 T)) (fun k wr => ∃ cv Lz c hosts q, RdJ W2 wr g bc bc T k cv Lz c hosts q)
  case atStart => exact ⟨_, _, _, _, _, J.out⟩
  case round =>
    clear J
    obtain ⟨cv, Lz, c, hosts, q, hJ⟩ := hrel
    have HJ0 := hid hJ
    obtain ⟨wv1, lv1, i, a, hp, -, -, hi, hws, ha⟩ := hJ.dc.ex
    obtain ⟨cd, hcd⟩ : ∃ x, q.code = x := ⟨_, rfl⟩
    rw [hcd] at hp
    obtain ⟨aw, cw, ew⟩ := hp.ow.reads.form
    rw [List.length_map, docW_len] at ew
    obtain ⟨n, hn⟩ : ∃ n, (textW T).length + 1 = n := ⟨_, rfl⟩
    rw [hn] at ew
    subst ew
    have c3 : wr.cell? ⟨g, 3, none⟩ = some (.int .i64 (cd : Int)) := hp.row.cell 3
    have c0 : wr.cell? ⟨g, 0, none⟩ = some (.slice aw n cw) := hp.row.cell 0
    have c2 : wr.cell? ⟨g, 2, none⟩ = some (.int .i64 (i : Int)) := hp.row.cell 2
    have hiw : IntKind.i64.wrap ((i : Int) + 1) = (i : Int) + 1 := IntWalk.i64_in _ (by have := textW_len T; have := HLN.out; omega)
    have HA := hid (And.intro hcd (And.intro hi (And.intro hws (And.intro ha hn))))
    have HP0 := hid hp.row
    have C3 := hid c3
    clear hJ hp hi hws ha hcd hn
    by_cases h0 : cd = 0
    rotate_left
    · have z1 : ((cd : Int) == 0) = false := by simp; omega
      have z2 : ((cd : Int) != 0) = true := by simp; omega
      have hgo : cfgGo q = false := by unfold cfgGo; rw [beq_eq_false_iff_ne.2 (show q.code ≠ 0 by rw [HA.out.1]; exact h0)]; rfl
      have hsim := HJ0.out.sim
      rw [cfgE_stop hgo] at hsim
      have hrd : readM T = ([], cd, a) := by
        rw [readM_short HLN.out]
        have e1 : (cfgM T).2.code = cd := by rw [← hsim.code]; exact HA.out.1
        rw [if_neg (by rw [e1]; exact h0), e1, ← hsim.pos (by show q.code ≠ 0; rw [HA.out.1]; exact h0)]
        rw [HA.out.2.2.2.1 (by rw [HA.out.1]; exact h0)]
      have HRD := hid hrd
      have r2 := (HW.out.2.below HB2.out).kept HJ0.out.kept (by have h1 := HG.out; have h2 : W.heap.size = w.heap.size + 1 := HSW.out; omega)
      have HR2 := hid r2
      have HBW0 := hid (show Kept (fun k => (k = g ∨ bc ≤ k) ∨ k = w.heap.size) w wr from ((Kept.of_below (X := fun k => k = g ∨ bc ≤ k) (chainP HW.out.1 HB2.out)).trans HJ0.out.kept (fun k h _ => h)).mono (fun k h _ => .inl h))
      clear hgo hsim hrd h0 r2
      go_wp2_with fail
      go_quiet (fail)
      generalize hW10 : wr.drewN _ = w10
      have hb10 : Below wr.heap.size wr w10 := by rw [← hW10]; exact below_drewN (Below.refl _ _) _
      have c3' := kept C3.out hb10
      have HR10 := hid (HR2.out.below hb10)
      have HB10 := hid (HBW0.out.trans (Kept.of_below (X := fun _ => False) hb10) (fun k h _ => h.elim))
      have HP10 := hid (HP0.out.below hb10)
      clear c3 c0 c2 hiw hW10 hb10
      go_upto_region 8 with fail
      refine wp_region_held_drew (S := fun w' => rowIs w' w.heap.size #[.slice none 0 0] 33 ∧ Kept (fun k => k = w.heap.size) w10 w') (by kernel_rfl) ⟨HR10.out.below (Below.refl _ _).drew, Kept.of_below (Below.refl _ _).drew⟩ (fun hH => ?_)
      generalize w10.drew = w11 at hH ⊢
      refine wpAnyH_take (i := 0) (v := ?_) rfl (by kernel_rfl) (by kernel_rfl) (by kernel_rfl) (fun _ _ _ h => h) (Or.inl ⟨by kernel_rfl, ?_⟩) hH ?_
      rotate_left
      · intro W hS
        have hpp := HP10.out.kept hS.2 (by have h1 := HGB.out; have h2 := HSW.out; omega)
        have e3 := hpp.cell 3
        have e4 := hpp.cell 4
        go_simp
        first | done | with_reducible rfl
      simp only [Act.put, List.getElem_toArray, List.getElem_cons_succ, List.getElem_cons_zero, List.setIfInBounds_toArray, List.set_cons_zero, List.set_cons_succ]
      refine wpAnyH_take (i := 1) (v := ?_) rfl (by kernel_rfl) (by kernel_rfl) (by kernel_rfl) (fun _ _ _ h => h) (Or.inl ⟨by kernel_rfl, ?_⟩) hH ?_
      rotate_left
      · intro W hS
        have hpp := HP10.out.kept hS.2 (by have h1 := HGB.out; have h2 := HSW.out; omega)
        have e3 := hpp.cell 3
        have e4 := hpp.cell 4
        go_simp
        first | done | with_reducible rfl
      simp only [Act.put, List.getElem_toArray, List.getElem_cons_succ, List.getElem_cons_zero, List.setIfInBounds_toArray, List.set_cons_zero, List.set_cons_succ]
      refine wpAnyH_take (i := 2) (v := ?_) rfl (by kernel_rfl) (by kernel_rfl) (by kernel_rfl) (fun _ _ _ h => h) (Or.inl ⟨by kernel_rfl, ?_⟩) hH ?_
      rotate_left
      · intro W hS
        have hpp := HP10.out.kept hS.2 (by have h1 := HGB.out; have h2 := HSW.out; omega)
        have e3 := hpp.cell 3
        have e4 := hpp.cell 4
        go_simp
        first | done | with_reducible rfl
      simp only [Act.put, List.getElem_toArray, List.getElem_cons_succ, List.getElem_cons_zero, List.setIfInBounds_toArray, List.set_cons_zero, List.set_cons_succ]
      refine wpAnyH_take (i := 3) (v := ?_) rfl (by kernel_rfl) (by kernel_rfl) (by kernel_rfl) (fun _ _ _ h => h) (Or.inl ⟨by kernel_rfl, ?_⟩) hH ?_
      rotate_left
      · intro W hS
        have hpp := HP10.out.kept hS.2 (by have h1 := HGB.out; have h2 := HSW.out; omega)
        have e3 := hpp.cell 3
        have e4 := hpp.cell 4
        go_simp
        first | done | with_reducible rfl
      simp only [Act.put, List.getElem_toArray, List.getElem_cons_succ, List.getElem_cons_zero, List.setIfInBounds_toArray, List.set_cons_zero, List.set_cons_succ]
      refine wpAnyH_take (i := 4) (v := ?_) rfl (by kernel_rfl) (by kernel_rfl) (by kernel_rfl) (fun _ _ _ h => h) (Or.inl ⟨by kernel_rfl, ?_⟩) hH ?_
      rotate_left
      · intro W hS
        have hpp := HP10.out.kept hS.2 (by have h1 := HGB.out; have h2 := HSW.out; omega)
        have e3 := hpp.cell 3
        have e4 := hpp.cell 4
        go_simp
        first | done | with_reducible rfl
      simp only [Act.put, List.getElem_toArray, List.getElem_cons_succ, List.getElem_cons_zero, List.setIfInBounds_toArray, List.set_cons_zero, List.set_cons_succ]
      refine wpAnyH_take (i := 5) (v := ?_) rfl (by kernel_rfl) (by kernel_rfl) (by kernel_rfl) (fun _ _ _ h => h) (Or.inl ⟨by kernel_rfl, ?_⟩) hH ?_
      rotate_left
      · intro W hS
        have hpp := HP10.out.kept hS.2 (by have h1 := HGB.out; have h2 := HSW.out; omega)
        have e3 := hpp.cell 3
        have e4 := hpp.cell 4
        go_simp
        first | done | with_reducible rfl
      simp only [Act.put, List.getElem_toArray, List.getElem_cons_succ, List.getElem_cons_zero, List.setIfInBounds_toArray, List.set_cons_zero, List.set_cons_succ]
      refine wpAnyH_take (i := 6) (v := ?_) rfl (by kernel_rfl) (by kernel_rfl) (by kernel_rfl) (fun _ _ _ h => h) (Or.inl ⟨by kernel_rfl, ?_⟩) hH ?_
      rotate_left
      · intro W hS
        have hpp := HP10.out.kept hS.2 (by have h1 := HGB.out; have h2 := HSW.out; omega)
        have e3 := hpp.cell 3
        have e4 := hpp.cell 4
        go_simp
        first | done | with_reducible rfl
      simp only [Act.put, List.getElem_toArray, List.getElem_cons_succ, List.getElem_cons_zero, List.setIfInBounds_toArray, List.set_cons_zero, List.set_cons_succ]
      refine wpAnyH_take (i := 7) (v := ?_) rfl (by kernel_rfl) (by kernel_rfl) (by kernel_rfl) (fun _ _ _ h => h) (Or.inl ⟨by kernel_rfl, ?_⟩) hH ?_
      rotate_left
      · intro W hS
        have hpp := HP10.out.kept hS.2 (by have h1 := HGB.out; have h2 := HSW.out; omega)
        have e3 := hpp.cell 3
        have e4 := hpp.cell 4
        go_simp
        first | done | with_reducible rfl
      simp only [Act.put, List.getElem_toArray, List.getElem_cons_succ, List.getElem_cons_zero, List.setIfInBounds_toArray, List.set_cons_zero, List.set_cons_succ]
      refine wpAnyH_take (i := 8) (v := ?_) rfl (by kernel_rfl) (by kernel_rfl) (by kernel_rfl) (fun _ _ _ h => h) (Or.inl ⟨by kernel_rfl, ?_⟩) hH ?_
      rotate_left
      · intro W hS
        have hpp := HP10.out.kept hS.2 (by have h1 := HGB.out; have h2 := HSW.out; omega)
        have e3 := hpp.cell 3
        have e4 := hpp.cell 4
        go_simp
        first | done | with_reducible rfl
      simp only [Act.put, List.getElem_toArray, List.getElem_cons_succ, List.getElem_cons_zero, List.setIfInBounds_toArray, List.set_cons_zero, List.set_cons_succ]
      refine wpAnyH_ready (rs := [9]) (by kernel_rfl) (by simp) ?_
      refine AllReadyH.cons rfl (fun K hK => ?_) AllReadyH.nil
      rw [if_pos (by kernel_rfl)]
      refine wp_store_row 33 _ _ rfl w.heap.size #[.slice none 0 0] rfl rfl 33 #[.slice none 0 0] hH.1 infoRefCfg rfl (oneCfgD none 0 0) ?_
      refine hK.out _ _ ⟨hH.1.setRow _, hH.2.setRow (.inl rfl) _⟩ (fun hH => ?_)
      clear hK K
      try simp only [Act.put, List.getElem_toArray, List.getElem_cons_succ, List.getElem_cons_zero, List.setIfInBounds_toArray, List.set_cons_zero, List.set_cons_succ]
      refine wpAnyH_take (i := 10) (v := ?_) rfl (by kernel_rfl) (by kernel_rfl) (by kernel_rfl) (fun _ _ _ h => h) (Or.inl ⟨by kernel_rfl, ?_⟩) hH ?_
      rotate_left
      · intro W hS
        have hpp := HP10.out.kept hS.2 (by have h1 := HGB.out; have h2 := HSW.out; omega)
        have e3 := hpp.cell 3
        have e4 := hpp.cell 4
        go_simp
        first | done | with_reducible rfl
      simp only [Act.put, List.getElem_toArray, List.getElem_cons_succ, List.getElem_cons_zero, List.setIfInBounds_toArray, List.set_cons_zero, List.set_cons_succ]
      refine wpAnyH_take (i := 11) (v := ?_) rfl (by kernel_rfl) (by kernel_rfl) (by kernel_rfl) (fun _ _ _ h => h) (Or.inl ⟨by kernel_rfl, ?_⟩) hH ?_
      rotate_left
      · intro W hS
        have hpp := HP10.out.kept hS.2 (by have h1 := HGB.out; have h2 := HSW.out; omega)
        have e3 := hpp.cell 3
        have e4 := hpp.cell 4
        go_simp
        first | done | with_reducible rfl
      simp only [Act.put, List.getElem_toArray, List.getElem_cons_succ, List.getElem_cons_zero, List.setIfInBounds_toArray, List.set_cons_zero, List.set_cons_succ]
      refine wpAnyH_done (by kernel_rfl) ?_ _

      go_wp2_with fail
      refine bodyPost_ret (results_row3 Tryz.results11 _ _ w.heap.size _ rfl hH.1 Tryz.underlying33 rfl infoRefCfg) rfl ?_
      exact ⟨_, [], by rw [HRD.out]; rfl, by rw [HRD.out]; rfl, ReadsP.nil _ _, (HB10.out.trans (hH.2.mono (fun k h _ => Or.inr h)) (fun k h _ => h)).below (fun k h _ => by have h1 := HGB.out; have h2 := HSW.out; rcases h with h | h <;> omega) (Nat.le_refl _)⟩
    subst h0
    have hzq : q.code = 0 := HA.out.1
    have HC0 := hid hzq
    by_cases hil : i < (textW T).length
    · have d1 : decide ((i : Int) + 1 < (n : Int)) = true := decide_eq_true (by have := HA.out.2.2.2.2; omega)
      have hgo : cfgGo q = true := by
        unfold cfgGo hdW
        rw [hzq, HA.out.2.2.1 hzq, List.drop_eq_getElem_cons hil]
        have := textW_ne (List.getElem_mem hil)
        show ((0 : Nat) == 0 && ((textW T)[i]'hil != ([] : List UInt8))) = true
        rw [bne_iff_ne.2 this]; rfl
      have HGO := hid hgo
      have HIS := hid (HJ0.out.is hzq)
      obtain ⟨aos, cs, es⟩ := ownsRow_formN HJ0.out.sites.own
      obtain ⟨ns, hns⟩ : ∃ n, Lz.length = n := ⟨_, rfl⟩
      rw [hns] at es
      subst es
      clear hil hgo hns
      go_wp2_with fail
      go_quiet (fail)
      generalize hW10 : wr.drewN _ = w10
      have hb10 : Below wr.heap.size wr w10 := by rw [← hW10]; exact below_drewN (Below.refl _ _) _
      have HJ := hid (HJ0.out.below hb10)
      have HB10 := hid (Below.refl w10.heap.size w10)
      have HSZ := hid (show bc ≤ w10.heap.size from Nat.le_of_lt HJ.out.box.lt)
      have HCZ := hid (HJ.out.cz (Nat.le_refl _))
      have HL8 := hid HIS.out.2.1
      have HHO := hid HIS.out.2.2
      have c0' : w10.cell? ⟨bc, 0, none⟩ = some (.slice aos ns cs) := HJ.out.box.cell 0
      clear c3 c0 c2 hiw hW10 hb10 hzq d1
      go_upto_region 6 with fail
      have c0 := c0'
      clear c0'
      refine wp_region_K 8 (by kernel_rfl) (fun w' => w'.cell? ⟨bc, 0, none⟩ = some (.slice aos ns cs)) (by exact c0) (fun hH => ?_)
      refine wpAnyK_take (i := 0) (v := ?_) rfl (by kernel_rfl) (by kernel_rfl) (by kernel_rfl) (by decide) (by kernel_rfl) (fun _ _ _ h => h) (Or.inl ⟨by kernel_rfl, ?_⟩) hH ?_
      rotate_left
      · intro W hS
        go_simp
        first | done | with_reducible rfl
      simp only [Act.put, List.getElem_toArray, List.getElem_cons_succ, List.getElem_cons_zero, List.setIfInBounds_toArray, List.set_cons_zero, List.set_cons_succ]
      refine wpAnyK_take (i := 1) (v := ?_) rfl (by kernel_rfl) (by kernel_rfl) (by kernel_rfl) (by decide) (by kernel_rfl) (fun _ _ _ h => h) (Or.inl ⟨by kernel_rfl, ?_⟩) hH ?_
      rotate_left
      · intro W hS
        go_simp
        first | done | with_reducible rfl
      simp only [Act.put, List.getElem_toArray, List.getElem_cons_succ, List.getElem_cons_zero, List.setIfInBounds_toArray, List.set_cons_zero, List.set_cons_succ]
      refine wpAnyK_take (i := 2) (v := ?_) rfl (by kernel_rfl) (by kernel_rfl) (by kernel_rfl) (by decide) (by kernel_rfl) (fun _ _ _ h => h) (Or.inl ⟨by kernel_rfl, ?_⟩) hH ?_
      rotate_left
      · intro W hS
        go_simp
        first | done | with_reducible rfl
      simp only [Act.put, List.getElem_toArray, List.getElem_cons_succ, List.getElem_cons_zero, List.setIfInBounds_toArray, List.set_cons_zero, List.set_cons_succ]
      refine wpAnyK_take (i := 3) (v := ?_) rfl (by kernel_rfl) (by kernel_rfl) (by kernel_rfl) (by decide) (by kernel_rfl) (fun _ _ _ h => h) (Or.inl ⟨by kernel_rfl, ?_⟩) hH ?_
      rotate_left
      · intro W hS
        go_simp
        first | done | with_reducible rfl
      simp only [Act.put, List.getElem_toArray, List.getElem_cons_succ, List.getElem_cons_zero, List.setIfInBounds_toArray, List.set_cons_zero, List.set_cons_succ]
      refine wpAnyK_next (i := 4) (by kernel_rfl) rfl (by decide) (fun K hK => ?_)
      go_simp
      refine (docSite_any g bc T q (.slice aos ns cs) Lz hosts w10.drew (HJ.out.dc.below (HB10.out.drew)) (show bc ≤ w10.heap.size from HSZ.out) HC0.out HJ.out.words (HCZ.out.kept (Kept.of_below (X := fun _ => False) HB10.out.drew) (fun _ _ _ h => h)) HL8.out HHO.out).mono ?_
      rintro e w4 ⟨hv4, s4, rfl, hd4, ho4, hn4, hs4, hk4⟩
      obtain ⟨ao4, n4, k4, rfl⟩ : ∃ ao n c, hv4 = .slice ao n c := by obtain ⟨ao, c, e⟩ := ho4.reads.form; exact ⟨ao, _, c, e⟩
      have HK4 := hid ((Kept.of_below (X := fun k => k = g) HB10.out.drew).trans hk4 (fun k h _ => h))
      have HB4 := hid (And.intro (HJ.out.box.kept HK4.out (by have := HG.out; omega)) (HJ.out.sites.kept HK4.out (fun k h1 h2 e => by have := HG.out; omega)))
      have HP4 := hid (And.intro hd4 (And.intro (own_raise ho4 hn4) hs4))
      have cc4 := HB4.out.1.cell 0
      clear hd4 ho4 hn4 hs4 hk4
      refine hK.out _ _ cc4 (fun hH => ?_)
      clear hK K
      try simp only [Act.put, List.getElem_toArray, List.getElem_cons_succ, List.getElem_cons_zero, List.setIfInBounds_toArray, List.set_cons_zero, List.set_cons_succ]
      refine wpAnyK_next (i := 5) (by kernel_rfl) rfl (by decide) (fun K hK => ?_)
      obtain ⟨w5, hW5⟩ : ∃ W, W = w4.alloc (.cells (siteRow (.slice ao4 n4 k4) s4) 70) := ⟨_, rfl⟩
      have hb5 : Below w4.heap.size w4 w5 := by rw [hW5]; exact below_alloc _ _
      have HB5 := hid (And.intro (HB4.out.1.below hb5) (HB4.out.2.below hb5))
      have HP5 := hid (And.intro (HP4.out.1.below hb5) (And.intro (ownsRow_kept HP4.out.2.1 (Kept.of_below (X := fun _ => False) hb5) (fun _ _ h => h)) hb5))
      have HC5 : Hid (rowIs w5 w4.heap.size (siteRow (.slice ao4 n4 k4) s4) 70) := by rw [hW5]; exact rowIs_new _ _ _
      have cc5 := HB5.out.1.cell 0
      go_simp
      rw [← hW5]
      clear hW5 hb5
      refine hK.out _ _ cc5 (fun hH => ?_)
      clear hK K
      try simp only [Act.put, List.getElem_toArray, List.getElem_cons_succ, List.getElem_cons_zero, List.setIfInBounds_toArray, List.set_cons_zero, List.set_cons_succ]
      refine wpAnyK_next (i := 6) (by kernel_rfl) rfl (by decide) (fun K hK => ?_)
      rw [if_pos (by kernel_rfl)]
      have hns : Lz.length + 1 < 4294967296 := by have := HL8.out; omega
      refine wp_append_gen w5 (.tmp 32) (.tmp 36) 31 rfl 0 70 Tryz.underlying31 infoRefSiteA rfl (by decide) (by decide) (v := .slice aos ns cs) rfl HB5.out.2.own ⟨w4.heap.size, 0, none⟩ 1 1 (siteRow (.slice ao4 n4 k4) s4).toList rfl (fun j u hj => ?_) siteRow_oneD rfl hns (Nat.zero_le _) (fun v6 w6 ho6 hg6 hi6 => ?_)
      · rw [addAt2, Nat.zero_add, HC5.out.cell j]; simpa using hj
      obtain ⟨ao6, n6, c6, rfl⟩ : ∃ ao n c, v6 = .slice ao n c := by obtain ⟨ao, c, e⟩ := ownsRow_formN ho6; exact ⟨ao, _, c, e⟩
      have kk6 : Kept (fun k => (Value.slice aos ns cs).ownBlock = some k) w5 w6 := (Kept.refl (fun k => (Value.slice aos ns cs).ownBlock = some k) w5).grown hg6 (fun k hk _ => hk)
      have hsv : ∀ k, (Value.slice aos ns cs).ownBlock = some k → bc < k ∧ k < w10.heap.size := fun k hk => ⟨HJ.out.sites.inn k hk, (HJ.out.sites.own.lt k hk).2⟩
      have hbw : bc < w10.heap.size := HJ.out.box.lt
      have M6 := HB5.out.2.more (M := w10.heap.size) (hd := s4.heads) HP5.out.2.1 hbw (fun k e => (hsv k e).2) ho6 hg6 hi6 (by have h1 := HK4.out.size; have h2 := HP5.out.2.2.size; omega)
      have box6 := HB5.out.1.kept kk6 (fun e => by have := (hsv _ e).1; omega)
      have dc6 := HP5.out.1.kept kk6 (fun k hk e => by have := (hsv _ e).1; have := HG.out; omega)
      have kC := (Kept.refl (fun k => k = bc) w6).setCell (i := 0) (.inl rfl) (.slice ao6 n6 c6)
      have kall : Kept (fun k => k = g ∨ bc ≤ k) w10 (w6.setCell ⟨bc, 0, none⟩ (.slice ao6 n6 c6)) :=
        (((HK4.out.mono (fun k h _ => Or.inl h)).trans (Kept.of_below (X := fun _ => False) HP5.out.2.2) (fun k h _ => h.elim)).trans kk6 (fun k h _ => .inr (Nat.le_of_lt (hsv k h).1))).trans kC (fun k h _ => .inr (by omega))
      have H6 : Hid (Dc (w6.setCell ⟨bc, 0, none⟩ (.slice ao6 n6 c6)) g bc T (siteM hosts (atSite Lz.length q)).2 ∧ rowIs (w6.setCell ⟨bc, 0, none⟩ (.slice ao6 n6 c6)) bc #[.slice ao6 n6 c6] 33 ∧ OwnAt (w6.setCell ⟨bc, 0, none⟩ (.slice ao6 n6 c6)) 70 7 9 bc (.slice ao6 n6 c6) (Lz ++ [(s4.z, Value.slice ao4 n4 k4)]).length (rowsZ (Lz ++ [(s4.z, Value.slice ao4 n4 k4)])) ((Lz ++ [(s4.z, Value.slice ao4 n4 k4)]).map fun x : SiteZ × Value => (x.2, x.1.heads)) ∧ Kept (fun k => k = g ∨ bc ≤ k) w10 (w6.setCell ⟨bc, 0, none⟩ (.slice ao6 n6 c6))) := by
        refine ⟨dc6.kept kC (fun k hk e => by have := HG.out; omega), box6.setCell 0 _, ?_, kall⟩
        rw [List.length_append, rowsZ_snoc, List.map_append]
        exact M6.kept kC (fun k h1 h2 e => by omega)
      have cc6 := box6.cell 0
      have ff6 := box6.free 0
      clear kk6 hsv M6 box6 dc6 kC kall ho6 hg6 hi6 hbw hns
      refine hK.out _ _ cc6 (fun hH => ?_)
      clear hK K
      try simp only [Act.put, List.getElem_toArray, List.getElem_cons_succ, List.getElem_cons_zero, List.setIfInBounds_toArray, List.set_cons_zero, List.set_cons_succ]
      refine wpAnyK_take (i := 7) (v := ?_) rfl (by kernel_rfl) (by kernel_rfl) (by kernel_rfl) (by decide) (by kernel_rfl) (fun _ _ _ h => h) (Or.inl ⟨by kernel_rfl, ?_⟩) hH ?_
      rotate_left
      · intro W hS
        go_simp
        first | done | with_reducible rfl
      simp only [Act.put, List.getElem_toArray, List.getElem_cons_succ, List.getElem_cons_zero, List.setIfInBounds_toArray, List.set_cons_zero, List.set_cons_succ]
      refine wpAnyK_last (by kernel_rfl) rfl (fun K hK => ?_)
      go_simp
      refine hK.out _ _ ?_
      clear hK K
      try simp only [Act.put, List.getElem_toArray, List.getElem_cons_succ, List.getElem_cons_zero, List.setIfInBounds_toArray, List.set_cons_zero, List.set_cons_succ]
      refine wpAnyK_done (by kernel_rfl) ?_ _
      clear cc4 cc5 cc6 ff6 c0 hH

      go_wp2_with fail
      have hclen : c.length = Lz.length := by have := congrArg List.length HIS.out.1; simpa using this.symm
      have hless := cfg_less (n := Lz.length) (hosts := hosts) HGO.out
      go_roundg (meas (siteM hosts (atSite Lz.length q)).2)
      case measure => have := HJ.out.left; omega
      case rel =>
        refine ⟨_, _, c ++ [(siteM hosts (atSite Lz.length q)).1], hdW (atSite Lz.length q) :: hosts, _, H6.out.1, H6.out.2.1, H6.out.2.2.1, rfl, ?_, fun e => ?_, ?_, HJ.out.kept.trans H6.out.2.2.2 (fun k h _ => h)⟩
        · exact Nat.le_trans (fol_site hosts _).len (Nat.le_trans (fol_at _ _).len HJ.out.words)
        · have h4 := HP4.out.2.2 e
          have h8 := at_few ((fol_site hosts _).ok e)
          refine ⟨by rw [List.map_append, List.map_append, HIS.out.1, h4]; rfl, by rw [List.length_append, List.length_singleton]; omega, fun x => ?_⟩
          rw [List.any_append, HIS.out.2.2, List.contains_cons, Bool.or_comm]
          congr 1
          rw [h4]
          show ((siteM hosts (atSite Lz.length q)).1.host == x || false) = _
          rw [Bool.or_false, site_host', BEq.comm]
        · have := HJ.out.sim
          rw [cfgE_go HGO.out, hclen] at this
          exact this
    · have d1 : decide ((i : Int) + 1 < (n : Int)) = false := decide_eq_false (by have := HA.out.2.2.2.2; omega)
      have hil2 : i = (textW T).length := by have := HA.out.2.1; omega
      have hgo : cfgGo q = false := by
        unfold cfgGo hdW
        rw [HA.out.2.2.1 hzq, hil2, List.drop_length]
        simp
      have hsim := HJ0.out.sim
      rw [cfgE_stop hgo] at hsim
      have heq := hsim.ok hzq
      have hrd : readM T = (c, 0, 0) := by
        rw [readM_short HLN.out, ← heq]
        exact if_pos hzq
      have HRD := hid hrd
      have HRDM := hid ((HJ0.out.is hzq).1)
      have r2 := (HW.out.2.below HB2.out).kept HJ0.out.kept (by have h1 := HG.out; have h2 : W.heap.size = w.heap.size + 1 := HSW.out; omega)
      have HR2 := hid r2
      obtain ⟨aos, cs, es⟩ := ownsRow_formN HJ0.out.sites.own
      obtain ⟨ns, hns⟩ : ∃ n, Lz.length = n := ⟨_, rfl⟩
      rw [hns] at es
      subst es
      have HBW0 := hid (show Kept (fun k => (k = g ∨ bc ≤ k) ∨ k = w.heap.size) w wr from ((Kept.of_below (X := fun k => k = g ∨ bc ≤ k) (chainP HW.out.1 HB2.out)).trans HJ0.out.kept (fun k h _ => h)).mono (fun k h _ => .inl h))
      clear hil hil2 hgo hsim heq hrd r2 hns
      go_wp2_with fail
      go_quiet (fail)
      generalize hW10 : wr.drewN _ = w10
      have hb10 : Below wr.heap.size wr w10 := by rw [← hW10]; exact below_drewN (Below.refl _ _) _
      have c3' := kept C3.out hb10
      have r10 := HR2.out.below hb10
      have rb := HJ0.out.box.below hb10
      have J10 := HJ0.out.below hb10
      have HJ10 := hid J10
      have HB10 := hid (HBW0.out.trans (Kept.of_below (X := fun _ => False) hb10) (fun k h _ => h.elim))
      clear c3 c0 c2 hiw hW10 hb10 J10
      go_wp2_with (first
        | (refine wpList_load_row rfl 33 _ rfl bc rfl 33 _ (0, 0) _ rb Tryz.underlying33 rfl infoRefCfg ?_)
        | (refine wpList_store_row rfl 33 _ _ rfl w.heap.size _ rfl rfl 33 _ r10 infoRefCfg rfl (oneCfgD _ _ _) ?_))
      refine bodyPost_ret (results_row3 Tryz.results11 _ _ w.heap.size _ rfl (r10.setRow #[.slice aos ns cs]) Tryz.underlying33 rfl infoRefCfg) rfl ?_
      have kk := (Kept.refl (fun k => k = w.heap.size) w10).setRow (g := w.heap.size) (.inl rfl) #[.slice aos ns cs]
      refine ⟨.slice aos ns cs, Lz, by rw [HRD.out]; rfl, by rw [HRD.out]; exact HRDM.out, ?_, (HB10.out.trans (kk.mono (fun k h _ => Or.inr h)) (fun k h _ => h)).below (fun k h _ => by have h1 := HGB.out; have h2 := HSW.out; rcases h with h | h <;> omega) (Nat.le_refl _)⟩
      have hcz := (HJ10.out.cz (Nat.le_refl _)).kept kk (fun k h1 h2 e => by have h3 := HGB.out; have h4 := HSW.out; omega)
      exact hcz.reads
end Go.Proofs.YtenijpcjemdhfaaGreatDoor
