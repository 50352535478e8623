/-
  Several texts in one: ConfF, ConfG.
-/
import Derived.Test.YtenijpcjemdhfaaGreatDoorP10dConfE
import Derived.Maps.OwnOps
import Derived.Maps.Views
import Derived.StringKeys
/-
  Contracts of package conf: the reader's number, name, once.
-/
namespace Go.Proofs.YtenijpcjemdhfaaGreatDoor
open Go.RowKit Go.Pantry

/-- what a method of a reader leaves, and its value -/
def RcPostV (w : World) (g : Nat) (T : List UInt8) (q : Ps) (v : Value) (e : Ending) (w' : World) : Prop := e = .returned v ∧ RcOk w' g T q ∧ Kept (fun k => k = g) w w'
theorem RcPost.kept {w w1 : World} {g : Nat} {T : List UInt8} {p : Ps} {e : Ending} (h : RcPost w g T p e w1) : Kept (fun k => k = g) w w1 := h.2.2
theorem kept_g {w w1 w2 : World} {g : Nat} (h : Kept (fun k => k = g) w w1) (k : Kept (fun k => k = g) w1 w2) : Kept (fun k => k = g) w w2 := h.trans k (fun _ hY _ => hY)
set_option maxRecDepth 4000 in
theorem number_any (g : Nat) (T : List UInt8) (p : Ps) (lo hi : Nat) (w : World) (h : RcOk w g T p) (hlo : lo < 10000000000) (hhi : hi < 10000000000) :
    Calls Tryz.prog 122 #[.pointer (some ⟨g, 0, none⟩), .int .i64 (lo : Int), .int .i64 (hi : Int)] w (RcPostV w g T (numM lo hi p) (.int .i64 (valD (hdW p) : Int))) := by
  have h4 := h.word
  have hl := h.hd_len
  have cd := fun W => conf_ofDigits_any (hdW p) W (by omega)
  have H := hid h
  have HE : Hid (stp (chk (decide (lo ≤ valD (hdW p)) && decide (valD (hdW p) ≤ hi)) 11 (chk (okD (hdW p)) 30 p)) = numM lo hi p) := rfl
  have hvb := valD_bound (hdW p)
  obtain ⟨x, hx⟩ : ∃ x, hdW p = x := ⟨_, rfl⟩
  rw [hx] at h4 cd HE hvb hl ⊢
  obtain ⟨v, hv⟩ : ∃ v, valD x = v := ⟨_, rfl⟩
  obtain ⟨k, hk⟩ : ∃ k, okD x = k := ⟨_, rfl⟩
  rw [hv, hk] at cd HE
  rw [hv] at hvb ⊢
  have CD := hid cd
  clear h cd hx hv hk
  go_enter Tryz.func122, Tryz.ntmps122
  go_wp2_with fail
  refine (CD.out _).mono ?_
  rintro e w1 ⟨rfl, hb1⟩
  have H1 := hid (H.out.below hb1)
  clear h4
  go_wp2_with fail
  refine (check_any g T p k 30 w1 H1.out (by decide)).mono ?_
  intro e w2 hp2
  obtain ⟨u2, rfl, ho2, hk2⟩ := hp2.form
  have H2 := hid (And.intro ho2 ((Kept.of_below (X := fun k => k = g) hb1).trans hk2 (fun _ hY _ => hY)))
  clear hp2 ho2 hk2 hb1
  by_cases h1 : lo ≤ v
  · have h1' : (lo : Int) ≤ (v : Int) := by omega
    go_wp2_with fail
    have e1 : (decide (lo ≤ v) && decide (v ≤ hi)) = decide (v ≤ hi) := by
      rw [decide_eq_true h1, Bool.true_and]
    rw [e1] at HE
    refine (check_any g T _ (decide (v ≤ hi)) 11 w2 H2.out.1 (by decide)).mono ?_
    intro e w3 hp3
    obtain ⟨u3, rfl, ho3, hk3⟩ := hp3.form
    have H3 := hid (And.intro ho3 (kept_g H2.out.2 hk3))
    clear hp3 ho3 hk3
    go_wp2_with fail
    refine (step_any g T _ w3 H3.out.1).mono ?_
    intro e w4 hp4
    obtain ⟨u4, rfl, ho4, hk4⟩ := hp4.form
    have H4 := hid (And.intro ho4 (kept_g H3.out.2 hk4))
    clear hp4 ho4 hk4
    rw [HE.out] at H4
    go_wp2_with fail
    go_ret
    exact ⟨rfl, H4.out⟩
  · have h1' : ¬ (lo : Int) ≤ (v : Int) := by omega
    go_wp2_with fail
    have e1 : (decide (lo ≤ v) && decide (v ≤ hi)) = false := by
      rw [decide_eq_false h1, Bool.false_and]
    rw [e1] at HE
    refine (check_any g T _ false 11 w2 H2.out.1 (by decide)).mono ?_
    intro e w3 hp3
    obtain ⟨u3, rfl, ho3, hk3⟩ := hp3.form
    have H3 := hid (And.intro ho3 (kept_g H2.out.2 hk3))
    clear hp3 ho3 hk3
    go_wp2_with fail
    refine (step_any g T _ w3 H3.out.1).mono ?_
    intro e w4 hp4
    obtain ⟨u4, rfl, ho4, hk4⟩ := hp4.form
    have H4 := hid (And.intro ho4 (kept_g H3.out.2 hk4))
    clear hp4 ho4 hk4
    rw [HE.out] at H4
    go_wp2_with fail
    go_ret
    exact ⟨rfl, H4.out⟩
set_option maxRecDepth 4000 in
theorem name_any (g : Nat) (T : List UInt8) (p : Ps) (hv : Value) (H : List (List UInt8)) (w : World) (h : RcOk w g T p) (hr : Reads w hv (H.map strV)) (hH : H.length ≤ 1000000) :
    Calls Tryz.prog 123 #[.pointer (some ⟨g, 0, none⟩), hv] w (RcPostV w g T (nameM H p) (strV (hdW p))) := by
  have h4 := h.word
  have hl := h.hd_len
  have cm := mayFollow_any hv H (hdW p) w hr hH (by omega)
  have H0 := hid h
  have HE : Hid (stp (chk (decide ((H.length : Int) < 4)) 32 (chk (mayM H (hdW p)) 30 p)) = nameM H p) := by
    rw [show decide ((H.length : Int) < 4) = decide (H.length < 4) from decide_eq_decide.2 (by omega)]; exact rfl
  obtain ⟨x, hx⟩ : ∃ x, hdW p = x := ⟨_, rfl⟩
  rw [hx] at h4 cm HE ⊢
  obtain ⟨k, hk⟩ : ∃ k, mayM H x = k := ⟨_, rfl⟩
  rw [hk] at cm HE
  have CM := hid cm
  obtain ⟨ao, cap, rfl⟩ := hr.form
  rw [List.length_map] at *
  obtain ⟨N, hN⟩ : ∃ N, H.length = N := ⟨_, rfl⟩
  rw [hN] at CM HE ⊢
  clear h cm hx hk hr hl hN hH
  go_enter Tryz.func123, Tryz.ntmps123
  go_wp2_with fail
  refine CM.out.mono ?_
  rintro e w1 ⟨rfl, hb1⟩
  have H1 := hid (H0.out.below hb1)
  clear h4
  go_wp2_with fail
  refine (check_any g T p k 30 w1 H1.out (by decide)).mono ?_
  intro e w2 hp2
  obtain ⟨u2, rfl, ho2, hk2⟩ := hp2.form
  have H2 := hid (And.intro ho2 ((Kept.of_below (X := fun k => k = g) hb1).trans hk2 (fun _ hY _ => hY)))
  clear hp2 ho2 hk2 hb1
  go_wp2_with fail
  refine (check_any g T _ (decide ((N : Int) < 4)) 32 w2 H2.out.1 (by decide)).mono ?_
  intro e w3 hp3
  obtain ⟨u3, rfl, ho3, hk3⟩ := hp3.form
  have H3 := hid (And.intro ho3 (kept_g H2.out.2 hk3))
  clear hp3 ho3 hk3
  go_wp2_with fail
  refine (step_any g T _ w3 H3.out.1).mono ?_
  intro e w4 hp4
  obtain ⟨u4, rfl, ho4, hk4⟩ := hp4.form
  have H4 := hid (And.intro ho4 (kept_g H3.out.2 hk4))
  clear hp4 ho4 hk4
  rw [HE.out] at H4
  go_wp2_with fail
  go_ret
  exact ⟨rfl, H4.out⟩

open Go.Maps in
/-- a map of the call's own that tells how often a text has been seen -/
def Seen (w : World) (b : Nat) (L : List (List UInt8)) : Prop := ∃ D : DataW Unit, w.ownsMap Tryz.prog 9 (plainElem Tryz.prog 3) b L.length D ∧ IsMap D ∧ ∀ u : List UInt8, D.atKey (.string u) (.lit (.int .i64 0)) = .lit (.int .i64 (L.count u : Int))
theorem Seen.kept {X : Nat → Prop} {w w' : World} {b : Nat} {L : List (List UInt8)} (h : Seen w b L) (hk : Kept X w w') (hx : ¬ X b) : Seen w' b L := by
  obtain ⟨D, h1, h2, h3⟩ := h
  refine ⟨D, ?_, h2, h3⟩
  obtain ⟨es, clock, a1, a2, a3, a4⟩ := h1
  exact ⟨es, clock, (hk.2 b (Array.getElem?_eq_some_iff.1 a1).1 hx).trans a1, a2, a3, a4⟩
theorem Seen.lt {w : World} {b : Nat} {L : List (List UInt8)} (h : Seen w b L) : b < w.heap.size := let ⟨_, h1, _⟩ := h; h1.lt
theorem seen_new (w : World) : Seen (w.alloc (.map #[] 0)) w.heap.size [] :=
  ⟨.map [], World.ownsMap_made _ _ _ _, Maps.isMap_empty, fun _ => rfl⟩
theorem lawS : Maps.Keyed Tryz.prog 9 := Maps.string_keyed Tryz.underlying9
theorem zeroI (w : World) : (zeroValue 3).run Tryz.prog w = .ok (.int .i64 0) w := by kernel_rfl
theorem key_str (u : List UInt8) (hu : u.length ≤ 100000) : keyOf Tryz.prog 9 (strV u) = some (.string u) := WideMaps.keyOf_string_mk Tryz.underlying9 (s := ⟨u.toArray⟩) (by rw [szL]; unfold maxLen; omega)
theorem count_cons_other {u x : List UInt8} (L : List (List UInt8)) (h : u ≠ x) : (x :: L).count u = L.count u := by
  rw [List.count_cons, if_neg (by simpa using fun e => h e.symm), Nat.add_zero]
set_option maxRecDepth 4000 in
theorem once_any (g b : Nat) (T : List UInt8) (p : Ps) (L : List (List UInt8)) (w : World) (h : RcOk w g T p) (hs : Seen w b L) (hgb : g < b) (hL : L.length ≤ 100000) :
    Calls Tryz.prog 75 #[.pointer (some ⟨g, 0, none⟩), .map (some b)] w fun e w' => (∃ u, e = .returned u) ∧ RcOk w' g T (onceM L p) ∧ Seen w' b (hdW p :: L) ∧ Kept (fun k => k = g ∨ k = b) w w' := by
  have h4 := h.word
  have hl := h.hd_len
  have H0 := hid h
  have HS := hid hs
  have HE : Hid (stp (chk (!(L.contains (hdW p))) 31 p) = onceM L p) := rfl
  have HW : Hid (∀ b c, hdW (chk b c p) = hdW p) := fun b c => chk_hd b c p
  obtain ⟨x, hx⟩ : ∃ x, hdW p = x := ⟨_, rfl⟩
  rw [hx] at h4 hl HE HW ⊢
  have hkey := key_str x (by omega)
  obtain ⟨D, hown, hmap, hat⟩ := hs
  obtain ⟨c, hrun, hc, hwf⟩ := hown.lookup_int lawS Tryz.underlying92 Tryz.underlying3 (zeroI w) hkey
  rw [hat x] at hc
  have hce : c = (L.count x : Int) := by injection hc with e; injection e with _ e; exact e.symm
  subst hce
  have hcl : L.count x ≤ 100000 := Nat.le_trans List.count_le_length hL
  obtain ⟨n, hn⟩ : ∃ n, L.count x = n := ⟨_, rfl⟩
  rw [hn] at hrun hcl
  have hcon : (!(L.contains x)) = ((n : Int) == 0) := by
    rw [← hn]
    by_cases e : x ∈ L
    · have h1 : L.count x ≠ 0 := Nat.pos_iff_ne_zero.1 (List.count_pos_iff.2 e)
      rw [show (((L.count x : Nat) : Int) == 0) = false by simpa using h1]; simpa using e
    · rw [List.count_eq_zero.2 e]; simpa using e
  rw [hcon] at HE
  clear h hx hcon hwf hc hat hmap hown D
  go_enter Tryz.func75, Tryz.ntmps75
  go_wp2_with fail
  refine (check_any g T p ((n : Int) == 0) 31 w H0.out (by decide)).mono ?_
  intro e w1 hp1
  obtain ⟨u1, rfl, ho1, hk1⟩ := hp1.form
  have HS1 := hid (HS.out.kept hk1 (by omega))
  have H1 := hid (And.intro ho1 hk1)
  have h5 := ho1.word
  rw [HW.out] at h5
  clear hp1 ho1 hk1 hrun h4
  obtain ⟨D, hown, hmap, hat⟩ := HS1.out
  obtain ⟨c, hrun, hc, hwf⟩ := hown.lookup_int lawS Tryz.underlying92 Tryz.underlying3 (zeroI w1) hkey
  rw [hat x] at hc
  have hce : c = (L.count x : Int) := by injection hc with e; injection e with _ e; exact e.symm
  subst hce
  rw [hn] at hrun hc
  have hz : IntKind.i64.wrap ((n : Int) + 1) = ((n + 1 : Nat) : Int) := by rw [IntWalk.i64_in _ (by omega)]; omega
  have hval : plainElem (H := Unit) Tryz.prog 3 (.int .i64 ((n + 1 : Nat) : Int)) = some (.lit (.int .i64 ((n + 1 : Nat) : Int)), []) := plainElem_int Tryz.underlying3 (WalkArith.wf_i64 (by omega))
  have HS2 : Hid (∀ w2, w2.ownsMap Tryz.prog 9 (plainElem Tryz.prog 3) b (L.length + 1) (D.put (.string x) (.lit (.int .i64 ((n + 1 : Nat) : Int)))) → Seen w2 b (x :: L)) := by
    intro w2 h2
    refine ⟨_, h2, hmap.put _ _, fun u => ?_⟩
    by_cases e : u = x
    · subst e
      rw [Maps.atKey_put_same hmap (show WideAt.IsKeyLit (.string u) from trivial), List.count_cons_self, hn]
    · rw [Maps.atKey_put_other (by intro h; injection h with h; exact e h), count_cons_other L e]
      exact hat u
  have hL2 : L.length < maxLen := by unfold maxLen; omega
  have HG := hid hgb
  clear hat hmap hc hwf hgb
  go_wp2_with (first | (at_mapUpdate; refine wpList_mapUpdate_own _ rfl _ _ _ 92 rfl 9 3 lawS Tryz.underlying92 _ b L.length _ rfl hown hL2 _ _ _ rfl rfl hkey _ [] hval ?_; intro w2 hown2 hgrow2))
  have HK2 := hid ((Kept.refl (fun k => k = b) w1).grown hgrow2 (fun k hk _ => by cases hk; rfl))
  have HS3 := hid (HS2.out _ hown2)
  have H2 := hid (H1.out.1.kept HK2.out (fun k hk => by rw [hk]; exact HG.out))
  clear hown2 hgrow2 hown hrun hval h5
  refine (step_any g T _ w2 H2.out).mono ?_
  intro e w3 hp3
  obtain ⟨u3, rfl, ho3, hk3⟩ := hp3.form
  have H3 := hid (And.intro ho3 (And.intro (HS3.out.kept hk3 (fun e => Nat.lt_irrefl _ (e ▸ HG.out))) (((H1.out.2.mono (fun k h _ => Or.inl h)).trans HK2.out (fun k h _ => .inr h)).trans hk3 (fun k h _ => .inl h))))
  clear hp3 ho3 hk3
  rw [HE.out] at H3
  go_wp2_with fail
  go_end0
  exact ⟨⟨_, rfl⟩, H3.out⟩
end Go.Proofs.YtenijpcjemdhfaaGreatDoor
/-
  Contracts of package conf: the reader's origin, ttl, keep: a site's box.
-/
namespace Go.Proofs.YtenijpcjemdhfaaGreatDoor
open Go.RowKit Go.Pantry

abbrev siteRow (hv : Value) (s : SiteM) : Array Value := #[strV s.host, .int .i64 (s.origin : Int), .int .i64 (s.min : Int), .int .i64 (s.max : Int), .bool s.query, .bool s.keep, hv]
/-- a site's box, and the heads that it owns -/
structure SbAt (w : World) (b : Nat) (hv : Value) (s : SiteM) : Prop where
  row : rowIs w b (siteRow hv s) 64
  own : w.ownsRow 0 9 1 hv s.heads.length (s.heads.map strV)
  apart : In (fun k => b < k) hv
/-- the blocks of a site -/
def Fb (b : Nat) (hv : Value) (k : Nat) : Prop := k = b ∨ hv.ownBlock = some k
theorem SbAt.kept {X : Nat → Prop} {w w' : World} {b : Nat} {hv : Value} {s : SiteM} (h : SbAt w b hv s) (hk : Kept X w w') (hx : ∀ k, Fb b hv k → ¬ X k) : SbAt w' b hv s :=
  ⟨h.row.kept hk (hx b (.inl rfl)), ownsRow_kept h.own hk (fun k hk => hx k (.inr hk)), h.apart⟩
theorem SbAt.below {w w' : World} {b : Nat} {hv : Value} {s : SiteM} (h : SbAt w b hv s) (hb : Below w.heap.size w w') : SbAt w' b hv s := h.kept (Kept.of_below (X := fun _ => False) hb) (fun _ _ h => h)
theorem Fb.ge {w : World} {b : Nat} {hv : Value} {s : SiteM} (h : SbAt w b hv s) {k : Nat} (hk : Fb b hv k) : b ≤ k := by
  rcases hk with rfl | hk
  · exact Nat.le_refl _
  · exact Nat.le_of_lt (h.apart k hk)
theorem Fb.lt {w : World} {b : Nat} {hv : Value} {s : SiteM} (h : SbAt w b hv s) {k : Nat} (hk : Fb b hv k) : k < w.heap.size := by
  rcases hk with rfl | hk
  · exact h.row.lt
  · exact (h.own.lt k hk).2
/-- a slice in the place of another: in its block, or in a new one -/
def Moves (w : World) (hv hv' : Value) : Prop := ∀ k, hv'.ownBlock = some k → hv.ownBlock = some k ∨ w.heap.size ≤ k
theorem Moves.refl (w : World) (hv : Value) : Moves w hv hv := fun _ h => .inl h
theorem Moves.trans {w w1 : World} {a b c : Value} (h : Moves w a b) (k : Moves w1 b c) (hs : w.heap.size ≤ w1.heap.size) : Moves w a c := fun j hj => by
  rcases k j hj with e | e
  · exact h j e
  · exact .inr (Nat.le_trans hs e)
/-- what a rule's rest leaves -/
def SPost (w : World) (g b : Nat) (T : List UInt8) (hv : Value) (r : SiteM × Ps) (e : Ending) (w' : World) : Prop :=
  (∃ u, e = .returned u) ∧ RcOk w' g T r.2 ∧ ∃ hv', SbAt w' b hv' r.1 ∧ Moves w hv hv' ∧ Kept (fun k => k = g ∨ Fb b hv k) w w'
set_option maxRecDepth 4000 in
theorem origin_any (g b : Nat) (T : List UInt8) (p : Ps) (hv : Value) (s : SiteM) (w : World) (h : RcOk w g T p) (hs : SbAt w b hv s) (hgb : g < b) :
    Calls Tryz.prog 102 #[.pointer (some ⟨g, 0, none⟩), .pointer (some ⟨b, 0, none⟩)] w (SPost w g b T hv (originM s p)) := by
  have cn := number_any g T p 1 9 w h (by decide) (by decide)
  have CN := hid cn
  have HS := hid hs
  have HG := hid hgb
  have HE : Hid (originM s p = ({ s with origin := valD (hdW p) }, numM 1 9 p)) := rfl
  obtain ⟨n, hn⟩ : ∃ n, valD (hdW p) = n := ⟨_, rfl⟩
  obtain ⟨q, hq⟩ : ∃ q, numM 1 9 p = q := ⟨_, rfl⟩
  rw [hn, hq] at CN HE
  clear h hs cn hn hq hgb
  go_enter Tryz.func102, Tryz.ntmps102
  go_wp2_with fail
  refine CN.out.mono ?_
  rintro e w1 ⟨rfl, ho1, hk1⟩
  have hs1 : SbAt w1 b hv s := HS.out.kept hk1 (fun k hk e => by have := Fb.ge HS.out hk; have := HG.out; omega)
  have hc := hs1.row.cell 1
  have hf := hs1.row.free 1
  have HF : Hid (RcOk (w1.setCell ⟨b, 1, none⟩ (.int .i64 (n : Int))) g T q ∧ SbAt (w1.setCell ⟨b, 1, none⟩ (.int .i64 (n : Int))) b hv { s with origin := n } ∧ Kept (fun k => k = g ∨ Fb b hv k) w (w1.setCell ⟨b, 1, none⟩ (.int .i64 (n : Int)))) := by
    have kk := (Kept.refl (fun k => k = b) w1).setCell (i := 1) (.inl rfl) (.int .i64 (n : Int))
    refine ⟨ho1.kept kk (fun k hk => by rw [hk]; exact HG.out), ⟨hs1.row.setCell 1 _, ?_, hs1.apart⟩, ?_⟩
    · exact ownsRow_kept hs1.own kk (fun k hk e => by have := hs1.apart k hk; omega)
    · exact (hk1.mono (fun k h _ => Or.inl h)).trans kk (fun k h _ => .inr (.inl h))
  clear ho1 hk1 hs1
  go_wp2
  go_end0
  refine ⟨⟨_, rfl⟩, ?_⟩
  rw [HE.out]
  exact ⟨HF.out.1, hv, HF.out.2.1, Moves.refl _ _, HF.out.2.2⟩
/-- a cell of a site's box but that of its heads -/
theorem SbAt.set {w : World} {b g : Nat} {hv : Value} {s s' : SiteM} {T : List UInt8} {q : Ps} (hs : SbAt w b hv s) (ho : RcOk w g T q) (hgb : g < b) (i : Nat) (v : Value) (hrow : (siteRow hv s).setIfInBounds i v = siteRow hv s') (hh : s'.heads = s.heads) :
    RcOk (w.setCell ⟨b, i, none⟩ v) g T q ∧ SbAt (w.setCell ⟨b, i, none⟩ v) b hv s' ∧ Kept (fun k => k = b) w (w.setCell ⟨b, i, none⟩ v) := by
  have kk := (Kept.refl (fun k => k = b) w).setCell (i := i) (.inl rfl) v
  refine ⟨ho.kept kk (fun k hk => by rw [hk]; exact hgb), ⟨?_, ?_, hs.apart⟩, kk⟩
  · have := hs.row.setCell i v
    rw [hrow] at this
    exact this
  · rw [hh]
    exact ownsRow_kept hs.own kk (fun k hk e => by have := hs.apart k hk; omega)
theorem SbAt.other {w w' : World} {b g : Nat} {hv : Value} {s : SiteM} (h : SbAt w b hv s) (hk : Kept (fun k => k = g) w w') (hgb : g < b) : SbAt w' b hv s :=
  h.kept hk (fun k hf e => by have := Fb.ge h hf; omega)
theorem kept_s {w w1 w2 : World} {g b : Nat} {hv : Value} (h : Kept (fun k => k = g ∨ Fb b hv k) w w1) (k : Kept (fun k => k = g) w1 w2) : Kept (fun k => k = g ∨ Fb b hv k) w w2 := h.trans k (fun _ h _ => .inl h)
theorem kept_b {w w1 w2 : World} {g b : Nat} {hv : Value} (h : Kept (fun k => k = g ∨ Fb b hv k) w w1) (k : Kept (fun k => k = b) w1 w2) : Kept (fun k => k = g ∨ Fb b hv k) w w2 := h.trans k (fun _ h _ => .inr (.inl h))
theorem kept_0 (w : World) (g b : Nat) (hv : Value) : Kept (fun k => k = g ∨ Fb b hv k) w w := Kept.refl _ w
set_option maxRecDepth 4000 in
theorem ttl_any (g b : Nat) (T : List UInt8) (p : Ps) (hv : Value) (s : SiteM) (w : World) (h : RcOk w g T p) (hs : SbAt w b hv s) (hgb : g < b) :
    Calls Tryz.prog 103 #[.pointer (some ⟨g, 0, none⟩), .pointer (some ⟨b, 0, none⟩)] w (SPost w g b T hv (ttlM s p)) := by
  have cn := number_any g T p 0 2147483648 w h (by decide) (by decide)
  have hvb := valD_bound (hdW p)
  have CN := hid cn
  have HS := hid hs
  have HG := hid hgb
  have HE : Hid (ttlM s p = ({ s with min := valD (hdW p), max := valD (hdW (numM 0 2147483648 p)) }, numM (valD (hdW p)) 2147483648 (numM 0 2147483648 p))) := rfl
  obtain ⟨n, hn⟩ : ∃ n, valD (hdW p) = n := ⟨_, rfl⟩
  obtain ⟨q, hq⟩ : ∃ q, numM 0 2147483648 p = q := ⟨_, rfl⟩
  rw [hn, hq] at CN HE
  rw [hn] at hvb
  clear h hs cn hn hq hgb
  go_enter Tryz.func103, Tryz.ntmps103
  go_wp2_with fail
  refine CN.out.mono ?_
  rintro e w1 ⟨rfl, ho1, hk1⟩
  have hs1 : SbAt w1 b hv s := HS.out.other hk1 HG.out
  have hc := hs1.row.cell 2
  have hf := hs1.row.free 2
  obtain ⟨A1, A2, A3⟩ := hs1.set (s' := { s with min := n }) ho1 HG.out 2 (.int .i64 (n : Int)) rfl rfl
  have AK := kept_b (kept_s (kept_0 w g b hv) hk1) A3
  obtain ⟨W, hW⟩ : ∃ W, w1.setCell ⟨b, 2, none⟩ (.int .i64 (n : Int)) = W := ⟨_, rfl⟩
  rw [hW] at A1 A2 AK
  have c2 := A2.row.cell 2
  have cn2 := number_any g T q n 2147483648 W A1 hvb (by decide)
  have CN2 := hid cn2
  have HF := hid (And.intro A2 AK)
  have HW := hid hW
  clear ho1 hk1 hs1 A1 A2 A3 AK cn2 hW
  go_wp2_with fail
  try rw [HW.out]
  go_wp2_with fail
  refine CN2.out.mono ?_
  rintro e w2 ⟨rfl, ho2, hk2⟩
  have hs2 := HF.out.1.other hk2 HG.out
  have d2 := hs2.row.cell 3
  have df := hs2.row.free 3
  obtain ⟨m, hm⟩ : ∃ m, valD (hdW q) = m := ⟨_, rfl⟩
  rw [hm] at HE
  obtain ⟨B1, B2, B3⟩ := hs2.set (s' := { s with min := n, max := m }) ho2 HG.out 3 (.int .i64 (m : Int)) rfl rfl
  have HR := hid (And.intro B1 (And.intro B2 (kept_b (kept_s HF.out.2 hk2) B3)))
  clear ho2 hk2 hs2 B1 B2 B3 c2 hc hf
  rw [hm]
  go_wp2
  go_end0
  refine ⟨⟨_, rfl⟩, ?_⟩
  rw [HE.out]
  exact ⟨HR.out.1, hv, HR.out.2.1, Moves.refl _ _, HR.out.2.2⟩
set_option maxRecDepth 4000 in
theorem keep_any (g b : Nat) (T : List UInt8) (p : Ps) (hv : Value) (s : SiteM) (w : World) (h : RcOk w g T p) (hs : SbAt w b hv s) (hgb : g < b) :
    Calls Tryz.prog 105 #[.pointer (some ⟨g, 0, none⟩), .pointer (some ⟨b, 0, none⟩)] w (SPost w g b T hv (keepM s p)) := by
  have h4 := h.word
  have HE : Hid (keepM s p = ({ s with keep := hdW p == ([111, 110] : List UInt8) }, stp (chk (hdW p == ([111, 110] : List UInt8) || hdW p == ([111, 102, 102] : List UInt8)) 30 p))) := rfl
  obtain ⟨x, hx⟩ : ∃ x, hdW p = x := ⟨_, rfl⟩
  rw [hx] at HE h4
  obtain ⟨k1, hk1⟩ : ∃ k, (x == ([111, 110] : List UInt8)) = k := ⟨_, rfl⟩
  obtain ⟨k2, hk2⟩ : ∃ k, (x == ([111, 102, 102] : List UInt8)) = k := ⟨_, rfl⟩
  rw [hk1, hk2] at HE
  have hc := hs.row.cell 5
  have hf := hs.row.free 5
  have HG := hid hgb
  obtain ⟨A1, A2, A3⟩ := hs.set (s' := { s with keep := k1 }) h hgb 5 (.bool k1) rfl rfl
  have AK := kept_b (kept_0 w g b hv) A3
  obtain ⟨W, hW⟩ : ∃ W, w.setCell ⟨b, 5, none⟩ (.bool k1) = W := ⟨_, rfl⟩
  rw [hW] at A1 A2 AK
  have c5 := A2.row.cell 5
  have c4 := A1.word
  rw [hx] at c4
  have ck := check_any g T p (k1 || k2) 30 W A1 (by decide)
  have CK := hid ck
  have HF := hid (And.intro A2 AK)
  have HW := hid hW
  clear h hs hx hgb A1 A2 A3 AK ck hW
  cases k1
  all_goals
    go_enter Tryz.func105, Tryz.ntmps105
    go_wp2_with fail
    try rw [HW.out]
    go_wp2_with fail
    refine CK.out.mono ?_
    intro e w1 hp1
    obtain ⟨u1, rfl, ho1, hk1⟩ := hp1.form
    have H1 := hid (And.intro ho1 (And.intro (HF.out.1.other hk1 HG.out) (kept_s HF.out.2 hk1)))
    clear hp1 ho1 hk1
    go_wp2_with fail
    refine (step_any g T _ w1 H1.out.1).mono ?_
    intro e w2 hp2
    obtain ⟨u2, rfl, ho2, hk2⟩ := hp2.form
    have H2 := hid (And.intro ho2 (And.intro (H1.out.2.1.other hk2 HG.out) (kept_s H1.out.2.2 hk2)))
    clear hp2 ho2 hk2
    go_wp2_with fail
    go_end0
    refine ⟨⟨_, rfl⟩, ?_⟩
    rw [HE.out]
    exact ⟨H2.out.1, hv, H2.out.2.1, Moves.refl _ _, H2.out.2.2⟩
end Go.Proofs.YtenijpcjemdhfaaGreatDoor
