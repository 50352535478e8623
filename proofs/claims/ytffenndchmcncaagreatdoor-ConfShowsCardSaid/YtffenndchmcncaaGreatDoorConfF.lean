/-
  Contracts of package conf: the reader's number, name, once.
-/
import Derived.Test.YtffenndchmcncaaGreatDoorConfE
import Derived.Maps.OwnOps
import Derived.Maps.Views
import Derived.StringKeys
namespace Go.Proofs.YtffenndchmcncaaGreatDoor
open Go.RowKit Go.Pantry

/-- what a method of a reader leaves, and its value -/
def RcPostV (w : World) (g : Nat) (T : List UInt8) (q : Ps) (v : Value) (e : Ending) (w' : World) : Prop := e = .returned v ∧ RcOk w' g T q ∧ Kept (fun k => k = g) w w'
theorem RcPost.kept {w w1 : World} {g : Nat} {T : List UInt8} {p : Ps} {e : Ending} (h : RcPost w g T p e w1) : Kept (fun k => k = g) w w1 := h.2.2
theorem kept_g {w w1 w2 : World} {g : Nat} (h : Kept (fun k => k = g) w w1) (k : Kept (fun k => k = g) w1 w2) : Kept (fun k => k = g) w w2 := h.trans k (fun _ hY _ => hY)
set_option maxRecDepth 4000 in
theorem number_any (g : Nat) (T : List UInt8) (p : Ps) (lo hi : Nat) (w : World) (h : RcOk w g T p) (hlo : lo < 10000000000) (hhi : hi < 10000000000) :
    Calls Tryz.prog 134 #[.pointer (some ⟨g, 0, none⟩), .int .i64 (lo : Int), .int .i64 (hi : Int)] w (RcPostV w g T (numM lo hi p) (.int .i64 (valD (hdW p) : Int))) := by
  have h4 := h.word
  have hl := h.hd_len
  have cd := fun W => conf_ofDigits_any (hdW p) W (by omega)
  have H := hid h
  have HE : Hid (stp (chk (decide (lo ≤ valD (hdW p)) && decide (valD (hdW p) ≤ hi)) 11 (chk (okD (hdW p)) 30 p)) = numM lo hi p) := rfl
  have hvb := valD_bound (hdW p)
  obtain ⟨x, hx⟩ : ∃ x, hdW p = x := ⟨_, rfl⟩
  rw [hx] at h4 cd HE hvb hl ⊢
  obtain ⟨v, hv⟩ : ∃ v, valD x = v := ⟨_, rfl⟩
  obtain ⟨k, hk⟩ : ∃ k, okD x = k := ⟨_, rfl⟩
  rw [hv, hk] at cd HE
  rw [hv] at hvb ⊢
  have CD := hid cd
  clear h cd hx hv hk
  go_enter Tryz.func134, Tryz.ntmps134
  go_wp2_with fail
  refine (CD.out _).mono ?_
  rintro e w1 ⟨rfl, hb1⟩
  have H1 := hid (H.out.below hb1)
  clear h4
  go_wp2_with fail
  refine (check_any g T p k 30 w1 H1.out (by decide)).mono ?_
  intro e w2 hp2
  obtain ⟨u2, rfl, ho2, hk2⟩ := hp2.form
  have H2 := hid (And.intro ho2 ((Kept.of_below (X := fun k => k = g) hb1).trans hk2 (fun _ hY _ => hY)))
  clear hp2 ho2 hk2 hb1
  by_cases h1 : lo ≤ v
  · have h1' : (lo : Int) ≤ (v : Int) := by omega
    go_wp2_with fail
    have e1 : (decide (lo ≤ v) && decide (v ≤ hi)) = decide (v ≤ hi) := by
      rw [decide_eq_true h1, Bool.true_and]
    rw [e1] at HE
    refine (check_any g T _ (decide (v ≤ hi)) 11 w2 H2.out.1 (by decide)).mono ?_
    intro e w3 hp3
    obtain ⟨u3, rfl, ho3, hk3⟩ := hp3.form
    have H3 := hid (And.intro ho3 (kept_g H2.out.2 hk3))
    clear hp3 ho3 hk3
    go_wp2_with fail
    refine (step_any g T _ w3 H3.out.1).mono ?_
    intro e w4 hp4
    obtain ⟨u4, rfl, ho4, hk4⟩ := hp4.form
    have H4 := hid (And.intro ho4 (kept_g H3.out.2 hk4))
    clear hp4 ho4 hk4
    rw [HE.out] at H4
    go_wp2_with fail
    go_ret
    exact ⟨rfl, H4.out⟩
  · have h1' : ¬ (lo : Int) ≤ (v : Int) := by omega
    go_wp2_with fail
    have e1 : (decide (lo ≤ v) && decide (v ≤ hi)) = false := by
      rw [decide_eq_false h1, Bool.false_and]
    rw [e1] at HE
    refine (check_any g T _ false 11 w2 H2.out.1 (by decide)).mono ?_
    intro e w3 hp3
    obtain ⟨u3, rfl, ho3, hk3⟩ := hp3.form
    have H3 := hid (And.intro ho3 (kept_g H2.out.2 hk3))
    clear hp3 ho3 hk3
    go_wp2_with fail
    refine (step_any g T _ w3 H3.out.1).mono ?_
    intro e w4 hp4
    obtain ⟨u4, rfl, ho4, hk4⟩ := hp4.form
    have H4 := hid (And.intro ho4 (kept_g H3.out.2 hk4))
    clear hp4 ho4 hk4
    rw [HE.out] at H4
    go_wp2_with fail
    go_ret
    exact ⟨rfl, H4.out⟩
set_option maxRecDepth 4000 in
theorem name_any (g : Nat) (T : List UInt8) (p : Ps) (hv : Value) (H : List (List UInt8)) (w : World) (h : RcOk w g T p) (hr : Reads w hv (H.map strV)) (hH : H.length ≤ 1000000) :
    Calls Tryz.prog 135 #[.pointer (some ⟨g, 0, none⟩), hv] w (RcPostV w g T (nameM H p) (strV (hdW p))) := by
  have h4 := h.word
  have hl := h.hd_len
  have cm := mayFollow_any hv H (hdW p) w hr hH (by omega)
  have H0 := hid h
  have HE : Hid (stp (chk (decide ((H.length : Int) < 4)) 32 (chk (mayM H (hdW p)) 30 p)) = nameM H p) := by
    rw [show decide ((H.length : Int) < 4) = decide (H.length < 4) from decide_eq_decide.2 (by omega)]; exact rfl
  obtain ⟨x, hx⟩ : ∃ x, hdW p = x := ⟨_, rfl⟩
  rw [hx] at h4 cm HE ⊢
  obtain ⟨k, hk⟩ : ∃ k, mayM H x = k := ⟨_, rfl⟩
  rw [hk] at cm HE
  have CM := hid cm
  obtain ⟨ao, cap, rfl⟩ := hr.form
  rw [List.length_map] at *
  obtain ⟨N, hN⟩ : ∃ N, H.length = N := ⟨_, rfl⟩
  rw [hN] at CM HE ⊢
  clear h cm hx hk hr hl hN hH
  go_enter Tryz.func135, Tryz.ntmps135
  go_wp2_with fail
  refine CM.out.mono ?_
  rintro e w1 ⟨rfl, hb1⟩
  have H1 := hid (H0.out.below hb1)
  clear h4
  go_wp2_with fail
  refine (check_any g T p k 30 w1 H1.out (by decide)).mono ?_
  intro e w2 hp2
  obtain ⟨u2, rfl, ho2, hk2⟩ := hp2.form
  have H2 := hid (And.intro ho2 ((Kept.of_below (X := fun k => k = g) hb1).trans hk2 (fun _ hY _ => hY)))
  clear hp2 ho2 hk2 hb1
  go_wp2_with fail
  refine (check_any g T _ (decide ((N : Int) < 4)) 32 w2 H2.out.1 (by decide)).mono ?_
  intro e w3 hp3
  obtain ⟨u3, rfl, ho3, hk3⟩ := hp3.form
  have H3 := hid (And.intro ho3 (kept_g H2.out.2 hk3))
  clear hp3 ho3 hk3
  go_wp2_with fail
  refine (step_any g T _ w3 H3.out.1).mono ?_
  intro e w4 hp4
  obtain ⟨u4, rfl, ho4, hk4⟩ := hp4.form
  have H4 := hid (And.intro ho4 (kept_g H3.out.2 hk4))
  clear hp4 ho4 hk4
  rw [HE.out] at H4
  go_wp2_with fail
  go_ret
  exact ⟨rfl, H4.out⟩

open Go.Maps in
/-- a map of the call's own that tells how often a text has been seen -/
def Seen (w : World) (b : Nat) (L : List (List UInt8)) : Prop := ∃ D : DataW Unit, w.ownsMap Tryz.prog 9 (plainElem Tryz.prog 3) b L.length D ∧ IsMap D ∧ ∀ u : List UInt8, D.atKey (.string u) (.lit (.int .i64 0)) = .lit (.int .i64 (L.count u : Int))
theorem Seen.kept {X : Nat → Prop} {w w' : World} {b : Nat} {L : List (List UInt8)} (h : Seen w b L) (hk : Kept X w w') (hx : ¬ X b) : Seen w' b L := by
  obtain ⟨D, h1, h2, h3⟩ := h
  refine ⟨D, ?_, h2, h3⟩
  obtain ⟨es, clock, a1, a2, a3, a4⟩ := h1
  exact ⟨es, clock, (hk.2 b (Array.getElem?_eq_some_iff.1 a1).1 hx).trans a1, a2, a3, a4⟩
theorem Seen.lt {w : World} {b : Nat} {L : List (List UInt8)} (h : Seen w b L) : b < w.heap.size := let ⟨_, h1, _⟩ := h; h1.lt
theorem seen_new (w : World) : Seen (w.alloc (.map #[] 0)) w.heap.size [] :=
  ⟨.map [], World.ownsMap_made _ _ _ _, Maps.isMap_empty, fun _ => rfl⟩
theorem lawS : Maps.Keyed Tryz.prog 9 := Maps.string_keyed Tryz.underlying9
theorem zeroI (w : World) : (zeroValue 3).run Tryz.prog w = .ok (.int .i64 0) w := by kernel_rfl
theorem key_str (u : List UInt8) (hu : u.length ≤ 100000) : keyOf Tryz.prog 9 (strV u) = some (.string u) := WideMaps.keyOf_string_mk Tryz.underlying9 (s := ⟨u.toArray⟩) (by rw [szL]; unfold maxLen; omega)
theorem count_cons_other {u x : List UInt8} (L : List (List UInt8)) (h : u ≠ x) : (x :: L).count u = L.count u := by
  rw [List.count_cons, if_neg (by simpa using fun e => h e.symm), Nat.add_zero]
set_option maxRecDepth 4000 in
theorem once_any (g b : Nat) (T : List UInt8) (p : Ps) (L : List (List UInt8)) (w : World) (h : RcOk w g T p) (hs : Seen w b L) (hgb : g < b) (hL : L.length ≤ 100000) :
    Calls Tryz.prog 89 #[.pointer (some ⟨g, 0, none⟩), .map (some b)] w fun e w' => (∃ u, e = .returned u) ∧ RcOk w' g T (onceM L p) ∧ Seen w' b (hdW p :: L) ∧ Kept (fun k => k = g ∨ k = b) w w' := by
  have h4 := h.word
  have hl := h.hd_len
  have H0 := hid h
  have HS := hid hs
  have HE : Hid (stp (chk (!(L.contains (hdW p))) 31 p) = onceM L p) := rfl
  have HW : Hid (∀ b c, hdW (chk b c p) = hdW p) := fun b c => chk_hd b c p
  obtain ⟨x, hx⟩ : ∃ x, hdW p = x := ⟨_, rfl⟩
  rw [hx] at h4 hl HE HW ⊢
  have hkey := key_str x (by omega)
  obtain ⟨D, hown, hmap, hat⟩ := hs
  obtain ⟨c, hrun, hc, hwf⟩ := hown.lookup_int lawS Tryz.underlying96 Tryz.underlying3 (zeroI w) hkey
  rw [hat x] at hc
  have hce : c = (L.count x : Int) := by injection hc with e; injection e with _ e; exact e.symm
  subst hce
  have hcl : L.count x ≤ 100000 := Nat.le_trans List.count_le_length hL
  obtain ⟨n, hn⟩ : ∃ n, L.count x = n := ⟨_, rfl⟩
  rw [hn] at hrun hcl
  have hcon : (!(L.contains x)) = ((n : Int) == 0) := by
    rw [← hn]
    by_cases e : x ∈ L
    · have h1 : L.count x ≠ 0 := Nat.pos_iff_ne_zero.1 (List.count_pos_iff.2 e)
      rw [show (((L.count x : Nat) : Int) == 0) = false by simpa using h1]; simpa using e
    · rw [List.count_eq_zero.2 e]; simpa using e
  rw [hcon] at HE
  clear h hx hcon hwf hc hat hmap hown D
  go_enter Tryz.func89, Tryz.ntmps89
  go_wp2_with fail
  refine (check_any g T p ((n : Int) == 0) 31 w H0.out (by decide)).mono ?_
  intro e w1 hp1
  obtain ⟨u1, rfl, ho1, hk1⟩ := hp1.form
  have HS1 := hid (HS.out.kept hk1 (by omega))
  have H1 := hid (And.intro ho1 hk1)
  have h5 := ho1.word
  rw [HW.out] at h5
  clear hp1 ho1 hk1 hrun h4
  obtain ⟨D, hown, hmap, hat⟩ := HS1.out
  obtain ⟨c, hrun, hc, hwf⟩ := hown.lookup_int lawS Tryz.underlying96 Tryz.underlying3 (zeroI w1) hkey
  rw [hat x] at hc
  have hce : c = (L.count x : Int) := by injection hc with e; injection e with _ e; exact e.symm
  subst hce
  rw [hn] at hrun hc
  have hz : IntKind.i64.wrap ((n : Int) + 1) = ((n + 1 : Nat) : Int) := by rw [IntWalk.i64_in _ (by omega)]; omega
  have hval : plainElem (H := Unit) Tryz.prog 3 (.int .i64 ((n + 1 : Nat) : Int)) = some (.lit (.int .i64 ((n + 1 : Nat) : Int)), []) := plainElem_int Tryz.underlying3 (WalkArith.wf_i64 (by omega))
  have HS2 : Hid (∀ w2, w2.ownsMap Tryz.prog 9 (plainElem Tryz.prog 3) b (L.length + 1) (D.put (.string x) (.lit (.int .i64 ((n + 1 : Nat) : Int)))) → Seen w2 b (x :: L)) := by
    intro w2 h2
    refine ⟨_, h2, hmap.put _ _, fun u => ?_⟩
    by_cases e : u = x
    · subst e
      rw [Maps.atKey_put_same hmap (show WideAt.IsKeyLit (.string u) from trivial), List.count_cons_self, hn]
    · rw [Maps.atKey_put_other (by intro h; injection h with h; exact e h), count_cons_other L e]
      exact hat u
  have hL2 : L.length < maxLen := by unfold maxLen; omega
  have HG := hid hgb
  clear hat hmap hc hwf hgb
  go_wp2_with (first | (at_mapUpdate; refine wpList_mapUpdate_own _ rfl _ _ _ 96 rfl 9 3 lawS Tryz.underlying96 _ b L.length _ rfl hown hL2 _ _ _ rfl rfl hkey _ [] hval ?_; intro w2 hown2 hgrow2))
  have HK2 := hid ((Kept.refl (fun k => k = b) w1).grown hgrow2 (fun k hk _ => by cases hk; rfl))
  have HS3 := hid (HS2.out _ hown2)
  have H2 := hid (H1.out.1.kept HK2.out (fun k hk => by rw [hk]; exact HG.out))
  clear hown2 hgrow2 hown hrun hval h5
  refine (step_any g T _ w2 H2.out).mono ?_
  intro e w3 hp3
  obtain ⟨u3, rfl, ho3, hk3⟩ := hp3.form
  have H3 := hid (And.intro ho3 (And.intro (HS3.out.kept hk3 (fun e => Nat.lt_irrefl _ (e ▸ HG.out))) (((H1.out.2.mono (fun k h _ => Or.inl h)).trans HK2.out (fun k h _ => .inr h)).trans hk3 (fun k h _ => .inl h))))
  clear hp3 ho3 hk3
  rw [HE.out] at H3
  go_wp2_with fail
  go_end0
  exact ⟨⟨_, rfl⟩, H3.out⟩
end Go.Proofs.YtffenndchmcncaaGreatDoor
