/-
  The document's reader, as words that are left: word, fail, step, must.
-/
import Derived.Test.YtenijpcjemdhfaaGreatDoorP10dRef9X
import Derived.StillTailTactics
import Derived.Test.YtenijpcjemdhfaaGreatDoorP10d06
import Derived.Test.YtenijpcjemdhfaaGreatDoorPurePlan
import Derived.Deep.QuietTactic
import Derived.BigQuiet
namespace Go.Pantry
open Go.RowKit
/-- the document's words, and the last that is empty -/
def docW (T : List UInt8) : List (List UInt8) := textW T ++ [[]]
def docL (T : List UInt8) : List Nat := (List.range ((textW T).length + 1)).map (lineN T)
theorem docW_len (T : List UInt8) : (docW T).length = (textW T).length + 1 := by simp [docW]
theorem docL_len (T : List UInt8) : (docL T).length = (textW T).length + 1 := by simp [docL]
theorem docW_at {T : List UInt8} {i : Nat} (h : i ≤ (textW T).length) : ∃ x, (docW T)[i]? = some x ∧ x = ((textW T).drop i).headD [] := by
  unfold docW
  by_cases e : i < (textW T).length
  · refine ⟨(textW T)[i], by rw [List.getElem?_append_left e, List.getElem?_eq_getElem e], ?_⟩
    rw [List.drop_eq_getElem_cons e]
    rfl
  · have : i = (textW T).length := by omega
    subst this
    refine ⟨[], by simp, ?_⟩
    rw [List.drop_length]; rfl
theorem docL_at {T : List UInt8} {i : Nat} (h : i ≤ (textW T).length) : (docL T)[i]? = some (lineK T ((textW T).length - i)) := by
  unfold docL
  rw [List.getElem?_map, List.getElem?_range (by omega)]
  rfl
theorem wordsF_each : ∀ (n : Nat) (s : List UInt8), ∀ x ∈ wordsF n s, x.length ≤ s.length
  | 0, s => by intro x hx; rw [wordsF] at hx; exact absurd hx List.not_mem_nil
  | n + 1, s => by
    rw [wordsF]
    split
    · intro x hx; exact absurd hx List.not_mem_nil
    · intro x hx
      rcases List.mem_cons.1 hx with rfl | hx
      · exact wordL_len s
      · refine Nat.le_trans (wordsF_each n _ x hx) (Nat.le_trans (skipL_le _ _) ?_)
        rw [List.length_drop]; omega
theorem docW_short {T x : List UInt8} (h : x ∈ docW T) : x.length ≤ T.length := by
  unfold docW at h
  rcases List.mem_append.1 h with h | h
  · exact Nat.le_trans (wordsF_each _ _ x h) (skipL_le _ _)
  · rw [List.mem_singleton] at h; subst h; exact Nat.zero_le _
theorem chk_code {b : Bool} {c : Nat} {p : Ps} (h : p.code ≠ 0) : (chk b c p).code ≠ 0 := by rw [chk_off h]; exact h
end Go.Pantry
namespace Go.Proofs.YtenijpcjemdhfaaGreatDoor
open Go.RowKit Go.Pantry

/-- the document's reader in its box g, all of its blocks below D: as p says -/
structure Dc (w : World) (g D : Nat) (T : List UInt8) (p : Ps) : Prop where
  few : T.length ≤ 4096
  lt : g < D
  ex : ∃ wv lv i a, PAt w g wv lv (docW T) (docL T) i p.code a ∧ In (fun k => k < D) wv ∧ In (fun k => k < D) lv ∧ i ≤ (textW T).length ∧ (p.code = 0 → p.ws = (textW T).drop i) ∧ (p.code ≠ 0 → a = lineK T p.pos)
theorem Dc.kept {X : Nat → Prop} {w w' : World} {g D : Nat} {T : List UInt8} {p : Ps} (h : Dc w g D T p) (hk : Kept X w w') (hx : ∀ k, k < D → ¬ X k) : Dc w' g D T p := by
  obtain ⟨wv, lv, i, a, hp, h1, h2, h3⟩ := h.ex
  exact ⟨h.few, h.lt, wv, lv, i, a, ⟨hp.row.kept hk (hx g h.lt), ownsRow_kept hp.ow hk (fun k e => hx k (h1 k e)), ownsRow_kept hp.ol hk (fun k e => hx k (h2 k e)), hp.aw, hp.al, hp.ne⟩, h1, h2, h3⟩
theorem Dc.below {w w' : World} {g D : Nat} {T : List UInt8} {p : Ps} (h : Dc w g D T p) (hb : Below w.heap.size w w') : Dc w' g D T p := h.kept (Kept.of_below (X := fun _ => False) hb) (fun _ _ h => h)
theorem PAt.set {w : World} {g : Nat} {wv lv : Value} {W : List (List UInt8)} {Ln : List Nat} {i c a i' c' a' : Nat} (h : PAt w g wv lv W Ln i c a) (j : Nat) (v : Value) (hrow : (pRow wv lv i c a).setIfInBounds j v = pRow wv lv i' c' a') : PAt (w.setCell ⟨g, j, none⟩ v) g wv lv W Ln i' c' a' := by
  have kk := (Kept.refl (fun k => k = g) w).setCell (i := j) (.inl rfl) v
  refine ⟨?_, ownsRow_kept h.ow kk (fun k hk e => by have := h.aw k hk; omega), ownsRow_kept h.ol kk (fun k hk e => by have := h.al k hk; omega), h.aw, h.al, h.ne⟩
  have := h.row.setCell j v
  rw [hrow] at this
  exact this
set_option maxRecDepth 8000 in
theorem docWord_any (g D : Nat) (T : List UInt8) (p : Ps) (w : World) (h : Dc w g D T p) :
    Calls Tryz.prog 56 #[.pointer (some ⟨g, 0, none⟩)] w fun e w' => (∃ x, e = .returned (strV x) ∧ (p.code = 0 → x = hdW p) ∧ x.length ≤ 4096) ∧ Below w.heap.size w w' := by
  obtain ⟨wv, lv, i, a, hp, h1, h2, hi, hws, ha⟩ := h.ex
  obtain ⟨x, hx, hxe⟩ := docW_at hi
  obtain ⟨aw, cw, ew, f1, -⟩ := hp.ow.reads
  rw [List.length_map, docW_len] at ew
  have hxm : ((docW T).map strV)[i]? = some (strV x) := by rw [List.getElem?_map, hx]; rfl
  obtain ⟨b1, o1, g1, i1⟩ := f1 i _ hxm
  subst g1 ew
  obtain ⟨n, hn⟩ : ∃ n, (textW T).length + 1 = n := ⟨_, rfl⟩
  have c0 : w.cell? ⟨g, 0, none⟩ = some (.slice (some ⟨b1, o1, none⟩) n cw) := by rw [← hn]; exact hp.row.cell 0
  have c2 : w.cell? ⟨g, 2, none⟩ = some (.int .i64 (i : Int)) := hp.row.cell 2
  have d1 : w.cell? ⟨b1, o1 + i, none⟩ = some (strV x) := i1
  have hi0 : (0 : Int) ≤ (i : Int) := by omega
  have hiI : (i : Int) < (n : Int) := by omega
  have HX := hid (show (p.code = 0 → x = hdW p) ∧ x.length ≤ 4096 from ⟨fun e => by rw [hxe, ← hws e]; rfl, Nat.le_trans (docW_short (List.mem_of_getElem? hx)) h.few⟩)
  clear h hp h1 h2 hi hws ha hx hxe f1 hxm i1 hn
  go_enter Tryz.func56, Tryz.ntmps56
  go_wp2_with fail
  go_quiet (fail)
  go_wp2_with fail
  go_ret
  exact ⟨⟨x, rfl, HX.out.1, HX.out.2⟩, below_drewN (Below.refl _ _) _⟩
set_option maxRecDepth 8000 in
theorem docFail_any (g D k : Nat) (T : List UInt8) (p : Ps) (w : World) (h : Dc w g D T p) (hk0 : k ≠ 0) :
    Calls Tryz.prog 57 #[.pointer (some ⟨g, 0, none⟩), .int .i64 (k : Int)] w fun e w' => (∃ u, e = .returned u) ∧ Dc w' g D T (chk false k p) ∧ Kept (fun k => k = g) w w' := by
  have HD := hid h
  obtain ⟨wv, lv, i, a, hp, h1, h2, hi, hws, ha⟩ := h.ex
  obtain ⟨c, hc⟩ : ∃ c, p.code = c := ⟨_, rfl⟩
  have HC := hid hc
  rw [hc] at hp
  have c3 : w.cell? ⟨g, 3, none⟩ = some (.int .i64 (c : Int)) := hp.row.cell 3
  by_cases h0 : c = 0
  rotate_left
  · have z1 : ((c : Int) == 0) = false := by simp; omega
    have HO := hid (show chk false k p = p from chk_off (by rw [hc]; exact h0))
    clear h hp h1 h2 hi hws ha hc h0 hk0
    go_enter Tryz.func57, Tryz.ntmps57
    go_wp2_with fail
    go_end0
    exact ⟨⟨_, rfl⟩, by rw [HO.out]; exact HD.out, Kept.refl _ _⟩
  subst h0
  obtain ⟨al, cl, el, f1, -⟩ := hp.ol.reads
  rw [List.length_map, docL_len] at el
  have hlm : ((docL T).map fun n : Nat => Value.int .i64 (n : Int))[i]? = some (.int .i64 ((lineK T ((textW T).length - i) : Nat) : Int)) := by rw [List.getElem?_map, docL_at hi]; rfl
  obtain ⟨b1, o1, g1, -⟩ := f1 i _ hlm
  subst g1
  obtain ⟨n, hn⟩ : ∃ n, (textW T).length + 1 = n := ⟨_, rfl⟩
  obtain ⟨ln, hln⟩ : ∃ l, lineK T ((textW T).length - i) = l := ⟨_, rfl⟩
  rw [hn] at el
  rw [hln] at hlm
  subst el
  have f3 := hp.row.free 3
  have hp2 : PAt (w.setCell ⟨g, 3, none⟩ (.int .i64 (k : Int))) g wv (.slice (some ⟨b1, o1, none⟩) n cl) (docW T) (docL T) i k a := hp.set 3 _ rfl
  obtain ⟨W1, hW1⟩ : ∃ W, w.setCell ⟨g, 3, none⟩ (.int .i64 (k : Int)) = W := ⟨_, rfl⟩
  have hkk : Kept (fun k => k = g) w W1 := by rw [← hW1]; exact (Kept.refl (fun k => k = g) w).setCell (i := 3) (.inl rfl) _
  rw [hW1] at hp2
  have HP2 := hid hp2
  have HW := hid (And.intro hW1 hkk)
  have HCL : Hid (∀ W, PAt W g wv (.slice (some ⟨b1, o1, none⟩) n cl) (docW T) (docL T) i k a → W.cell? ⟨b1, o1 + i, none⟩ = some (.int .i64 (ln : Int))) := fun W hS => by
    obtain ⟨al', cl', el', f1', -⟩ := hS.ol.reads
    injection el' with e1 e2 e3
    obtain ⟨b', o', g', i'⟩ := f1' i _ hlm
    rw [← e1] at g'
    injection g' with g'
    injection g' with g1' g2'
    subst g1' g2'
    exact i'
  have hi0 : (0 : Int) ≤ (i : Int) := by omega
  have hiI : (i : Int) < (n : Int) := by omega
  have HR := hid (show chk false k p = ⟨k, (textW T).length - i, p.ws⟩ ∧ lineK T ((textW T).length - i) = ln from ⟨by rw [chk_no hc, hws hc, List.length_drop], hln⟩)
  have HI := hid (And.intro h1 (And.intro h2 (And.intro hi (And.intro hk0 (And.intro h.few h.lt)))))
  clear h hp h1 h2 hi hws ha hc f1 hn hln hp2 hW1 hkk hlm hk0
  go_enter Tryz.func57, Tryz.ntmps57
  go_upto_region 2 with fail
  try change Code.wp _ _ _ _ (w.setCell ⟨g, 3, none⟩ (.int .i64 (k : Int)))
  rw [HW.out.1]
  clear c3 f3
  have c1 := HP2.out.row.cell 1
  have c2 := HP2.out.row.cell 2
  have clx := HCL.out W1 HP2.out
  refine wp_region_still_tail 11 (by kernel_rfl) (by kernel_rfl) ?_
  simp only [List.take_succ_cons, List.take_zero, List.drop_succ_cons, List.drop_zero]
  repeat still_step
  refine wpStill_nil ?_
  change wpList _ _ _ _ _ W1.drew
  have hH : PAt W1.drew g wv (.slice (some ⟨b1, o1, none⟩) n cl) (docW T) (docL T) i k a ∧ Kept (fun j => j = g) w W1.drew := ⟨HP2.out.below (Below.refl _ _).drew, HW.out.2.trans (Kept.of_below (X := fun _ => False) (Below.refl _ _).drew) (fun k h _ => h.elim)⟩
  generalize W1.drew = W2 at hH ⊢
  clear c1 c2 clx
  have c4 := hH.1.row.cell 4
  have f4 := hH.1.row.free 4
  have h4 : PAt (W2.setCell ⟨g, 4, none⟩ (.int .i64 (ln : Int))) g wv (.slice (some ⟨b1, o1, none⟩) n cl) (docW T) (docL T) i k ln := hH.1.set 4 _ rfl
  have k4 := hH.2.setCell (g := g) (i := 4) (.inl rfl) (.int .i64 (ln : Int))
  have H4 := hid (And.intro h4 k4)
  clear h4 k4 hH
  go_wp2_with fail
  go_end0
  refine ⟨⟨_, rfl⟩, ?_, H4.out.2⟩
  obtain ⟨h1, h2, hi, hk0, hf, hl⟩ := HI.out
  rw [HR.out.1]
  exact ⟨hf, hl, _, _, i, ln, H4.out.1, h1, h2, hi, fun e => absurd e hk0, fun _ => HR.out.2.symm⟩
set_option maxRecDepth 8000 in
theorem docStep_any (g D : Nat) (T : List UInt8) (p : Ps) (w : World) (h : Dc w g D T p) :
    Calls Tryz.prog 60 #[.pointer (some ⟨g, 0, none⟩)] w fun e w' => (∃ u, e = .returned u) ∧ Dc w' g D T (stp p) ∧ Kept (fun k => k = g) w w' := by
  have hfew := h.few
  have hgD := h.lt
  obtain ⟨wv, lv, i, a, hp, h1, h2, hi, hws, ha⟩ := h.ex
  obtain ⟨c, hc⟩ : ∃ c, p.code = c := ⟨_, rfl⟩
  rw [hc] at hp
  obtain ⟨aw, cw, ew⟩ := hp.ow.reads.form
  rw [List.length_map, docW_len] at ew
  obtain ⟨n, hn⟩ : ∃ n, (textW T).length + 1 = n := ⟨_, rfl⟩
  rw [hn] at ew
  subst ew
  have hlen := textW_len T
  have c3 : w.cell? ⟨g, 3, none⟩ = some (.int .i64 (c : Int)) := hp.row.cell 3
  have HP := hid hp
  have hiw : IntKind.i64.wrap ((i : Int) + 1) = (i : Int) + 1 := IntWalk.i64_in _ (by omega)
  by_cases h0 : c = 0
  rotate_left
  · have z1 : ((c : Int) == 0) = false := by simp; omega
    have HO := hid (show Dc w g D T (stp p) from ⟨hfew, hgD, _, lv, i, a, by show PAt w g _ _ _ _ i p.code a; rw [hc]; exact hp, h1, h2, hi, fun e => absurd (hc.symm.trans e) h0, fun _ => ha (by rw [hc]; exact h0)⟩)
    clear h hp h1 h2 hi hws ha hc h0 hn hlen hiw hfew hgD
    go_enter Tryz.func60, Tryz.ntmps60
    go_wp2_with fail
    go_quiet (fail)
    go_wp2_with fail
    go_end0
    exact ⟨⟨_, rfl⟩, HO.out.below (below_drewN (Below.refl _ _) _), Kept.of_below (below_drewN (Below.refl _ _) _)⟩
  subst h0
  have c0 : w.cell? ⟨g, 0, none⟩ = some (.slice aw n cw) := hp.row.cell 0
  have c2 : w.cell? ⟨g, 2, none⟩ = some (.int .i64 (i : Int)) := hp.row.cell 2
  by_cases hl : i < (textW T).length
  · have d1 : decide ((i : Int) + 1 < (n : Int)) = true := decide_eq_true (by omega)
    have HO := hid (And.intro hfew (And.intro hgD (And.intro h1 (And.intro h2 (And.intro hl (And.intro hws hc))))))
    clear h hp h1 h2 hi hws ha hc hn hlen hfew hgD hl
    go_enter Tryz.func60, Tryz.ntmps60
    go_wp2_with fail
    go_quiet (fail)
    generalize hW : w.drewN _ = W
    have hbW : Below w.heap.size w W := by rw [← hW]; exact below_drewN (Below.refl _ _) _
    clear hW c0 c2 c3
    have hp2 := HP.out.below hbW
    have c2 := hp2.row.cell 2
    have f2 := hp2.row.free 2
    have hp3 : PAt (W.setCell ⟨g, 2, none⟩ (.int .i64 ((i : Int) + 1))) g _ lv (docW T) (docL T) (i + 1) 0 a := hp2.set 2 _ rfl
    have k3 : Kept (fun k => k = g) w (W.setCell ⟨g, 2, none⟩ (.int .i64 ((i : Int) + 1))) := (Kept.of_below (X := fun k => k = g) hbW).setCell (g := g) (i := 2) (.inl rfl) _
    have H3 := hid (And.intro hp3 k3)
    clear hp2 hp3 k3 hbW
    go_wp2_with fail
    go_end0
    obtain ⟨hfew, hgD, h1, h2, hl, hws, hc⟩ := HO.out
    refine ⟨⟨_, rfl⟩, ⟨hfew, hgD, _, lv, i + 1, a, by show PAt _ g _ _ _ _ _ p.code a; rw [hc]; exact H3.out.1, h1, h2, hl, fun e => ?_, fun e => absurd hc e⟩, H3.out.2⟩
    show p.ws.tail = _
    rw [hws hc, List.tail_drop]
  · have d1 : decide ((i : Int) + 1 < (n : Int)) = false := decide_eq_false (by omega)
    have hil : i = (textW T).length := by omega
    have HO := hid (show Dc w g D T (stp p) from ⟨hfew, hgD, _, lv, i, a, by show PAt w g _ _ _ _ i p.code a; rw [hc]; exact hp, h1, h2, hi, fun e => by
      show p.ws.tail = _
      rw [hws hc, hil, List.drop_length]; rfl, fun e => absurd hc e⟩)
    clear h hp h1 h2 hi hws ha hc hn hlen hfew hgD hl hil
    go_enter Tryz.func60, Tryz.ntmps60
    go_wp2_with fail
    go_quiet (fail)
    go_wp2_with fail
    go_end0
    exact ⟨⟨_, rfl⟩, HO.out.below (below_drewN (Below.refl _ _) _), Kept.of_below (below_drewN (Below.refl _ _) _)⟩
/-- behind a fault the words do not matter -/
theorem Dc.off {w : World} {g D : Nat} {T : List UInt8} {p q : Ps} (h : Dc w g D T p) (h0 : p.code ≠ 0) (hc : q.code = p.code) (hq : q.pos = p.pos) : Dc w g D T q := by
  obtain ⟨wv, lv, i, a, hp, h1, h2, hi, hws, ha⟩ := h.ex
  exact ⟨h.few, h.lt, wv, lv, i, a, by rw [hc]; exact hp, h1, h2, hi, fun e => absurd (hc.symm.trans e) h0, fun _ => by rw [hq]; exact ha h0⟩
theorem Dc.code {w : World} {g D : Nat} {T : List UInt8} {p : Ps} (h : Dc w g D T p) : w.cell? ⟨g, 3, none⟩ = some (.int .i64 (p.code : Int)) := by
  obtain ⟨wv, lv, i, a, hp, -⟩ := h.ex
  exact hp.row.cell 3
/-- what a method without a result leaves -/
def DcPost (w : World) (g D : Nat) (T : List UInt8) (q : Ps) (e : Ending) (w' : World) : Prop := (∃ u, e = .returned u) ∧ Dc w' g D T q ∧ Kept (fun k => k = g) w w'
set_option maxRecDepth 8000 in
theorem docMust_any (g D : Nat) (T x : List UInt8) (p : Ps) (w : World) (h : Dc w g D T p) :
    Calls Tryz.prog 58 #[.pointer (some ⟨g, 0, none⟩), strV x] w (DcPost w g D T (expM x p)) := by
  have HD := hid h
  obtain ⟨wv, lv, i, a, hp, -⟩ := h.ex
  obtain ⟨c, hc⟩ : ∃ c, p.code = c := ⟨_, rfl⟩
  have c3 : w.cell? ⟨g, 3, none⟩ = some (.int .i64 (c : Int)) := by rw [← hc]; exact hp.row.cell 3
  have CW := hid (docWord_any g D T p w h)
  by_cases h0 : c = 0
  rotate_left
  · have z1 : ((c : Int) == 0) = false := by simp; omega
    have HO := hid (show expM x p = stp p by unfold expM; rw [chk_off (by rw [hc]; exact h0)])
    clear h hp hc h0
    go_enter Tryz.func58, Tryz.ntmps58
    go_wp2_with fail
    refine (docStep_any g D T p w HD.out).mono ?_
    rintro e w1 ⟨⟨u9, rfl⟩, hd1, hk1⟩
    have H1 := hid (And.intro hd1 hk1)
    clear hd1 hk1
    go_wp2_with fail
    go_end0
    exact ⟨⟨_, rfl⟩, by rw [HO.out]; exact H1.out.1, H1.out.2⟩
  subst h0
  have HC := hid hc
  clear h hp hc
  go_enter Tryz.func58, Tryz.ntmps58
  go_wp2_with fail
  refine CW.out.mono ?_
  rintro e w1 ⟨⟨y, rfl, hy, -⟩, hb1⟩
  have hyy := hy HC.out
  have HB1 := hid hb1
  clear hb1 c3 hy
  by_cases hxy : y = x
  · have z1 : (y == x) = true := by simpa using hxy
    have z2 : (y != x) = false := by simpa using hxy
    have HO := hid (show expM x p = stp p by unfold expM; rw [← hyy, z1, chk_true])
    clear hxy hyy
    go_wp2_with fail
    refine (docStep_any g D T p w1 (HD.out.below HB1.out)).mono ?_
    rintro e w2 ⟨⟨u9, rfl⟩, hd1, hk1⟩
    have H1 := hid (And.intro hd1 ((Kept.of_below (X := fun k => k = g) HB1.out).trans hk1 (fun k h _ => h)))
    clear hd1 hk1
    go_wp2_with fail
    go_end0
    exact ⟨⟨_, rfl⟩, by rw [HO.out]; exact H1.out.1, H1.out.2⟩
  · have z1 : (y == x) = false := by simpa using hxy
    have z2 : (y != x) = true := by simpa using hxy
    have HO := hid (show expM x p = stp (chk false 30 p) by unfold expM; rw [← hyy, z1])
    clear hxy hyy
    go_wp2_with fail
    refine (docFail_any g D 30 T p w1 (HD.out.below HB1.out) (by decide)).mono ?_
    rintro e w2 ⟨⟨u, rfl⟩, hd1, hk1⟩
    have H1 := hid (And.intro hd1 ((Kept.of_below (X := fun k => k = g) HB1.out).trans hk1 (fun k h _ => h)))
    clear hd1 hk1
    go_wp2_with fail
    refine (docStep_any g D T _ w2 H1.out.1).mono ?_
    rintro e w3 ⟨⟨u9, rfl⟩, hd1, hk1⟩
    have H2 := hid (And.intro hd1 (H1.out.2.trans hk1 (fun k h _ => h)))
    clear hd1 hk1
    go_wp2_with fail
    go_end0
    exact ⟨⟨_, rfl⟩, by rw [HO.out]; exact H2.out.1, H2.out.2⟩
end Go.Proofs.YtenijpcjemdhfaaGreatDoor
