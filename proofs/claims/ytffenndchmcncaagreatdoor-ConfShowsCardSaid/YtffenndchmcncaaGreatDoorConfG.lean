/-
  Contracts of package conf: the reader's origin, ttl, keep: a site's box.
-/
import Derived.Test.YtffenndchmcncaaGreatDoorConfF
namespace Go.Proofs.YtffenndchmcncaaGreatDoor
open Go.RowKit Go.Pantry

abbrev siteRow (hv : Value) (s : SiteM) : Array Value := #[strV s.host, .int .i64 (s.origin : Int), .int .i64 (s.min : Int), .int .i64 (s.max : Int), .bool s.query, .bool s.keep, hv]
/-- a site's box, and the heads that it owns -/
structure SbAt (w : World) (b : Nat) (hv : Value) (s : SiteM) : Prop where
  row : rowIs w b (siteRow hv s) 42
  own : w.ownsRow 0 9 1 hv s.heads.length (s.heads.map strV)
  apart : In (fun k => b < k) hv
/-- the blocks of a site -/
def Fb (b : Nat) (hv : Value) (k : Nat) : Prop := k = b ∨ hv.ownBlock = some k
theorem SbAt.kept {X : Nat → Prop} {w w' : World} {b : Nat} {hv : Value} {s : SiteM} (h : SbAt w b hv s) (hk : Kept X w w') (hx : ∀ k, Fb b hv k → ¬ X k) : SbAt w' b hv s :=
  ⟨h.row.kept hk (hx b (.inl rfl)), ownsRow_kept h.own hk (fun k hk => hx k (.inr hk)), h.apart⟩
theorem SbAt.below {w w' : World} {b : Nat} {hv : Value} {s : SiteM} (h : SbAt w b hv s) (hb : Below w.heap.size w w') : SbAt w' b hv s := h.kept (Kept.of_below (X := fun _ => False) hb) (fun _ _ h => h)
theorem Fb.ge {w : World} {b : Nat} {hv : Value} {s : SiteM} (h : SbAt w b hv s) {k : Nat} (hk : Fb b hv k) : b ≤ k := by
  rcases hk with rfl | hk
  · exact Nat.le_refl _
  · exact Nat.le_of_lt (h.apart k hk)
theorem Fb.lt {w : World} {b : Nat} {hv : Value} {s : SiteM} (h : SbAt w b hv s) {k : Nat} (hk : Fb b hv k) : k < w.heap.size := by
  rcases hk with rfl | hk
  · exact h.row.lt
  · exact (h.own.lt k hk).2
/-- a slice in the place of another: in its block, or in a new one -/
def Moves (w : World) (hv hv' : Value) : Prop := ∀ k, hv'.ownBlock = some k → hv.ownBlock = some k ∨ w.heap.size ≤ k
theorem Moves.refl (w : World) (hv : Value) : Moves w hv hv := fun _ h => .inl h
theorem Moves.trans {w w1 : World} {a b c : Value} (h : Moves w a b) (k : Moves w1 b c) (hs : w.heap.size ≤ w1.heap.size) : Moves w a c := fun j hj => by
  rcases k j hj with e | e
  · exact h j e
  · exact .inr (Nat.le_trans hs e)
/-- what a rule's rest leaves -/
def SPost (w : World) (g b : Nat) (T : List UInt8) (hv : Value) (r : SiteM × Ps) (e : Ending) (w' : World) : Prop :=
  (∃ u, e = .returned u) ∧ RcOk w' g T r.2 ∧ ∃ hv', SbAt w' b hv' r.1 ∧ Moves w hv hv' ∧ Kept (fun k => k = g ∨ Fb b hv k) w w'
set_option maxRecDepth 4000 in
theorem origin_any (g b : Nat) (T : List UInt8) (p : Ps) (hv : Value) (s : SiteM) (w : World) (h : RcOk w g T p) (hs : SbAt w b hv s) (hgb : g < b) :
    Calls Tryz.prog 115 #[.pointer (some ⟨g, 0, none⟩), .pointer (some ⟨b, 0, none⟩)] w (SPost w g b T hv (originM s p)) := by
  have cn := number_any g T p 1 9 w h (by decide) (by decide)
  have CN := hid cn
  have HS := hid hs
  have HG := hid hgb
  have HE : Hid (originM s p = ({ s with origin := valD (hdW p) }, numM 1 9 p)) := rfl
  obtain ⟨n, hn⟩ : ∃ n, valD (hdW p) = n := ⟨_, rfl⟩
  obtain ⟨q, hq⟩ : ∃ q, numM 1 9 p = q := ⟨_, rfl⟩
  rw [hn, hq] at CN HE
  clear h hs cn hn hq hgb
  go_enter Tryz.func115, Tryz.ntmps115
  go_wp2_with fail
  refine CN.out.mono ?_
  rintro e w1 ⟨rfl, ho1, hk1⟩
  have hs1 : SbAt w1 b hv s := HS.out.kept hk1 (fun k hk e => by have := Fb.ge HS.out hk; have := HG.out; omega)
  have hc := hs1.row.cell 1
  have hf := hs1.row.free 1
  have HF : Hid (RcOk (w1.setCell ⟨b, 1, none⟩ (.int .i64 (n : Int))) g T q ∧ SbAt (w1.setCell ⟨b, 1, none⟩ (.int .i64 (n : Int))) b hv { s with origin := n } ∧ Kept (fun k => k = g ∨ Fb b hv k) w (w1.setCell ⟨b, 1, none⟩ (.int .i64 (n : Int)))) := by
    have kk := (Kept.refl (fun k => k = b) w1).setCell (i := 1) (.inl rfl) (.int .i64 (n : Int))
    refine ⟨ho1.kept kk (fun k hk => by rw [hk]; exact HG.out), ⟨hs1.row.setCell 1 _, ?_, hs1.apart⟩, ?_⟩
    · exact ownsRow_kept hs1.own kk (fun k hk e => by have := hs1.apart k hk; omega)
    · exact (hk1.mono (fun k h _ => Or.inl h)).trans kk (fun k h _ => .inr (.inl h))
  clear ho1 hk1 hs1
  go_wp2
  go_end0
  refine ⟨⟨_, rfl⟩, ?_⟩
  rw [HE.out]
  exact ⟨HF.out.1, hv, HF.out.2.1, Moves.refl _ _, HF.out.2.2⟩
/-- a cell of a site's box but that of its heads -/
theorem SbAt.set {w : World} {b g : Nat} {hv : Value} {s s' : SiteM} {T : List UInt8} {q : Ps} (hs : SbAt w b hv s) (ho : RcOk w g T q) (hgb : g < b) (i : Nat) (v : Value) (hrow : (siteRow hv s).setIfInBounds i v = siteRow hv s') (hh : s'.heads = s.heads) :
    RcOk (w.setCell ⟨b, i, none⟩ v) g T q ∧ SbAt (w.setCell ⟨b, i, none⟩ v) b hv s' ∧ Kept (fun k => k = b) w (w.setCell ⟨b, i, none⟩ v) := by
  have kk := (Kept.refl (fun k => k = b) w).setCell (i := i) (.inl rfl) v
  refine ⟨ho.kept kk (fun k hk => by rw [hk]; exact hgb), ⟨?_, ?_, hs.apart⟩, kk⟩
  · have := hs.row.setCell i v
    rw [hrow] at this
    exact this
  · rw [hh]
    exact ownsRow_kept hs.own kk (fun k hk e => by have := hs.apart k hk; omega)
theorem SbAt.other {w w' : World} {b g : Nat} {hv : Value} {s : SiteM} (h : SbAt w b hv s) (hk : Kept (fun k => k = g) w w') (hgb : g < b) : SbAt w' b hv s :=
  h.kept hk (fun k hf e => by have := Fb.ge h hf; omega)
theorem kept_s {w w1 w2 : World} {g b : Nat} {hv : Value} (h : Kept (fun k => k = g ∨ Fb b hv k) w w1) (k : Kept (fun k => k = g) w1 w2) : Kept (fun k => k = g ∨ Fb b hv k) w w2 := h.trans k (fun _ h _ => .inl h)
theorem kept_b {w w1 w2 : World} {g b : Nat} {hv : Value} (h : Kept (fun k => k = g ∨ Fb b hv k) w w1) (k : Kept (fun k => k = b) w1 w2) : Kept (fun k => k = g ∨ Fb b hv k) w w2 := h.trans k (fun _ h _ => .inr (.inl h))
theorem kept_0 (w : World) (g b : Nat) (hv : Value) : Kept (fun k => k = g ∨ Fb b hv k) w w := Kept.refl _ w
set_option maxRecDepth 4000 in
theorem ttl_any (g b : Nat) (T : List UInt8) (p : Ps) (hv : Value) (s : SiteM) (w : World) (h : RcOk w g T p) (hs : SbAt w b hv s) (hgb : g < b) :
    Calls Tryz.prog 116 #[.pointer (some ⟨g, 0, none⟩), .pointer (some ⟨b, 0, none⟩)] w (SPost w g b T hv (ttlM s p)) := by
  have cn := number_any g T p 0 2147483648 w h (by decide) (by decide)
  have hvb := valD_bound (hdW p)
  have CN := hid cn
  have HS := hid hs
  have HG := hid hgb
  have HE : Hid (ttlM s p = ({ s with min := valD (hdW p), max := valD (hdW (numM 0 2147483648 p)) }, numM (valD (hdW p)) 2147483648 (numM 0 2147483648 p))) := rfl
  obtain ⟨n, hn⟩ : ∃ n, valD (hdW p) = n := ⟨_, rfl⟩
  obtain ⟨q, hq⟩ : ∃ q, numM 0 2147483648 p = q := ⟨_, rfl⟩
  rw [hn, hq] at CN HE
  rw [hn] at hvb
  clear h hs cn hn hq hgb
  go_enter Tryz.func116, Tryz.ntmps116
  go_wp2_with fail
  refine CN.out.mono ?_
  rintro e w1 ⟨rfl, ho1, hk1⟩
  have hs1 : SbAt w1 b hv s := HS.out.other hk1 HG.out
  have hc := hs1.row.cell 2
  have hf := hs1.row.free 2
  obtain ⟨A1, A2, A3⟩ := hs1.set (s' := { s with min := n }) ho1 HG.out 2 (.int .i64 (n : Int)) rfl rfl
  have AK := kept_b (kept_s (kept_0 w g b hv) hk1) A3
  obtain ⟨W, hW⟩ : ∃ W, w1.setCell ⟨b, 2, none⟩ (.int .i64 (n : Int)) = W := ⟨_, rfl⟩
  rw [hW] at A1 A2 AK
  have c2 := A2.row.cell 2
  have cn2 := number_any g T q n 2147483648 W A1 hvb (by decide)
  have CN2 := hid cn2
  have HF := hid (And.intro A2 AK)
  have HW := hid hW
  clear ho1 hk1 hs1 A1 A2 A3 AK cn2 hW
  go_wp2_with fail
  try rw [HW.out]
  go_wp2_with fail
  refine CN2.out.mono ?_
  rintro e w2 ⟨rfl, ho2, hk2⟩
  have hs2 := HF.out.1.other hk2 HG.out
  have d2 := hs2.row.cell 3
  have df := hs2.row.free 3
  obtain ⟨m, hm⟩ : ∃ m, valD (hdW q) = m := ⟨_, rfl⟩
  rw [hm] at HE
  obtain ⟨B1, B2, B3⟩ := hs2.set (s' := { s with min := n, max := m }) ho2 HG.out 3 (.int .i64 (m : Int)) rfl rfl
  have HR := hid (And.intro B1 (And.intro B2 (kept_b (kept_s HF.out.2 hk2) B3)))
  clear ho2 hk2 hs2 B1 B2 B3 c2 hc hf
  rw [hm]
  go_wp2
  go_end0
  refine ⟨⟨_, rfl⟩, ?_⟩
  rw [HE.out]
  exact ⟨HR.out.1, hv, HR.out.2.1, Moves.refl _ _, HR.out.2.2⟩
set_option maxRecDepth 4000 in
theorem keep_any (g b : Nat) (T : List UInt8) (p : Ps) (hv : Value) (s : SiteM) (w : World) (h : RcOk w g T p) (hs : SbAt w b hv s) (hgb : g < b) :
    Calls Tryz.prog 118 #[.pointer (some ⟨g, 0, none⟩), .pointer (some ⟨b, 0, none⟩)] w (SPost w g b T hv (keepM s p)) := by
  have h4 := h.word
  have HE : Hid (keepM s p = ({ s with keep := hdW p == ([111, 110] : List UInt8) }, stp (chk (hdW p == ([111, 110] : List UInt8) || hdW p == ([111, 102, 102] : List UInt8)) 30 p))) := rfl
  obtain ⟨x, hx⟩ : ∃ x, hdW p = x := ⟨_, rfl⟩
  rw [hx] at HE h4
  obtain ⟨k1, hk1⟩ : ∃ k, (x == ([111, 110] : List UInt8)) = k := ⟨_, rfl⟩
  obtain ⟨k2, hk2⟩ : ∃ k, (x == ([111, 102, 102] : List UInt8)) = k := ⟨_, rfl⟩
  rw [hk1, hk2] at HE
  have hc := hs.row.cell 5
  have hf := hs.row.free 5
  have HG := hid hgb
  obtain ⟨A1, A2, A3⟩ := hs.set (s' := { s with keep := k1 }) h hgb 5 (.bool k1) rfl rfl
  have AK := kept_b (kept_0 w g b hv) A3
  obtain ⟨W, hW⟩ : ∃ W, w.setCell ⟨b, 5, none⟩ (.bool k1) = W := ⟨_, rfl⟩
  rw [hW] at A1 A2 AK
  have c5 := A2.row.cell 5
  have c4 := A1.word
  rw [hx] at c4
  have ck := check_any g T p (k1 || k2) 30 W A1 (by decide)
  have CK := hid ck
  have HF := hid (And.intro A2 AK)
  have HW := hid hW
  clear h hs hx hgb A1 A2 A3 AK ck hW
  cases k1
  all_goals
    go_enter Tryz.func118, Tryz.ntmps118
    go_wp2_with fail
    try rw [HW.out]
    go_wp2_with fail
    refine CK.out.mono ?_
    intro e w1 hp1
    obtain ⟨u1, rfl, ho1, hk1⟩ := hp1.form
    have H1 := hid (And.intro ho1 (And.intro (HF.out.1.other hk1 HG.out) (kept_s HF.out.2 hk1)))
    clear hp1 ho1 hk1
    go_wp2_with fail
    refine (step_any g T _ w1 H1.out.1).mono ?_
    intro e w2 hp2
    obtain ⟨u2, rfl, ho2, hk2⟩ := hp2.form
    have H2 := hid (And.intro ho2 (And.intro (H1.out.2.1.other hk2 HG.out) (kept_s H1.out.2.2 hk2)))
    clear hp2 ho2 hk2
    go_wp2_with fail
    go_end0
    refine ⟨⟨_, rfl⟩, ?_⟩
    rw [HE.out]
    exact ⟨H2.out.1, hv, H2.out.2.1, Moves.refl _ _, H2.out.2.2⟩
end Go.Proofs.YtffenndchmcncaaGreatDoor
