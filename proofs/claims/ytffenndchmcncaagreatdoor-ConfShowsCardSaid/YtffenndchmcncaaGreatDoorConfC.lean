/-
  Contracts of package conf: the reader's faultless, check, step, expect.
-/
import Derived.Test.YtffenndchmcncaaGreatDoorConfB
import Derived.Test.YtffenndchmcncaaGreatDoorPureAll3
namespace Go.Proofs.YtffenndchmcncaaGreatDoor
open Go.RowKit Go.Pantry

/-- a fault's line, as it is kept -/
def lineP (T : List UInt8) (p : Ps) : Nat := if p.code = 0 then 0 else lineK T p.pos
abbrev rcRow (T : List UInt8) (p : Ps) (s : List UInt8) : Array Value := #[.int .i64 (p.code : Int), .int .i64 (lineP T p : Int), strV T, .int .i64 ((T.length - s.length : Nat) : Int), strV (wordL s)]
/-- a reader's box -/
structure RcAt (w : World) (g : Nat) (T : List UInt8) (p : Ps) (s : List UInt8) : Prop where
  place : Spot T s
  words : p.ws = wordsL s
  row : rowIs w g (rcRow T p s) 90
theorem RcAt.below {w w' : World} {g : Nat} {T : List UInt8} {p : Ps} {s : List UInt8} (h : RcAt w g T p s) (hb : Below w.heap.size w w') : RcAt w' g T p s := ⟨h.place, h.words, h.row.below hb⟩
theorem RcAt.kept {X : Nat → Prop} {w w' : World} {g : Nat} {T : List UInt8} {p : Ps} {s : List UInt8} (h : RcAt w g T p s) (hk : Kept X w w') (hx : ¬ X g) : RcAt w' g T p s := ⟨h.place, h.words, h.row.kept hk hx⟩
/-- what the library's calls ask of the world, below a block -/
def Env (g : Nat) (w : World) : Prop := ∃ w0 : World, MaxOk w0 ∧ Tab10 w0 ∧ w0.heap.size ≤ g ∧ Below w0.heap.size w0 w
theorem Env.kept {X : Nat → Prop} {w w' : World} {g : Nat} (h : Env g w) (hk : Kept X w w') (hx : ∀ k, X k → g ≤ k) : Env g w' := by
  obtain ⟨w0, h1, h2, h3, h4⟩ := h
  exact ⟨w0, h1, h2, h3, h4.trans (hk.below (fun k hX _ => Nat.le_trans h3 (hx k hX)) h4.size)⟩
theorem Env.below {w w' : World} {g : Nat} (h : Env g w) (hb : Below w.heap.size w w') : Env g w' := h.kept (Kept.of_below (X := fun _ => False) hb) (fun _ h => h.elim)
theorem Env.max {w : World} {g : Nat} (h : Env g w) : MaxOk w := let ⟨_, h1, _, _, h4⟩ := h; h1.below h4
theorem Env.tab {w : World} {g : Nat} (h : Env g w) : Tab10 w := let ⟨_, _, h2, _, h4⟩ := h; h2.below h4
theorem Env.mono {w : World} {g g' : Nat} (h : Env g w) (hg : g ≤ g') : Env g' w := let ⟨w0, h1, h2, h3, h4⟩ := h; ⟨w0, h1, h2, Nat.le_trans h3 hg, h4⟩
/-- a reader of a text, as far as it is -/
structure RcOk (w : World) (g : Nat) (T : List UInt8) (p : Ps) : Prop where
  at_ : ∃ s, RcAt w g T p s
  len : T.length ≤ 4096
  env : Env g w
theorem RcOk.kept {X : Nat → Prop} {w w' : World} {g : Nat} {T : List UInt8} {p : Ps} (h : RcOk w g T p) (hk : Kept X w w') (hx : ∀ k, X k → g < k) : RcOk w' g T p := by
  obtain ⟨s, hs⟩ := h.at_
  exact ⟨⟨s, hs.kept hk (fun e => Nat.lt_irrefl _ (hx g e))⟩, h.len, h.env.kept hk (fun k hX => Nat.le_of_lt (hx k hX))⟩
theorem RcOk.below {w w' : World} {g : Nat} {T : List UInt8} {p : Ps} (h : RcOk w g T p) (hb : Below w.heap.size w w') : RcOk w' g T p := h.kept (Kept.of_below (X := fun _ => False) hb) (fun _ h => h.elim)
theorem RcOk.move {w w' : World} {g : Nat} {T : List UInt8} {p q : Ps} (h : RcOk w g T p) (hk : Kept (fun k => k = g) w w') (ha : ∃ s, RcAt w' g T q s) : RcOk w' g T q :=
  ⟨ha, h.len, h.env.kept hk (fun k hX => Nat.le_of_eq hX.symm)⟩
theorem RcOk.lt {w : World} {g : Nat} {T : List UInt8} {p : Ps} (h : RcOk w g T p) : g < w.heap.size := by
  obtain ⟨s, hs⟩ := h.at_
  exact hs.row.lt
theorem RcAt.word {w : World} {g : Nat} {T : List UInt8} {p : Ps} {s : List UInt8} (h : RcAt w g T p s) : wordL s = hdW p := by
  unfold hdW; rw [h.words, wordsL_head h.place.norm]
/-- the word at hand -/
theorem RcOk.word {w : World} {g : Nat} {T : List UInt8} {p : Ps} (h : RcOk w g T p) : w.cell? ⟨g, 4, none⟩ = some (strV (hdW p)) := by
  obtain ⟨s, hs⟩ := h.at_
  rw [← hs.word]; exact hs.row.cell 4
theorem RcOk.hd_len {w : World} {g : Nat} {T : List UInt8} {p : Ps} (h : RcOk w g T p) : (hdW p).length ≤ 4096 := by
  obtain ⟨s, hs⟩ := h.at_
  rw [← hs.word]
  exact Nat.le_trans (wordL_len s) (Nat.le_trans hs.place.suffix.length_le h.len)

theorem faultless_any (g : Nat) (T : List UInt8) (p : Ps) (w : World) (h : RcOk w g T p) :
    Calls Tryz.prog 45 #[.pointer (some ⟨g, 0, none⟩)] w fun e w' => e = .returned (.bool (p.code == 0)) ∧ w = w' := by
  obtain ⟨s, hs⟩ := h.at_
  have h0 := hs.row.cell 0
  have h1 := hs.row.cell 1
  have hz : p.code = 0 → lineP T p = 0 := by
    intro e; unfold lineP; rw [if_pos e]
  clear hs h
  obtain ⟨L, hL⟩ : ∃ L, lineP T p = L := ⟨_, rfl⟩
  obtain ⟨c, hc⟩ : ∃ c, p.code = c := ⟨_, rfl⟩
  simp only [rcRow, hL, hc] at h0 h1 hz ⊢
  clear hL hc
  by_cases e : c = 0
  · subst e
    rw [hz rfl] at h1
    clear hz
    go_enter Tryz.func45, Tryz.ntmps45
    go_wp2
    go_ret
    exact ⟨rfl, rfl⟩
  · have e1 : ((c : Int) == 0) = false := by simp; omega
    have e2 : (c == 0) = false := by simp [e]
    rw [e2]
    clear hz e e2
    go_enter Tryz.func45, Tryz.ntmps45
    go_wp2
    all_goals
      go_ret
      exact ⟨rfl, rfl⟩
theorem countNl_any (l : List UInt8) (w : World) :
    Calls Tryz.prog 88 #[strV l, .string ⟨#[10]⟩] w fun e w' => e = .returned (.int .i64 (nlL l : Int)) ∧ w = w' := by
  have c := Tryz.strings_Count_one ⟨l.toArray⟩ 10 w
  rw [dtL] at c
  exact c.mono fun e w' h => ⟨h.1, h.2.symm⟩
/-- what a method of a reader leaves -/
def RcPost (w : World) (g : Nat) (T : List UInt8) (q : Ps) (e : Ending) (w' : World) : Prop := (∃ u, e = .returned u) ∧ RcOk w' g T q ∧ Kept (fun k => k = g) w w'
set_option maxRecDepth 4000 in
theorem check_any (g : Nat) (T : List UInt8) (p : Ps) (b : Bool) (c : Nat) (w : World) (h : RcOk w g T p) (hc : 0 < c) :
    Calls Tryz.prog 62 #[.pointer (some ⟨g, 0, none⟩), .bool b, .int .i64 (c : Int)] w (RcPost w g T (chk b c p)) := by
  have cf := faultless_any g T p w h
  cases b
  · by_cases e : p.code = 0
    · rw [chk_no e]
      rw [e] at cf
      obtain ⟨s, hs⟩ := h.at_
      have hsu := hs.place.suffix
      have hl := h.len
      have hsl := hsu.length_le
      have hT : (T.take (T.length - s.length)) = (⟨(T.take (T.length - s.length)).toArray⟩ : ByteArray).data.toList := (dtL _).symm
      have cn := fun W => countNl_any (T.take (T.length - s.length)) W
      rw [nl_take hsu] at cn
      obtain ⟨N, hN⟩ : ∃ N, nlL T - nlL s = N := ⟨_, rfl⟩
      have hNl : N ≤ 4096 := by
        rw [← hN]
        have := List.count_le_length (a := (10 : UInt8)) (l := T)
        unfold nlL; omega
      rw [hN] at cn
      obtain ⟨n, hn⟩ : ∃ n, T.length - s.length = n := ⟨_, rfl⟩
      have hrow := hs.row
      simp only [rcRow, hn] at hrow cn
      have hnl : n ≤ T.length := by omega
      have hline : lineP T ⟨c, p.ws.length, p.ws⟩ = 1 + N := by
        unfold lineP
        rw [if_neg (by simpa using (Nat.pos_iff_ne_zero.1 hc))]
        simp only
        rw [hs.words, hs.place.line, hN]
      have hr1 := hrow.setCell 0 (.int .i64 (c : Int))
      have hr2 := hr1.setCell 1 (.int .i64 (1 + (N : Int)))
      have hkk := ((Kept.refl (fun k => k = g) w).setCell (i := 0) (.inl rfl) (.int .i64 (c : Int))).setCell (i := 1) (.inl rfl) (.int .i64 (1 + (N : Int)))
      have HF : Hid (RcOk ((w.setCell ⟨g, 0, none⟩ (.int .i64 (c : Int))).setCell ⟨g, 1, none⟩ (.int .i64 (1 + (N : Int)))) g T ⟨c, p.ws.length, p.ws⟩ ∧ Kept (fun k => k = g) w ((w.setCell ⟨g, 0, none⟩ (.int .i64 (c : Int))).setCell ⟨g, 1, none⟩ (.int .i64 (1 + (N : Int))))) := by
        refine ⟨h.move hkk ⟨s, hs.place, hs.words, ?_⟩, hkk⟩
        rw [rcRow, hline, hn]
        exact hr2
      obtain ⟨t, ht⟩ : ∃ t : ByteArray, (⟨T.toArray⟩ : ByteArray) = t := ⟨_, rfl⟩
      have htl : t.data.toList = T := by rw [← ht]
      have hts : t.size = T.length := by rw [← size_list, htl]
      obtain ⟨D, hD⟩ : ∃ D, t.extract 0 n = D := ⟨_, rfl⟩
      have hDl : (strV (T.take n) : Value) = .string D := by
        have : D.data.toList = T.take n := by rw [← hD, Lib.extract_eq, htl]; simp
        rw [← this]
      rw [hDl] at cn
      have hc2 : (w.setCell ⟨g, 0, none⟩ (.int .i64 (c : Int))).cell? ⟨g, 2, none⟩ = some (.string t) := by rw [← ht]; exact hr1.cell 2
      have hc3 : (w.setCell ⟨g, 0, none⟩ (.int .i64 (c : Int))).cell? ⟨g, 3, none⟩ = some (.int .i64 (n : Int)) := hr1.cell 3
      have hf1 := hr1.free 1
      have hc1 : (w.setCell ⟨g, 0, none⟩ (.int .i64 (c : Int))).cell? ⟨g, 1, none⟩ = some (.int .i64 (lineP T p : Int)) := hr1.cell 1
      have hc0 := hrow.cell 0
      have hf0 := hrow.free 0
      obtain ⟨W, hW⟩ : ∃ W, w.setCell ⟨g, 0, none⟩ (.int .i64 (c : Int)) = W := ⟨_, rfl⟩
      have CF := hid cf
      have CN := hid cn
      rw [hW] at hc1 hc2 hc3 hf1 HF
      have hn2 : n ≤ t.size := by omega
      have hz1 : IntKind.i64.wrap (1 + (N : Int)) = 1 + (N : Int) := IntWalk.i64_in _ (by omega)
      have hnat : ((n : Int)).toNat = n := by simp
      have HW := hid hW
      clear cf cn hs hsu hl hsl hT hN hn hrow hline hr1 hr2 hkk htl hDl ht h e hW hnl hts hNl
      go_enter Tryz.func62, Tryz.ntmps62
      go_wp2_with (go_at_call 45; refine CF.out.mono ?_; rintro e w1 ⟨rfl, rfl⟩)
      rw [HW.out]
      have hc2' : W.drew.cell? ⟨g, 2, none⟩ = some (.string t) := hc2
      have hc3' : W.drew.cell? ⟨g, 3, none⟩ = some (.int .i64 (n : Int)) := hc3
      have hc1' : W.drew.cell? ⟨g, 1, none⟩ = some (.int .i64 (lineP T p : Int)) := hc1
      have hf1' : W.drew.frozen? ⟨g, 1, none⟩ = false := hf1
      go_region_with (go_at_call 88; refine (CN.out _).mono ?_; rintro e w2 ⟨rfl, rfl⟩)
      all_goals
        clear hc1' hc2' hc3' hf1' hc1 hc2 hc3 hf1 hc0 hf0
        go_wp2
        go_end0
        exact ⟨⟨_, rfl⟩, HF.out.1.below ((Below.refl _ _).drew), HF.out.2.drew⟩
    · rw [chk_off e]
      have e2 : (p.code == 0) = false := by simp [e]
      rw [e2] at cf
      have CF := hid cf
      have H := hid h
      clear cf h e e2
      go_enter Tryz.func62, Tryz.ntmps62
      go_wp2_with (go_at_call 45; refine CF.out.mono ?_; rintro e w1 ⟨rfl, rfl⟩)
      go_end0
      exact ⟨⟨_, rfl⟩, H.out, Kept.refl _ _⟩
  · rw [chk_true]
    have H := hid h
    clear cf h
    go_enter Tryz.func62, Tryz.ntmps62
    go_wp2
    go_end0
    exact ⟨⟨_, rfl⟩, H.out, Kept.refl _ _⟩
end Go.Proofs.YtffenndchmcncaaGreatDoor
