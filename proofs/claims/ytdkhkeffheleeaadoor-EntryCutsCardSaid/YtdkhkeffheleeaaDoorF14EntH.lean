/-
  Contracts of package entry: an entry that is read.
-/
import Derived.Test.YtdkhkeffheleeaaDoorF1411
import Derived.Test.YtdkhkeffheleeaaDoorF1408

set_option linter.unusedVariables false
set_option linter.unusedSimpArgs false
namespace Go.Proofs.YtdkhkeffheleeaaDoor
open Go.RowKit Go.Pantry

/-- what stands while an entry is read: the result's box, the reader's, the entry's -/
structure EK (w : World) (nv fv bv : Value) (x : EntP) (st : Option (List UInt8)) (w1 : World) : Prop where
  rd : KAt w1 (w.heap.size + 1) st
  row : rowIs w1 (w.heap.size + 2) (rowE nv fv bv x) 27
  res : rowIs w1 w.heap.size (rowE (.slice none 0 0) (.slice none 0 0) (.slice none 0 0) zeroE) 27
  on : w1.ownsRow (w.heap.size + 3) 9 1 nv x.names.length (x.names.map strV)
  of : w1.ownsRow (w.heap.size + 3) 53 2 fv x.fields.length (fldCells x.fields)
  below : Below w.heap.size w w1
theorem EK.size {w w1 : World} {nv fv bv : Value} {x : EntP} {st : Option (List UInt8)} (h : EK w nv fv bv x st w1) : w.heap.size + 3 ≤ w1.heap.size := h.row.lt
theorem EK.kept {X : Nat → Prop} {w w1 w2 : World} {nv fv bv : Value} {x : EntP} {st st' : Option (List UInt8)} (h : EK w nv fv bv x st w1) (hr : KAt w2 (w.heap.size + 1) st') (hk : Kept X w1 w2) (hX : ∀ k, X k → k = w.heap.size + 1) : EK w nv fv bv x st' w2 :=
  ⟨hr, h.row.kept hk (fun e => by have := hX _ e; omega), h.res.kept hk (fun e => by have := hX _ e; omega), ownsRow_kept h.on hk (fun k e hx => by have := (h.on.lt k e).1; have := hX _ hx; omega), ownsRow_kept h.of hk (fun k e hx => by have := (h.of.lt k e).1; have := hX _ hx; omega),
    h.below.trans (hk.below (fun k e _ => by have := hX _ e; omega) (by have := h.size; omega))⟩
theorem EK.read {w w1 w2 : World} {nv fv bv : Value} {x : EntP} {st st' : Option (List UInt8)} (h : EK w nv fv bv x st w1) (hr : KAt w2 (w.heap.size + 1) st') (hk : Kept (fun k => k = w.heap.size + 1) w1 w2) : EK w nv fv bv x st' w2 := h.kept hr hk (fun _ e => e)
theorem EK.after {w w1 w2 : World} {nv fv bv : Value} {x : EntP} {st : Option (List UInt8)} (h : EK w nv fv bv x st w1) (hb : Below w1.heap.size w1 w2) : EK w nv fv bv x st w2 := h.kept (X := fun _ => False) (h.rd.below hb) (Kept.of_below hb) (fun _ e => e.elim)
theorem EK.store {w w1 : World} {nv fv bv nv' fv' bv' : Value} {x x' : EntP} {st : Option (List UInt8)} (h : EK w nv fv bv x st w1) (j : Nat) (u : Value)
    (hrow : (rowE nv fv bv x).setIfInBounds j u = rowE nv' fv' bv' x') (hn : w1.ownsRow (w.heap.size + 3) 9 1 nv' x'.names.length (x'.names.map strV)) (hf : w1.ownsRow (w.heap.size + 3) 53 2 fv' x'.fields.length (fldCells x'.fields)) : EK w nv' fv' bv' x' st (w1.setCell ⟨w.heap.size + 2, j, none⟩ u) := by
  have kk := (Kept.refl (fun k => k = w.heap.size + 2) w1).setCell (i := j) (.inl rfl) u
  have h1 := h.row.setCell j u
  rw [hrow] at h1
  exact ⟨h.rd.kept kk (fun k hk e => by omega), h1, h.res.kept kk (by omega), ownsRow_kept hn kk (fun k e hx => by have := (hn.lt k e).1; omega), ownsRow_kept hf kk (fun k e hx => by have := (hf.lt k e).1; omega), h.below.trans (kk.below (fun k e _ => by omega) (by have := h.size; omega))⟩
theorem infoRdr : (Tryd.prog.info? 87).map (·.size) = some 2 := by kernel_rfl
theorem oneEntK (a b : List UInt8) (o : Option Addr) (n c : Nat) (x y z : Int) (o2 : Option Addr) (n2 c2 : Nat) (o3 : Option Addr) (n3 c3 : Nat) (g : Int) : (#[strV a, strV b, .slice o n c, .int .i64 x, .int .i64 y, .int .i64 z, .slice o2 n2 c2, .slice o3 n3 c3, .int .i64 g] : Array Value).all (·.oneCell') = true := by simp [Value.oneCell']
/-- while the result is stored -/
def HeldR (w W1 : World) (cs rs zs : Array Value) : List Bool → World → Prop := fun b W =>
  rowIs W (w.heap.size + 2) cs 27 ∧ rowIs W (w.heap.size + 1) rs 87 ∧ rowIs W w.heap.size (if b.headD true then cs else zs) 27 ∧ Kept (fun k => k = w.heap.size) W1 W
theorem HeldR.drew {w W1 W : World} {cs rs zs : Array Value} {b : List Bool} (h : HeldR w W1 cs rs zs b W) : HeldR w W1 cs rs zs b W.drew := ⟨h.1, h.2.1, h.2.2.1, h.2.2.2.drew⟩
theorem HeldR.stored {w W1 W : World} {cs rs zs : Array Value} (h : HeldR w W1 cs rs zs [false] W) : HeldR w W1 cs rs zs [true] (W.setRow w.heap.size cs) :=
  ⟨h.1.setRow_other _ (by omega), h.2.1.setRow_other _ (by omega), h.2.2.1.setRow _, h.2.2.2.setRow (.inl rfl) _⟩
/-- what reading an entry leaves -/
def EntRead (w : World) (ver : Nat) (l : List UInt8) (e : Ending) (w' : World) : Prop :=
  ∃ nv fv bv x q st, e = .returned (.tuple #[.agg (rowE nv fv bv x), .bool q]) ∧ EntAt w' nv fv bv x ∧ In (fun k => w.heap.size ≤ k) nv ∧ In (fun k => w.heap.size ≤ k) fv ∧ In (fun k => w.heap.size ≤ k) bv ∧ Below w.heap.size w w' ∧ entD ver l = st.map (fun r => (x, r)) ∧ (q = true ↔ st = some [])

set_option maxRecDepth 8000 in
set_option maxHeartbeats 8000000 in
theorem readEntry1_any (rv : Value) (l : List UInt8) (w : World) (hb : Bytes w rv l) (hin : In (fun k => k < w.heap.size) rv) (hl : l.length ≤ 100000) :
    Calls Tryd.prog 39 #[.int .i64 1, rv] w (EntRead w 1 l) := by
  obtain ⟨ra, rn, rc, hrv⟩ : ∃ a n c, rv = .slice a n c := by obtain ⟨a, c, h, -⟩ := bytes_form hb; exact ⟨_, _, _, h⟩
  subst hrv
  obtain ⟨W0, hW0⟩ : ∃ W, (((w.alloc (.cells #[.string ⟨#[]⟩, .string ⟨#[]⟩, .slice none 0 0, .int .i64 0, .int .i64 0, .int .i64 0, .slice none 0 0, .slice none 0 0, .int .i64 0] 27)).alloc (.cells #[.slice ra rn rc, .bool false] 87)).alloc (.cells #[.string ⟨#[]⟩, .string ⟨#[]⟩, .slice none 0 0, .int .i64 0, .int .i64 0, .int .i64 0, .slice none 0 0, .slice none 0 0, .int .i64 0] 27)).setRow (w.heap.size + 1 + 1) #[.string ⟨#[]⟩, .string ⟨#[]⟩, .slice none 0 0, .int .i64 0, .int .i64 0, .int .i64 0, .slice none 0 0, .slice none 0 0, .int .i64 1] = W := ⟨_, rfl⟩
  have hz1 : rowIs (((w.alloc (.cells #[.string ⟨#[]⟩, .string ⟨#[]⟩, .slice none 0 0, .int .i64 0, .int .i64 0, .int .i64 0, .slice none 0 0, .slice none 0 0, .int .i64 0] 27)).alloc (.cells #[.slice ra rn rc, .bool false] 87)).alloc (.cells #[.string ⟨#[]⟩, .string ⟨#[]⟩, .slice none 0 0, .int .i64 0, .int .i64 0, .int .i64 0, .slice none 0 0, .slice none 0 0, .int .i64 0] 27)) (w.heap.size + 1 + 1) #[.string ⟨#[]⟩, .string ⟨#[]⟩, .slice none 0 0, .int .i64 0, .int .i64 0, .int .i64 0, .slice none 0 0, .slice none 0 0, .int .i64 0] 27 := rowIs_new_at _ _ _ _ (by simp)
  have hbW3 : Below w.heap.size w (((w.alloc (.cells #[.string ⟨#[]⟩, .string ⟨#[]⟩, .slice none 0 0, .int .i64 0, .int .i64 0, .int .i64 0, .slice none 0 0, .slice none 0 0, .int .i64 0] 27)).alloc (.cells #[.slice ra rn rc, .bool false] 87)).alloc (.cells #[.string ⟨#[]⟩, .string ⟨#[]⟩, .slice none 0 0, .int .i64 0, .int .i64 0, .int .i64 0, .slice none 0 0, .slice none 0 0, .int .i64 0] 27)) := (chain2 (chain2 (below_alloc _ _) (below_alloc _ _).size (below_alloc _ _)) (chain2 (below_alloc _ _) (below_alloc _ _).size (below_alloc _ _)).size (below_alloc _ _))
  have hbW : Below w.heap.size w W0 := by rw [← hW0]; exact below_setRow hbW3 (by omega) _
  have hM0 : EK w (.slice none 0 0) (.slice none 0 0) (.slice none 0 0) ⟨[], [], [], 0, 0, 0, [], [], 1⟩ (some l) W0 := by
    refine ⟨⟨⟨.slice ra rn rc, l, false, ?_, bytes_below hb hbW, fun k e => by have := hin k e; omega, rfl, fun r h => by cases h; rfl, hl⟩⟩, ?_, ?_, World.ownsRow_nil _ _ _ _, World.ownsRow_nil _ _ _ _, hbW⟩
    · rw [← hW0]; exact ((rowIs_new_at _ _ _ _ (by simp)).below (below_alloc _ _)).setRow_other _ (by omega)
    · rw [← hW0]; exact (rowIs_new_at _ _ _ _ (by simp)).setRow _
    · rw [← hW0]; exact (((rowIs_new _ _ _).below (below_alloc _ _)).below (below_alloc _ _)).setRow_other _ (by omega)
  have M0 := hid hM0
  have HBL := hid hbW
  clear hM0 hbW hbW3 hb
  go_enter Tryd.func39, Tryd.ntmps39
  go_wp2_with (refine wpList_store_row rfl 27 _ _ rfl (w.heap.size + 1 + 1) _ rfl rfl 27 #[.string ⟨#[]⟩, .string ⟨#[]⟩, .slice none 0 0, .int .i64 0, .int .i64 0, .int .i64 0, .slice none 0 0, .slice none 0 0, .int .i64 0] hz1 infoEntK rfl (oneEntK _ _ _ _ _ _ _ _ _ _ _ _ _ _ _) ?_)
  try rw [hW0]
  clear hW0 hz1
  refine (text_any (w.heap.size + 1) (some l) W0 M0.out.rd).mono ?_
  rintro e V0 ⟨ky, s1, hlen, hat, rfl, hk1, hk2⟩
  have Hky := hid (And.intro hat hlen)
  have N0 := hid (M0.out.read hk1 hk2)
  clear hk1 hk2 hat hlen M0
  have hy : V0.cell? ⟨w.heap.size + 1 + 1, 0, none⟩ = some (strV []) := N0.out.row.cell 0
  have hf := N0.out.row.free 0
  obtain ⟨W1, hW1⟩ : ∃ W, V0.setCell ⟨w.heap.size + 1 + 1, 0, none⟩ (strV ky) = W := ⟨_, rfl⟩
  have M1 := hid (show EK w (.slice none 0 0) (.slice none 0 0) (.slice none 0 0) ⟨ky, [], [], 0, 0, 0, [], [], 1⟩ s1 W1 by rw [← hW1]; exact N0.out.store 0 _ rfl N0.out.on N0.out.of)
  clear N0
  go_wp2_with fail
  try rw [hW1]
  clear hW1 hy hf
  refine (number_any (w.heap.size + 1) s1 W1 M1.out.rd).mono ?_
  rintro e V1 ⟨ask, s2, hlen, hat, rfl, hk1, hk2⟩
  have Hask := hid (And.intro hat hlen)
  have N1 := hid (M1.out.read hk1 hk2)
  clear hk1 hk2 hat hlen M1
  have hy : V1.cell? ⟨w.heap.size + 1 + 1, 3, none⟩ = some (.int .i64 0) := N1.out.row.cell 3
  have hf := N1.out.row.free 3
  obtain ⟨W2, hW2⟩ : ∃ W, V1.setCell ⟨w.heap.size + 1 + 1, 3, none⟩ (.int .i64 (ask : Int)) = W := ⟨_, rfl⟩
  have M2 := hid (show EK w (.slice none 0 0) (.slice none 0 0) (.slice none 0 0) ⟨ky, [], [], (ask : Int), 0, 0, [], [], 1⟩ s2 W2 by rw [← hW2]; exact N1.out.store 3 _ rfl N1.out.on N1.out.of)
  clear N1
  go_wp2_with fail
  try rw [hW2]
  clear hW2 hy hf
  refine (number_any (w.heap.size + 1) s2 W2 M2.out.rd).mono ?_
  rintro e V2 ⟨cam, s3, hlen, hat, rfl, hk1, hk2⟩
  have Hcam := hid (And.intro hat hlen)
  have N2 := hid (M2.out.read hk1 hk2)
  clear hk1 hk2 hat hlen M2
  have hy : V2.cell? ⟨w.heap.size + 1 + 1, 4, none⟩ = some (.int .i64 0) := N2.out.row.cell 4
  have hf := N2.out.row.free 4
  obtain ⟨W3, hW3⟩ : ∃ W, V2.setCell ⟨w.heap.size + 1 + 1, 4, none⟩ (.int .i64 (cam : Int)) = W := ⟨_, rfl⟩
  have M3 := hid (show EK w (.slice none 0 0) (.slice none 0 0) (.slice none 0 0) ⟨ky, [], [], (ask : Int), (cam : Int), 0, [], [], 1⟩ s3 W3 by rw [← hW3]; exact N2.out.store 4 _ rfl N2.out.on N2.out.of)
  clear N2
  go_wp2_with fail
  try rw [hW3]
  clear hW3 hy hf
  refine (number_any (w.heap.size + 1) s3 W3 M3.out.rd).mono ?_
  rintro e V3 ⟨sta, s4, hlen, hat, rfl, hk1, hk2⟩
  have Hsta := hid (And.intro hat hlen)
  have N3 := hid (M3.out.read hk1 hk2)
  clear hk1 hk2 hat hlen M3
  have hy : V3.cell? ⟨w.heap.size + 1 + 1, 5, none⟩ = some (.int .i64 0) := N3.out.row.cell 5
  have hf := N3.out.row.free 5
  obtain ⟨W4, hW4⟩ : ∃ W, V3.setCell ⟨w.heap.size + 1 + 1, 5, none⟩ (.int .i64 (sta : Int)) = W := ⟨_, rfl⟩
  have M4 := hid (show EK w (.slice none 0 0) (.slice none 0 0) (.slice none 0 0) ⟨ky, [], [], (ask : Int), (cam : Int), (sta : Int), [], [], 1⟩ s4 W4 by rw [← hW4]; exact N3.out.store 5 _ rfl N3.out.on N3.out.of)
  clear N3
  go_wp2_with fail
  try rw [hW4]
  clear hW4 hy hf
  refine (fieldsK_any (w.heap.size + 1) s4 W4 M4.out.rd).mono ?_
  rintro e V4 ⟨cf, sc5, fl, fvv, s5, hat0, hat, hown, rfl, hk1, hk2⟩
  have hown := hown.base M4.out.size
  obtain ⟨fo, fc, hfv⟩ := ownsRow_form2 hown
  subst hfv
  have Hfl := hid (And.intro hat0 (And.intro hat hown))
  have N4 := hid (M4.out.read hk1 hk2)
  clear hk1 hk2 hat hat0 hown M4
  have hy : V4.cell? ⟨w.heap.size + 1 + 1, 6, none⟩ = some (.slice none 0 0) := N4.out.row.cell 6
  have hf := N4.out.row.free 6
  obtain ⟨W5, hW5⟩ : ∃ W, V4.setCell ⟨w.heap.size + 1 + 1, 6, none⟩ (.slice fo fl.length fc) = W := ⟨_, rfl⟩
  have M5 := hid (show EK w (.slice none 0 0) (.slice fo fl.length fc) (.slice none 0 0) ⟨ky, [], [], (ask : Int), (cam : Int), (sta : Int), fl, [], 1⟩ s5 W5 by rw [← hW5]; exact N4.out.store 6 _ rfl N4.out.on Hfl.out.2.2)
  clear N4
  go_wp2_with fail
  try rw [hW5]
  clear hW5 hy hf
  refine (text_any (w.heap.size + 1) s5 W5 M5.out.rd).mono ?_
  rintro e V5 ⟨bd, sB, hlen, hat, rfl, hk1, hk2⟩
  have Hbd := hid (And.intro hat hlen)
  have N5 := hid (M5.out.read hk1 hk2)
  clear hk1 hk2 hat hlen M5
  obtain ⟨cap9, W9, hcv, hrd9, hb9, hlt9⟩ := bytes_made14 (P := Tryd.prog) bd V5 9 25 5 Tryd.underlying9 Tryd.underlying25 Tryd.underlying5
  have N9 := hid (N5.out.after hb9)
  have y7 : W9.cell? ⟨w.heap.size + 1 + 1, 7, none⟩ = some (.slice none 0 0) := N9.out.row.cell 7
  have f7 := N9.out.row.free 7
  have hlt8 := N5.out.size
  obtain ⟨W10, hW10⟩ : ∃ W, W9.setCell ⟨w.heap.size + 1 + 1, 7, none⟩ (.slice (some ⟨V5.heap.size, 0, none⟩) bd.length cap9) = W := ⟨_, rfl⟩
  have M10 := hid (show EK w (.slice none 0 0) (.slice fo fl.length fc) (.slice (some ⟨V5.heap.size, 0, none⟩) bd.length cap9) ⟨ky, [], [], (ask : Int), (cam : Int), (sta : Int), fl, bd, 1⟩ sB W10 by rw [← hW10]; exact N9.out.store 7 _ rfl N9.out.on N9.out.of)
  have HRD := hid (show Reads W10 (.slice (some ⟨V5.heap.size, 0, none⟩) bd.length cap9) (bd.map byteV) by rw [← hW10]; exact reads_kept hrd9 ((Kept.refl (fun k => k = w.heap.size + 2) W9).setCell (i := 7) (.inl rfl) _) (fun k e hx => by have e2 : V5.heap.size = k := Option.some.inj e; omega))
  have HBI := hid (show In (fun k => w.heap.size ≤ k) (.slice (some ⟨V5.heap.size, 0, none⟩) bd.length cap9) from fun k e => (by have e2 : V5.heap.size = k := Option.some.inj e; omega))
  have HV5 := hid hlt8
  clear hrd9 hb9 hlt9 N5 N9 hlt8
  go_wp2_with fail
  try rw [hW10]
  clear hW10 y7 f7 hcv
  have q1 := M10.out.row
  have q2 := M10.out.res
  have hdd : ∃ (lv : Option Addr) (ll lc : Nat) (bad : Bool), rowIs W10 (w.heap.size + 1) #[.slice lv ll lc, .bool bad] 87 ∧ ((!bad && decide (ll = 0)) = true ↔ sB = some []) := by
    obtain ⟨v, l2, bad, h1, h2, h3, h4, h5, h6⟩ := M10.out.rd.ex
    obtain ⟨a2, c2, hv2, -⟩ := bytes_form h2
    subst hv2
    refine ⟨_, _, _, _, h1, ?_⟩
    rw [h4]
    cases sB with
    | none => simp
    | some r => rw [← h5 r rfl]; simp
  obtain ⟨lv, ll, lc, bad, qr, hq⟩ := hdd
  have HQ := hid hq
  have hent : entD 1 l = sB.map (fun r => (⟨ky, [], [], (ask : Int), (cam : Int), (sta : Int), fl, bd, 1⟩, r)) := by
    have e1 := two_none (v := 1) (by decide) l
    have e2 := gen_one (v := 1) (by decide) (some l)
    exact entD_parts' 1 l e1 e2 Hky.out.1 Hask.out.1 Hcam.out.1 Hsta.out.1 Hfl.out.1 Hfl.out.2.1 Hbd.out.1
  have HENT := hid hent
  clear hq hent
  have HS : HeldR w W10 (rowE (.slice none 0 0) (.slice fo fl.length fc) (.slice (some ⟨V5.heap.size, 0, none⟩) bd.length cap9) ⟨ky, [], [], (ask : Int), (cam : Int), (sta : Int), fl, bd, 1⟩) #[.slice lv ll lc, .bool bad] (rowE (.slice none 0 0) (.slice none 0 0) (.slice none 0 0) zeroE) [false] W10 := ⟨q1, qr, q2, Kept.refl _ _⟩
  have HM := hid (And.intro M10.out.on (And.intro M10.out.of M10.out.below))
  have HNI := hid (And.intro (show In (fun k => w.heap.size ≤ k) (.slice none 0 0) from fun k e => by have := (M10.out.on.lt k e).1; omega) (show In (fun k => w.heap.size ≤ k) (.slice fo fl.length fc) from fun k e => by have := (M10.out.of.lt k e).1; omega))
  have HSZ := hid M10.out.size
  have HBI2 := hid (show In (fun k => ¬ k = w.heap.size) (.slice (some ⟨V5.heap.size, 0, none⟩) bd.length cap9) from fun k e => (by have e2 : V5.heap.size = k := Option.some.inj e; have := HV5.out; omega))
  clear q1 q2 qr M10
  cases bad with
  | true =>
    simp only [Bool.not_true, Bool.false_and] at HQ
    refine wp_region_U [14] (by kernel_rfl) (HeldR w W10 (rowE (.slice none 0 0) (.slice fo fl.length fc) (.slice (some ⟨V5.heap.size, 0, none⟩) bd.length cap9) ⟨ky, [], [], (ask : Int), (cam : Int), (sta : Int), fl, bd, 1⟩) #[.slice lv ll lc, .bool true] (rowE (.slice none 0 0) (.slice none 0 0) (.slice none 0 0) zeroE)) (b := [false]) (by kernel_rfl) HS.drew ?_
    refine wpAnyU_take (i := 0) (v := .agg (rowE (.slice none 0 0) (.slice fo fl.length fc) (.slice (some ⟨V5.heap.size, 0, none⟩) bd.length cap9) ⟨ky, [], [], (ask : Int), (cam : Int), (sta : Int), fl, bd, 1⟩)) (by decide) rfl (by kernel_rfl) (by kernel_rfl) (by kernel_rfl) (fun _ _ _ h => h) (Steady.plain (by kernel_rfl) ?_) ?_
    · intro b W hS
      exact load_gives (x := .tmp 7) (by kernel_rfl) (w.heap.size + 2) (by kernel_rfl) hS.1 Tryd.underlying27 rfl infoEntK
    simp only [Act.put, List.getElem_toArray, List.getElem_cons_succ, List.getElem_cons_zero, List.setIfInBounds_toArray, List.set_cons_zero, List.set_cons_succ]
    refine wpAnyU_take (i := 1) (v := ?_) (by decide) rfl (by kernel_rfl) (by kernel_rfl) (by kernel_rfl) (fun _ _ _ h => h) (Steady.plain (by kernel_rfl) ?_) ?_
    rotate_left
    · intro b W hS
      have h0 := hS.2.1.cell 0
      have h1 := hS.2.1.cell 1
      go_simp
      first | done | with_reducible rfl
    simp only [Act.put, List.getElem_toArray, List.getElem_cons_succ, List.getElem_cons_zero, List.setIfInBounds_toArray, List.set_cons_zero, List.set_cons_succ]
    refine wpAnyU_take (i := 2) (v := ?_) (by decide) rfl (by kernel_rfl) (by kernel_rfl) (by kernel_rfl) (fun _ _ _ h => h) (Steady.plain (by kernel_rfl) ?_) ?_
    rotate_left
    · intro b W hS
      have h0 := hS.2.1.cell 0
      have h1 := hS.2.1.cell 1
      go_simp
      first | done | with_reducible rfl
    simp only [Act.put, List.getElem_toArray, List.getElem_cons_succ, List.getElem_cons_zero, List.setIfInBounds_toArray, List.set_cons_zero, List.set_cons_succ]
    refine wpAnyU_take (i := 3) (v := ?_) (by decide) rfl (by kernel_rfl) (by kernel_rfl) (by kernel_rfl) (fun _ _ _ h => h) (Steady.plain (by kernel_rfl) ?_) ?_
    rotate_left
    · intro b W hS
      have h0 := hS.2.1.cell 0
      have h1 := hS.2.1.cell 1
      go_simp
      first | done | with_reducible rfl
    simp only [Act.put, List.getElem_toArray, List.getElem_cons_succ, List.getElem_cons_zero, List.setIfInBounds_toArray, List.set_cons_zero, List.set_cons_succ]
    refine wpAnyU_take (i := 4) (v := ?_) (by decide) rfl (by kernel_rfl) (by kernel_rfl) (by kernel_rfl) (fun _ _ _ h => h) (Steady.plain (by kernel_rfl) ?_) ?_
    rotate_left
    · intro b W hS
      have h0 := hS.2.1.cell 0
      have h1 := hS.2.1.cell 1
      go_simp
      first | done | with_reducible rfl
    simp only [Act.put, List.getElem_toArray, List.getElem_cons_succ, List.getElem_cons_zero, List.setIfInBounds_toArray, List.set_cons_zero, List.set_cons_succ]
    refine wpAnyU_take (i := 5) (v := ?_) (by decide) rfl (by kernel_rfl) (by kernel_rfl) (by kernel_rfl) (fun _ _ _ h => h) (Steady.plain (by kernel_rfl) ?_) ?_
    rotate_left
    · intro b W hS
      have h0 := hS.2.1.cell 0
      have h1 := hS.2.1.cell 1
      go_simp
      first | done | with_reducible rfl
    simp only [Act.put, List.getElem_toArray, List.getElem_cons_succ, List.getElem_cons_zero, List.setIfInBounds_toArray, List.set_cons_zero, List.set_cons_succ]
    refine wpAnyU_take (i := 6) (v := ?_) (by decide) rfl (by kernel_rfl) (by kernel_rfl) (by kernel_rfl) (fun _ _ _ h => h) (Steady.plain (by kernel_rfl) ?_) ?_
    rotate_left
    · intro b W hS
      have h0 := hS.2.1.cell 0
      have h1 := hS.2.1.cell 1
      go_simp
      first | done | with_reducible rfl
    simp only [Act.put, List.getElem_toArray, List.getElem_cons_succ, List.getElem_cons_zero, List.setIfInBounds_toArray, List.set_cons_zero, List.set_cons_succ]
    refine wpAnyU_take (i := 7) (by decide) rfl (by kernel_rfl) (by kernel_rfl) (by kernel_rfl) (fun _ _ _ h => h) (Steady.off (by kernel_rfl)) ?_
    simp only [Act.put, List.getElem_toArray, List.getElem_cons_succ, List.getElem_cons_zero, List.setIfInBounds_toArray, List.set_cons_zero, List.set_cons_succ]
    refine wpAnyU_take (i := 8) (by decide) rfl (by kernel_rfl) (by kernel_rfl) (by kernel_rfl) (fun _ _ _ h => h) (Steady.off (by kernel_rfl)) ?_
    simp only [Act.put, List.getElem_toArray, List.getElem_cons_succ, List.getElem_cons_zero, List.setIfInBounds_toArray, List.set_cons_zero, List.set_cons_succ]
    refine wpAnyU_take (i := 9) (by decide) rfl (by kernel_rfl) (by kernel_rfl) (by kernel_rfl) (fun _ _ _ h => h) (Steady.off (by kernel_rfl)) ?_
    simp only [Act.put, List.getElem_toArray, List.getElem_cons_succ, List.getElem_cons_zero, List.setIfInBounds_toArray, List.set_cons_zero, List.set_cons_succ]
    refine wpAnyU_take (i := 10) (by decide) rfl (by kernel_rfl) (by kernel_rfl) (by kernel_rfl) (fun _ _ _ h => h) (Steady.off (by kernel_rfl)) ?_
    simp only [Act.put, List.getElem_toArray, List.getElem_cons_succ, List.getElem_cons_zero, List.setIfInBounds_toArray, List.set_cons_zero, List.set_cons_succ]
    refine wpAnyU_take (i := 11) (by decide) rfl (by kernel_rfl) (by kernel_rfl) (by kernel_rfl) (fun _ _ _ h => h) (Steady.off (by kernel_rfl)) ?_
    simp only [Act.put, List.getElem_toArray, List.getElem_cons_succ, List.getElem_cons_zero, List.setIfInBounds_toArray, List.set_cons_zero, List.set_cons_succ]
    refine wpAnyU_take (i := 12) (by decide) rfl (by kernel_rfl) (by kernel_rfl) (by kernel_rfl) (fun _ _ _ h => h) (Steady.off (by kernel_rfl)) ?_
    simp only [Act.put, List.getElem_toArray, List.getElem_cons_succ, List.getElem_cons_zero, List.setIfInBounds_toArray, List.set_cons_zero, List.set_cons_succ]
    refine wpAnyU_take (i := 13) (v := ?_) (by decide) rfl (by kernel_rfl) (by kernel_rfl) (by kernel_rfl) (fun _ _ _ h => h) (Steady.plain (by kernel_rfl) ?_) ?_
    rotate_left
    · intro b W hS
      have h0 := hS.2.1.cell 0
      have h1 := hS.2.1.cell 1
      go_simp
      first | done | with_reducible rfl
    simp only [Act.put, List.getElem_toArray, List.getElem_cons_succ, List.getElem_cons_zero, List.setIfInBounds_toArray, List.set_cons_zero, List.set_cons_succ]
    refine wpAnyU_turn (i := 14) (v := undef) (b := [false]) (b' := [true]) rfl (by kernel_rfl) (by kernel_rfl) (by kernel_rfl) (by kernel_rfl) (turn_store (ty := 27) (x := .tmp 4) (y := .tmp 48) (by kernel_rfl) w.heap.size (rowE (.slice none 0 0) (.slice fo fl.length fc) (.slice (some ⟨V5.heap.size, 0, none⟩) bd.length cap9) ⟨ky, [], [], (ask : Int), (cam : Int), (sta : Int), fl, bd, 1⟩) (by kernel_rfl) (by kernel_rfl) infoEntK (oneEntK _ _ _ _ _ _ _ _ _ _ _ _ _ _ _) (fun W hS => ⟨_, _, hS.2.2.1, rfl, hS.stored⟩)) ?_
    simp only [Act.put, List.getElem_toArray, List.getElem_cons_succ, List.getElem_cons_zero, List.setIfInBounds_toArray, List.set_cons_zero, List.set_cons_succ]
    refine wpAnyU_take (i := 15) (v := ?_) (by decide) rfl (by kernel_rfl) (by kernel_rfl) (by kernel_rfl) (fun _ _ _ h => h) (Steady.plain (by kernel_rfl) ?_) ?_
    rotate_left
    · intro b W hS
      have h0 := hS.2.1.cell 0
      have h1 := hS.2.1.cell 1
      go_simp
      first | done | with_reducible rfl
    simp only [Act.put, List.getElem_toArray, List.getElem_cons_succ, List.getElem_cons_zero, List.setIfInBounds_toArray, List.set_cons_zero, List.set_cons_succ]
    refine wpAnyU_done (b := [true]) (by kernel_rfl) (by kernel_rfl) ?_ _
    intro W hS
    go_wp2_with fail
    refine bodyPost_ret (results_row2 Tryd.results39 _ _ w.heap.size _ rfl hS.2.2.1 Tryd.underlying27 rfl infoEntK) rfl ?_
    have hk := hS.2.2.2
    refine ⟨_, _, _, _, false, sB, rfl, ⟨(ownsRow_kept HM.out.1 hk (fun k e hx => by have := (HM.out.1.lt k e).1; omega)).reads, (ownsRow_kept HM.out.2.1 hk (fun k e hx => by have := (HM.out.2.1.lt k e).1; omega)).reads2.2, reads_kept HRD.out hk HBI2.out⟩, HNI.out.1, HNI.out.2, HBI.out, HM.out.2.2.trans (hk.below (fun k e _ => by omega) (by have := HSZ.out; omega)), HENT.out, by simpa using HQ.out⟩
  | false =>
    by_cases hl0 : ll = 0
    · subst hl0
      simp only [Bool.not_false, Bool.true_and, decide_true] at HQ
      refine wp_region_U [14] (by kernel_rfl) (HeldR w W10 (rowE (.slice none 0 0) (.slice fo fl.length fc) (.slice (some ⟨V5.heap.size, 0, none⟩) bd.length cap9) ⟨ky, [], [], (ask : Int), (cam : Int), (sta : Int), fl, bd, 1⟩) #[.slice lv 0 lc, .bool false] (rowE (.slice none 0 0) (.slice none 0 0) (.slice none 0 0) zeroE)) (b := [false]) (by kernel_rfl) HS.drew ?_
      refine wpAnyU_take (i := 0) (v := .agg (rowE (.slice none 0 0) (.slice fo fl.length fc) (.slice (some ⟨V5.heap.size, 0, none⟩) bd.length cap9) ⟨ky, [], [], (ask : Int), (cam : Int), (sta : Int), fl, bd, 1⟩)) (by decide) rfl (by kernel_rfl) (by kernel_rfl) (by kernel_rfl) (fun _ _ _ h => h) (Steady.plain (by kernel_rfl) ?_) ?_
      · intro b W hS
        exact load_gives (x := .tmp 7) (by kernel_rfl) (w.heap.size + 2) (by kernel_rfl) hS.1 Tryd.underlying27 rfl infoEntK
      simp only [Act.put, List.getElem_toArray, List.getElem_cons_succ, List.getElem_cons_zero, List.setIfInBounds_toArray, List.set_cons_zero, List.set_cons_succ]
      refine wpAnyU_take (i := 1) (v := ?_) (by decide) rfl (by kernel_rfl) (by kernel_rfl) (by kernel_rfl) (fun _ _ _ h => h) (Steady.plain (by kernel_rfl) ?_) ?_
      rotate_left
      · intro b W hS
        have h0 := hS.2.1.cell 0
        have h1 := hS.2.1.cell 1
        go_simp
        first | done | with_reducible rfl
      simp only [Act.put, List.getElem_toArray, List.getElem_cons_succ, List.getElem_cons_zero, List.setIfInBounds_toArray, List.set_cons_zero, List.set_cons_succ]
      refine wpAnyU_take (i := 2) (v := ?_) (by decide) rfl (by kernel_rfl) (by kernel_rfl) (by kernel_rfl) (fun _ _ _ h => h) (Steady.plain (by kernel_rfl) ?_) ?_
      rotate_left
      · intro b W hS
        have h0 := hS.2.1.cell 0
        have h1 := hS.2.1.cell 1
        go_simp
        first | done | with_reducible rfl
      simp only [Act.put, List.getElem_toArray, List.getElem_cons_succ, List.getElem_cons_zero, List.setIfInBounds_toArray, List.set_cons_zero, List.set_cons_succ]
      refine wpAnyU_take (i := 3) (v := ?_) (by decide) rfl (by kernel_rfl) (by kernel_rfl) (by kernel_rfl) (fun _ _ _ h => h) (Steady.plain (by kernel_rfl) ?_) ?_
      rotate_left
      · intro b W hS
        have h0 := hS.2.1.cell 0
        have h1 := hS.2.1.cell 1
        go_simp
        first | done | with_reducible rfl
      simp only [Act.put, List.getElem_toArray, List.getElem_cons_succ, List.getElem_cons_zero, List.setIfInBounds_toArray, List.set_cons_zero, List.set_cons_succ]
      refine wpAnyU_take (i := 4) (v := ?_) (by decide) rfl (by kernel_rfl) (by kernel_rfl) (by kernel_rfl) (fun _ _ _ h => h) (Steady.plain (by kernel_rfl) ?_) ?_
      rotate_left
      · intro b W hS
        have h0 := hS.2.1.cell 0
        have h1 := hS.2.1.cell 1
        go_simp
        first | done | with_reducible rfl
      simp only [Act.put, List.getElem_toArray, List.getElem_cons_succ, List.getElem_cons_zero, List.setIfInBounds_toArray, List.set_cons_zero, List.set_cons_succ]
      refine wpAnyU_take (i := 5) (v := ?_) (by decide) rfl (by kernel_rfl) (by kernel_rfl) (by kernel_rfl) (fun _ _ _ h => h) (Steady.plain (by kernel_rfl) ?_) ?_
      rotate_left
      · intro b W hS
        have h0 := hS.2.1.cell 0
        have h1 := hS.2.1.cell 1
        go_simp
        first | done | with_reducible rfl
      simp only [Act.put, List.getElem_toArray, List.getElem_cons_succ, List.getElem_cons_zero, List.setIfInBounds_toArray, List.set_cons_zero, List.set_cons_succ]
      refine wpAnyU_take (i := 6) (v := ?_) (by decide) rfl (by kernel_rfl) (by kernel_rfl) (by kernel_rfl) (fun _ _ _ h => h) (Steady.plain (by kernel_rfl) ?_) ?_
      rotate_left
      · intro b W hS
        have h0 := hS.2.1.cell 0
        have h1 := hS.2.1.cell 1
        go_simp
        first | done | with_reducible rfl
      simp only [Act.put, List.getElem_toArray, List.getElem_cons_succ, List.getElem_cons_zero, List.setIfInBounds_toArray, List.set_cons_zero, List.set_cons_succ]
      refine wpAnyU_take (i := 7) (v := ?_) (by decide) rfl (by kernel_rfl) (by kernel_rfl) (by kernel_rfl) (fun _ _ _ h => h) (Steady.plain (by kernel_rfl) ?_) ?_
      rotate_left
      · intro b W hS
        have h0 := hS.2.1.cell 0
        have h1 := hS.2.1.cell 1
        go_simp
        first | done | with_reducible rfl
      simp only [Act.put, List.getElem_toArray, List.getElem_cons_succ, List.getElem_cons_zero, List.setIfInBounds_toArray, List.set_cons_zero, List.set_cons_succ]
      refine wpAnyU_take (i := 8) (v := ?_) (by decide) rfl (by kernel_rfl) (by kernel_rfl) (by kernel_rfl) (fun _ _ _ h => h) (Steady.plain (by kernel_rfl) ?_) ?_
      rotate_left
      · intro b W hS
        have h0 := hS.2.1.cell 0
        have h1 := hS.2.1.cell 1
        go_simp
        first | done | with_reducible rfl
      simp only [Act.put, List.getElem_toArray, List.getElem_cons_succ, List.getElem_cons_zero, List.setIfInBounds_toArray, List.set_cons_zero, List.set_cons_succ]
      refine wpAnyU_take (i := 9) (v := ?_) (by decide) rfl (by kernel_rfl) (by kernel_rfl) (by kernel_rfl) (fun _ _ _ h => h) (Steady.plain (by kernel_rfl) ?_) ?_
      rotate_left
      · intro b W hS
        have h0 := hS.2.1.cell 0
        have h1 := hS.2.1.cell 1
        go_simp
        first | done | with_reducible rfl
      simp only [Act.put, List.getElem_toArray, List.getElem_cons_succ, List.getElem_cons_zero, List.setIfInBounds_toArray, List.set_cons_zero, List.set_cons_succ]
      refine wpAnyU_take (i := 10) (v := ?_) (by decide) rfl (by kernel_rfl) (by kernel_rfl) (by kernel_rfl) (fun _ _ _ h => h) (Steady.plain (by kernel_rfl) ?_) ?_
      rotate_left
      · intro b W hS
        have h0 := hS.2.1.cell 0
        have h1 := hS.2.1.cell 1
        go_simp
        first | done | with_reducible rfl
      simp only [Act.put, List.getElem_toArray, List.getElem_cons_succ, List.getElem_cons_zero, List.setIfInBounds_toArray, List.set_cons_zero, List.set_cons_succ]
      refine wpAnyU_take (i := 11) (v := ?_) (by decide) rfl (by kernel_rfl) (by kernel_rfl) (by kernel_rfl) (fun _ _ _ h => h) (Steady.plain (by kernel_rfl) ?_) ?_
      rotate_left
      · intro b W hS
        have h0 := hS.2.1.cell 0
        have h1 := hS.2.1.cell 1
        go_simp
        first | done | with_reducible rfl
      simp only [Act.put, List.getElem_toArray, List.getElem_cons_succ, List.getElem_cons_zero, List.setIfInBounds_toArray, List.set_cons_zero, List.set_cons_succ]
      refine wpAnyU_take (i := 12) (v := ?_) (by decide) rfl (by kernel_rfl) (by kernel_rfl) (by kernel_rfl) (fun _ _ _ h => h) (Steady.plain (by kernel_rfl) ?_) ?_
      rotate_left
      · intro b W hS
        have h0 := hS.2.1.cell 0
        have h1 := hS.2.1.cell 1
        go_simp
        first | done | with_reducible rfl
      simp only [Act.put, List.getElem_toArray, List.getElem_cons_succ, List.getElem_cons_zero, List.setIfInBounds_toArray, List.set_cons_zero, List.set_cons_succ]
      refine wpAnyU_take (i := 13) (v := ?_) (by decide) rfl (by kernel_rfl) (by kernel_rfl) (by kernel_rfl) (fun _ _ _ h => h) (Steady.plain (by kernel_rfl) ?_) ?_
      rotate_left
      · intro b W hS
        have h0 := hS.2.1.cell 0
        have h1 := hS.2.1.cell 1
        go_simp
        first | done | with_reducible rfl
      simp only [Act.put, List.getElem_toArray, List.getElem_cons_succ, List.getElem_cons_zero, List.setIfInBounds_toArray, List.set_cons_zero, List.set_cons_succ]
      refine wpAnyU_turn (i := 14) (v := undef) (b := [false]) (b' := [true]) rfl (by kernel_rfl) (by kernel_rfl) (by kernel_rfl) (by kernel_rfl) (turn_store (ty := 27) (x := .tmp 4) (y := .tmp 48) (by kernel_rfl) w.heap.size (rowE (.slice none 0 0) (.slice fo fl.length fc) (.slice (some ⟨V5.heap.size, 0, none⟩) bd.length cap9) ⟨ky, [], [], (ask : Int), (cam : Int), (sta : Int), fl, bd, 1⟩) (by kernel_rfl) (by kernel_rfl) infoEntK (oneEntK _ _ _ _ _ _ _ _ _ _ _ _ _ _ _) (fun W hS => ⟨_, _, hS.2.2.1, rfl, hS.stored⟩)) ?_
      simp only [Act.put, List.getElem_toArray, List.getElem_cons_succ, List.getElem_cons_zero, List.setIfInBounds_toArray, List.set_cons_zero, List.set_cons_succ]
      refine wpAnyU_take (i := 15) (v := ?_) (by decide) rfl (by kernel_rfl) (by kernel_rfl) (by kernel_rfl) (fun _ _ _ h => h) (Steady.plain (by kernel_rfl) ?_) ?_
      rotate_left
      · intro b W hS
        have h0 := hS.2.1.cell 0
        have h1 := hS.2.1.cell 1
        go_simp
        first | done | with_reducible rfl
      simp only [Act.put, List.getElem_toArray, List.getElem_cons_succ, List.getElem_cons_zero, List.setIfInBounds_toArray, List.set_cons_zero, List.set_cons_succ]
      refine wpAnyU_done (b := [true]) (by kernel_rfl) (by kernel_rfl) ?_ _
      intro W hS
      go_wp2_with fail
      refine bodyPost_ret (results_row2 Tryd.results39 _ _ w.heap.size _ rfl hS.2.2.1 Tryd.underlying27 rfl infoEntK) rfl ?_
      have hk := hS.2.2.2
      refine ⟨_, _, _, _, true, sB, rfl, ⟨(ownsRow_kept HM.out.1 hk (fun k e hx => by have := (HM.out.1.lt k e).1; omega)).reads, (ownsRow_kept HM.out.2.1 hk (fun k e hx => by have := (HM.out.2.1.lt k e).1; omega)).reads2.2, reads_kept HRD.out hk HBI2.out⟩, HNI.out.1, HNI.out.2, HBI.out, HM.out.2.2.trans (hk.below (fun k e _ => by omega) (by have := HSZ.out; omega)), HENT.out, by simpa using HQ.out⟩
    · simp only [Bool.not_false, Bool.true_and, decide_eq_false hl0] at HQ
      have hlz : ((ll : Int) == 0) = false := by rw [beq_eq_false_iff_ne]; omega
      refine wp_region_U [14] (by kernel_rfl) (HeldR w W10 (rowE (.slice none 0 0) (.slice fo fl.length fc) (.slice (some ⟨V5.heap.size, 0, none⟩) bd.length cap9) ⟨ky, [], [], (ask : Int), (cam : Int), (sta : Int), fl, bd, 1⟩) #[.slice lv ll lc, .bool false] (rowE (.slice none 0 0) (.slice none 0 0) (.slice none 0 0) zeroE)) (b := [false]) (by kernel_rfl) HS.drew ?_
      refine wpAnyU_take (i := 0) (v := .agg (rowE (.slice none 0 0) (.slice fo fl.length fc) (.slice (some ⟨V5.heap.size, 0, none⟩) bd.length cap9) ⟨ky, [], [], (ask : Int), (cam : Int), (sta : Int), fl, bd, 1⟩)) (by decide) rfl (by kernel_rfl) (by kernel_rfl) (by kernel_rfl) (fun _ _ _ h => h) (Steady.plain (by kernel_rfl) ?_) ?_
      · intro b W hS
        exact load_gives (x := .tmp 7) (by kernel_rfl) (w.heap.size + 2) (by kernel_rfl) hS.1 Tryd.underlying27 rfl infoEntK
      simp only [Act.put, List.getElem_toArray, List.getElem_cons_succ, List.getElem_cons_zero, List.setIfInBounds_toArray, List.set_cons_zero, List.set_cons_succ]
      refine wpAnyU_take (i := 1) (v := ?_) (by decide) rfl (by kernel_rfl) (by kernel_rfl) (by kernel_rfl) (fun _ _ _ h => h) (Steady.plain (by kernel_rfl) ?_) ?_
      rotate_left
      · intro b W hS
        have h0 := hS.2.1.cell 0
        have h1 := hS.2.1.cell 1
        go_simp
        first | done | with_reducible rfl
      simp only [Act.put, List.getElem_toArray, List.getElem_cons_succ, List.getElem_cons_zero, List.setIfInBounds_toArray, List.set_cons_zero, List.set_cons_succ]
      refine wpAnyU_take (i := 2) (v := ?_) (by decide) rfl (by kernel_rfl) (by kernel_rfl) (by kernel_rfl) (fun _ _ _ h => h) (Steady.plain (by kernel_rfl) ?_) ?_
      rotate_left
      · intro b W hS
        have h0 := hS.2.1.cell 0
        have h1 := hS.2.1.cell 1
        go_simp
        first | done | with_reducible rfl
      simp only [Act.put, List.getElem_toArray, List.getElem_cons_succ, List.getElem_cons_zero, List.setIfInBounds_toArray, List.set_cons_zero, List.set_cons_succ]
      refine wpAnyU_take (i := 3) (v := ?_) (by decide) rfl (by kernel_rfl) (by kernel_rfl) (by kernel_rfl) (fun _ _ _ h => h) (Steady.plain (by kernel_rfl) ?_) ?_
      rotate_left
      · intro b W hS
        have h0 := hS.2.1.cell 0
        have h1 := hS.2.1.cell 1
        go_simp
        first | done | with_reducible rfl
      simp only [Act.put, List.getElem_toArray, List.getElem_cons_succ, List.getElem_cons_zero, List.setIfInBounds_toArray, List.set_cons_zero, List.set_cons_succ]
      refine wpAnyU_take (i := 4) (v := ?_) (by decide) rfl (by kernel_rfl) (by kernel_rfl) (by kernel_rfl) (fun _ _ _ h => h) (Steady.plain (by kernel_rfl) ?_) ?_
      rotate_left
      · intro b W hS
        have h0 := hS.2.1.cell 0
        have h1 := hS.2.1.cell 1
        go_simp
        first | done | with_reducible rfl
      simp only [Act.put, List.getElem_toArray, List.getElem_cons_succ, List.getElem_cons_zero, List.setIfInBounds_toArray, List.set_cons_zero, List.set_cons_succ]
      refine wpAnyU_take (i := 5) (v := ?_) (by decide) rfl (by kernel_rfl) (by kernel_rfl) (by kernel_rfl) (fun _ _ _ h => h) (Steady.plain (by kernel_rfl) ?_) ?_
      rotate_left
      · intro b W hS
        have h0 := hS.2.1.cell 0
        have h1 := hS.2.1.cell 1
        go_simp
        first | done | with_reducible rfl
      simp only [Act.put, List.getElem_toArray, List.getElem_cons_succ, List.getElem_cons_zero, List.setIfInBounds_toArray, List.set_cons_zero, List.set_cons_succ]
      refine wpAnyU_take (i := 6) (v := ?_) (by decide) rfl (by kernel_rfl) (by kernel_rfl) (by kernel_rfl) (fun _ _ _ h => h) (Steady.plain (by kernel_rfl) ?_) ?_
      rotate_left
      · intro b W hS
        have h0 := hS.2.1.cell 0
        have h1 := hS.2.1.cell 1
        go_simp
        first | done | with_reducible rfl
      simp only [Act.put, List.getElem_toArray, List.getElem_cons_succ, List.getElem_cons_zero, List.setIfInBounds_toArray, List.set_cons_zero, List.set_cons_succ]
      refine wpAnyU_take (i := 7) (v := ?_) (by decide) rfl (by kernel_rfl) (by kernel_rfl) (by kernel_rfl) (fun _ _ _ h => h) (Steady.plain (by kernel_rfl) ?_) ?_
      rotate_left
      · intro b W hS
        have h0 := hS.2.1.cell 0
        have h1 := hS.2.1.cell 1
        go_simp
        first | done | with_reducible rfl
      simp only [Act.put, List.getElem_toArray, List.getElem_cons_succ, List.getElem_cons_zero, List.setIfInBounds_toArray, List.set_cons_zero, List.set_cons_succ]
      refine wpAnyU_take (i := 8) (v := ?_) (by decide) rfl (by kernel_rfl) (by kernel_rfl) (by kernel_rfl) (fun _ _ _ h => h) (Steady.plain (by kernel_rfl) ?_) ?_
      rotate_left
      · intro b W hS
        have h0 := hS.2.1.cell 0
        have h1 := hS.2.1.cell 1
        go_simp
        first | done | with_reducible rfl
      simp only [Act.put, List.getElem_toArray, List.getElem_cons_succ, List.getElem_cons_zero, List.setIfInBounds_toArray, List.set_cons_zero, List.set_cons_succ]
      refine wpAnyU_take (i := 9) (v := ?_) (by decide) rfl (by kernel_rfl) (by kernel_rfl) (by kernel_rfl) (fun _ _ _ h => h) (Steady.plain (by kernel_rfl) ?_) ?_
      rotate_left
      · intro b W hS
        have h0 := hS.2.1.cell 0
        have h1 := hS.2.1.cell 1
        go_simp
        first | done | with_reducible rfl
      simp only [Act.put, List.getElem_toArray, List.getElem_cons_succ, List.getElem_cons_zero, List.setIfInBounds_toArray, List.set_cons_zero, List.set_cons_succ]
      refine wpAnyU_take (i := 10) (v := ?_) (by decide) rfl (by kernel_rfl) (by kernel_rfl) (by kernel_rfl) (fun _ _ _ h => h) (Steady.plain (by kernel_rfl) ?_) ?_
      rotate_left
      · intro b W hS
        have h0 := hS.2.1.cell 0
        have h1 := hS.2.1.cell 1
        go_simp
        first | done | with_reducible rfl
      simp only [Act.put, List.getElem_toArray, List.getElem_cons_succ, List.getElem_cons_zero, List.setIfInBounds_toArray, List.set_cons_zero, List.set_cons_succ]
      refine wpAnyU_take (i := 11) (v := ?_) (by decide) rfl (by kernel_rfl) (by kernel_rfl) (by kernel_rfl) (fun _ _ _ h => h) (Steady.plain (by kernel_rfl) ?_) ?_
      rotate_left
      · intro b W hS
        have h0 := hS.2.1.cell 0
        have h1 := hS.2.1.cell 1
        go_simp
        first | done | with_reducible rfl
      simp only [Act.put, List.getElem_toArray, List.getElem_cons_succ, List.getElem_cons_zero, List.setIfInBounds_toArray, List.set_cons_zero, List.set_cons_succ]
      refine wpAnyU_take (i := 12) (v := ?_) (by decide) rfl (by kernel_rfl) (by kernel_rfl) (by kernel_rfl) (fun _ _ _ h => h) (Steady.plain (by kernel_rfl) ?_) ?_
      rotate_left
      · intro b W hS
        have h0 := hS.2.1.cell 0
        have h1 := hS.2.1.cell 1
        go_simp
        first | done | with_reducible rfl
      simp only [Act.put, List.getElem_toArray, List.getElem_cons_succ, List.getElem_cons_zero, List.setIfInBounds_toArray, List.set_cons_zero, List.set_cons_succ]
      refine wpAnyU_take (i := 13) (v := ?_) (by decide) rfl (by kernel_rfl) (by kernel_rfl) (by kernel_rfl) (fun _ _ _ h => h) (Steady.plain (by kernel_rfl) ?_) ?_
      rotate_left
      · intro b W hS
        have h0 := hS.2.1.cell 0
        have h1 := hS.2.1.cell 1
        go_simp
        first | done | with_reducible rfl
      simp only [Act.put, List.getElem_toArray, List.getElem_cons_succ, List.getElem_cons_zero, List.setIfInBounds_toArray, List.set_cons_zero, List.set_cons_succ]
      refine wpAnyU_turn (i := 14) (v := undef) (b := [false]) (b' := [true]) rfl (by kernel_rfl) (by kernel_rfl) (by kernel_rfl) (by kernel_rfl) (turn_store (ty := 27) (x := .tmp 4) (y := .tmp 48) (by kernel_rfl) w.heap.size (rowE (.slice none 0 0) (.slice fo fl.length fc) (.slice (some ⟨V5.heap.size, 0, none⟩) bd.length cap9) ⟨ky, [], [], (ask : Int), (cam : Int), (sta : Int), fl, bd, 1⟩) (by kernel_rfl) (by kernel_rfl) infoEntK (oneEntK _ _ _ _ _ _ _ _ _ _ _ _ _ _ _) (fun W hS => ⟨_, _, hS.2.2.1, rfl, hS.stored⟩)) ?_
      simp only [Act.put, List.getElem_toArray, List.getElem_cons_succ, List.getElem_cons_zero, List.setIfInBounds_toArray, List.set_cons_zero, List.set_cons_succ]
      refine wpAnyU_take (i := 15) (v := ?_) (by decide) rfl (by kernel_rfl) (by kernel_rfl) (by kernel_rfl) (fun _ _ _ h => h) (Steady.plain (by kernel_rfl) ?_) ?_
      rotate_left
      · intro b W hS
        have h0 := hS.2.1.cell 0
        have h1 := hS.2.1.cell 1
        go_simp
        first | done | with_reducible rfl
      simp only [Act.put, List.getElem_toArray, List.getElem_cons_succ, List.getElem_cons_zero, List.setIfInBounds_toArray, List.set_cons_zero, List.set_cons_succ]
      refine wpAnyU_done (b := [true]) (by kernel_rfl) (by kernel_rfl) ?_ _
      intro W hS
      go_wp2_with fail
      refine bodyPost_ret (results_row2 Tryd.results39 _ _ w.heap.size _ rfl hS.2.2.1 Tryd.underlying27 rfl infoEntK) rfl ?_
      have hk := hS.2.2.2
      refine ⟨_, _, _, _, false, sB, rfl, ⟨(ownsRow_kept HM.out.1 hk (fun k e hx => by have := (HM.out.1.lt k e).1; omega)).reads, (ownsRow_kept HM.out.2.1 hk (fun k e hx => by have := (HM.out.2.1.lt k e).1; omega)).reads2.2, reads_kept HRD.out hk HBI2.out⟩, HNI.out.1, HNI.out.2, HBI.out, HM.out.2.2.trans (hk.below (fun k e _ => by omega) (by have := HSZ.out; omega)), HENT.out, by simpa using HQ.out⟩

set_option maxRecDepth 8000 in
set_option maxHeartbeats 8000000 in
theorem readEntry2_any (rv : Value) (l : List UInt8) (w : World) (hb : Bytes w rv l) (hin : In (fun k => k < w.heap.size) rv) (hl : l.length ≤ 100000) :
    Calls Tryd.prog 39 #[.int .i64 2, rv] w (EntRead w 2 l) := by
  obtain ⟨ra, rn, rc, hrv⟩ : ∃ a n c, rv = .slice a n c := by obtain ⟨a, c, h, -⟩ := bytes_form hb; exact ⟨_, _, _, h⟩
  subst hrv
  obtain ⟨W0, hW0⟩ : ∃ W, (((w.alloc (.cells #[.string ⟨#[]⟩, .string ⟨#[]⟩, .slice none 0 0, .int .i64 0, .int .i64 0, .int .i64 0, .slice none 0 0, .slice none 0 0, .int .i64 0] 27)).alloc (.cells #[.slice ra rn rc, .bool false] 87)).alloc (.cells #[.string ⟨#[]⟩, .string ⟨#[]⟩, .slice none 0 0, .int .i64 0, .int .i64 0, .int .i64 0, .slice none 0 0, .slice none 0 0, .int .i64 0] 27)).setRow (w.heap.size + 1 + 1) #[.string ⟨#[]⟩, .string ⟨#[]⟩, .slice none 0 0, .int .i64 0, .int .i64 0, .int .i64 0, .slice none 0 0, .slice none 0 0, .int .i64 1] = W := ⟨_, rfl⟩
  have hz1 : rowIs (((w.alloc (.cells #[.string ⟨#[]⟩, .string ⟨#[]⟩, .slice none 0 0, .int .i64 0, .int .i64 0, .int .i64 0, .slice none 0 0, .slice none 0 0, .int .i64 0] 27)).alloc (.cells #[.slice ra rn rc, .bool false] 87)).alloc (.cells #[.string ⟨#[]⟩, .string ⟨#[]⟩, .slice none 0 0, .int .i64 0, .int .i64 0, .int .i64 0, .slice none 0 0, .slice none 0 0, .int .i64 0] 27)) (w.heap.size + 1 + 1) #[.string ⟨#[]⟩, .string ⟨#[]⟩, .slice none 0 0, .int .i64 0, .int .i64 0, .int .i64 0, .slice none 0 0, .slice none 0 0, .int .i64 0] 27 := rowIs_new_at _ _ _ _ (by simp)
  have hbW3 : Below w.heap.size w (((w.alloc (.cells #[.string ⟨#[]⟩, .string ⟨#[]⟩, .slice none 0 0, .int .i64 0, .int .i64 0, .int .i64 0, .slice none 0 0, .slice none 0 0, .int .i64 0] 27)).alloc (.cells #[.slice ra rn rc, .bool false] 87)).alloc (.cells #[.string ⟨#[]⟩, .string ⟨#[]⟩, .slice none 0 0, .int .i64 0, .int .i64 0, .int .i64 0, .slice none 0 0, .slice none 0 0, .int .i64 0] 27)) := (chain2 (chain2 (below_alloc _ _) (below_alloc _ _).size (below_alloc _ _)) (chain2 (below_alloc _ _) (below_alloc _ _).size (below_alloc _ _)).size (below_alloc _ _))
  have hbW : Below w.heap.size w W0 := by rw [← hW0]; exact below_setRow hbW3 (by omega) _
  have hM0 : EK w (.slice none 0 0) (.slice none 0 0) (.slice none 0 0) ⟨[], [], [], 0, 0, 0, [], [], 1⟩ (some l) W0 := by
    refine ⟨⟨⟨.slice ra rn rc, l, false, ?_, bytes_below hb hbW, fun k e => by have := hin k e; omega, rfl, fun r h => by cases h; rfl, hl⟩⟩, ?_, ?_, World.ownsRow_nil _ _ _ _, World.ownsRow_nil _ _ _ _, hbW⟩
    · rw [← hW0]; exact ((rowIs_new_at _ _ _ _ (by simp)).below (below_alloc _ _)).setRow_other _ (by omega)
    · rw [← hW0]; exact (rowIs_new_at _ _ _ _ (by simp)).setRow _
    · rw [← hW0]; exact (((rowIs_new _ _ _).below (below_alloc _ _)).below (below_alloc _ _)).setRow_other _ (by omega)
  have M0 := hid hM0
  have HBL := hid hbW
  clear hM0 hbW hbW3 hb
  go_enter Tryd.func39, Tryd.ntmps39
  go_wp2_with (refine wpList_store_row rfl 27 _ _ rfl (w.heap.size + 1 + 1) _ rfl rfl 27 #[.string ⟨#[]⟩, .string ⟨#[]⟩, .slice none 0 0, .int .i64 0, .int .i64 0, .int .i64 0, .slice none 0 0, .slice none 0 0, .int .i64 0] hz1 infoEntK rfl (oneEntK _ _ _ _ _ _ _ _ _ _ _ _ _ _ _) ?_)
  try rw [hW0]
  clear hW0 hz1
  refine (number_any (w.heap.size + 1) (some l) W0 M0.out.rd).mono ?_
  rintro e V0 ⟨gn, s1, hlen, hat, rfl, hk1, hk2⟩
  have Hgn := hid (And.intro hat hlen)
  have N0 := hid (M0.out.read hk1 hk2)
  clear hk1 hk2 hat hlen M0
  have hy : V0.cell? ⟨w.heap.size + 1 + 1, 8, none⟩ = some (.int .i64 1) := N0.out.row.cell 8
  have hf := N0.out.row.free 8
  obtain ⟨W1, hW1⟩ : ∃ W, V0.setCell ⟨w.heap.size + 1 + 1, 8, none⟩ (.int .i64 (gn : Int)) = W := ⟨_, rfl⟩
  have M1 := hid (show EK w (.slice none 0 0) (.slice none 0 0) (.slice none 0 0) ⟨[], [], [], 0, 0, 0, [], [], (gn : Int)⟩ s1 W1 by rw [← hW1]; exact N0.out.store 8 _ rfl N0.out.on N0.out.of)
  clear N0
  go_wp2_with fail
  try rw [hW1]
  clear hW1 hy hf
  refine (text_any (w.heap.size + 1) s1 W1 M1.out.rd).mono ?_
  rintro e V1 ⟨ky, s2, hlen, hat, rfl, hk1, hk2⟩
  have Hky := hid (And.intro hat hlen)
  have N1 := hid (M1.out.read hk1 hk2)
  clear hk1 hk2 hat hlen M1
  have hy : V1.cell? ⟨w.heap.size + 1 + 1, 0, none⟩ = some (strV []) := N1.out.row.cell 0
  have hf := N1.out.row.free 0
  obtain ⟨W2, hW2⟩ : ∃ W, V1.setCell ⟨w.heap.size + 1 + 1, 0, none⟩ (strV ky) = W := ⟨_, rfl⟩
  have M2 := hid (show EK w (.slice none 0 0) (.slice none 0 0) (.slice none 0 0) ⟨ky, [], [], 0, 0, 0, [], [], (gn : Int)⟩ s2 W2 by rw [← hW2]; exact N1.out.store 0 _ rfl N1.out.on N1.out.of)
  clear N1
  go_wp2_with fail
  try rw [hW2]
  clear hW2 hy hf
  refine (number_any (w.heap.size + 1) s2 W2 M2.out.rd).mono ?_
  rintro e V2 ⟨ask, s3, hlen, hat, rfl, hk1, hk2⟩
  have Hask := hid (And.intro hat hlen)
  have N2 := hid (M2.out.read hk1 hk2)
  clear hk1 hk2 hat hlen M2
  have hy : V2.cell? ⟨w.heap.size + 1 + 1, 3, none⟩ = some (.int .i64 0) := N2.out.row.cell 3
  have hf := N2.out.row.free 3
  obtain ⟨W3, hW3⟩ : ∃ W, V2.setCell ⟨w.heap.size + 1 + 1, 3, none⟩ (.int .i64 (ask : Int)) = W := ⟨_, rfl⟩
  have M3 := hid (show EK w (.slice none 0 0) (.slice none 0 0) (.slice none 0 0) ⟨ky, [], [], (ask : Int), 0, 0, [], [], (gn : Int)⟩ s3 W3 by rw [← hW3]; exact N2.out.store 3 _ rfl N2.out.on N2.out.of)
  clear N2
  go_wp2_with fail
  try rw [hW3]
  clear hW3 hy hf
  refine (number_any (w.heap.size + 1) s3 W3 M3.out.rd).mono ?_
  rintro e V3 ⟨cam, s4, hlen, hat, rfl, hk1, hk2⟩
  have Hcam := hid (And.intro hat hlen)
  have N3 := hid (M3.out.read hk1 hk2)
  clear hk1 hk2 hat hlen M3
  have hy : V3.cell? ⟨w.heap.size + 1 + 1, 4, none⟩ = some (.int .i64 0) := N3.out.row.cell 4
  have hf := N3.out.row.free 4
  obtain ⟨W4, hW4⟩ : ∃ W, V3.setCell ⟨w.heap.size + 1 + 1, 4, none⟩ (.int .i64 (cam : Int)) = W := ⟨_, rfl⟩
  have M4 := hid (show EK w (.slice none 0 0) (.slice none 0 0) (.slice none 0 0) ⟨ky, [], [], (ask : Int), (cam : Int), 0, [], [], (gn : Int)⟩ s4 W4 by rw [← hW4]; exact N3.out.store 4 _ rfl N3.out.on N3.out.of)
  clear N3
  go_wp2_with fail
  try rw [hW4]
  clear hW4 hy hf
  refine (number_any (w.heap.size + 1) s4 W4 M4.out.rd).mono ?_
  rintro e V4 ⟨sta, s5, hlen, hat, rfl, hk1, hk2⟩
  have Hsta := hid (And.intro hat hlen)
  have N4 := hid (M4.out.read hk1 hk2)
  clear hk1 hk2 hat hlen M4
  have hy : V4.cell? ⟨w.heap.size + 1 + 1, 5, none⟩ = some (.int .i64 0) := N4.out.row.cell 5
  have hf := N4.out.row.free 5
  obtain ⟨W5, hW5⟩ : ∃ W, V4.setCell ⟨w.heap.size + 1 + 1, 5, none⟩ (.int .i64 (sta : Int)) = W := ⟨_, rfl⟩
  have M5 := hid (show EK w (.slice none 0 0) (.slice none 0 0) (.slice none 0 0) ⟨ky, [], [], (ask : Int), (cam : Int), (sta : Int), [], [], (gn : Int)⟩ s5 W5 by rw [← hW5]; exact N4.out.store 5 _ rfl N4.out.on N4.out.of)
  clear N4
  go_wp2_with fail
  try rw [hW5]
  clear hW5 hy hf
  refine (fieldsK_any (w.heap.size + 1) s5 W5 M5.out.rd).mono ?_
  rintro e V5 ⟨cf, sc6, fl, fvv, s6, hat0, hat, hown, rfl, hk1, hk2⟩
  have hown := hown.base M5.out.size
  obtain ⟨fo, fc, hfv⟩ := ownsRow_form2 hown
  subst hfv
  have Hfl := hid (And.intro hat0 (And.intro hat hown))
  have N5 := hid (M5.out.read hk1 hk2)
  clear hk1 hk2 hat hat0 hown M5
  have hy : V5.cell? ⟨w.heap.size + 1 + 1, 6, none⟩ = some (.slice none 0 0) := N5.out.row.cell 6
  have hf := N5.out.row.free 6
  obtain ⟨W6, hW6⟩ : ∃ W, V5.setCell ⟨w.heap.size + 1 + 1, 6, none⟩ (.slice fo fl.length fc) = W := ⟨_, rfl⟩
  have M6 := hid (show EK w (.slice none 0 0) (.slice fo fl.length fc) (.slice none 0 0) ⟨ky, [], [], (ask : Int), (cam : Int), (sta : Int), fl, [], (gn : Int)⟩ s6 W6 by rw [← hW6]; exact N5.out.store 6 _ rfl N5.out.on Hfl.out.2.2)
  clear N5
  go_wp2_with fail
  try rw [hW6]
  clear hW6 hy hf
  refine (text_any (w.heap.size + 1) s6 W6 M6.out.rd).mono ?_
  rintro e V6 ⟨bd, sB, hlen, hat, rfl, hk1, hk2⟩
  have Hbd := hid (And.intro hat hlen)
  have N6 := hid (M6.out.read hk1 hk2)
  clear hk1 hk2 hat hlen M6
  obtain ⟨cap9, W9, hcv, hrd9, hb9, hlt9⟩ := bytes_made14 (P := Tryd.prog) bd V6 9 25 5 Tryd.underlying9 Tryd.underlying25 Tryd.underlying5
  have N9 := hid (N6.out.after hb9)
  have y7 : W9.cell? ⟨w.heap.size + 1 + 1, 7, none⟩ = some (.slice none 0 0) := N9.out.row.cell 7
  have f7 := N9.out.row.free 7
  have hlt8 := N6.out.size
  obtain ⟨W10, hW10⟩ : ∃ W, W9.setCell ⟨w.heap.size + 1 + 1, 7, none⟩ (.slice (some ⟨V6.heap.size, 0, none⟩) bd.length cap9) = W := ⟨_, rfl⟩
  have M10 := hid (show EK w (.slice none 0 0) (.slice fo fl.length fc) (.slice (some ⟨V6.heap.size, 0, none⟩) bd.length cap9) ⟨ky, [], [], (ask : Int), (cam : Int), (sta : Int), fl, bd, (gn : Int)⟩ sB W10 by rw [← hW10]; exact N9.out.store 7 _ rfl N9.out.on N9.out.of)
  have HRD := hid (show Reads W10 (.slice (some ⟨V6.heap.size, 0, none⟩) bd.length cap9) (bd.map byteV) by rw [← hW10]; exact reads_kept hrd9 ((Kept.refl (fun k => k = w.heap.size + 2) W9).setCell (i := 7) (.inl rfl) _) (fun k e hx => by have e2 : V6.heap.size = k := Option.some.inj e; omega))
  have HBI := hid (show In (fun k => w.heap.size ≤ k) (.slice (some ⟨V6.heap.size, 0, none⟩) bd.length cap9) from fun k e => (by have e2 : V6.heap.size = k := Option.some.inj e; omega))
  have HV6 := hid hlt8
  clear hrd9 hb9 hlt9 N6 N9 hlt8
  go_wp2_with fail
  try rw [hW10]
  clear hW10 y7 f7 hcv
  have q1 := M10.out.row
  have q2 := M10.out.res
  have hdd : ∃ (lv : Option Addr) (ll lc : Nat) (bad : Bool), rowIs W10 (w.heap.size + 1) #[.slice lv ll lc, .bool bad] 87 ∧ ((!bad && decide (ll = 0)) = true ↔ sB = some []) := by
    obtain ⟨v, l2, bad, h1, h2, h3, h4, h5, h6⟩ := M10.out.rd.ex
    obtain ⟨a2, c2, hv2, -⟩ := bytes_form h2
    subst hv2
    refine ⟨_, _, _, _, h1, ?_⟩
    rw [h4]
    cases sB with
    | none => simp
    | some r => rw [← h5 r rfl]; simp
  obtain ⟨lv, ll, lc, bad, qr, hq⟩ := hdd
  have HQ := hid hq
  have hent : entD 2 l = sB.map (fun r => (⟨ky, [], [], (ask : Int), (cam : Int), (sta : Int), fl, bd, (gn : Int)⟩, r)) := by
    have e1 := two_none (v := 2) (by decide) l
    have e2 := gen_two' (v := 2) (by decide) Hgn.out.1
    exact entD_parts' 2 l e1 e2 Hky.out.1 Hask.out.1 Hcam.out.1 Hsta.out.1 Hfl.out.1 Hfl.out.2.1 Hbd.out.1
  have HENT := hid hent
  clear hq hent
  have HS : HeldR w W10 (rowE (.slice none 0 0) (.slice fo fl.length fc) (.slice (some ⟨V6.heap.size, 0, none⟩) bd.length cap9) ⟨ky, [], [], (ask : Int), (cam : Int), (sta : Int), fl, bd, (gn : Int)⟩) #[.slice lv ll lc, .bool bad] (rowE (.slice none 0 0) (.slice none 0 0) (.slice none 0 0) zeroE) [false] W10 := ⟨q1, qr, q2, Kept.refl _ _⟩
  have HM := hid (And.intro M10.out.on (And.intro M10.out.of M10.out.below))
  have HNI := hid (And.intro (show In (fun k => w.heap.size ≤ k) (.slice none 0 0) from fun k e => by have := (M10.out.on.lt k e).1; omega) (show In (fun k => w.heap.size ≤ k) (.slice fo fl.length fc) from fun k e => by have := (M10.out.of.lt k e).1; omega))
  have HSZ := hid M10.out.size
  have HBI2 := hid (show In (fun k => ¬ k = w.heap.size) (.slice (some ⟨V6.heap.size, 0, none⟩) bd.length cap9) from fun k e => (by have e2 : V6.heap.size = k := Option.some.inj e; have := HV6.out; omega))
  clear q1 q2 qr M10
  cases bad with
  | true =>
    simp only [Bool.not_true, Bool.false_and] at HQ
    refine wp_region_U [14] (by kernel_rfl) (HeldR w W10 (rowE (.slice none 0 0) (.slice fo fl.length fc) (.slice (some ⟨V6.heap.size, 0, none⟩) bd.length cap9) ⟨ky, [], [], (ask : Int), (cam : Int), (sta : Int), fl, bd, (gn : Int)⟩) #[.slice lv ll lc, .bool true] (rowE (.slice none 0 0) (.slice none 0 0) (.slice none 0 0) zeroE)) (b := [false]) (by kernel_rfl) HS.drew ?_
    refine wpAnyU_take (i := 0) (v := .agg (rowE (.slice none 0 0) (.slice fo fl.length fc) (.slice (some ⟨V6.heap.size, 0, none⟩) bd.length cap9) ⟨ky, [], [], (ask : Int), (cam : Int), (sta : Int), fl, bd, (gn : Int)⟩)) (by decide) rfl (by kernel_rfl) (by kernel_rfl) (by kernel_rfl) (fun _ _ _ h => h) (Steady.plain (by kernel_rfl) ?_) ?_
    · intro b W hS
      exact load_gives (x := .tmp 7) (by kernel_rfl) (w.heap.size + 2) (by kernel_rfl) hS.1 Tryd.underlying27 rfl infoEntK
    simp only [Act.put, List.getElem_toArray, List.getElem_cons_succ, List.getElem_cons_zero, List.setIfInBounds_toArray, List.set_cons_zero, List.set_cons_succ]
    refine wpAnyU_take (i := 1) (v := ?_) (by decide) rfl (by kernel_rfl) (by kernel_rfl) (by kernel_rfl) (fun _ _ _ h => h) (Steady.plain (by kernel_rfl) ?_) ?_
    rotate_left
    · intro b W hS
      have h0 := hS.2.1.cell 0
      have h1 := hS.2.1.cell 1
      go_simp
      first | done | with_reducible rfl
    simp only [Act.put, List.getElem_toArray, List.getElem_cons_succ, List.getElem_cons_zero, List.setIfInBounds_toArray, List.set_cons_zero, List.set_cons_succ]
    refine wpAnyU_take (i := 2) (v := ?_) (by decide) rfl (by kernel_rfl) (by kernel_rfl) (by kernel_rfl) (fun _ _ _ h => h) (Steady.plain (by kernel_rfl) ?_) ?_
    rotate_left
    · intro b W hS
      have h0 := hS.2.1.cell 0
      have h1 := hS.2.1.cell 1
      go_simp
      first | done | with_reducible rfl
    simp only [Act.put, List.getElem_toArray, List.getElem_cons_succ, List.getElem_cons_zero, List.setIfInBounds_toArray, List.set_cons_zero, List.set_cons_succ]
    refine wpAnyU_take (i := 3) (v := ?_) (by decide) rfl (by kernel_rfl) (by kernel_rfl) (by kernel_rfl) (fun _ _ _ h => h) (Steady.plain (by kernel_rfl) ?_) ?_
    rotate_left
    · intro b W hS
      have h0 := hS.2.1.cell 0
      have h1 := hS.2.1.cell 1
      go_simp
      first | done | with_reducible rfl
    simp only [Act.put, List.getElem_toArray, List.getElem_cons_succ, List.getElem_cons_zero, List.setIfInBounds_toArray, List.set_cons_zero, List.set_cons_succ]
    refine wpAnyU_take (i := 4) (v := ?_) (by decide) rfl (by kernel_rfl) (by kernel_rfl) (by kernel_rfl) (fun _ _ _ h => h) (Steady.plain (by kernel_rfl) ?_) ?_
    rotate_left
    · intro b W hS
      have h0 := hS.2.1.cell 0
      have h1 := hS.2.1.cell 1
      go_simp
      first | done | with_reducible rfl
    simp only [Act.put, List.getElem_toArray, List.getElem_cons_succ, List.getElem_cons_zero, List.setIfInBounds_toArray, List.set_cons_zero, List.set_cons_succ]
    refine wpAnyU_take (i := 5) (v := ?_) (by decide) rfl (by kernel_rfl) (by kernel_rfl) (by kernel_rfl) (fun _ _ _ h => h) (Steady.plain (by kernel_rfl) ?_) ?_
    rotate_left
    · intro b W hS
      have h0 := hS.2.1.cell 0
      have h1 := hS.2.1.cell 1
      go_simp
      first | done | with_reducible rfl
    simp only [Act.put, List.getElem_toArray, List.getElem_cons_succ, List.getElem_cons_zero, List.setIfInBounds_toArray, List.set_cons_zero, List.set_cons_succ]
    refine wpAnyU_take (i := 6) (v := ?_) (by decide) rfl (by kernel_rfl) (by kernel_rfl) (by kernel_rfl) (fun _ _ _ h => h) (Steady.plain (by kernel_rfl) ?_) ?_
    rotate_left
    · intro b W hS
      have h0 := hS.2.1.cell 0
      have h1 := hS.2.1.cell 1
      go_simp
      first | done | with_reducible rfl
    simp only [Act.put, List.getElem_toArray, List.getElem_cons_succ, List.getElem_cons_zero, List.setIfInBounds_toArray, List.set_cons_zero, List.set_cons_succ]
    refine wpAnyU_take (i := 7) (by decide) rfl (by kernel_rfl) (by kernel_rfl) (by kernel_rfl) (fun _ _ _ h => h) (Steady.off (by kernel_rfl)) ?_
    simp only [Act.put, List.getElem_toArray, List.getElem_cons_succ, List.getElem_cons_zero, List.setIfInBounds_toArray, List.set_cons_zero, List.set_cons_succ]
    refine wpAnyU_take (i := 8) (by decide) rfl (by kernel_rfl) (by kernel_rfl) (by kernel_rfl) (fun _ _ _ h => h) (Steady.off (by kernel_rfl)) ?_
    simp only [Act.put, List.getElem_toArray, List.getElem_cons_succ, List.getElem_cons_zero, List.setIfInBounds_toArray, List.set_cons_zero, List.set_cons_succ]
    refine wpAnyU_take (i := 9) (by decide) rfl (by kernel_rfl) (by kernel_rfl) (by kernel_rfl) (fun _ _ _ h => h) (Steady.off (by kernel_rfl)) ?_
    simp only [Act.put, List.getElem_toArray, List.getElem_cons_succ, List.getElem_cons_zero, List.setIfInBounds_toArray, List.set_cons_zero, List.set_cons_succ]
    refine wpAnyU_take (i := 10) (by decide) rfl (by kernel_rfl) (by kernel_rfl) (by kernel_rfl) (fun _ _ _ h => h) (Steady.off (by kernel_rfl)) ?_
    simp only [Act.put, List.getElem_toArray, List.getElem_cons_succ, List.getElem_cons_zero, List.setIfInBounds_toArray, List.set_cons_zero, List.set_cons_succ]
    refine wpAnyU_take (i := 11) (by decide) rfl (by kernel_rfl) (by kernel_rfl) (by kernel_rfl) (fun _ _ _ h => h) (Steady.off (by kernel_rfl)) ?_
    simp only [Act.put, List.getElem_toArray, List.getElem_cons_succ, List.getElem_cons_zero, List.setIfInBounds_toArray, List.set_cons_zero, List.set_cons_succ]
    refine wpAnyU_take (i := 12) (by decide) rfl (by kernel_rfl) (by kernel_rfl) (by kernel_rfl) (fun _ _ _ h => h) (Steady.off (by kernel_rfl)) ?_
    simp only [Act.put, List.getElem_toArray, List.getElem_cons_succ, List.getElem_cons_zero, List.setIfInBounds_toArray, List.set_cons_zero, List.set_cons_succ]
    refine wpAnyU_take (i := 13) (v := ?_) (by decide) rfl (by kernel_rfl) (by kernel_rfl) (by kernel_rfl) (fun _ _ _ h => h) (Steady.plain (by kernel_rfl) ?_) ?_
    rotate_left
    · intro b W hS
      have h0 := hS.2.1.cell 0
      have h1 := hS.2.1.cell 1
      go_simp
      first | done | with_reducible rfl
    simp only [Act.put, List.getElem_toArray, List.getElem_cons_succ, List.getElem_cons_zero, List.setIfInBounds_toArray, List.set_cons_zero, List.set_cons_succ]
    refine wpAnyU_turn (i := 14) (v := undef) (b := [false]) (b' := [true]) rfl (by kernel_rfl) (by kernel_rfl) (by kernel_rfl) (by kernel_rfl) (turn_store (ty := 27) (x := .tmp 4) (y := .tmp 48) (by kernel_rfl) w.heap.size (rowE (.slice none 0 0) (.slice fo fl.length fc) (.slice (some ⟨V6.heap.size, 0, none⟩) bd.length cap9) ⟨ky, [], [], (ask : Int), (cam : Int), (sta : Int), fl, bd, (gn : Int)⟩) (by kernel_rfl) (by kernel_rfl) infoEntK (oneEntK _ _ _ _ _ _ _ _ _ _ _ _ _ _ _) (fun W hS => ⟨_, _, hS.2.2.1, rfl, hS.stored⟩)) ?_
    simp only [Act.put, List.getElem_toArray, List.getElem_cons_succ, List.getElem_cons_zero, List.setIfInBounds_toArray, List.set_cons_zero, List.set_cons_succ]
    refine wpAnyU_take (i := 15) (v := ?_) (by decide) rfl (by kernel_rfl) (by kernel_rfl) (by kernel_rfl) (fun _ _ _ h => h) (Steady.plain (by kernel_rfl) ?_) ?_
    rotate_left
    · intro b W hS
      have h0 := hS.2.1.cell 0
      have h1 := hS.2.1.cell 1
      go_simp
      first | done | with_reducible rfl
    simp only [Act.put, List.getElem_toArray, List.getElem_cons_succ, List.getElem_cons_zero, List.setIfInBounds_toArray, List.set_cons_zero, List.set_cons_succ]
    refine wpAnyU_done (b := [true]) (by kernel_rfl) (by kernel_rfl) ?_ _
    intro W hS
    go_wp2_with fail
    refine bodyPost_ret (results_row2 Tryd.results39 _ _ w.heap.size _ rfl hS.2.2.1 Tryd.underlying27 rfl infoEntK) rfl ?_
    have hk := hS.2.2.2
    refine ⟨_, _, _, _, false, sB, rfl, ⟨(ownsRow_kept HM.out.1 hk (fun k e hx => by have := (HM.out.1.lt k e).1; omega)).reads, (ownsRow_kept HM.out.2.1 hk (fun k e hx => by have := (HM.out.2.1.lt k e).1; omega)).reads2.2, reads_kept HRD.out hk HBI2.out⟩, HNI.out.1, HNI.out.2, HBI.out, HM.out.2.2.trans (hk.below (fun k e _ => by omega) (by have := HSZ.out; omega)), HENT.out, by simpa using HQ.out⟩
  | false =>
    by_cases hl0 : ll = 0
    · subst hl0
      simp only [Bool.not_false, Bool.true_and, decide_true] at HQ
      refine wp_region_U [14] (by kernel_rfl) (HeldR w W10 (rowE (.slice none 0 0) (.slice fo fl.length fc) (.slice (some ⟨V6.heap.size, 0, none⟩) bd.length cap9) ⟨ky, [], [], (ask : Int), (cam : Int), (sta : Int), fl, bd, (gn : Int)⟩) #[.slice lv 0 lc, .bool false] (rowE (.slice none 0 0) (.slice none 0 0) (.slice none 0 0) zeroE)) (b := [false]) (by kernel_rfl) HS.drew ?_
      refine wpAnyU_take (i := 0) (v := .agg (rowE (.slice none 0 0) (.slice fo fl.length fc) (.slice (some ⟨V6.heap.size, 0, none⟩) bd.length cap9) ⟨ky, [], [], (ask : Int), (cam : Int), (sta : Int), fl, bd, (gn : Int)⟩)) (by decide) rfl (by kernel_rfl) (by kernel_rfl) (by kernel_rfl) (fun _ _ _ h => h) (Steady.plain (by kernel_rfl) ?_) ?_
      · intro b W hS
        exact load_gives (x := .tmp 7) (by kernel_rfl) (w.heap.size + 2) (by kernel_rfl) hS.1 Tryd.underlying27 rfl infoEntK
      simp only [Act.put, List.getElem_toArray, List.getElem_cons_succ, List.getElem_cons_zero, List.setIfInBounds_toArray, List.set_cons_zero, List.set_cons_succ]
      refine wpAnyU_take (i := 1) (v := ?_) (by decide) rfl (by kernel_rfl) (by kernel_rfl) (by kernel_rfl) (fun _ _ _ h => h) (Steady.plain (by kernel_rfl) ?_) ?_
      rotate_left
      · intro b W hS
        have h0 := hS.2.1.cell 0
        have h1 := hS.2.1.cell 1
        go_simp
        first | done | with_reducible rfl
      simp only [Act.put, List.getElem_toArray, List.getElem_cons_succ, List.getElem_cons_zero, List.setIfInBounds_toArray, List.set_cons_zero, List.set_cons_succ]
      refine wpAnyU_take (i := 2) (v := ?_) (by decide) rfl (by kernel_rfl) (by kernel_rfl) (by kernel_rfl) (fun _ _ _ h => h) (Steady.plain (by kernel_rfl) ?_) ?_
      rotate_left
      · intro b W hS
        have h0 := hS.2.1.cell 0
        have h1 := hS.2.1.cell 1
        go_simp
        first | done | with_reducible rfl
      simp only [Act.put, List.getElem_toArray, List.getElem_cons_succ, List.getElem_cons_zero, List.setIfInBounds_toArray, List.set_cons_zero, List.set_cons_succ]
      refine wpAnyU_take (i := 3) (v := ?_) (by decide) rfl (by kernel_rfl) (by kernel_rfl) (by kernel_rfl) (fun _ _ _ h => h) (Steady.plain (by kernel_rfl) ?_) ?_
      rotate_left
      · intro b W hS
        have h0 := hS.2.1.cell 0
        have h1 := hS.2.1.cell 1
        go_simp
        first | done | with_reducible rfl
      simp only [Act.put, List.getElem_toArray, List.getElem_cons_succ, List.getElem_cons_zero, List.setIfInBounds_toArray, List.set_cons_zero, List.set_cons_succ]
      refine wpAnyU_take (i := 4) (v := ?_) (by decide) rfl (by kernel_rfl) (by kernel_rfl) (by kernel_rfl) (fun _ _ _ h => h) (Steady.plain (by kernel_rfl) ?_) ?_
      rotate_left
      · intro b W hS
        have h0 := hS.2.1.cell 0
        have h1 := hS.2.1.cell 1
        go_simp
        first | done | with_reducible rfl
      simp only [Act.put, List.getElem_toArray, List.getElem_cons_succ, List.getElem_cons_zero, List.setIfInBounds_toArray, List.set_cons_zero, List.set_cons_succ]
      refine wpAnyU_take (i := 5) (v := ?_) (by decide) rfl (by kernel_rfl) (by kernel_rfl) (by kernel_rfl) (fun _ _ _ h => h) (Steady.plain (by kernel_rfl) ?_) ?_
      rotate_left
      · intro b W hS
        have h0 := hS.2.1.cell 0
        have h1 := hS.2.1.cell 1
        go_simp
        first | done | with_reducible rfl
      simp only [Act.put, List.getElem_toArray, List.getElem_cons_succ, List.getElem_cons_zero, List.setIfInBounds_toArray, List.set_cons_zero, List.set_cons_succ]
      refine wpAnyU_take (i := 6) (v := ?_) (by decide) rfl (by kernel_rfl) (by kernel_rfl) (by kernel_rfl) (fun _ _ _ h => h) (Steady.plain (by kernel_rfl) ?_) ?_
      rotate_left
      · intro b W hS
        have h0 := hS.2.1.cell 0
        have h1 := hS.2.1.cell 1
        go_simp
        first | done | with_reducible rfl
      simp only [Act.put, List.getElem_toArray, List.getElem_cons_succ, List.getElem_cons_zero, List.setIfInBounds_toArray, List.set_cons_zero, List.set_cons_succ]
      refine wpAnyU_take (i := 7) (v := ?_) (by decide) rfl (by kernel_rfl) (by kernel_rfl) (by kernel_rfl) (fun _ _ _ h => h) (Steady.plain (by kernel_rfl) ?_) ?_
      rotate_left
      · intro b W hS
        have h0 := hS.2.1.cell 0
        have h1 := hS.2.1.cell 1
        go_simp
        first | done | with_reducible rfl
      simp only [Act.put, List.getElem_toArray, List.getElem_cons_succ, List.getElem_cons_zero, List.setIfInBounds_toArray, List.set_cons_zero, List.set_cons_succ]
      refine wpAnyU_take (i := 8) (v := ?_) (by decide) rfl (by kernel_rfl) (by kernel_rfl) (by kernel_rfl) (fun _ _ _ h => h) (Steady.plain (by kernel_rfl) ?_) ?_
      rotate_left
      · intro b W hS
        have h0 := hS.2.1.cell 0
        have h1 := hS.2.1.cell 1
        go_simp
        first | done | with_reducible rfl
      simp only [Act.put, List.getElem_toArray, List.getElem_cons_succ, List.getElem_cons_zero, List.setIfInBounds_toArray, List.set_cons_zero, List.set_cons_succ]
      refine wpAnyU_take (i := 9) (v := ?_) (by decide) rfl (by kernel_rfl) (by kernel_rfl) (by kernel_rfl) (fun _ _ _ h => h) (Steady.plain (by kernel_rfl) ?_) ?_
      rotate_left
      · intro b W hS
        have h0 := hS.2.1.cell 0
        have h1 := hS.2.1.cell 1
        go_simp
        first | done | with_reducible rfl
      simp only [Act.put, List.getElem_toArray, List.getElem_cons_succ, List.getElem_cons_zero, List.setIfInBounds_toArray, List.set_cons_zero, List.set_cons_succ]
      refine wpAnyU_take (i := 10) (v := ?_) (by decide) rfl (by kernel_rfl) (by kernel_rfl) (by kernel_rfl) (fun _ _ _ h => h) (Steady.plain (by kernel_rfl) ?_) ?_
      rotate_left
      · intro b W hS
        have h0 := hS.2.1.cell 0
        have h1 := hS.2.1.cell 1
        go_simp
        first | done | with_reducible rfl
      simp only [Act.put, List.getElem_toArray, List.getElem_cons_succ, List.getElem_cons_zero, List.setIfInBounds_toArray, List.set_cons_zero, List.set_cons_succ]
      refine wpAnyU_take (i := 11) (v := ?_) (by decide) rfl (by kernel_rfl) (by kernel_rfl) (by kernel_rfl) (fun _ _ _ h => h) (Steady.plain (by kernel_rfl) ?_) ?_
      rotate_left
      · intro b W hS
        have h0 := hS.2.1.cell 0
        have h1 := hS.2.1.cell 1
        go_simp
        first | done | with_reducible rfl
      simp only [Act.put, List.getElem_toArray, List.getElem_cons_succ, List.getElem_cons_zero, List.setIfInBounds_toArray, List.set_cons_zero, List.set_cons_succ]
      refine wpAnyU_take (i := 12) (v := ?_) (by decide) rfl (by kernel_rfl) (by kernel_rfl) (by kernel_rfl) (fun _ _ _ h => h) (Steady.plain (by kernel_rfl) ?_) ?_
      rotate_left
      · intro b W hS
        have h0 := hS.2.1.cell 0
        have h1 := hS.2.1.cell 1
        go_simp
        first | done | with_reducible rfl
      simp only [Act.put, List.getElem_toArray, List.getElem_cons_succ, List.getElem_cons_zero, List.setIfInBounds_toArray, List.set_cons_zero, List.set_cons_succ]
      refine wpAnyU_take (i := 13) (v := ?_) (by decide) rfl (by kernel_rfl) (by kernel_rfl) (by kernel_rfl) (fun _ _ _ h => h) (Steady.plain (by kernel_rfl) ?_) ?_
      rotate_left
      · intro b W hS
        have h0 := hS.2.1.cell 0
        have h1 := hS.2.1.cell 1
        go_simp
        first | done | with_reducible rfl
      simp only [Act.put, List.getElem_toArray, List.getElem_cons_succ, List.getElem_cons_zero, List.setIfInBounds_toArray, List.set_cons_zero, List.set_cons_succ]
      refine wpAnyU_turn (i := 14) (v := undef) (b := [false]) (b' := [true]) rfl (by kernel_rfl) (by kernel_rfl) (by kernel_rfl) (by kernel_rfl) (turn_store (ty := 27) (x := .tmp 4) (y := .tmp 48) (by kernel_rfl) w.heap.size (rowE (.slice none 0 0) (.slice fo fl.length fc) (.slice (some ⟨V6.heap.size, 0, none⟩) bd.length cap9) ⟨ky, [], [], (ask : Int), (cam : Int), (sta : Int), fl, bd, (gn : Int)⟩) (by kernel_rfl) (by kernel_rfl) infoEntK (oneEntK _ _ _ _ _ _ _ _ _ _ _ _ _ _ _) (fun W hS => ⟨_, _, hS.2.2.1, rfl, hS.stored⟩)) ?_
      simp only [Act.put, List.getElem_toArray, List.getElem_cons_succ, List.getElem_cons_zero, List.setIfInBounds_toArray, List.set_cons_zero, List.set_cons_succ]
      refine wpAnyU_take (i := 15) (v := ?_) (by decide) rfl (by kernel_rfl) (by kernel_rfl) (by kernel_rfl) (fun _ _ _ h => h) (Steady.plain (by kernel_rfl) ?_) ?_
      rotate_left
      · intro b W hS
        have h0 := hS.2.1.cell 0
        have h1 := hS.2.1.cell 1
        go_simp
        first | done | with_reducible rfl
      simp only [Act.put, List.getElem_toArray, List.getElem_cons_succ, List.getElem_cons_zero, List.setIfInBounds_toArray, List.set_cons_zero, List.set_cons_succ]
      refine wpAnyU_done (b := [true]) (by kernel_rfl) (by kernel_rfl) ?_ _
      intro W hS
      go_wp2_with fail
      refine bodyPost_ret (results_row2 Tryd.results39 _ _ w.heap.size _ rfl hS.2.2.1 Tryd.underlying27 rfl infoEntK) rfl ?_
      have hk := hS.2.2.2
      refine ⟨_, _, _, _, true, sB, rfl, ⟨(ownsRow_kept HM.out.1 hk (fun k e hx => by have := (HM.out.1.lt k e).1; omega)).reads, (ownsRow_kept HM.out.2.1 hk (fun k e hx => by have := (HM.out.2.1.lt k e).1; omega)).reads2.2, reads_kept HRD.out hk HBI2.out⟩, HNI.out.1, HNI.out.2, HBI.out, HM.out.2.2.trans (hk.below (fun k e _ => by omega) (by have := HSZ.out; omega)), HENT.out, by simpa using HQ.out⟩
    · simp only [Bool.not_false, Bool.true_and, decide_eq_false hl0] at HQ
      have hlz : ((ll : Int) == 0) = false := by rw [beq_eq_false_iff_ne]; omega
      refine wp_region_U [14] (by kernel_rfl) (HeldR w W10 (rowE (.slice none 0 0) (.slice fo fl.length fc) (.slice (some ⟨V6.heap.size, 0, none⟩) bd.length cap9) ⟨ky, [], [], (ask : Int), (cam : Int), (sta : Int), fl, bd, (gn : Int)⟩) #[.slice lv ll lc, .bool false] (rowE (.slice none 0 0) (.slice none 0 0) (.slice none 0 0) zeroE)) (b := [false]) (by kernel_rfl) HS.drew ?_
      refine wpAnyU_take (i := 0) (v := .agg (rowE (.slice none 0 0) (.slice fo fl.length fc) (.slice (some ⟨V6.heap.size, 0, none⟩) bd.length cap9) ⟨ky, [], [], (ask : Int), (cam : Int), (sta : Int), fl, bd, (gn : Int)⟩)) (by decide) rfl (by kernel_rfl) (by kernel_rfl) (by kernel_rfl) (fun _ _ _ h => h) (Steady.plain (by kernel_rfl) ?_) ?_
      · intro b W hS
        exact load_gives (x := .tmp 7) (by kernel_rfl) (w.heap.size + 2) (by kernel_rfl) hS.1 Tryd.underlying27 rfl infoEntK
      simp only [Act.put, List.getElem_toArray, List.getElem_cons_succ, List.getElem_cons_zero, List.setIfInBounds_toArray, List.set_cons_zero, List.set_cons_succ]
      refine wpAnyU_take (i := 1) (v := ?_) (by decide) rfl (by kernel_rfl) (by kernel_rfl) (by kernel_rfl) (fun _ _ _ h => h) (Steady.plain (by kernel_rfl) ?_) ?_
      rotate_left
      · intro b W hS
        have h0 := hS.2.1.cell 0
        have h1 := hS.2.1.cell 1
        go_simp
        first | done | with_reducible rfl
      simp only [Act.put, List.getElem_toArray, List.getElem_cons_succ, List.getElem_cons_zero, List.setIfInBounds_toArray, List.set_cons_zero, List.set_cons_succ]
      refine wpAnyU_take (i := 2) (v := ?_) (by decide) rfl (by kernel_rfl) (by kernel_rfl) (by kernel_rfl) (fun _ _ _ h => h) (Steady.plain (by kernel_rfl) ?_) ?_
      rotate_left
      · intro b W hS
        have h0 := hS.2.1.cell 0
        have h1 := hS.2.1.cell 1
        go_simp
        first | done | with_reducible rfl
      simp only [Act.put, List.getElem_toArray, List.getElem_cons_succ, List.getElem_cons_zero, List.setIfInBounds_toArray, List.set_cons_zero, List.set_cons_succ]
      refine wpAnyU_take (i := 3) (v := ?_) (by decide) rfl (by kernel_rfl) (by kernel_rfl) (by kernel_rfl) (fun _ _ _ h => h) (Steady.plain (by kernel_rfl) ?_) ?_
      rotate_left
      · intro b W hS
        have h0 := hS.2.1.cell 0
        have h1 := hS.2.1.cell 1
        go_simp
        first | done | with_reducible rfl
      simp only [Act.put, List.getElem_toArray, List.getElem_cons_succ, List.getElem_cons_zero, List.setIfInBounds_toArray, List.set_cons_zero, List.set_cons_succ]
      refine wpAnyU_take (i := 4) (v := ?_) (by decide) rfl (by kernel_rfl) (by kernel_rfl) (by kernel_rfl) (fun _ _ _ h => h) (Steady.plain (by kernel_rfl) ?_) ?_
      rotate_left
      · intro b W hS
        have h0 := hS.2.1.cell 0
        have h1 := hS.2.1.cell 1
        go_simp
        first | done | with_reducible rfl
      simp only [Act.put, List.getElem_toArray, List.getElem_cons_succ, List.getElem_cons_zero, List.setIfInBounds_toArray, List.set_cons_zero, List.set_cons_succ]
      refine wpAnyU_take (i := 5) (v := ?_) (by decide) rfl (by kernel_rfl) (by kernel_rfl) (by kernel_rfl) (fun _ _ _ h => h) (Steady.plain (by kernel_rfl) ?_) ?_
      rotate_left
      · intro b W hS
        have h0 := hS.2.1.cell 0
        have h1 := hS.2.1.cell 1
        go_simp
        first | done | with_reducible rfl
      simp only [Act.put, List.getElem_toArray, List.getElem_cons_succ, List.getElem_cons_zero, List.setIfInBounds_toArray, List.set_cons_zero, List.set_cons_succ]
      refine wpAnyU_take (i := 6) (v := ?_) (by decide) rfl (by kernel_rfl) (by kernel_rfl) (by kernel_rfl) (fun _ _ _ h => h) (Steady.plain (by kernel_rfl) ?_) ?_
      rotate_left
      · intro b W hS
        have h0 := hS.2.1.cell 0
        have h1 := hS.2.1.cell 1
        go_simp
        first | done | with_reducible rfl
      simp only [Act.put, List.getElem_toArray, List.getElem_cons_succ, List.getElem_cons_zero, List.setIfInBounds_toArray, List.set_cons_zero, List.set_cons_succ]
      refine wpAnyU_take (i := 7) (v := ?_) (by decide) rfl (by kernel_rfl) (by kernel_rfl) (by kernel_rfl) (fun _ _ _ h => h) (Steady.plain (by kernel_rfl) ?_) ?_
      rotate_left
      · intro b W hS
        have h0 := hS.2.1.cell 0
        have h1 := hS.2.1.cell 1
        go_simp
        first | done | with_reducible rfl
      simp only [Act.put, List.getElem_toArray, List.getElem_cons_succ, List.getElem_cons_zero, List.setIfInBounds_toArray, List.set_cons_zero, List.set_cons_succ]
      refine wpAnyU_take (i := 8) (v := ?_) (by decide) rfl (by kernel_rfl) (by kernel_rfl) (by kernel_rfl) (fun _ _ _ h => h) (Steady.plain (by kernel_rfl) ?_) ?_
      rotate_left
      · intro b W hS
        have h0 := hS.2.1.cell 0
        have h1 := hS.2.1.cell 1
        go_simp
        first | done | with_reducible rfl
      simp only [Act.put, List.getElem_toArray, List.getElem_cons_succ, List.getElem_cons_zero, List.setIfInBounds_toArray, List.set_cons_zero, List.set_cons_succ]
      refine wpAnyU_take (i := 9) (v := ?_) (by decide) rfl (by kernel_rfl) (by kernel_rfl) (by kernel_rfl) (fun _ _ _ h => h) (Steady.plain (by kernel_rfl) ?_) ?_
      rotate_left
      · intro b W hS
        have h0 := hS.2.1.cell 0
        have h1 := hS.2.1.cell 1
        go_simp
        first | done | with_reducible rfl
      simp only [Act.put, List.getElem_toArray, List.getElem_cons_succ, List.getElem_cons_zero, List.setIfInBounds_toArray, List.set_cons_zero, List.set_cons_succ]
      refine wpAnyU_take (i := 10) (v := ?_) (by decide) rfl (by kernel_rfl) (by kernel_rfl) (by kernel_rfl) (fun _ _ _ h => h) (Steady.plain (by kernel_rfl) ?_) ?_
      rotate_left
      · intro b W hS
        have h0 := hS.2.1.cell 0
        have h1 := hS.2.1.cell 1
        go_simp
        first | done | with_reducible rfl
      simp only [Act.put, List.getElem_toArray, List.getElem_cons_succ, List.getElem_cons_zero, List.setIfInBounds_toArray, List.set_cons_zero, List.set_cons_succ]
      refine wpAnyU_take (i := 11) (v := ?_) (by decide) rfl (by kernel_rfl) (by kernel_rfl) (by kernel_rfl) (fun _ _ _ h => h) (Steady.plain (by kernel_rfl) ?_) ?_
      rotate_left
      · intro b W hS
        have h0 := hS.2.1.cell 0
        have h1 := hS.2.1.cell 1
        go_simp
        first | done | with_reducible rfl
      simp only [Act.put, List.getElem_toArray, List.getElem_cons_succ, List.getElem_cons_zero, List.setIfInBounds_toArray, List.set_cons_zero, List.set_cons_succ]
      refine wpAnyU_take (i := 12) (v := ?_) (by decide) rfl (by kernel_rfl) (by kernel_rfl) (by kernel_rfl) (fun _ _ _ h => h) (Steady.plain (by kernel_rfl) ?_) ?_
      rotate_left
      · intro b W hS
        have h0 := hS.2.1.cell 0
        have h1 := hS.2.1.cell 1
        go_simp
        first | done | with_reducible rfl
      simp only [Act.put, List.getElem_toArray, List.getElem_cons_succ, List.getElem_cons_zero, List.setIfInBounds_toArray, List.set_cons_zero, List.set_cons_succ]
      refine wpAnyU_take (i := 13) (v := ?_) (by decide) rfl (by kernel_rfl) (by kernel_rfl) (by kernel_rfl) (fun _ _ _ h => h) (Steady.plain (by kernel_rfl) ?_) ?_
      rotate_left
      · intro b W hS
        have h0 := hS.2.1.cell 0
        have h1 := hS.2.1.cell 1
        go_simp
        first | done | with_reducible rfl
      simp only [Act.put, List.getElem_toArray, List.getElem_cons_succ, List.getElem_cons_zero, List.setIfInBounds_toArray, List.set_cons_zero, List.set_cons_succ]
      refine wpAnyU_turn (i := 14) (v := undef) (b := [false]) (b' := [true]) rfl (by kernel_rfl) (by kernel_rfl) (by kernel_rfl) (by kernel_rfl) (turn_store (ty := 27) (x := .tmp 4) (y := .tmp 48) (by kernel_rfl) w.heap.size (rowE (.slice none 0 0) (.slice fo fl.length fc) (.slice (some ⟨V6.heap.size, 0, none⟩) bd.length cap9) ⟨ky, [], [], (ask : Int), (cam : Int), (sta : Int), fl, bd, (gn : Int)⟩) (by kernel_rfl) (by kernel_rfl) infoEntK (oneEntK _ _ _ _ _ _ _ _ _ _ _ _ _ _ _) (fun W hS => ⟨_, _, hS.2.2.1, rfl, hS.stored⟩)) ?_
      simp only [Act.put, List.getElem_toArray, List.getElem_cons_succ, List.getElem_cons_zero, List.setIfInBounds_toArray, List.set_cons_zero, List.set_cons_succ]
      refine wpAnyU_take (i := 15) (v := ?_) (by decide) rfl (by kernel_rfl) (by kernel_rfl) (by kernel_rfl) (fun _ _ _ h => h) (Steady.plain (by kernel_rfl) ?_) ?_
      rotate_left
      · intro b W hS
        have h0 := hS.2.1.cell 0
        have h1 := hS.2.1.cell 1
        go_simp
        first | done | with_reducible rfl
      simp only [Act.put, List.getElem_toArray, List.getElem_cons_succ, List.getElem_cons_zero, List.setIfInBounds_toArray, List.set_cons_zero, List.set_cons_succ]
      refine wpAnyU_done (b := [true]) (by kernel_rfl) (by kernel_rfl) ?_ _
      intro W hS
      go_wp2_with fail
      refine bodyPost_ret (results_row2 Tryd.results39 _ _ w.heap.size _ rfl hS.2.2.1 Tryd.underlying27 rfl infoEntK) rfl ?_
      have hk := hS.2.2.2
      refine ⟨_, _, _, _, false, sB, rfl, ⟨(ownsRow_kept HM.out.1 hk (fun k e hx => by have := (HM.out.1.lt k e).1; omega)).reads, (ownsRow_kept HM.out.2.1 hk (fun k e hx => by have := (HM.out.2.1.lt k e).1; omega)).reads2.2, reads_kept HRD.out hk HBI2.out⟩, HNI.out.1, HNI.out.2, HBI.out, HM.out.2.2.trans (hk.below (fun k e _ => by omega) (by have := HSZ.out; omega)), HENT.out, by simpa using HQ.out⟩

set_option maxRecDepth 8000 in
set_option maxHeartbeats 8000000 in
theorem readEntry3_any (rv : Value) (l : List UInt8) (w : World) (hb : Bytes w rv l) (hin : In (fun k => k < w.heap.size) rv) (hl : l.length ≤ 100000) :
    Calls Tryd.prog 39 #[.int .i64 3, rv] w (EntRead w 3 l) := by
  obtain ⟨ra, rn, rc, hrv⟩ : ∃ a n c, rv = .slice a n c := by obtain ⟨a, c, h, -⟩ := bytes_form hb; exact ⟨_, _, _, h⟩
  subst hrv
  obtain ⟨W0, hW0⟩ : ∃ W, (((w.alloc (.cells #[.string ⟨#[]⟩, .string ⟨#[]⟩, .slice none 0 0, .int .i64 0, .int .i64 0, .int .i64 0, .slice none 0 0, .slice none 0 0, .int .i64 0] 27)).alloc (.cells #[.slice ra rn rc, .bool false] 87)).alloc (.cells #[.string ⟨#[]⟩, .string ⟨#[]⟩, .slice none 0 0, .int .i64 0, .int .i64 0, .int .i64 0, .slice none 0 0, .slice none 0 0, .int .i64 0] 27)).setRow (w.heap.size + 1 + 1) #[.string ⟨#[]⟩, .string ⟨#[]⟩, .slice none 0 0, .int .i64 0, .int .i64 0, .int .i64 0, .slice none 0 0, .slice none 0 0, .int .i64 1] = W := ⟨_, rfl⟩
  have hz1 : rowIs (((w.alloc (.cells #[.string ⟨#[]⟩, .string ⟨#[]⟩, .slice none 0 0, .int .i64 0, .int .i64 0, .int .i64 0, .slice none 0 0, .slice none 0 0, .int .i64 0] 27)).alloc (.cells #[.slice ra rn rc, .bool false] 87)).alloc (.cells #[.string ⟨#[]⟩, .string ⟨#[]⟩, .slice none 0 0, .int .i64 0, .int .i64 0, .int .i64 0, .slice none 0 0, .slice none 0 0, .int .i64 0] 27)) (w.heap.size + 1 + 1) #[.string ⟨#[]⟩, .string ⟨#[]⟩, .slice none 0 0, .int .i64 0, .int .i64 0, .int .i64 0, .slice none 0 0, .slice none 0 0, .int .i64 0] 27 := rowIs_new_at _ _ _ _ (by simp)
  have hbW3 : Below w.heap.size w (((w.alloc (.cells #[.string ⟨#[]⟩, .string ⟨#[]⟩, .slice none 0 0, .int .i64 0, .int .i64 0, .int .i64 0, .slice none 0 0, .slice none 0 0, .int .i64 0] 27)).alloc (.cells #[.slice ra rn rc, .bool false] 87)).alloc (.cells #[.string ⟨#[]⟩, .string ⟨#[]⟩, .slice none 0 0, .int .i64 0, .int .i64 0, .int .i64 0, .slice none 0 0, .slice none 0 0, .int .i64 0] 27)) := (chain2 (chain2 (below_alloc _ _) (below_alloc _ _).size (below_alloc _ _)) (chain2 (below_alloc _ _) (below_alloc _ _).size (below_alloc _ _)).size (below_alloc _ _))
  have hbW : Below w.heap.size w W0 := by rw [← hW0]; exact below_setRow hbW3 (by omega) _
  have hM0 : EK w (.slice none 0 0) (.slice none 0 0) (.slice none 0 0) ⟨[], [], [], 0, 0, 0, [], [], 1⟩ (some l) W0 := by
    refine ⟨⟨⟨.slice ra rn rc, l, false, ?_, bytes_below hb hbW, fun k e => by have := hin k e; omega, rfl, fun r h => by cases h; rfl, hl⟩⟩, ?_, ?_, World.ownsRow_nil _ _ _ _, World.ownsRow_nil _ _ _ _, hbW⟩
    · rw [← hW0]; exact ((rowIs_new_at _ _ _ _ (by simp)).below (below_alloc _ _)).setRow_other _ (by omega)
    · rw [← hW0]; exact (rowIs_new_at _ _ _ _ (by simp)).setRow _
    · rw [← hW0]; exact (((rowIs_new _ _ _).below (below_alloc _ _)).below (below_alloc _ _)).setRow_other _ (by omega)
  have M0 := hid hM0
  have HBL := hid hbW
  clear hM0 hbW hbW3 hb
  go_enter Tryd.func39, Tryd.ntmps39
  go_wp2_with (refine wpList_store_row rfl 27 _ _ rfl (w.heap.size + 1 + 1) _ rfl rfl 27 #[.string ⟨#[]⟩, .string ⟨#[]⟩, .slice none 0 0, .int .i64 0, .int .i64 0, .int .i64 0, .slice none 0 0, .slice none 0 0, .int .i64 0] hz1 infoEntK rfl (oneEntK _ _ _ _ _ _ _ _ _ _ _ _ _ _ _) ?_)
  try rw [hW0]
  clear hW0 hz1
  refine (text_any (w.heap.size + 1) (some l) W0 M0.out.rd).mono ?_
  rintro e V0 ⟨sec, s1, hlen, hat, rfl, hk1, hk2⟩
  have Hsec := hid (And.intro hat hlen)
  have N0 := hid (M0.out.read hk1 hk2)
  clear hk1 hk2 hat hlen M0
  have hy : V0.cell? ⟨w.heap.size + 1 + 1, 1, none⟩ = some (strV []) := N0.out.row.cell 1
  have hf := N0.out.row.free 1
  obtain ⟨W1, hW1⟩ : ∃ W, V0.setCell ⟨w.heap.size + 1 + 1, 1, none⟩ (strV sec) = W := ⟨_, rfl⟩
  have M1 := hid (show EK w (.slice none 0 0) (.slice none 0 0) (.slice none 0 0) ⟨[], sec, [], 0, 0, 0, [], [], 1⟩ s1 W1 by rw [← hW1]; exact N0.out.store 1 _ rfl N0.out.on N0.out.of)
  clear N0
  go_wp2_with fail
  try rw [hW1]
  clear hW1 hy hf
  refine (namesK_any (w.heap.size + 1) s1 W1 M1.out.rd).mono ?_
  rintro e V1 ⟨cn, sc2, ns, nvv, s2, hat0, hat, hown, rfl, hk1, hk2⟩
  have hown := hown.base M1.out.size
  obtain ⟨no, nc, hnv⟩ := hown.reads.form
  rw [List.length_map] at hnv
  subst hnv
  have Hns := hid (And.intro hat0 (And.intro hat hown))
  have N1 := hid (M1.out.read hk1 hk2)
  clear hk1 hk2 hat hat0 hown M1
  have hy : V1.cell? ⟨w.heap.size + 1 + 1, 2, none⟩ = some (.slice none 0 0) := N1.out.row.cell 2
  have hf := N1.out.row.free 2
  obtain ⟨W2, hW2⟩ : ∃ W, V1.setCell ⟨w.heap.size + 1 + 1, 2, none⟩ (.slice no ns.length nc) = W := ⟨_, rfl⟩
  have M2 := hid (show EK w (.slice no ns.length nc) (.slice none 0 0) (.slice none 0 0) ⟨[], sec, ns, 0, 0, 0, [], [], 1⟩ s2 W2 by rw [← hW2]; exact N1.out.store 2 _ rfl Hns.out.2.2 N1.out.of)
  clear N1
  go_wp2_with fail
  try rw [hW2]
  clear hW2 hy hf
  refine (number_any (w.heap.size + 1) s2 W2 M2.out.rd).mono ?_
  rintro e V2 ⟨gn, s3, hlen, hat, rfl, hk1, hk2⟩
  have Hgn := hid (And.intro hat hlen)
  have N2 := hid (M2.out.read hk1 hk2)
  clear hk1 hk2 hat hlen M2
  have hy : V2.cell? ⟨w.heap.size + 1 + 1, 8, none⟩ = some (.int .i64 1) := N2.out.row.cell 8
  have hf := N2.out.row.free 8
  obtain ⟨W3, hW3⟩ : ∃ W, V2.setCell ⟨w.heap.size + 1 + 1, 8, none⟩ (.int .i64 (gn : Int)) = W := ⟨_, rfl⟩
  have M3 := hid (show EK w (.slice no ns.length nc) (.slice none 0 0) (.slice none 0 0) ⟨[], sec, ns, 0, 0, 0, [], [], (gn : Int)⟩ s3 W3 by rw [← hW3]; exact N2.out.store 8 _ rfl N2.out.on N2.out.of)
  clear N2
  go_wp2_with fail
  try rw [hW3]
  clear hW3 hy hf
  refine (text_any (w.heap.size + 1) s3 W3 M3.out.rd).mono ?_
  rintro e V3 ⟨ky, s4, hlen, hat, rfl, hk1, hk2⟩
  have Hky := hid (And.intro hat hlen)
  have N3 := hid (M3.out.read hk1 hk2)
  clear hk1 hk2 hat hlen M3
  have hy : V3.cell? ⟨w.heap.size + 1 + 1, 0, none⟩ = some (strV []) := N3.out.row.cell 0
  have hf := N3.out.row.free 0
  obtain ⟨W4, hW4⟩ : ∃ W, V3.setCell ⟨w.heap.size + 1 + 1, 0, none⟩ (strV ky) = W := ⟨_, rfl⟩
  have M4 := hid (show EK w (.slice no ns.length nc) (.slice none 0 0) (.slice none 0 0) ⟨ky, sec, ns, 0, 0, 0, [], [], (gn : Int)⟩ s4 W4 by rw [← hW4]; exact N3.out.store 0 _ rfl N3.out.on N3.out.of)
  clear N3
  go_wp2_with fail
  try rw [hW4]
  clear hW4 hy hf
  refine (number_any (w.heap.size + 1) s4 W4 M4.out.rd).mono ?_
  rintro e V4 ⟨ask, s5, hlen, hat, rfl, hk1, hk2⟩
  have Hask := hid (And.intro hat hlen)
  have N4 := hid (M4.out.read hk1 hk2)
  clear hk1 hk2 hat hlen M4
  have hy : V4.cell? ⟨w.heap.size + 1 + 1, 3, none⟩ = some (.int .i64 0) := N4.out.row.cell 3
  have hf := N4.out.row.free 3
  obtain ⟨W5, hW5⟩ : ∃ W, V4.setCell ⟨w.heap.size + 1 + 1, 3, none⟩ (.int .i64 (ask : Int)) = W := ⟨_, rfl⟩
  have M5 := hid (show EK w (.slice no ns.length nc) (.slice none 0 0) (.slice none 0 0) ⟨ky, sec, ns, (ask : Int), 0, 0, [], [], (gn : Int)⟩ s5 W5 by rw [← hW5]; exact N4.out.store 3 _ rfl N4.out.on N4.out.of)
  clear N4
  go_wp2_with fail
  try rw [hW5]
  clear hW5 hy hf
  refine (number_any (w.heap.size + 1) s5 W5 M5.out.rd).mono ?_
  rintro e V5 ⟨cam, s6, hlen, hat, rfl, hk1, hk2⟩
  have Hcam := hid (And.intro hat hlen)
  have N5 := hid (M5.out.read hk1 hk2)
  clear hk1 hk2 hat hlen M5
  have hy : V5.cell? ⟨w.heap.size + 1 + 1, 4, none⟩ = some (.int .i64 0) := N5.out.row.cell 4
  have hf := N5.out.row.free 4
  obtain ⟨W6, hW6⟩ : ∃ W, V5.setCell ⟨w.heap.size + 1 + 1, 4, none⟩ (.int .i64 (cam : Int)) = W := ⟨_, rfl⟩
  have M6 := hid (show EK w (.slice no ns.length nc) (.slice none 0 0) (.slice none 0 0) ⟨ky, sec, ns, (ask : Int), (cam : Int), 0, [], [], (gn : Int)⟩ s6 W6 by rw [← hW6]; exact N5.out.store 4 _ rfl N5.out.on N5.out.of)
  clear N5
  go_wp2_with fail
  try rw [hW6]
  clear hW6 hy hf
  refine (number_any (w.heap.size + 1) s6 W6 M6.out.rd).mono ?_
  rintro e V6 ⟨sta, s7, hlen, hat, rfl, hk1, hk2⟩
  have Hsta := hid (And.intro hat hlen)
  have N6 := hid (M6.out.read hk1 hk2)
  clear hk1 hk2 hat hlen M6
  have hy : V6.cell? ⟨w.heap.size + 1 + 1, 5, none⟩ = some (.int .i64 0) := N6.out.row.cell 5
  have hf := N6.out.row.free 5
  obtain ⟨W7, hW7⟩ : ∃ W, V6.setCell ⟨w.heap.size + 1 + 1, 5, none⟩ (.int .i64 (sta : Int)) = W := ⟨_, rfl⟩
  have M7 := hid (show EK w (.slice no ns.length nc) (.slice none 0 0) (.slice none 0 0) ⟨ky, sec, ns, (ask : Int), (cam : Int), (sta : Int), [], [], (gn : Int)⟩ s7 W7 by rw [← hW7]; exact N6.out.store 5 _ rfl N6.out.on N6.out.of)
  clear N6
  go_wp2_with fail
  try rw [hW7]
  clear hW7 hy hf
  refine (fieldsK_any (w.heap.size + 1) s7 W7 M7.out.rd).mono ?_
  rintro e V7 ⟨cf, sc8, fl, fvv, s8, hat0, hat, hown, rfl, hk1, hk2⟩
  have hown := hown.base M7.out.size
  obtain ⟨fo, fc, hfv⟩ := ownsRow_form2 hown
  subst hfv
  have Hfl := hid (And.intro hat0 (And.intro hat hown))
  have N7 := hid (M7.out.read hk1 hk2)
  clear hk1 hk2 hat hat0 hown M7
  have hy : V7.cell? ⟨w.heap.size + 1 + 1, 6, none⟩ = some (.slice none 0 0) := N7.out.row.cell 6
  have hf := N7.out.row.free 6
  obtain ⟨W8, hW8⟩ : ∃ W, V7.setCell ⟨w.heap.size + 1 + 1, 6, none⟩ (.slice fo fl.length fc) = W := ⟨_, rfl⟩
  have M8 := hid (show EK w (.slice no ns.length nc) (.slice fo fl.length fc) (.slice none 0 0) ⟨ky, sec, ns, (ask : Int), (cam : Int), (sta : Int), fl, [], (gn : Int)⟩ s8 W8 by rw [← hW8]; exact N7.out.store 6 _ rfl N7.out.on Hfl.out.2.2)
  clear N7
  go_wp2_with fail
  try rw [hW8]
  clear hW8 hy hf
  refine (text_any (w.heap.size + 1) s8 W8 M8.out.rd).mono ?_
  rintro e V8 ⟨bd, sB, hlen, hat, rfl, hk1, hk2⟩
  have Hbd := hid (And.intro hat hlen)
  have N8 := hid (M8.out.read hk1 hk2)
  clear hk1 hk2 hat hlen M8
  obtain ⟨cap9, W9, hcv, hrd9, hb9, hlt9⟩ := bytes_made14 (P := Tryd.prog) bd V8 9 25 5 Tryd.underlying9 Tryd.underlying25 Tryd.underlying5
  have N9 := hid (N8.out.after hb9)
  have y7 : W9.cell? ⟨w.heap.size + 1 + 1, 7, none⟩ = some (.slice none 0 0) := N9.out.row.cell 7
  have f7 := N9.out.row.free 7
  have hlt8 := N8.out.size
  obtain ⟨W10, hW10⟩ : ∃ W, W9.setCell ⟨w.heap.size + 1 + 1, 7, none⟩ (.slice (some ⟨V8.heap.size, 0, none⟩) bd.length cap9) = W := ⟨_, rfl⟩
  have M10 := hid (show EK w (.slice no ns.length nc) (.slice fo fl.length fc) (.slice (some ⟨V8.heap.size, 0, none⟩) bd.length cap9) ⟨ky, sec, ns, (ask : Int), (cam : Int), (sta : Int), fl, bd, (gn : Int)⟩ sB W10 by rw [← hW10]; exact N9.out.store 7 _ rfl N9.out.on N9.out.of)
  have HRD := hid (show Reads W10 (.slice (some ⟨V8.heap.size, 0, none⟩) bd.length cap9) (bd.map byteV) by rw [← hW10]; exact reads_kept hrd9 ((Kept.refl (fun k => k = w.heap.size + 2) W9).setCell (i := 7) (.inl rfl) _) (fun k e hx => by have e2 : V8.heap.size = k := Option.some.inj e; omega))
  have HBI := hid (show In (fun k => w.heap.size ≤ k) (.slice (some ⟨V8.heap.size, 0, none⟩) bd.length cap9) from fun k e => (by have e2 : V8.heap.size = k := Option.some.inj e; omega))
  have HV8 := hid hlt8
  clear hrd9 hb9 hlt9 N8 N9 hlt8
  go_wp2_with fail
  try rw [hW10]
  clear hW10 y7 f7 hcv
  have q1 := M10.out.row
  have q2 := M10.out.res
  have hdd : ∃ (lv : Option Addr) (ll lc : Nat) (bad : Bool), rowIs W10 (w.heap.size + 1) #[.slice lv ll lc, .bool bad] 87 ∧ ((!bad && decide (ll = 0)) = true ↔ sB = some []) := by
    obtain ⟨v, l2, bad, h1, h2, h3, h4, h5, h6⟩ := M10.out.rd.ex
    obtain ⟨a2, c2, hv2, -⟩ := bytes_form h2
    subst hv2
    refine ⟨_, _, _, _, h1, ?_⟩
    rw [h4]
    cases sB with
    | none => simp
    | some r => rw [← h5 r rfl]; simp
  obtain ⟨lv, ll, lc, bad, qr, hq⟩ := hdd
  have HQ := hid hq
  have hent : entD 3 l = sB.map (fun r => (⟨ky, sec, ns, (ask : Int), (cam : Int), (sta : Int), fl, bd, (gn : Int)⟩, r)) := by
    have e1 := two_parts' l Hsec.out.1 Hns.out.1 Hns.out.2.1
    have e2 := gen_two' (v := 3) (by decide) Hgn.out.1
    exact entD_parts' 3 l e1 e2 Hky.out.1 Hask.out.1 Hcam.out.1 Hsta.out.1 Hfl.out.1 Hfl.out.2.1 Hbd.out.1
  have HENT := hid hent
  clear hq hent
  have HS : HeldR w W10 (rowE (.slice no ns.length nc) (.slice fo fl.length fc) (.slice (some ⟨V8.heap.size, 0, none⟩) bd.length cap9) ⟨ky, sec, ns, (ask : Int), (cam : Int), (sta : Int), fl, bd, (gn : Int)⟩) #[.slice lv ll lc, .bool bad] (rowE (.slice none 0 0) (.slice none 0 0) (.slice none 0 0) zeroE) [false] W10 := ⟨q1, qr, q2, Kept.refl _ _⟩
  have HM := hid (And.intro M10.out.on (And.intro M10.out.of M10.out.below))
  have HNI := hid (And.intro (show In (fun k => w.heap.size ≤ k) (.slice no ns.length nc) from fun k e => by have := (M10.out.on.lt k e).1; omega) (show In (fun k => w.heap.size ≤ k) (.slice fo fl.length fc) from fun k e => by have := (M10.out.of.lt k e).1; omega))
  have HSZ := hid M10.out.size
  have HBI2 := hid (show In (fun k => ¬ k = w.heap.size) (.slice (some ⟨V8.heap.size, 0, none⟩) bd.length cap9) from fun k e => (by have e2 : V8.heap.size = k := Option.some.inj e; have := HV8.out; omega))
  clear q1 q2 qr M10
  cases bad with
  | true =>
    simp only [Bool.not_true, Bool.false_and] at HQ
    refine wp_region_U [14] (by kernel_rfl) (HeldR w W10 (rowE (.slice no ns.length nc) (.slice fo fl.length fc) (.slice (some ⟨V8.heap.size, 0, none⟩) bd.length cap9) ⟨ky, sec, ns, (ask : Int), (cam : Int), (sta : Int), fl, bd, (gn : Int)⟩) #[.slice lv ll lc, .bool true] (rowE (.slice none 0 0) (.slice none 0 0) (.slice none 0 0) zeroE)) (b := [false]) (by kernel_rfl) HS.drew ?_
    refine wpAnyU_take (i := 0) (v := .agg (rowE (.slice no ns.length nc) (.slice fo fl.length fc) (.slice (some ⟨V8.heap.size, 0, none⟩) bd.length cap9) ⟨ky, sec, ns, (ask : Int), (cam : Int), (sta : Int), fl, bd, (gn : Int)⟩)) (by decide) rfl (by kernel_rfl) (by kernel_rfl) (by kernel_rfl) (fun _ _ _ h => h) (Steady.plain (by kernel_rfl) ?_) ?_
    · intro b W hS
      exact load_gives (x := .tmp 7) (by kernel_rfl) (w.heap.size + 2) (by kernel_rfl) hS.1 Tryd.underlying27 rfl infoEntK
    simp only [Act.put, List.getElem_toArray, List.getElem_cons_succ, List.getElem_cons_zero, List.setIfInBounds_toArray, List.set_cons_zero, List.set_cons_succ]
    refine wpAnyU_take (i := 1) (v := ?_) (by decide) rfl (by kernel_rfl) (by kernel_rfl) (by kernel_rfl) (fun _ _ _ h => h) (Steady.plain (by kernel_rfl) ?_) ?_
    rotate_left
    · intro b W hS
      have h0 := hS.2.1.cell 0
      have h1 := hS.2.1.cell 1
      go_simp
      first | done | with_reducible rfl
    simp only [Act.put, List.getElem_toArray, List.getElem_cons_succ, List.getElem_cons_zero, List.setIfInBounds_toArray, List.set_cons_zero, List.set_cons_succ]
    refine wpAnyU_take (i := 2) (v := ?_) (by decide) rfl (by kernel_rfl) (by kernel_rfl) (by kernel_rfl) (fun _ _ _ h => h) (Steady.plain (by kernel_rfl) ?_) ?_
    rotate_left
    · intro b W hS
      have h0 := hS.2.1.cell 0
      have h1 := hS.2.1.cell 1
      go_simp
      first | done | with_reducible rfl
    simp only [Act.put, List.getElem_toArray, List.getElem_cons_succ, List.getElem_cons_zero, List.setIfInBounds_toArray, List.set_cons_zero, List.set_cons_succ]
    refine wpAnyU_take (i := 3) (v := ?_) (by decide) rfl (by kernel_rfl) (by kernel_rfl) (by kernel_rfl) (fun _ _ _ h => h) (Steady.plain (by kernel_rfl) ?_) ?_
    rotate_left
    · intro b W hS
      have h0 := hS.2.1.cell 0
      have h1 := hS.2.1.cell 1
      go_simp
      first | done | with_reducible rfl
    simp only [Act.put, List.getElem_toArray, List.getElem_cons_succ, List.getElem_cons_zero, List.setIfInBounds_toArray, List.set_cons_zero, List.set_cons_succ]
    refine wpAnyU_take (i := 4) (v := ?_) (by decide) rfl (by kernel_rfl) (by kernel_rfl) (by kernel_rfl) (fun _ _ _ h => h) (Steady.plain (by kernel_rfl) ?_) ?_
    rotate_left
    · intro b W hS
      have h0 := hS.2.1.cell 0
      have h1 := hS.2.1.cell 1
      go_simp
      first | done | with_reducible rfl
    simp only [Act.put, List.getElem_toArray, List.getElem_cons_succ, List.getElem_cons_zero, List.setIfInBounds_toArray, List.set_cons_zero, List.set_cons_succ]
    refine wpAnyU_take (i := 5) (v := ?_) (by decide) rfl (by kernel_rfl) (by kernel_rfl) (by kernel_rfl) (fun _ _ _ h => h) (Steady.plain (by kernel_rfl) ?_) ?_
    rotate_left
    · intro b W hS
      have h0 := hS.2.1.cell 0
      have h1 := hS.2.1.cell 1
      go_simp
      first | done | with_reducible rfl
    simp only [Act.put, List.getElem_toArray, List.getElem_cons_succ, List.getElem_cons_zero, List.setIfInBounds_toArray, List.set_cons_zero, List.set_cons_succ]
    refine wpAnyU_take (i := 6) (v := ?_) (by decide) rfl (by kernel_rfl) (by kernel_rfl) (by kernel_rfl) (fun _ _ _ h => h) (Steady.plain (by kernel_rfl) ?_) ?_
    rotate_left
    · intro b W hS
      have h0 := hS.2.1.cell 0
      have h1 := hS.2.1.cell 1
      go_simp
      first | done | with_reducible rfl
    simp only [Act.put, List.getElem_toArray, List.getElem_cons_succ, List.getElem_cons_zero, List.setIfInBounds_toArray, List.set_cons_zero, List.set_cons_succ]
    refine wpAnyU_take (i := 7) (by decide) rfl (by kernel_rfl) (by kernel_rfl) (by kernel_rfl) (fun _ _ _ h => h) (Steady.off (by kernel_rfl)) ?_
    simp only [Act.put, List.getElem_toArray, List.getElem_cons_succ, List.getElem_cons_zero, List.setIfInBounds_toArray, List.set_cons_zero, List.set_cons_succ]
    refine wpAnyU_take (i := 8) (by decide) rfl (by kernel_rfl) (by kernel_rfl) (by kernel_rfl) (fun _ _ _ h => h) (Steady.off (by kernel_rfl)) ?_
    simp only [Act.put, List.getElem_toArray, List.getElem_cons_succ, List.getElem_cons_zero, List.setIfInBounds_toArray, List.set_cons_zero, List.set_cons_succ]
    refine wpAnyU_take (i := 9) (by decide) rfl (by kernel_rfl) (by kernel_rfl) (by kernel_rfl) (fun _ _ _ h => h) (Steady.off (by kernel_rfl)) ?_
    simp only [Act.put, List.getElem_toArray, List.getElem_cons_succ, List.getElem_cons_zero, List.setIfInBounds_toArray, List.set_cons_zero, List.set_cons_succ]
    refine wpAnyU_take (i := 10) (by decide) rfl (by kernel_rfl) (by kernel_rfl) (by kernel_rfl) (fun _ _ _ h => h) (Steady.off (by kernel_rfl)) ?_
    simp only [Act.put, List.getElem_toArray, List.getElem_cons_succ, List.getElem_cons_zero, List.setIfInBounds_toArray, List.set_cons_zero, List.set_cons_succ]
    refine wpAnyU_take (i := 11) (by decide) rfl (by kernel_rfl) (by kernel_rfl) (by kernel_rfl) (fun _ _ _ h => h) (Steady.off (by kernel_rfl)) ?_
    simp only [Act.put, List.getElem_toArray, List.getElem_cons_succ, List.getElem_cons_zero, List.setIfInBounds_toArray, List.set_cons_zero, List.set_cons_succ]
    refine wpAnyU_take (i := 12) (by decide) rfl (by kernel_rfl) (by kernel_rfl) (by kernel_rfl) (fun _ _ _ h => h) (Steady.off (by kernel_rfl)) ?_
    simp only [Act.put, List.getElem_toArray, List.getElem_cons_succ, List.getElem_cons_zero, List.setIfInBounds_toArray, List.set_cons_zero, List.set_cons_succ]
    refine wpAnyU_take (i := 13) (v := ?_) (by decide) rfl (by kernel_rfl) (by kernel_rfl) (by kernel_rfl) (fun _ _ _ h => h) (Steady.plain (by kernel_rfl) ?_) ?_
    rotate_left
    · intro b W hS
      have h0 := hS.2.1.cell 0
      have h1 := hS.2.1.cell 1
      go_simp
      first | done | with_reducible rfl
    simp only [Act.put, List.getElem_toArray, List.getElem_cons_succ, List.getElem_cons_zero, List.setIfInBounds_toArray, List.set_cons_zero, List.set_cons_succ]
    refine wpAnyU_turn (i := 14) (v := undef) (b := [false]) (b' := [true]) rfl (by kernel_rfl) (by kernel_rfl) (by kernel_rfl) (by kernel_rfl) (turn_store (ty := 27) (x := .tmp 4) (y := .tmp 48) (by kernel_rfl) w.heap.size (rowE (.slice no ns.length nc) (.slice fo fl.length fc) (.slice (some ⟨V8.heap.size, 0, none⟩) bd.length cap9) ⟨ky, sec, ns, (ask : Int), (cam : Int), (sta : Int), fl, bd, (gn : Int)⟩) (by kernel_rfl) (by kernel_rfl) infoEntK (oneEntK _ _ _ _ _ _ _ _ _ _ _ _ _ _ _) (fun W hS => ⟨_, _, hS.2.2.1, rfl, hS.stored⟩)) ?_
    simp only [Act.put, List.getElem_toArray, List.getElem_cons_succ, List.getElem_cons_zero, List.setIfInBounds_toArray, List.set_cons_zero, List.set_cons_succ]
    refine wpAnyU_take (i := 15) (v := ?_) (by decide) rfl (by kernel_rfl) (by kernel_rfl) (by kernel_rfl) (fun _ _ _ h => h) (Steady.plain (by kernel_rfl) ?_) ?_
    rotate_left
    · intro b W hS
      have h0 := hS.2.1.cell 0
      have h1 := hS.2.1.cell 1
      go_simp
      first | done | with_reducible rfl
    simp only [Act.put, List.getElem_toArray, List.getElem_cons_succ, List.getElem_cons_zero, List.setIfInBounds_toArray, List.set_cons_zero, List.set_cons_succ]
    refine wpAnyU_done (b := [true]) (by kernel_rfl) (by kernel_rfl) ?_ _
    intro W hS
    go_wp2_with fail
    refine bodyPost_ret (results_row2 Tryd.results39 _ _ w.heap.size _ rfl hS.2.2.1 Tryd.underlying27 rfl infoEntK) rfl ?_
    have hk := hS.2.2.2
    refine ⟨_, _, _, _, false, sB, rfl, ⟨(ownsRow_kept HM.out.1 hk (fun k e hx => by have := (HM.out.1.lt k e).1; omega)).reads, (ownsRow_kept HM.out.2.1 hk (fun k e hx => by have := (HM.out.2.1.lt k e).1; omega)).reads2.2, reads_kept HRD.out hk HBI2.out⟩, HNI.out.1, HNI.out.2, HBI.out, HM.out.2.2.trans (hk.below (fun k e _ => by omega) (by have := HSZ.out; omega)), HENT.out, by simpa using HQ.out⟩
  | false =>
    by_cases hl0 : ll = 0
    · subst hl0
      simp only [Bool.not_false, Bool.true_and, decide_true] at HQ
      refine wp_region_U [14] (by kernel_rfl) (HeldR w W10 (rowE (.slice no ns.length nc) (.slice fo fl.length fc) (.slice (some ⟨V8.heap.size, 0, none⟩) bd.length cap9) ⟨ky, sec, ns, (ask : Int), (cam : Int), (sta : Int), fl, bd, (gn : Int)⟩) #[.slice lv 0 lc, .bool false] (rowE (.slice none 0 0) (.slice none 0 0) (.slice none 0 0) zeroE)) (b := [false]) (by kernel_rfl) HS.drew ?_
      refine wpAnyU_take (i := 0) (v := .agg (rowE (.slice no ns.length nc) (.slice fo fl.length fc) (.slice (some ⟨V8.heap.size, 0, none⟩) bd.length cap9) ⟨ky, sec, ns, (ask : Int), (cam : Int), (sta : Int), fl, bd, (gn : Int)⟩)) (by decide) rfl (by kernel_rfl) (by kernel_rfl) (by kernel_rfl) (fun _ _ _ h => h) (Steady.plain (by kernel_rfl) ?_) ?_
      · intro b W hS
        exact load_gives (x := .tmp 7) (by kernel_rfl) (w.heap.size + 2) (by kernel_rfl) hS.1 Tryd.underlying27 rfl infoEntK
      simp only [Act.put, List.getElem_toArray, List.getElem_cons_succ, List.getElem_cons_zero, List.setIfInBounds_toArray, List.set_cons_zero, List.set_cons_succ]
      refine wpAnyU_take (i := 1) (v := ?_) (by decide) rfl (by kernel_rfl) (by kernel_rfl) (by kernel_rfl) (fun _ _ _ h => h) (Steady.plain (by kernel_rfl) ?_) ?_
      rotate_left
      · intro b W hS
        have h0 := hS.2.1.cell 0
        have h1 := hS.2.1.cell 1
        go_simp
        first | done | with_reducible rfl
      simp only [Act.put, List.getElem_toArray, List.getElem_cons_succ, List.getElem_cons_zero, List.setIfInBounds_toArray, List.set_cons_zero, List.set_cons_succ]
      refine wpAnyU_take (i := 2) (v := ?_) (by decide) rfl (by kernel_rfl) (by kernel_rfl) (by kernel_rfl) (fun _ _ _ h => h) (Steady.plain (by kernel_rfl) ?_) ?_
      rotate_left
      · intro b W hS
        have h0 := hS.2.1.cell 0
        have h1 := hS.2.1.cell 1
        go_simp
        first | done | with_reducible rfl
      simp only [Act.put, List.getElem_toArray, List.getElem_cons_succ, List.getElem_cons_zero, List.setIfInBounds_toArray, List.set_cons_zero, List.set_cons_succ]
      refine wpAnyU_take (i := 3) (v := ?_) (by decide) rfl (by kernel_rfl) (by kernel_rfl) (by kernel_rfl) (fun _ _ _ h => h) (Steady.plain (by kernel_rfl) ?_) ?_
      rotate_left
      · intro b W hS
        have h0 := hS.2.1.cell 0
        have h1 := hS.2.1.cell 1
        go_simp
        first | done | with_reducible rfl
      simp only [Act.put, List.getElem_toArray, List.getElem_cons_succ, List.getElem_cons_zero, List.setIfInBounds_toArray, List.set_cons_zero, List.set_cons_succ]
      refine wpAnyU_take (i := 4) (v := ?_) (by decide) rfl (by kernel_rfl) (by kernel_rfl) (by kernel_rfl) (fun _ _ _ h => h) (Steady.plain (by kernel_rfl) ?_) ?_
      rotate_left
      · intro b W hS
        have h0 := hS.2.1.cell 0
        have h1 := hS.2.1.cell 1
        go_simp
        first | done | with_reducible rfl
      simp only [Act.put, List.getElem_toArray, List.getElem_cons_succ, List.getElem_cons_zero, List.setIfInBounds_toArray, List.set_cons_zero, List.set_cons_succ]
      refine wpAnyU_take (i := 5) (v := ?_) (by decide) rfl (by kernel_rfl) (by kernel_rfl) (by kernel_rfl) (fun _ _ _ h => h) (Steady.plain (by kernel_rfl) ?_) ?_
      rotate_left
      · intro b W hS
        have h0 := hS.2.1.cell 0
        have h1 := hS.2.1.cell 1
        go_simp
        first | done | with_reducible rfl
      simp only [Act.put, List.getElem_toArray, List.getElem_cons_succ, List.getElem_cons_zero, List.setIfInBounds_toArray, List.set_cons_zero, List.set_cons_succ]
      refine wpAnyU_take (i := 6) (v := ?_) (by decide) rfl (by kernel_rfl) (by kernel_rfl) (by kernel_rfl) (fun _ _ _ h => h) (Steady.plain (by kernel_rfl) ?_) ?_
      rotate_left
      · intro b W hS
        have h0 := hS.2.1.cell 0
        have h1 := hS.2.1.cell 1
        go_simp
        first | done | with_reducible rfl
      simp only [Act.put, List.getElem_toArray, List.getElem_cons_succ, List.getElem_cons_zero, List.setIfInBounds_toArray, List.set_cons_zero, List.set_cons_succ]
      refine wpAnyU_take (i := 7) (v := ?_) (by decide) rfl (by kernel_rfl) (by kernel_rfl) (by kernel_rfl) (fun _ _ _ h => h) (Steady.plain (by kernel_rfl) ?_) ?_
      rotate_left
      · intro b W hS
        have h0 := hS.2.1.cell 0
        have h1 := hS.2.1.cell 1
        go_simp
        first | done | with_reducible rfl
      simp only [Act.put, List.getElem_toArray, List.getElem_cons_succ, List.getElem_cons_zero, List.setIfInBounds_toArray, List.set_cons_zero, List.set_cons_succ]
      refine wpAnyU_take (i := 8) (v := ?_) (by decide) rfl (by kernel_rfl) (by kernel_rfl) (by kernel_rfl) (fun _ _ _ h => h) (Steady.plain (by kernel_rfl) ?_) ?_
      rotate_left
      · intro b W hS
        have h0 := hS.2.1.cell 0
        have h1 := hS.2.1.cell 1
        go_simp
        first | done | with_reducible rfl
      simp only [Act.put, List.getElem_toArray, List.getElem_cons_succ, List.getElem_cons_zero, List.setIfInBounds_toArray, List.set_cons_zero, List.set_cons_succ]
      refine wpAnyU_take (i := 9) (v := ?_) (by decide) rfl (by kernel_rfl) (by kernel_rfl) (by kernel_rfl) (fun _ _ _ h => h) (Steady.plain (by kernel_rfl) ?_) ?_
      rotate_left
      · intro b W hS
        have h0 := hS.2.1.cell 0
        have h1 := hS.2.1.cell 1
        go_simp
        first | done | with_reducible rfl
      simp only [Act.put, List.getElem_toArray, List.getElem_cons_succ, List.getElem_cons_zero, List.setIfInBounds_toArray, List.set_cons_zero, List.set_cons_succ]
      refine wpAnyU_take (i := 10) (v := ?_) (by decide) rfl (by kernel_rfl) (by kernel_rfl) (by kernel_rfl) (fun _ _ _ h => h) (Steady.plain (by kernel_rfl) ?_) ?_
      rotate_left
      · intro b W hS
        have h0 := hS.2.1.cell 0
        have h1 := hS.2.1.cell 1
        go_simp
        first | done | with_reducible rfl
      simp only [Act.put, List.getElem_toArray, List.getElem_cons_succ, List.getElem_cons_zero, List.setIfInBounds_toArray, List.set_cons_zero, List.set_cons_succ]
      refine wpAnyU_take (i := 11) (v := ?_) (by decide) rfl (by kernel_rfl) (by kernel_rfl) (by kernel_rfl) (fun _ _ _ h => h) (Steady.plain (by kernel_rfl) ?_) ?_
      rotate_left
      · intro b W hS
        have h0 := hS.2.1.cell 0
        have h1 := hS.2.1.cell 1
        go_simp
        first | done | with_reducible rfl
      simp only [Act.put, List.getElem_toArray, List.getElem_cons_succ, List.getElem_cons_zero, List.setIfInBounds_toArray, List.set_cons_zero, List.set_cons_succ]
      refine wpAnyU_take (i := 12) (v := ?_) (by decide) rfl (by kernel_rfl) (by kernel_rfl) (by kernel_rfl) (fun _ _ _ h => h) (Steady.plain (by kernel_rfl) ?_) ?_
      rotate_left
      · intro b W hS
        have h0 := hS.2.1.cell 0
        have h1 := hS.2.1.cell 1
        go_simp
        first | done | with_reducible rfl
      simp only [Act.put, List.getElem_toArray, List.getElem_cons_succ, List.getElem_cons_zero, List.setIfInBounds_toArray, List.set_cons_zero, List.set_cons_succ]
      refine wpAnyU_take (i := 13) (v := ?_) (by decide) rfl (by kernel_rfl) (by kernel_rfl) (by kernel_rfl) (fun _ _ _ h => h) (Steady.plain (by kernel_rfl) ?_) ?_
      rotate_left
      · intro b W hS
        have h0 := hS.2.1.cell 0
        have h1 := hS.2.1.cell 1
        go_simp
        first | done | with_reducible rfl
      simp only [Act.put, List.getElem_toArray, List.getElem_cons_succ, List.getElem_cons_zero, List.setIfInBounds_toArray, List.set_cons_zero, List.set_cons_succ]
      refine wpAnyU_turn (i := 14) (v := undef) (b := [false]) (b' := [true]) rfl (by kernel_rfl) (by kernel_rfl) (by kernel_rfl) (by kernel_rfl) (turn_store (ty := 27) (x := .tmp 4) (y := .tmp 48) (by kernel_rfl) w.heap.size (rowE (.slice no ns.length nc) (.slice fo fl.length fc) (.slice (some ⟨V8.heap.size, 0, none⟩) bd.length cap9) ⟨ky, sec, ns, (ask : Int), (cam : Int), (sta : Int), fl, bd, (gn : Int)⟩) (by kernel_rfl) (by kernel_rfl) infoEntK (oneEntK _ _ _ _ _ _ _ _ _ _ _ _ _ _ _) (fun W hS => ⟨_, _, hS.2.2.1, rfl, hS.stored⟩)) ?_
      simp only [Act.put, List.getElem_toArray, List.getElem_cons_succ, List.getElem_cons_zero, List.setIfInBounds_toArray, List.set_cons_zero, List.set_cons_succ]
      refine wpAnyU_take (i := 15) (v := ?_) (by decide) rfl (by kernel_rfl) (by kernel_rfl) (by kernel_rfl) (fun _ _ _ h => h) (Steady.plain (by kernel_rfl) ?_) ?_
      rotate_left
      · intro b W hS
        have h0 := hS.2.1.cell 0
        have h1 := hS.2.1.cell 1
        go_simp
        first | done | with_reducible rfl
      simp only [Act.put, List.getElem_toArray, List.getElem_cons_succ, List.getElem_cons_zero, List.setIfInBounds_toArray, List.set_cons_zero, List.set_cons_succ]
      refine wpAnyU_done (b := [true]) (by kernel_rfl) (by kernel_rfl) ?_ _
      intro W hS
      go_wp2_with fail
      refine bodyPost_ret (results_row2 Tryd.results39 _ _ w.heap.size _ rfl hS.2.2.1 Tryd.underlying27 rfl infoEntK) rfl ?_
      have hk := hS.2.2.2
      refine ⟨_, _, _, _, true, sB, rfl, ⟨(ownsRow_kept HM.out.1 hk (fun k e hx => by have := (HM.out.1.lt k e).1; omega)).reads, (ownsRow_kept HM.out.2.1 hk (fun k e hx => by have := (HM.out.2.1.lt k e).1; omega)).reads2.2, reads_kept HRD.out hk HBI2.out⟩, HNI.out.1, HNI.out.2, HBI.out, HM.out.2.2.trans (hk.below (fun k e _ => by omega) (by have := HSZ.out; omega)), HENT.out, by simpa using HQ.out⟩
    · simp only [Bool.not_false, Bool.true_and, decide_eq_false hl0] at HQ
      have hlz : ((ll : Int) == 0) = false := by rw [beq_eq_false_iff_ne]; omega
      refine wp_region_U [14] (by kernel_rfl) (HeldR w W10 (rowE (.slice no ns.length nc) (.slice fo fl.length fc) (.slice (some ⟨V8.heap.size, 0, none⟩) bd.length cap9) ⟨ky, sec, ns, (ask : Int), (cam : Int), (sta : Int), fl, bd, (gn : Int)⟩) #[.slice lv ll lc, .bool false] (rowE (.slice none 0 0) (.slice none 0 0) (.slice none 0 0) zeroE)) (b := [false]) (by kernel_rfl) HS.drew ?_
      refine wpAnyU_take (i := 0) (v := .agg (rowE (.slice no ns.length nc) (.slice fo fl.length fc) (.slice (some ⟨V8.heap.size, 0, none⟩) bd.length cap9) ⟨ky, sec, ns, (ask : Int), (cam : Int), (sta : Int), fl, bd, (gn : Int)⟩)) (by decide) rfl (by kernel_rfl) (by kernel_rfl) (by kernel_rfl) (fun _ _ _ h => h) (Steady.plain (by kernel_rfl) ?_) ?_
      · intro b W hS
        exact load_gives (x := .tmp 7) (by kernel_rfl) (w.heap.size + 2) (by kernel_rfl) hS.1 Tryd.underlying27 rfl infoEntK
      simp only [Act.put, List.getElem_toArray, List.getElem_cons_succ, List.getElem_cons_zero, List.setIfInBounds_toArray, List.set_cons_zero, List.set_cons_succ]
      refine wpAnyU_take (i := 1) (v := ?_) (by decide) rfl (by kernel_rfl) (by kernel_rfl) (by kernel_rfl) (fun _ _ _ h => h) (Steady.plain (by kernel_rfl) ?_) ?_
      rotate_left
      · intro b W hS
        have h0 := hS.2.1.cell 0
        have h1 := hS.2.1.cell 1
        go_simp
        first | done | with_reducible rfl
      simp only [Act.put, List.getElem_toArray, List.getElem_cons_succ, List.getElem_cons_zero, List.setIfInBounds_toArray, List.set_cons_zero, List.set_cons_succ]
      refine wpAnyU_take (i := 2) (v := ?_) (by decide) rfl (by kernel_rfl) (by kernel_rfl) (by kernel_rfl) (fun _ _ _ h => h) (Steady.plain (by kernel_rfl) ?_) ?_
      rotate_left
      · intro b W hS
        have h0 := hS.2.1.cell 0
        have h1 := hS.2.1.cell 1
        go_simp
        first | done | with_reducible rfl
      simp only [Act.put, List.getElem_toArray, List.getElem_cons_succ, List.getElem_cons_zero, List.setIfInBounds_toArray, List.set_cons_zero, List.set_cons_succ]
      refine wpAnyU_take (i := 3) (v := ?_) (by decide) rfl (by kernel_rfl) (by kernel_rfl) (by kernel_rfl) (fun _ _ _ h => h) (Steady.plain (by kernel_rfl) ?_) ?_
      rotate_left
      · intro b W hS
        have h0 := hS.2.1.cell 0
        have h1 := hS.2.1.cell 1
        go_simp
        first | done | with_reducible rfl
      simp only [Act.put, List.getElem_toArray, List.getElem_cons_succ, List.getElem_cons_zero, List.setIfInBounds_toArray, List.set_cons_zero, List.set_cons_succ]
      refine wpAnyU_take (i := 4) (v := ?_) (by decide) rfl (by kernel_rfl) (by kernel_rfl) (by kernel_rfl) (fun _ _ _ h => h) (Steady.plain (by kernel_rfl) ?_) ?_
      rotate_left
      · intro b W hS
        have h0 := hS.2.1.cell 0
        have h1 := hS.2.1.cell 1
        go_simp
        first | done | with_reducible rfl
      simp only [Act.put, List.getElem_toArray, List.getElem_cons_succ, List.getElem_cons_zero, List.setIfInBounds_toArray, List.set_cons_zero, List.set_cons_succ]
      refine wpAnyU_take (i := 5) (v := ?_) (by decide) rfl (by kernel_rfl) (by kernel_rfl) (by kernel_rfl) (fun _ _ _ h => h) (Steady.plain (by kernel_rfl) ?_) ?_
      rotate_left
      · intro b W hS
        have h0 := hS.2.1.cell 0
        have h1 := hS.2.1.cell 1
        go_simp
        first | done | with_reducible rfl
      simp only [Act.put, List.getElem_toArray, List.getElem_cons_succ, List.getElem_cons_zero, List.setIfInBounds_toArray, List.set_cons_zero, List.set_cons_succ]
      refine wpAnyU_take (i := 6) (v := ?_) (by decide) rfl (by kernel_rfl) (by kernel_rfl) (by kernel_rfl) (fun _ _ _ h => h) (Steady.plain (by kernel_rfl) ?_) ?_
      rotate_left
      · intro b W hS
        have h0 := hS.2.1.cell 0
        have h1 := hS.2.1.cell 1
        go_simp
        first | done | with_reducible rfl
      simp only [Act.put, List.getElem_toArray, List.getElem_cons_succ, List.getElem_cons_zero, List.setIfInBounds_toArray, List.set_cons_zero, List.set_cons_succ]
      refine wpAnyU_take (i := 7) (v := ?_) (by decide) rfl (by kernel_rfl) (by kernel_rfl) (by kernel_rfl) (fun _ _ _ h => h) (Steady.plain (by kernel_rfl) ?_) ?_
      rotate_left
      · intro b W hS
        have h0 := hS.2.1.cell 0
        have h1 := hS.2.1.cell 1
        go_simp
        first | done | with_reducible rfl
      simp only [Act.put, List.getElem_toArray, List.getElem_cons_succ, List.getElem_cons_zero, List.setIfInBounds_toArray, List.set_cons_zero, List.set_cons_succ]
      refine wpAnyU_take (i := 8) (v := ?_) (by decide) rfl (by kernel_rfl) (by kernel_rfl) (by kernel_rfl) (fun _ _ _ h => h) (Steady.plain (by kernel_rfl) ?_) ?_
      rotate_left
      · intro b W hS
        have h0 := hS.2.1.cell 0
        have h1 := hS.2.1.cell 1
        go_simp
        first | done | with_reducible rfl
      simp only [Act.put, List.getElem_toArray, List.getElem_cons_succ, List.getElem_cons_zero, List.setIfInBounds_toArray, List.set_cons_zero, List.set_cons_succ]
      refine wpAnyU_take (i := 9) (v := ?_) (by decide) rfl (by kernel_rfl) (by kernel_rfl) (by kernel_rfl) (fun _ _ _ h => h) (Steady.plain (by kernel_rfl) ?_) ?_
      rotate_left
      · intro b W hS
        have h0 := hS.2.1.cell 0
        have h1 := hS.2.1.cell 1
        go_simp
        first | done | with_reducible rfl
      simp only [Act.put, List.getElem_toArray, List.getElem_cons_succ, List.getElem_cons_zero, List.setIfInBounds_toArray, List.set_cons_zero, List.set_cons_succ]
      refine wpAnyU_take (i := 10) (v := ?_) (by decide) rfl (by kernel_rfl) (by kernel_rfl) (by kernel_rfl) (fun _ _ _ h => h) (Steady.plain (by kernel_rfl) ?_) ?_
      rotate_left
      · intro b W hS
        have h0 := hS.2.1.cell 0
        have h1 := hS.2.1.cell 1
        go_simp
        first | done | with_reducible rfl
      simp only [Act.put, List.getElem_toArray, List.getElem_cons_succ, List.getElem_cons_zero, List.setIfInBounds_toArray, List.set_cons_zero, List.set_cons_succ]
      refine wpAnyU_take (i := 11) (v := ?_) (by decide) rfl (by kernel_rfl) (by kernel_rfl) (by kernel_rfl) (fun _ _ _ h => h) (Steady.plain (by kernel_rfl) ?_) ?_
      rotate_left
      · intro b W hS
        have h0 := hS.2.1.cell 0
        have h1 := hS.2.1.cell 1
        go_simp
        first | done | with_reducible rfl
      simp only [Act.put, List.getElem_toArray, List.getElem_cons_succ, List.getElem_cons_zero, List.setIfInBounds_toArray, List.set_cons_zero, List.set_cons_succ]
      refine wpAnyU_take (i := 12) (v := ?_) (by decide) rfl (by kernel_rfl) (by kernel_rfl) (by kernel_rfl) (fun _ _ _ h => h) (Steady.plain (by kernel_rfl) ?_) ?_
      rotate_left
      · intro b W hS
        have h0 := hS.2.1.cell 0
        have h1 := hS.2.1.cell 1
        go_simp
        first | done | with_reducible rfl
      simp only [Act.put, List.getElem_toArray, List.getElem_cons_succ, List.getElem_cons_zero, List.setIfInBounds_toArray, List.set_cons_zero, List.set_cons_succ]
      refine wpAnyU_take (i := 13) (v := ?_) (by decide) rfl (by kernel_rfl) (by kernel_rfl) (by kernel_rfl) (fun _ _ _ h => h) (Steady.plain (by kernel_rfl) ?_) ?_
      rotate_left
      · intro b W hS
        have h0 := hS.2.1.cell 0
        have h1 := hS.2.1.cell 1
        go_simp
        first | done | with_reducible rfl
      simp only [Act.put, List.getElem_toArray, List.getElem_cons_succ, List.getElem_cons_zero, List.setIfInBounds_toArray, List.set_cons_zero, List.set_cons_succ]
      refine wpAnyU_turn (i := 14) (v := undef) (b := [false]) (b' := [true]) rfl (by kernel_rfl) (by kernel_rfl) (by kernel_rfl) (by kernel_rfl) (turn_store (ty := 27) (x := .tmp 4) (y := .tmp 48) (by kernel_rfl) w.heap.size (rowE (.slice no ns.length nc) (.slice fo fl.length fc) (.slice (some ⟨V8.heap.size, 0, none⟩) bd.length cap9) ⟨ky, sec, ns, (ask : Int), (cam : Int), (sta : Int), fl, bd, (gn : Int)⟩) (by kernel_rfl) (by kernel_rfl) infoEntK (oneEntK _ _ _ _ _ _ _ _ _ _ _ _ _ _ _) (fun W hS => ⟨_, _, hS.2.2.1, rfl, hS.stored⟩)) ?_
      simp only [Act.put, List.getElem_toArray, List.getElem_cons_succ, List.getElem_cons_zero, List.setIfInBounds_toArray, List.set_cons_zero, List.set_cons_succ]
      refine wpAnyU_take (i := 15) (v := ?_) (by decide) rfl (by kernel_rfl) (by kernel_rfl) (by kernel_rfl) (fun _ _ _ h => h) (Steady.plain (by kernel_rfl) ?_) ?_
      rotate_left
      · intro b W hS
        have h0 := hS.2.1.cell 0
        have h1 := hS.2.1.cell 1
        go_simp
        first | done | with_reducible rfl
      simp only [Act.put, List.getElem_toArray, List.getElem_cons_succ, List.getElem_cons_zero, List.setIfInBounds_toArray, List.set_cons_zero, List.set_cons_succ]
      refine wpAnyU_done (b := [true]) (by kernel_rfl) (by kernel_rfl) ?_ _
      intro W hS
      go_wp2_with fail
      refine bodyPost_ret (results_row2 Tryd.results39 _ _ w.heap.size _ rfl hS.2.2.1 Tryd.underlying27 rfl infoEntK) rfl ?_
      have hk := hS.2.2.2
      refine ⟨_, _, _, _, false, sB, rfl, ⟨(ownsRow_kept HM.out.1 hk (fun k e hx => by have := (HM.out.1.lt k e).1; omega)).reads, (ownsRow_kept HM.out.2.1 hk (fun k e hx => by have := (HM.out.2.1.lt k e).1; omega)).reads2.2, reads_kept HRD.out hk HBI2.out⟩, HNI.out.1, HNI.out.2, HBI.out, HM.out.2.2.trans (hk.below (fun k e _ => by omega) (by have := HSZ.out; omega)), HENT.out, by simpa using HQ.out⟩
end Go.Proofs.YtdkhkeffheleeaaDoor
