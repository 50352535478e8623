/-
  The document's disk: Read, Write.
-/
import Derived.Test.YtgdeiokaicjkdaaRef15A
import Derived.Test.YtgdeiokaicjkdaaCopyPad
set_option linter.unusedVariables false
set_option linter.unusedSimpArgs false
namespace Go.Proofs.Ytgdeiokaicjkdaa
open Go.RowKit Go.Pantry

/-- the cell of a row that is read -/
theorem cell_at {w : World} {e : TypeId} {v : Value} {n : Nat} {xs : List Value} (h : w.ownsRow 0 e 1 v n xs) {k : Nat} (hk : k < n) {u : Value} (hu : xs[k]? = some u) : ∃ b cap, v = .slice (some ⟨b, 0, none⟩) n cap ∧ w.cell? ⟨b, k, none⟩ = some u ∧ w.frozen? ⟨b, k, none⟩ = false := by
  obtain ⟨g, cap, hv, -, hc, hf⟩ := ownsRow_cells h (by omega)
  exact ⟨g, cap, hv, hc k u hu, hf k⟩
set_option maxRecDepth 8000 in
set_option maxHeartbeats 4000000 in
theorem dRead_any (g : Nat) (vs vp vb : Value) (ks kp : List Value) (left : Int) (arm : Bool) (S : Nat → Prop) (m : DiskM) (n : Nat) (i : Int) (w : World) (h : DAt w g vs vp vb ks kp left arm S m) (ho : DiskOk n m) :
    Calls Try.prog 14 #[.pointer (some ⟨g, 0, none⟩), .int .i64 i] w fun e w' => w = w' ∧ ∃ v, e = .returned (.tuple #[v, .int .i64 ((readDk m i).1 : Int)]) ∧ Bytes w v (readDk m i).2 ∧ In S v := by
  have h5 := h.row.cell 5
  have f5 := h.row.free 5
  cases hd : m.down with
  | true =>
    have e : readDk m i = (40, []) := by unfold readDk; rw [hd]; rfl
    rw [e]
    rw [hd] at h5
    clear h hd e
    go_enter Try.func14, Try.ntmps14
    go_wp2
    go_ret2
    exact ⟨rfl, _, rfl, bytes_nil _, In.nil _ _⟩
  | false =>
    rw [hd] at h5
    have C1 := hid (dThere_any g vs vp vb ks kp left arm S m i w h)
    by_cases ht : ThereDk m i
    case neg =>
      have e : readDk m i = (11, []) := by unfold readDk; rw [hd, if_neg (by simp), if_pos ht]
      rw [e]
      rw [decide_eq_false ht] at C1
      clear h hd e ht
      go_enter Try.func14, Try.ntmps14
      go_wp2_with fail
      refine C1.out.mono ?_
      rintro e w1 ⟨rfl, rfl⟩
      go_wp2
      go_ret2
      exact ⟨rfl, _, rfl, bytes_nil _, In.nil _ _⟩
    case pos =>
      obtain ⟨hi0, hi1⟩ := id ht
      obtain ⟨k, rfl⟩ : ∃ k : Nat, i = (k : Int) := ⟨i.toNat, by omega⟩
      have hk : k < m.stands.length := by omega
      have hkn : k < n := by rw [← ho.len]; exact hk
      have hkp : k < m.pend.length := by rw [ho.lenP]; exact hkn
      have hkb : k < m.bad.length := by rw [ho.lenB]; exact hkn
      obtain ⟨gb, cb, rfl, hcb, hfb⟩ := cell_at h.ob hkb (u := .bool (m.bad.getD k false)) (by rw [List.getElem?_map, List.getD_eq_getElem?_getD, List.getElem?_eq_getElem hkb]; rfl)
      obtain ⟨aop, cpp, hup, hbp, hip⟩ := h.rp.at hkp
      obtain ⟨gp, cp, rfl, hcp, hfp⟩ := cell_at h.op hkp hup
      obtain ⟨aos, css, hus, hbs, his⟩ := h.rs.at hk
      obtain ⟨gs, cs, rfl, hcs, hfs⟩ := cell_at h.os hk hus
      have h0 := h.row.cell 0
      have h1 := h.row.cell 1
      have h2 := h.row.cell 2
      have f0 := h.row.free 0
      have f1 := h.row.free 1
      have f2 := h.row.free 2
      rw [decide_eq_true ht] at C1
      have HB := hid (And.intro (And.intro hbp hip) (And.intro hbs his))
      have er : readDk m (k : Int) = if m.bad.getD k false then (41, []) else (0, if m.pend.getD k [] = [] then m.stands.getD k [] else m.pend.getD k []) := by
        unfold readDk valueDk
        rw [hd, if_neg (by simp), if_neg (by simpa using ht)]
        rfl
      have hlp : ∀ x : List UInt8, (x = []) ↔ x.length = 0 := fun x => List.length_eq_zero_iff.symm
      rw [er]
      clear h er hbp hip hbs his hup hus
      generalize m.bad.getD k false = bb at *
      generalize m.pend.getD k [] = pp at *
      generalize m.stands.getD k [] = ss at *
      cases bb with
      | true =>
        clear hcs hfs hcp hfp
        go_enter Try.func14, Try.ntmps14
        go_wp2_with fail
        refine C1.out.mono ?_
        rintro e w1 ⟨rfl, rfl⟩
        go_wp2
        go_ret2
        exact ⟨rfl, _, rfl, bytes_nil _, In.nil _ _⟩
      | false =>
        rw [if_neg (by simp)]
        by_cases hp : pp = []
        · rw [if_pos hp]
          have hp0 : pp.length = 0 := by rw [hp]; rfl
          rw [hp0] at hcp
          clear hp hp0
          go_enter Try.func14, Try.ntmps14
          go_wp2_with fail
          refine C1.out.mono ?_
          rintro e w1 ⟨rfl, rfl⟩
          go_wp2
          go_ret2
          exact ⟨rfl, _, rfl, HB.out.2.1, HB.out.2.2⟩
        · rw [if_neg hp]
          have hp0 : 0 < pp.length := List.length_pos_iff.2 hp
          clear hp
          go_enter Try.func14, Try.ntmps14
          go_wp2_with fail
          refine C1.out.mono ?_
          rintro e w1 ⟨rfl, rfl⟩
          go_wp2
          go_ret2
          exact ⟨rfl, _, rfl, HB.out.1.1, HB.out.1.2⟩
/-- a sector's new bytes lie in a block f of their own: they are pending -/
theorem DAt.wrote {S : Nat → Prop} {w W : World} {g gp cp : Nat} {vs vb : Value} {ks kp : List Value} {left : Int} {arm : Bool} {m : DiskM} {N : Nat} (h : DAt w g vs (.slice (some ⟨gp, 0, none⟩) N cp) vb ks kp left arm S m) {f : Nat} (hf : f = w.heap.size) {b : List UInt8} (hl : b.length ≤ 64) {t : TypeId} (hr : rowIs W f ((padS b).map byteV).toArray t) (hk : Kept (fun _ => False) w W) (k : Nat) (hN : m.pend.length = N) :
    DAt (W.setCell ⟨gp, k, none⟩ (.slice (some ⟨f, 0, none⟩) 64 64)) g vs (.slice (some ⟨gp, 0, none⟩) N cp) vb ks (kp.set k (.slice (some ⟨f, 0, none⟩) 64 64)) left arm (fun x => S x ∨ x = f) { m with pend := m.pend.set k (padS b) } ∧ Kept (fun x => x = gp) w (W.setCell ⟨gp, k, none⟩ (.slice (some ⟨f, 0, none⟩) 64 64)) := by
  subst hN
  have hlt : ∀ x, FD g vs (.slice (some ⟨gp, 0, none⟩) m.pend.length cp) vb S x → x < w.heap.size := fun x hx => h.lt hx
  have hgp := hlt gp (.inr (.inr (.inl rfl)))
  have hg := hlt g (.inl rfl)
  have hW := h.kept hk (fun _ _ h => h)
  have hp1 := h.inP gp rfl
  have kk := (Kept.refl (fun x => x = gp) W).setCell (i := k) (.inl rfl) (.slice (some ⟨f, 0, none⟩) 64 64)
  have hfs : f < W.heap.size := hr.lt
  have hs2 : ∀ x, S x ∨ x = f → x ≠ gp := fun x hx e => by
    rcases hx with hx | hx
    · exact hp1.2.1 (e ▸ hx)
    · omega
  have hbf := bytes_padded hr hl
  refine ⟨⟨hW.row.kept kk (fun e => hp1.1 e.symm), ownsRow_kept hW.os kk (fun x hx e => hp1.2.2 (e ▸ hx)), ?_, ownsRow_kept hW.ob kk (fun x hx e => (hW.inB x hx).2.2.2 (by rw [e]; rfl)), (hW.rs.mono (fun x hx => .inl hx)).kept kk hs2, ?_, hW.off, hW.on, fun x hx => ⟨(h.inS x hx).1, fun hS => ?_⟩, fun x hx => ⟨(h.inP x hx).1, fun hS => ?_, (h.inP x hx).2.2⟩, fun x hx => ⟨(h.inB x hx).1, fun hS => ?_, (h.inB x hx).2.2.1, (h.inB x hx).2.2.2⟩, fun hS => ?_, fun x hx => ?_⟩, (hk.mono (Y := fun x => x = gp) (fun _ h _ => h.elim)).trans kk (fun x hx _ => hx)⟩
  · have := ownsRow_set1 hW.op k (.slice (some ⟨f, 0, none⟩) 64 64)
    simpa using this
  · exact ((hW.rp.mono (fun x hx => .inl hx)).set k hbf (fun x hx => .inr (by cases hx; rfl))).kept kk hs2
  · rcases hS with hS | hS
    · exact (h.inS x hx).2 hS
    · have := hlt x (.inr (.inl hx)); omega
  · rcases hS with hS | hS
    · exact (h.inP x hx).2.1 hS
    · have := hlt x (.inr (.inr (.inl hx))); omega
  · rcases hS with hS | hS
    · exact (h.inB x hx).2.1 hS
    · have := hlt x (.inr (.inr (.inr (.inl hx)))); omega
  · rcases hS with hS | hS
    · exact h.sg hS
    · omega
  · have hsz : (W.setCell ⟨gp, k, none⟩ (.slice (some ⟨f, 0, none⟩) 64 64)).heap.size = W.heap.size := by simp
    rw [hsz]
    rcases hx with hx | hx
    · exact Nat.lt_of_lt_of_le (h.sl x hx) hk.size
    · omega
/-- what Write leaves -/
def WrotePost (w : World) (g : Nat) (vs vp vb : Value) (ks : List Value) (S : Nat → Prop) (r : Nat × DiskM) (e : Ending) (w' : World) : Prop :=
  e = .returned (.int .i64 (r.1 : Int)) ∧ Kept (fun k => k = g ∨ vp.ownBlock = some k) w w' ∧ ∃ kp' left' arm' S', DAt w' g vs vp vb ks kp' left' arm' S' r.2 ∧ ∀ k, S' k → S k ∨ w.heap.size ≤ k
set_option maxRecDepth 8000 in
set_option maxHeartbeats 4000000 in
theorem dWrite_any (g : Nat) (vs vp vb : Value) (ks kp : List Value) (left : Int) (arm : Bool) (S : Nat → Prop) (m : DiskM) (n : Nat) (i : Int) (vd : Value) (b : List UInt8) (w : World) (h : DAt w g vs vp vb ks kp left arm S m) (ho : DiskOk n m) (hb : Reads w vd (b.map byteV)) (hd' : b ≠ [] → In (fun k => k ≠ g) vd) :
    Calls Try.prog 16 #[.pointer (some ⟨g, 0, none⟩), .int .i64 i, vd] w (WrotePost w g vs vp vb ks S (writeDk m i b)) := by
  have h5 := h.row.cell 5
  have f5 := h.row.free 5
  obtain ⟨ad, cd, rfl⟩ : ∃ ad cd, vd = .slice ad b.length cd := by obtain ⟨a, c, h, _⟩ := hb; exact ⟨a, c, by rw [h, List.length_map]⟩
  cases hd : m.down with
  | true =>
    have e : writeDk m i b = (40, m) := by unfold writeDk; rw [hd]; rfl
    rw [e]
    rw [hd] at h5
    have HF := hid h
    clear h hd e hb
    go_enter Try.func16, Try.ntmps16
    go_wp2
    go_ret
    exact ⟨rfl, Kept.refl _ _, _, _, _, _, HF.out, fun _ h => .inl h⟩
  | false =>
    rw [hd] at h5
    have C1 := hid (dThere_any g vs vp vb ks kp left arm S m i w h)
    by_cases ht : ThereDk m i ∧ b.length ≤ 64
    case neg =>
      have e : writeDk m i b = (11, m) := by
        unfold writeDk
        rw [hd, if_neg (by simp), if_pos ?_]
        by_cases h1 : ThereDk m i
        · exact .inr (by have : ¬ b.length ≤ 64 := fun h2 => ht ⟨h1, h2⟩; omega)
        · exact .inl h1
      rw [e]
      have HF := hid h
      have hor : ¬ ThereDk m i ∨ (ThereDk m i ∧ 64 < b.length) := by
        by_cases h1 : ThereDk m i
        · exact .inr ⟨h1, by have : ¬ b.length ≤ 64 := fun h2 => ht ⟨h1, h2⟩; omega⟩
        · exact .inl h1
      clear h hd e ht hb
      rcases hor with hor | ⟨hor, hlen⟩
      · rw [decide_eq_false hor] at C1
        clear hor
        go_enter Try.func16, Try.ntmps16
        go_wp2_with fail
        refine C1.out.mono ?_
        rintro e w1 ⟨rfl, rfl⟩
        go_wp2
        go_ret
        exact ⟨rfl, Kept.refl _ _, _, _, _, _, HF.out, fun _ h => .inl h⟩
      · rw [decide_eq_true hor] at C1
        clear hor
        go_enter Try.func16, Try.ntmps16
        go_wp2_with fail
        refine C1.out.mono ?_
        rintro e w1 ⟨rfl, rfl⟩
        go_wp2
        go_ret
        exact ⟨rfl, Kept.refl _ _, _, _, _, _, HF.out, fun _ h => .inl h⟩
    case pos =>
      obtain ⟨ht, hlen⟩ := ht
      obtain ⟨hi0, hi1⟩ := id ht
      obtain ⟨k, rfl⟩ : ∃ k : Nat, i = (k : Int) := ⟨i.toNat, by omega⟩
      have hk : k < m.stands.length := by omega
      have hkp : k < m.pend.length := by rw [ho.lenP, ← ho.len]; exact hk
      rw [decide_eq_true ht] at C1
      have C2 := hid (dFalls_any g vs vp vb ks kp left arm S m w h hd)
      have e : writeDk m (k : Int) b = if m.arm = some 0 then (40, fellDk m) else (0, { lessDk m with pend := m.pend.set k (padS b) }) := by
        unfold writeDk
        rw [hd, if_neg (by simp), if_neg (by intro h; rcases h with h | h; exact h ht; omega)]
        rfl
      rw [e]
      have HN := hid (And.intro hd' (And.intro h.row.lt hb))
      by_cases ha : m.arm = some 0
      · rw [if_pos ha]
        rw [decide_eq_true ha, if_pos ha] at C2
        clear h hd e ht hb ha hd' ho
        go_enter Try.func16, Try.ntmps16
        go_wp2_with fail
        refine C1.out.mono ?_
        rintro e w1 ⟨rfl, rfl⟩
        go_wp2_with fail
        refine C2.out.mono ?_
        rintro e w2 ⟨rfl, hk2, hs2, left', arm', h2⟩
        go_wp2
        go_ret
        exact ⟨rfl, hk2.mono (fun x hx _ => .inl hx), _, _, _, _, h2, fun _ h => .inl h⟩
      · rw [if_neg ha]
        rw [decide_eq_false ha, if_neg ha] at C2
        have hmk : ∀ w : World, (Instr.makeSlice 29 (.int .i64 64) (.int .i64 64)).run Try.prog w = .ok (.slice (some ⟨w.heap.size, 0, none⟩) 64 64) (w.alloc (.cells (Array.replicate 64 (.int .u8 0)) 5)) := fun _ => by kernel_rfl
        clear h hd e ht hb ha hd' ho
        go_enter Try.func16, Try.ntmps16
        go_wp2_with fail
        refine C1.out.mono ?_
        rintro e w1 ⟨rfl, rfl⟩
        go_wp2_with fail
        refine C2.out.mono ?_
        rintro e w2 ⟨rfl, hk2, hs2, left', arm', h2⟩
        have hb2 : Reads w2 (.slice ad b.length cd) (b.map byteV) := reads_stay15 HN.out.2.2 hk2 (fun hne x hx e => HN.out.1 (fun e => hne (by rw [e]; rfl)) x hx e)
        have hb3 := hb2.below (below_alloc w2 (.cells (Array.replicate 64 (.int .u8 0)) 5))
        obtain ⟨W, hcp, hW1, hW2, hW3⟩ := copy_pad (P := Try.prog) 29 29 3 5 Try.underlying29 (by kernel_rfl) (rowIs_new w2 (Array.replicate 64 (.int .u8 0)) 5) hb3 hlen
        have kW : Kept (fun _ => False) w2 W := ((Kept.refl (fun _ => False) w2).alloc _).trans hW2 (fun x hx hlt => by omega)
        obtain ⟨gp, cp, rfl⟩ : ∃ gp cp, vp = .slice (some ⟨gp, 0, none⟩) m.pend.length cp := by
          obtain ⟨g', cap, hv, -⟩ := ownsRow_cells h2.op (show 0 < (lessDk m).pend.length from by show 0 < m.pend.length; omega)
          exact ⟨g', cap, hv⟩
        have h2W := h2.kept kW (fun _ _ h => h)
        obtain ⟨u, hup⟩ : ∃ u, kp[k]? = some u := ⟨_, List.getElem?_eq_getElem (show k < kp.length by rw [h2.rp.len]; exact hkp)⟩
        obtain ⟨gp', cp', hv, hcpk, hfpk⟩ := cell_at h2W.op (k := k) hkp hup
        cases hv
        have hc1 := h2W.row.cell 1
        have hf1 := h2W.row.free 1
        obtain ⟨hw1, hw2⟩ := h2.wrote rfl hlen hW1 kW k rfl
        have HF := hid (And.intro hw1 (And.intro hw2 (And.intro hk2 hs2)))
        clear hup hw1 hw2 hk2 hs2 h2 h2W kW hW1 hW2 hW3 hb2 hb3 C1 C2 HN
        go_wp2_with fail
        go_ret
        obtain ⟨hw1, hw2, hk2, hs2⟩ := HF.out
        refine ⟨rfl, (hk2.mono (Y := fun x => x = g ∨ (Value.slice (some ⟨gp, 0, none⟩) m.pend.length cp).ownBlock = some x) (fun x hx _ => .inl hx)).trans hw2 (fun x hx _ => .inr (by rw [hx]; rfl)), _, _, _, _, hw1, fun x hx => ?_⟩
        rcases hx with hx | hx
        · exact .inl hx
        · exact .inr (by omega)
end Go.Proofs.Ytgdeiokaicjkdaa
