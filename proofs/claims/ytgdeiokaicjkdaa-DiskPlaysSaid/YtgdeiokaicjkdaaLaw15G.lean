/-
  Layer 15: the document's disk as a representation; steps of a play; are the same sectors pending? have all the same bytes?
-/
import Derived.Test.YtgdeiokaicjkdaaLaw15A
import Derived.Test.YtgdeiokaicjkdaaRef15D
import Derived.Test.YtgdeiokaicjkdaaRef15E
import Derived.Test.YtgdeiokaicjkdaaPureDisk2
import Derived.Deep.QuietTactic
import Derived.BigQuiet
set_option linter.unusedVariables false
set_option linter.unusedSimpArgs false
namespace Go.Pantry
open Go.RowKit
/-- a step of a play -/
structure OpD where
  kind : Int
  n : Int
  data : List UInt8
  on : Bool
  keep : List Bool
instance : Inhabited OpD := ⟨⟨0, 0, [], false, []⟩⟩
/-- v is a slice that reads as these steps -/
def ReadsOpD (w : World) (v : Value) (M : List OpD) : Prop :=
  ∃ ao cap, v = .slice ao M.length cap ∧ ∀ (j : Nat) o, M[j]? = some o → ∃ b off da dc ka kc, ao = some ⟨b, off, none⟩ ∧ w.cell? ⟨b, off + j * 5, none⟩ = some (.int .i64 o.kind) ∧ w.cell? ⟨b, off + j * 5 + 1, none⟩ = some (.int .i64 o.n) ∧
    w.cell? ⟨b, off + j * 5 + 2, none⟩ = some (.slice da o.data.length dc) ∧ w.cell? ⟨b, off + j * 5 + 3, none⟩ = some (.bool o.on) ∧ w.cell? ⟨b, off + j * 5 + 4, none⟩ = some (.slice ka o.keep.length kc) ∧ Bytes w (.slice da o.data.length dc) o.data ∧ Reads w (.slice ka o.keep.length kc) (o.keep.map .bool)
theorem readsOpD_below {w w' : World} {v : Value} {M : List OpD} (h : ReadsOpD w v M) (hb : Below w.heap.size w w') : ReadsOpD w' v M := by
  obtain ⟨ao, cap, rfl, hc⟩ := h
  refine ⟨ao, cap, rfl, fun j o hj => ?_⟩
  obtain ⟨b, off, da, dc, ka, kc, ha, g0, g1, g2, g3, g4, g5, g6⟩ := hc j o hj
  exact ⟨b, off, da, dc, ka, kc, ha, kept g0 hb, kept g1 hb, kept g2 hb, kept g3 hb, kept g4 hb, bytes_below g5 hb, g6.below hb⟩
end Go.Pantry
namespace Go.Proofs.Ytgdeiokaicjkdaa
open Go.RowKit Go.Pantry

def Rd15 : Rp := fun w g F m => ∃ vs vp vb ks kp left arm S, DAt w g vs vp vb ks kp left arm S m ∧ ∀ k, F k ↔ FD g vs vp vb S k
theorem rd_kept {X : Nat → Prop} {w w' : World} {g : Nat} {F : Nat → Prop} {m : DiskM} (h : Rd15 w g F m) (hk : Kept X w w') (hx : ∀ k, F k → ¬ X k) : Rd15 w' g F m := by
  obtain ⟨vs, vp, vb, ks, kp, left, arm, S, hd, hf⟩ := h
  exact ⟨vs, vp, vb, ks, kp, left, arm, S, hd.kept hk (fun k hk' => hx k ((hf k).2 hk')), hf⟩
theorem rd_lt {w : World} {g : Nat} {F : Nat → Prop} {m : DiskM} (h : Rd15 w g F m) : ∀ k, F k → k < w.heap.size := by
  obtain ⟨vs, vp, vb, ks, kp, left, arm, S, hd, hf⟩ := h
  exact fun k hk => hd.lt ((hf k).1 hk)
theorem rd_then {w0 w w' : World} {g : Nat} {F : Nat → Prop} {m : DiskM} (h : Dk Rd15 w0 w g F m) (hb : Below w.heap.size w w') : Dk Rd15 w0 w' g F m :=
  ⟨rd_kept h.rep (Kept.of_below (X := fun _ => False) hb) (fun _ _ h => h), h.lo, h.bl.trans (hb.mono h.bl.size)⟩
theorem rd_away {w0 w w' : World} {g : Nat} {F X : Nat → Prop} {m : DiskM} (h : Dk Rd15 w0 w g F m) (hk : Kept X w w') (hx : ∀ k, F k → ¬ X k) (hX : ∀ k, X k → k < w.heap.size → w0.heap.size ≤ k) : Dk Rd15 w0 w' g F m :=
  ⟨rd_kept h.rep hk hx, h.lo, h.bl.trans (hk.below hX h.bl.size)⟩
theorem docNew (n : Nat) (w : World) (hn0 : 0 < n) (hn : n ≤ 4096) :
    Calls Try.prog 12 #[.int .i64 (n : Int)] w fun e w' => ∃ g F, e = .returned (.pointer (some ⟨g, 0, none⟩)) ∧ Rd15 w' g F (newDk n) ∧ Below w.heap.size w w' ∧ ∀ k, F k → w.heap.size ≤ k :=
  (dNew_any n w hn0 hn).mono fun e w' ⟨g, vs, vp, vb, ks, kp, left, arm, S, he, hd, hb, hf⟩ => ⟨g, FD g vs vp vb S, he, ⟨vs, vp, vb, ks, kp, left, arm, S, hd, fun _ => Iff.rfl⟩, hb, hf⟩
theorem docRead {w : World} {g n : Nat} {F : Nat → Prop} {m : DiskM} (h : Rd15 w g F m) (ho : DiskOk n m) (i : Int) :
    Calls Try.prog 14 #[.pointer (some ⟨g, 0, none⟩), .int .i64 i] w fun e w' => w = w' ∧ ∃ v, e = .returned (.tuple #[v, .int .i64 ((readDk m i).1 : Int)]) ∧ Bytes w v (readDk m i).2 := by
  obtain ⟨vs, vp, vb, ks, kp, left, arm, S, hd, hf⟩ := h
  exact (dRead_any g vs vp vb ks kp left arm S m n i w hd ho).mono fun e w' ⟨hw, v, he, hb, _⟩ => ⟨hw, v, he, hb⟩
theorem docWrite {w : World} {g n : Nat} {F : Nat → Prop} {m : DiskM} (h : Rd15 w g F m) (ho : DiskOk n m) (i : Int) (vd : Value) (b : List UInt8) (hb : Reads w vd (b.map byteV)) (hd' : b ≠ [] → In (fun k => ¬ F k) vd) :
    Calls Try.prog 16 #[.pointer (some ⟨g, 0, none⟩), .int .i64 i, vd] w fun e w' => e = .returned (.int .i64 ((writeDk m i b).1 : Int)) ∧ WritPost Rd15 w g F (writeDk m i b).2 e w' := by
  obtain ⟨vs, vp, vb, ks, kp, left, arm, S, hd, hf⟩ := h
  refine (dWrite_any g vs vp vb ks kp left arm S m n i vd b w hd ho hb (fun hne k hk e => hd' hne k hk ((hf k).2 (.inl e)))).mono ?_
  rintro e w' ⟨he, hk, kp', left', arm', S', hd2, hs⟩
  refine ⟨he, FD g vs vp vb S', ⟨vs, vp, vb, ks, kp', left', arm', S', hd2, fun _ => Iff.rfl⟩, hk.mono (fun k hk' _ => (hf k).2 ?_), fun k hk' => ?_⟩
  · rcases hk' with e | e
    · exact .inl e
    · exact .inr (.inr (.inl e))
  · rcases hk' with e | e | e | e | e
    · exact .inl ((hf k).2 (.inl e))
    · exact .inl ((hf k).2 (.inr (.inl e)))
    · exact .inl ((hf k).2 (.inr (.inr (.inl e))))
    · exact .inl ((hf k).2 (.inr (.inr (.inr (.inl e)))))
    · rcases hs k e with e2 | e2
      · exact .inl ((hf k).2 (.inr (.inr (.inr (.inr e2)))))
      · exact .inr e2
theorem docFlush {w : World} {g n : Nat} {F : Nat → Prop} {m : DiskM} (h : Rd15 w g F m) (ho : DiskOk n m) (hn0 : 0 < n) (hn : n ≤ 4096) :
    Calls Try.prog 18 #[.pointer (some ⟨g, 0, none⟩)] w fun e w' => e = .returned (.int .i64 ((flushDk m).1 : Int)) ∧ WritPost Rd15 w g F (flushDk m).2 e w' := by
  obtain ⟨vs, vp, vb, ks, kp, left, arm, S, hd, hf⟩ := h
  refine (dFlush_any g vs vp vb ks kp left arm S m n w hd ho hn0 hn).mono ?_
  rintro e w' ⟨he, hk, ks', kp', left', arm', hd2⟩
  refine ⟨he, F, ⟨vs, vp, vb, ks', kp', left', arm', S, hd2, hf⟩, hk.mono (fun k hk' _ => (hf k).2 ?_), fun k hk' => .inl hk'⟩
  rcases hk' with e | e | e
  · exact .inl e
  · exact .inr (.inl e)
  · exact .inr (.inr (.inl e))
theorem docCrash {w : World} {g n : Nat} {F : Nat → Prop} {m : DiskM} (h : Rd15 w g F m) (ho : DiskOk n m) (hn0 : 0 < n) (hn : n ≤ 4096) (vk : Value) (keep : List Bool) (hr : Reads w vk (keep.map .bool)) (hi : keep ≠ [] → In (fun k => ¬ F k) vk) :
    Calls Try.prog 23 #[.pointer (some ⟨g, 0, none⟩), vk] w fun e w' => (∃ u, e = .returned u) ∧ WritPost Rd15 w g F (crashDk m keep) e w' := by
  obtain ⟨vs, vp, vb, ks, kp, left, arm, S, hd, hf⟩ := h
  refine (dCrash_any g vs vp vb ks kp left arm S m n vk keep w hd ho hn0 hn hr (fun hne k hk => ⟨fun e => hi hne k hk ((hf k).2 (.inl e)), fun e => hi hne k hk ((hf k).2 (.inr (.inl e))), fun e => hi hne k hk ((hf k).2 (.inr (.inr (.inl e))))⟩)).mono ?_
  rintro e w' ⟨he, hk, ks', kp', left', arm', hd2⟩
  refine ⟨he, F, ⟨vs, vp, vb, ks', kp', left', arm', S, hd2, hf⟩, hk.mono (fun k hk' _ => (hf k).2 ?_), fun k hk' => .inl hk'⟩
  rcases hk' with e | e | e
  · exact .inl e
  · exact .inr (.inl e)
  · exact .inr (.inr (.inl e))
theorem docArm {w : World} {g : Nat} {F : Nat → Prop} {m : DiskM} (h : Rd15 w g F m) (k : Int) (hk : k ≤ 9223372036854775807) :
    Calls Try.prog 21 #[.pointer (some ⟨g, 0, none⟩), .int .i64 k] w fun e w' => (∃ u, e = .returned u) ∧ WritPost Rd15 w g F (armDk m k) e w' := by
  obtain ⟨vs, vp, vb, ks, kp, left, arm, S, hd, hf⟩ := h
  refine (dArm_any g vs vp vb ks kp left arm S m k w hd hk).mono ?_
  rintro e w' ⟨he, hk, -, hd2⟩
  exact ⟨he, F, ⟨vs, vp, vb, ks, kp, _, _, S, hd2, hf⟩, hk.mono (fun k hk' _ => (hf k).2 (.inl hk')), fun k hk' => .inl hk'⟩
/-- the store into Bad -/
theorem docBad {w : World} {g n : Nat} {F : Nat → Prop} {m : DiskM} (h : Rd15 w g F m) (ho : DiskOk n m) {i : Nat} (hi : i < n) (on : Bool) :
    ∃ gb cap, w.cell? ⟨g, 2, none⟩ = some (.slice (some ⟨gb, 0, none⟩) n cap) ∧ w.frozen? ⟨gb, i, none⟩ = false ∧ (∃ u, w.cell? ⟨gb, i, none⟩ = some (.bool u)) ∧ F gb ∧ Rd15 (w.setCell ⟨gb, i, none⟩ (.bool on)) g F (badDk m (i : Int) on).2 ∧ Kept F w (w.setCell ⟨gb, i, none⟩ (.bool on)) := by
  obtain ⟨vs, vp, vb, ks, kp, left, arm, S, hd, hf⟩ := h
  have hob := hd.ob
  rw [ho.lenB] at hob
  obtain ⟨gb, cap, hv, hl, hc, hfr⟩ := ownsRow_cells hob (by omega)
  subst hv
  have hgb : F gb := (hf gb).2 (.inr (.inr (.inr (.inl rfl))))
  obtain ⟨b1, b2, b3, b4⟩ := hd.inB gb rfl
  have kk := (Kept.refl (fun k => k = gb) w).setCell (g := gb) (i := i) (.inl rfl) (.bool on)
  have hbd : (badDk m (i : Int) on).2 = { m with bad := m.bad.set i on } := by
    unfold badDk
    rw [if_pos ⟨by omega, by rw [ho.len]; omega⟩]
    simp
  have hlt : i < m.bad.length := by rw [ho.lenB]; exact hi
  have hset := ownsRow_set1 hob i (.bool on)
  rw [← List.map_set] at hset
  refine ⟨gb, cap, hd.row.cell 2, hfr i, ⟨m.bad[i], hc i _ (by rw [List.getElem?_map, List.getElem?_eq_getElem hlt]; rfl)⟩, hgb, ?_, kk.mono (fun k e _ => by rw [e]; exact hgb)⟩
  rw [hbd]
  refine ⟨vs, vp, .slice (some ⟨gb, 0, none⟩) n cap, ks, kp, left, arm, S, ⟨hd.row.kept kk (fun e => b1 e.symm), ownsRow_kept hd.os kk (fun k hk e => b3 (by rw [← e]; exact hk)), ownsRow_kept hd.op kk (fun k hk e => b4 (by rw [← e]; exact hk)), ?_, hd.rs.kept kk (fun k hk e => b2 (by rw [← e]; exact hk)), hd.rp.kept kk (fun k hk e => b2 (by rw [← e]; exact hk)), hd.off, hd.on, hd.inS, hd.inP, hd.inB, hd.sg, fun k hk => by have := hd.sl k hk; simpa [World.setCell] using this⟩, hf⟩
  show World.ownsRow _ _ _ _ _ (m.bad.set i on).length _
  rw [List.length_set, ho.lenB]
  exact hset
/-- what is pending, in the document's box -/
theorem docPend {w : World} {g n : Nat} {F : Nat → Prop} {m : DiskM} (h : Rd15 w g F m) (ho : DiskOk n m) (hn : 0 < n) :
    ∃ gp cap, w.cell? ⟨g, 1, none⟩ = some (.slice (some ⟨gp, 0, none⟩) n cap) ∧ F gp ∧ ∀ k, k < n → ∃ a c, w.cell? ⟨gp, k, none⟩ = some (.slice a (m.pend.getD k []).length c) := by
  obtain ⟨vs, vp, vb, ks, kp, left, arm, S, hd, hf⟩ := h
  have hop := hd.op
  rw [ho.lenP] at hop
  obtain ⟨gp, cap, hv, hl, hc, hfr⟩ := ownsRow_cells hop hn
  subst hv
  refine ⟨gp, cap, hd.row.cell 1, (hf gp).2 (.inr (.inr (.inl rfl))), fun k hk => ?_⟩
  obtain ⟨a, c, e, -, -⟩ := hd.rp.at (k := k) (by rw [ho.lenP]; exact hk)
  exact ⟨a, c, hc k _ e⟩
/-- what stands, in the document's box -/
theorem docStand {w : World} {g n : Nat} {F : Nat → Prop} {m : DiskM} (h : Rd15 w g F m) (ho : DiskOk n m) (hn : 0 < n) :
    ∃ gs cap, w.cell? ⟨g, 0, none⟩ = some (.slice (some ⟨gs, 0, none⟩) n cap) ∧ F gs ∧ ∀ k, k < n → ∃ a c, w.cell? ⟨gs, k, none⟩ = some (.slice a (m.stands.getD k []).length c) ∧ Bytes w (.slice a (m.stands.getD k []).length c) (m.stands.getD k []) ∧ In F (.slice a (m.stands.getD k []).length c) := by
  obtain ⟨vs, vp, vb, ks, kp, left, arm, S, hd, hf⟩ := h
  have hos := hd.os
  rw [ho.len] at hos
  obtain ⟨gs, cap, hv, hl, hc, hfr⟩ := ownsRow_cells hos hn
  subst hv
  refine ⟨gs, cap, hd.row.cell 0, (hf gs).2 (.inr (.inl rfl)), fun k hk => ?_⟩
  obtain ⟨a, c, e, hb, hi⟩ := hd.rs.at (k := k) (by rw [ho.len]; exact hk)
  exact ⟨a, c, hc k _ e, hb, hi.mono (fun j hj => (hf j).2 (.inr (.inr (.inr (.inr hj)))))⟩
theorem docDown {w : World} {g : Nat} {F : Nat → Prop} {m : DiskM} (h : Rd15 w g F m) : w.cell? ⟨g, 5, none⟩ = some (.bool m.down) ∧ F g := by
  obtain ⟨vs, vp, vb, ks, kp, left, arm, S, hd, hf⟩ := h
  exact ⟨hd.row.cell 5, (hf g).2 (.inl rfl)⟩
end Go.Proofs.Ytgdeiokaicjkdaa
