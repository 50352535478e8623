/-
  Package disk: its representation, and each of its functions but Bad over it.
-/
import Derived.Test.YtgdeiokaicjkdaaDiskE
import Derived.Test.YtgdeiokaicjkdaaDiskF
set_option linter.unusedVariables false
set_option linter.unusedSimpArgs false
namespace Go.Proofs.Ytgdeiokaicjkdaa
open Go.RowKit Go.Pantry

/-- package disk's representation of a disk -/
def R15 : Rp := fun w g F m => ∃ gs gm gb N left D, LAt w g gs gm gb N left D m ∧ F = FL g gs gm gb
theorem r15_kept {w w' : World} {g : Nat} {F X : Nat → Prop} {m : DiskM} (h : R15 w g F m) (hk : Kept X w w') (hx : ∀ k, F k → ¬ X k) : R15 w' g F m := by
  obtain ⟨gs, gm, gb, N, left, D, h, rfl⟩ := h
  exact ⟨gs, gm, gb, N, left, D, h.kept hk hx, rfl⟩
theorem r15_lt {w : World} {g : Nat} {F : Nat → Prop} {m : DiskM} (h : R15 w g F m) : ∀ k, F k → k < w.heap.size := by
  obtain ⟨gs, gm, gb, N, left, D, h, rfl⟩ := h
  exact fun k hk => h.lt hk
theorem r15_ok {w : World} {g : Nat} {F : Nat → Prop} {m : DiskM} (h : R15 w g F m) : ∃ n, 0 < n ∧ n ≤ 4096 ∧ DiskOk n m := by
  obtain ⟨gs, gm, gb, N, left, D, h, rfl⟩ := h
  exact ⟨N, h.n0, h.n1, h.ok⟩
theorem LPost.writ {w : World} {g gs gm gb N : Nat} {r : Nat × DiskM} {e : Ending} {w' : World} (h : LPost w g gs gm gb N r e w') : e = .returned (.int .i64 (r.1 : Int)) ∧ WritPost R15 w g (FL g gs gm gb) r.2 e w' := by
  obtain ⟨he, hk, left', D', hL⟩ := h
  exact ⟨he, _, ⟨gs, gm, gb, N, left', D', hL, rfl⟩, hk, fun k hk => .inl hk⟩
theorem r15_new (w : World) (n : Int) (h1 : 1 ≤ n) (h2 : n ≤ 4096) : Calls Try.prog 10 #[.int .i64 n] w fun e w' => Below w.heap.size w w' ∧ ∃ g F, e = .returned (.pointer (some ⟨g, 0, none⟩)) ∧ R15 w' g F (newDk n.toNat) ∧ ∀ k, F k → w.heap.size ≤ k := by
  obtain ⟨k, rfl⟩ : ∃ k : Nat, n = (k : Int) := ⟨n.toNat, by omega⟩
  refine (lNew_any k w (by omega) (by omega)).mono ?_
  rintro e w' ⟨hb, g, gs, gm, gb, he, hL, hl⟩
  exact ⟨hb, g, _, he, ⟨gs, gm, gb, _, _, _, hL, rfl⟩, hl⟩
theorem r15_len {w : World} {g : Nat} {F : Nat → Prop} {m : DiskM} (h : R15 w g F m) : Calls Try.prog 11 #[.pointer (some ⟨g, 0, none⟩)] w fun e w' => e = .returned (.int .i64 (m.stands.length : Int)) ∧ Below w.heap.size w w' := by
  obtain ⟨gs, gm, gb, N, left, D, h, rfl⟩ := h
  exact lLen_any g gs gm gb N left D m w h
theorem r15_down {w : World} {g : Nat} {F : Nat → Prop} {m : DiskM} (h : R15 w g F m) : Calls Try.prog 25 #[.pointer (some ⟨g, 0, none⟩)] w fun e w' => e = .returned (.bool m.down) ∧ Below w.heap.size w w' := by
  obtain ⟨gs, gm, gb, N, left, D, h, rfl⟩ := h
  exact lDown_any g gs gm gb N left D m w h
theorem r15_pending {w : World} {g : Nat} {F : Nat → Prop} {m : DiskM} (h : R15 w g F m) : Calls Try.prog 27 #[.pointer (some ⟨g, 0, none⟩)] w fun e w' => Below w.heap.size w w' ∧ ∃ v, e = .returned v ∧ w'.ownsRow w.heap.size 3 1 v (pendDkL 0 m.pend).length ((pendDkL 0 m.pend).map (fun k : Nat => Value.int .i64 (k : Int))) := by
  obtain ⟨gs, gm, gb, N, left, D, h, rfl⟩ := h
  exact lPending_any g gs gm gb N left D m w h
theorem r15_arm {w : World} {g : Nat} {F : Nat → Prop} {m : DiskM} (n : Int) (hn : In15 n) (h : R15 w g F m) : Calls Try.prog 20 #[.pointer (some ⟨g, 0, none⟩), .int .i64 n] w fun e w' => (∃ u, e = .returned u) ∧ WritPost R15 w g F (armDk m n) e w' := by
  obtain ⟨gs, gm, gb, N, left, D, h, rfl⟩ := h
  refine (lArm_any g gs gm gb N left D m n w h hn.2).mono ?_
  rintro e w' ⟨he, hk, _, left', hL⟩
  exact ⟨he, _, ⟨gs, gm, gb, N, left', D, hL, rfl⟩, hk.mono (fun x hx _ => .inl hx), fun k hk => .inl hk⟩
theorem r15_crash {w : World} {g : Nat} {F : Nat → Prop} {m : DiskM} (vk : Value) (keep : List Bool) (h : R15 w g F m) (hr : Reads w vk (keep.map .bool)) (hk : keep ≠ [] → In (fun k => ¬ F k) vk) : Calls Try.prog 22 #[.pointer (some ⟨g, 0, none⟩), vk] w fun e w' => (∃ u, e = .returned u) ∧ WritPost R15 w g F (crashDk m keep) e w' := by
  obtain ⟨gs, gm, gb, N, left, D, h, rfl⟩ := h
  refine (lCrash_any g gs gm gb N left D m vk keep w h hr hk).mono ?_
  rintro e w' ⟨he, hkp, left', D', hL⟩
  exact ⟨he, _, ⟨gs, gm, gb, N, left', D', hL, rfl⟩, hkp, fun k hk => .inl hk⟩
theorem r15_read {w : World} {g : Nat} {F : Nat → Prop} {m : DiskM} (i : Int) (h : R15 w g F m) : Calls Try.prog 13 #[.pointer (some ⟨g, 0, none⟩), .int .i64 i] w fun e w' => Below w.heap.size w w' ∧ ∃ v, e = .returned (.tuple #[v, .int .i64 ((readDk m i).1 : Int)]) ∧ w'.ownsRow w.heap.size 5 1 v (readDk m i).2.length ((readDk m i).2.map byteV) := by
  obtain ⟨gs, gm, gb, N, left, D, h, rfl⟩ := h
  exact lRead_any g gs gm gb N left D m i w h
theorem r15_write {w : World} {g : Nat} {F : Nat → Prop} {m : DiskM} (i : Int) (vd : Value) (b : List UInt8) (h : R15 w g F m) (hb : Reads w vd (b.map byteV)) (hd : b ≠ [] → In (fun k => ¬ F k) vd) : Calls Try.prog 15 #[.pointer (some ⟨g, 0, none⟩), .int .i64 i, vd] w fun e w' => e = .returned (.int .i64 ((writeDk m i b).1 : Int)) ∧ WritPost R15 w g F (writeDk m i b).2 e w' := by
  obtain ⟨gs, gm, gb, N, left, D, h, rfl⟩ := h
  exact (lWrite_any g gs gm gb N left D m i vd b w h hb hd).mono fun e w' h => h.writ
theorem r15_flush {w : World} {g : Nat} {F : Nat → Prop} {m : DiskM} (h : R15 w g F m) : Calls Try.prog 17 #[.pointer (some ⟨g, 0, none⟩)] w fun e w' => e = .returned (.int .i64 ((flushDk m).1 : Int)) ∧ WritPost R15 w g F (flushDk m).2 e w' := by
  obtain ⟨gs, gm, gb, N, left, D, h, rfl⟩ := h
  exact (lFlush_any g gs gm gb N left D m w h).mono fun e w' h => h.writ
end Go.Proofs.Ytgdeiokaicjkdaa
