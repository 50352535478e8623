/-
  What the walks of layer 15 take of package disk: Disks.
-/
import Derived.Test.YtgdeiokaicjkdaaLaw15R
set_option linter.unusedVariables false
set_option linter.unusedSimpArgs false
namespace Go.Proofs.Ytgdeiokaicjkdaa
open Go.RowKit Go.Pantry

structure Disks (Ok : World → Prop) (R : Rp) : Prop where
  keep : ∀ {w w' : World}, Ok w → Below w.heap.size w w' → Ok w'
  kept : ∀ {w w' : World} {g : Nat} {F X : Nat → Prop} {m : DiskM}, R w g F m → Kept X w w' → (∀ k, F k → ¬ X k) → R w' g F m
  lt : ∀ {w : World} {g : Nat} {F : Nat → Prop} {m : DiskM}, R w g F m → ∀ k, F k → k < w.heap.size
  ok : ∀ {w : World} {g : Nat} {F : Nat → Prop} {m : DiskM}, R w g F m → ∃ n, 0 < n ∧ n ≤ 4096 ∧ DiskOk n m
  new : ∀ (w : World) (n : Int), Ok w → 1 ≤ n → n ≤ 4096 → Calls Try.prog 10 #[.int .i64 n] w fun e w' => Below w.heap.size w w' ∧ ∃ g F, e = .returned (.pointer (some ⟨g, 0, none⟩)) ∧ R w' g F (newDk n.toNat) ∧ ∀ k, F k → w.heap.size ≤ k
  nothing : ∀ (w : World) (n : Int), Ok w → In15 n → ¬ (1 ≤ n ∧ n ≤ 4096) → Calls Try.prog 10 #[.int .i64 n] w fun e w' => Below w.heap.size w w' ∧ e = .returned (.pointer none)
  len : ∀ {w : World} {g : Nat} {F : Nat → Prop} {m : DiskM}, R w g F m → Calls Try.prog 11 #[.pointer (some ⟨g, 0, none⟩)] w fun e w' => e = .returned (.int .i64 (m.stands.length : Int)) ∧ Below w.heap.size w w'
  down : ∀ {w : World} {g : Nat} {F : Nat → Prop} {m : DiskM}, R w g F m → Calls Try.prog 25 #[.pointer (some ⟨g, 0, none⟩)] w fun e w' => e = .returned (.bool m.down) ∧ Below w.heap.size w w'
  pending : ∀ {w : World} {g : Nat} {F : Nat → Prop} {m : DiskM}, Ok w → R w g F m → Calls Try.prog 27 #[.pointer (some ⟨g, 0, none⟩)] w fun e w' => Below w.heap.size w w' ∧ ∃ v, e = .returned v ∧ w'.ownsRow w.heap.size 3 1 v (pendDkL 0 m.pend).length ((pendDkL 0 m.pend).map (fun k : Nat => Value.int .i64 (k : Int)))
  read : ∀ {w : World} {g : Nat} {F : Nat → Prop} {m : DiskM} (i : Int), Ok w → In15 i → R w g F m → Calls Try.prog 13 #[.pointer (some ⟨g, 0, none⟩), .int .i64 i] w fun e w' => Below w.heap.size w w' ∧ ∃ v, e = .returned (.tuple #[v, .int .i64 ((readDk m i).1 : Int)]) ∧ w'.ownsRow w.heap.size 5 1 v (readDk m i).2.length ((readDk m i).2.map byteV)
  write : ∀ {w : World} {g : Nat} {F : Nat → Prop} {m : DiskM} (i : Int) (vd : Value) (b : List UInt8), Ok w → In15 i → R w g F m → Bytes w vd b → (b ≠ [] → In (fun k => ¬ F k) vd) → Calls Try.prog 15 #[.pointer (some ⟨g, 0, none⟩), .int .i64 i, vd] w fun e w' => e = .returned (.int .i64 ((writeDk m i b).1 : Int)) ∧ WritPost R w g F (writeDk m i b).2 e w'
  flush : ∀ {w : World} {g : Nat} {F : Nat → Prop} {m : DiskM}, Ok w → R w g F m → Calls Try.prog 17 #[.pointer (some ⟨g, 0, none⟩)] w fun e w' => e = .returned (.int .i64 ((flushDk m).1 : Int)) ∧ WritPost R w g F (flushDk m).2 e w'
  bad : ∀ {w : World} {g : Nat} {F : Nat → Prop} {m : DiskM} (i : Int) (on : Bool), Ok w → In15 i → R w g F m → Calls Try.prog 19 #[.pointer (some ⟨g, 0, none⟩), .int .i64 i, .bool on] w fun e w' => e = .returned (.int .i64 ((badDk m i on).1 : Int)) ∧ WritPost R w g F (badDk m i on).2 e w'
  arm : ∀ {w : World} {g : Nat} {F : Nat → Prop} {m : DiskM} (n : Int), Ok w → In15 n → R w g F m → Calls Try.prog 20 #[.pointer (some ⟨g, 0, none⟩), .int .i64 n] w fun e w' => (∃ u, e = .returned u) ∧ WritPost R w g F (armDk m n) e w'
  crash : ∀ {w : World} {g : Nat} {F : Nat → Prop} {m : DiskM} (vk : Value) (keep : List Bool), Ok w → R w g F m → Reads w vk (keep.map .bool) → (keep ≠ [] → In (fun k => ¬ F k) vk) → Calls Try.prog 22 #[.pointer (some ⟨g, 0, none⟩), vk] w fun e w' => (∃ u, e = .returned u) ∧ WritPost R w g F (crashDk m keep) e w'
section
variable {Ok : World → Prop} {R : Rp} (D : Disks Ok R) {w0 w w' : World} {g : Nat} {F : Nat → Prop} {m : DiskM}
include D
theorem Dk.then (h : Dk R w0 w g F m) (hb : Below w.heap.size w w') : Dk R w0 w' g F m :=
  ⟨D.kept h.rep (Kept.of_below (X := fun _ => False) hb) (fun _ _ h => h), h.lo, h.bl.trans (hb.mono h.bl.size)⟩
theorem Dk.away {X : Nat → Prop} (h : Dk R w0 w g F m) (hk : Kept X w w') (hx : ∀ k, F k → ¬ X k) (hX : ∀ k, X k → k < w.heap.size → w0.heap.size ≤ k) : Dk R w0 w' g F m :=
  ⟨D.kept h.rep hk hx, h.lo, h.bl.trans (hk.below hX h.bl.size)⟩
theorem Disks.okAt (h : Dk R w0 w g F m) (ho : Ok w0) : Ok w := D.keep ho h.bl
theorem Disks.newK (n : Int) (hb : Below w0.heap.size w0 w) (ho : Ok w0) (h1 : 1 ≤ n) (h2 : n ≤ 4096) : Calls Try.prog 10 #[.int .i64 n] w fun e w' => Below w.heap.size w w' ∧ ∃ g F, e = .returned (.pointer (some ⟨g, 0, none⟩)) ∧ Dk R w0 w' g F (newDk n.toNat) ∧ ∀ k, F k → w.heap.size ≤ k :=
  (D.new w n (D.keep ho hb) h1 h2).mono fun e w' ⟨hb2, g, F, he, hr, hf⟩ => ⟨hb2, g, F, he, ⟨hr, fun k hk => Nat.le_trans hb.size (hf k hk), hb.trans (hb2.mono hb.size)⟩, hf⟩
theorem Disks.writeK (h : Dk R w0 w g F m) (ho : Ok w0) (i : Int) (vd : Value) (b : List UInt8) (hi : In15 i) (hb : Bytes w vd b) (hd : b ≠ [] → In (fun k => ¬ F k) vd) : Calls Try.prog 15 #[.pointer (some ⟨g, 0, none⟩), .int .i64 i, vd] w fun e w' => e = .returned (.int .i64 ((writeDk m i b).1 : Int)) ∧ ∃ F', Dk R w0 w' g F' (writeDk m i b).2 ∧ Kept F w w' ∧ ∀ k, F' k → F k ∨ w.heap.size ≤ k :=
  (D.write i vd b (D.okAt h ho) hi h.rep hb hd).mono fun _e _w' ⟨he, hp⟩ => ⟨he, h.wrote hp⟩
theorem Disks.flushK (h : Dk R w0 w g F m) (ho : Ok w0) : Calls Try.prog 17 #[.pointer (some ⟨g, 0, none⟩)] w fun e w' => e = .returned (.int .i64 ((flushDk m).1 : Int)) ∧ ∃ F', Dk R w0 w' g F' (flushDk m).2 ∧ Kept F w w' ∧ ∀ k, F' k → F k ∨ w.heap.size ≤ k :=
  (D.flush (D.okAt h ho) h.rep).mono fun _e _w' ⟨he, hp⟩ => ⟨he, h.wrote hp⟩
theorem Disks.badK (h : Dk R w0 w g F m) (ho : Ok w0) (i : Int) (on : Bool) (hi : In15 i) : Calls Try.prog 19 #[.pointer (some ⟨g, 0, none⟩), .int .i64 i, .bool on] w fun e w' => e = .returned (.int .i64 ((badDk m i on).1 : Int)) ∧ ∃ F', Dk R w0 w' g F' (badDk m i on).2 ∧ Kept F w w' ∧ ∀ k, F' k → F k ∨ w.heap.size ≤ k :=
  (D.bad i on (D.okAt h ho) hi h.rep).mono fun _e _w' ⟨he, hp⟩ => ⟨he, h.wrote hp⟩
theorem Disks.armK (h : Dk R w0 w g F m) (ho : Ok w0) (n : Int) (hi : In15 n) : Calls Try.prog 20 #[.pointer (some ⟨g, 0, none⟩), .int .i64 n] w fun e w' => (∃ u, e = .returned u) ∧ ∃ F', Dk R w0 w' g F' (armDk m n) ∧ Kept F w w' ∧ ∀ k, F' k → F k ∨ w.heap.size ≤ k :=
  (D.arm n (D.okAt h ho) hi h.rep).mono fun _e _w' ⟨he, hp⟩ => ⟨he, h.wrote hp⟩
theorem Disks.crashK (h : Dk R w0 w g F m) (ho : Ok w0) (vk : Value) (keep : List Bool) (hr : Reads w vk (keep.map .bool)) (hk : keep ≠ [] → In (fun k => ¬ F k) vk) : Calls Try.prog 22 #[.pointer (some ⟨g, 0, none⟩), vk] w fun e w' => (∃ u, e = .returned u) ∧ ∃ F', Dk R w0 w' g F' (crashDk m keep) ∧ Kept F w w' ∧ ∀ k, F' k → F k ∨ w.heap.size ≤ k :=
  (D.crash vk keep (D.okAt h ho) h.rep hr hk).mono fun _e _w' ⟨he, hp⟩ => ⟨he, h.wrote hp⟩
theorem Disks.readK (h : Dk R w0 w g F m) (ho : Ok w0) (i : Int) (hi : In15 i) : Calls Try.prog 13 #[.pointer (some ⟨g, 0, none⟩), .int .i64 i] w fun e w' => Dk R w0 w' g F m ∧ Below w.heap.size w w' ∧ ∃ v, e = .returned (.tuple #[v, .int .i64 ((readDk m i).1 : Int)]) ∧ w'.ownsRow w.heap.size 5 1 v (readDk m i).2.length ((readDk m i).2.map byteV) :=
  (D.read i (D.okAt h ho) hi h.rep).mono fun _e _w' ⟨hb, hp⟩ => ⟨h.then D hb, hb, hp⟩
theorem Disks.pendK (h : Dk R w0 w g F m) (ho : Ok w0) : Calls Try.prog 27 #[.pointer (some ⟨g, 0, none⟩)] w fun e w' => Dk R w0 w' g F m ∧ Below w.heap.size w w' ∧ ∃ v, e = .returned v ∧ w'.ownsRow w.heap.size 3 1 v (pendDkL 0 m.pend).length ((pendDkL 0 m.pend).map (fun k : Nat => Value.int .i64 (k : Int))) :=
  (D.pending (D.okAt h ho) h.rep).mono fun _e _w' ⟨hb, hp⟩ => ⟨h.then D hb, hb, hp⟩
theorem Disks.lenK (h : Dk R w0 w g F m) : Calls Try.prog 11 #[.pointer (some ⟨g, 0, none⟩)] w fun e w' => e = .returned (.int .i64 (m.stands.length : Int)) ∧ Dk R w0 w' g F m ∧ Below w.heap.size w w' :=
  (D.len h.rep).mono fun _e _w' ⟨he, hb⟩ => ⟨he, h.then D hb, hb⟩
theorem Disks.downK (h : Dk R w0 w g F m) : Calls Try.prog 25 #[.pointer (some ⟨g, 0, none⟩)] w fun e w' => e = .returned (.bool m.down) ∧ Dk R w0 w' g F m ∧ Below w.heap.size w w' :=
  (D.down h.rep).mono fun _e _w' ⟨he, hb⟩ => ⟨he, h.then D hb, hb⟩
end
end Go.Proofs.Ytgdeiokaicjkdaa
