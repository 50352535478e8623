/-
  Layer 15: the example.
-/
import Derived.Test.YtgdeiokaicjkdaaLaw15S
set_option linter.unusedVariables false
set_option linter.unusedSimpArgs false
namespace Go.Pantry
open Go.RowKit
/-- a slice of bytes that is written out -/
theorem bytes_out (w : World) (l : List UInt8) (c : Array Value) (hc : c = (l.map byteV).toArray) (e : TypeId) (n : Nat) (hn : n = l.length) : Bytes (w.alloc (.cells c e)) (.slice (some ⟨w.heap.size, 0, none⟩) n n) l := by
  subst hc hn
  refine ⟨_, _, rfl, Nat.le_refl _, ⟨_, _, by rw [List.length_map], fun j u hj => ⟨w.heap.size, 0, rfl, ?_⟩, fun e => by cases e⟩⟩
  rw [Nat.zero_add, World.cell?_alloc_mark]
  simpa using hj
theorem bools_out (w : World) (l : List Bool) (c : Array Value) (hc : c = (l.map Value.bool).toArray) (e : TypeId) (n : Nat) (hn : n = l.length) : Reads (w.alloc (.cells c e)) (.slice (some ⟨w.heap.size, 0, none⟩) n n) (l.map Value.bool) := by
  subst hc hn
  refine ⟨_, _, by rw [List.length_map], fun j u hj => ⟨w.heap.size, 0, rfl, ?_⟩, fun e => by cases e⟩
  rw [Nat.zero_add, World.cell?_alloc_mark]
  simpa using hj
def exM1 : DiskM := (writeDk (newDk 4) 3 [7]).2
def exM2 : DiskM := (writeDk exM1 1 [8]).2
def exM3 : DiskM := crashDk exM2 [false, true]
theorem ex_w1 : (writeDk (newDk 4) 3 [7]).1 = 0 := by decide +kernel
theorem ex_w2 : (writeDk exM1 1 [8]).1 = 0 := by decide +kernel
theorem ex_r3 : readDk exM3 3 = (0, padS [7]) := by decide +kernel
theorem ex_r1 : readDk exM3 1 = (0, padS []) := by decide +kernel
theorem ex_pend : pendDkL 0 exM3.pend = [] := by decide +kernel
end Go.Pantry
namespace Go.Proofs.Ytgdeiokaicjkdaa
open Go.RowKit Go.Pantry
set_option maxRecDepth 8000 in
set_option maxHeartbeats 4000000 in
theorem anchor15_any {Ok : World → Prop} {R : Rp} (D : Disks Ok R) (w : World) (ho : Ok w) :
    Calls Try.prog 9 #[] w fun e w' => e = .returned (.bool true) ∧ Below w.heap.size w w' := by
  have C1 := hid (D.newK (w0 := w) 4 (Below.refl _ _) ho (by decide) (by decide))
  go_enter Try.func9, Try.ntmps9
  go_wp2_with fail
  refine C1.out.mono ?_
  rintro e w1 ⟨hb1, g, F1, rfl, h1, hF1⟩
  have hl1 := D.lt h1.rep
  obtain ⟨W1, hW1⟩ : ∃ W, w1.alloc (.cells #[.int .u8 7] 5) = W := ⟨_, rfl⟩
  have a1 : Dk R w W1 g F1 (newDk 4) := h1.then D (by rw [← hW1]; exact below_alloc _ _)
  have b1 : Bytes W1 (.slice (some ⟨w1.heap.size, 0, none⟩) 1 1) [7] := by rw [← hW1]; exact bytes_out w1 [7] _ rfl _ _ rfl
  have C2 := hid (D.writeK a1 ho 3 _ [7] (by decide) b1 (fun _ k hk hf => by cases hk; exact Nat.lt_irrefl _ (hl1 _ hf)))
  rw [ex_w1] at C2
  clear h1 hl1 a1 b1 C1
  go_wp2_with fail
  try rw [hW1]
  clear hW1
  refine C2.out.mono ?_
  rintro e w2 ⟨rfl, F2, h2, -, -⟩
  have hl2 := D.lt h2.rep
  obtain ⟨W2, hW2⟩ : ∃ W, w2.alloc (.cells #[.int .u8 8] 5) = W := ⟨_, rfl⟩
  have a2 : Dk R w W2 g F2 exM1 := h2.then D (by rw [← hW2]; exact below_alloc _ _)
  have b2 : Bytes W2 (.slice (some ⟨w2.heap.size, 0, none⟩) 1 1) [8] := by rw [← hW2]; exact bytes_out w2 [8] _ rfl _ _ rfl
  have C3 := hid (D.writeK a2 ho 1 _ [8] (by decide) b2 (fun _ k hk hf => by cases hk; exact Nat.lt_irrefl _ (hl2 _ hf)))
  rw [ex_w2] at C3
  clear h2 hl2 a2 b2 C2
  go_wp2_with fail
  try rw [hW2]
  clear hW2
  refine C3.out.mono ?_
  rintro e w3 ⟨rfl, F3, h3, -, -⟩
  have hl3 := D.lt h3.rep
  obtain ⟨W3, hW3⟩ : ∃ W, w3.alloc (.cells #[.bool false, .bool true] 4) = W := ⟨_, rfl⟩
  have a3 : Dk R w W3 g F3 exM2 := h3.then D (by rw [← hW3]; exact below_alloc _ _)
  have b3 : Reads W3 (.slice (some ⟨w3.heap.size, 0, none⟩) 2 2) ([false, true].map Value.bool) := by rw [← hW3]; exact bools_out w3 [false, true] _ rfl _ _ rfl
  have C4 := hid (D.crashK a3 ho _ [false, true] b3 (fun _ k hk hf => by cases hk; exact Nat.lt_irrefl _ (hl3 _ hf)))
  clear h3 hl3 a3 b3 C3
  go_wp2_with fail
  try rw [hW3]
  clear hW3
  refine C4.out.mono ?_
  rintro e w4 ⟨⟨u, rfl⟩, F4, h4, -, -⟩
  have C5 := hid (D.readK h4 ho 3 (by decide))
  rw [show crashDk exM2 [false, true] = exM3 from rfl, ex_r3] at C5
  clear h4 C4
  go_wp2_with fail
  refine C5.out.mono ?_
  rintro e w5 ⟨h5, hb5, va, rfl, hoa⟩
  have C6 := hid (D.readK h5 ho 1 (by decide))
  rw [ex_r1] at C6
  clear h5 C5
  go_wp2_with fail
  refine C6.out.mono ?_
  rintro e w6 ⟨h6, hb6, vb, rfl, hob⟩
  obtain ⟨ga, ca, rfl, -, hca, hfa⟩ := own1_cells (hoa.below hb6) (by decide)
  obtain ⟨gb, cb, rfl, -, hcb, hfb⟩ := own1_cells hob (by decide)
  have xa := hca 0 (.int .u8 7) rfl
  have xb := hcb 0 (.int .u8 0) rfl
  have C7 := hid (D.pendK h6 ho)
  rw [ex_pend] at C7
  clear h6 hoa hob hca hcb hfa hfb C6 hb5 hb6
  go_wp2_with fail
  refine C7.out.mono ?_
  rintro e w7 ⟨h7, hb7, vp, rfl, hop⟩
  obtain ⟨ap, cp, rfl⟩ := own1_form hop
  have HB := hid h7.bl
  clear h7 hb7 hop C7
  go_wp2_with fail
  go_ret
  exact ⟨rfl, HB.out⟩
end Go.Proofs.Ytgdeiokaicjkdaa
