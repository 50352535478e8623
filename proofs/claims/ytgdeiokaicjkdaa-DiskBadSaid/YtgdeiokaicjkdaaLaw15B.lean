/-
  Layer 15: DiskBad.
-/
import Derived.Test.YtgdeiokaicjkdaaLaw15A
set_option linter.unusedVariables false
set_option linter.unusedSimpArgs false
namespace Go.Pantry
open Go.RowKit
def bdM1 (i : Int) (x : UInt8) : DiskM := (writeDk (newDk 8) i [x]).2
def bdM2 (i : Int) (x : UInt8) : DiskM := (flushDk (bdM1 i x)).2
def bdM3 (i : Int) (x : UInt8) : DiskM := (badDk (bdM2 i x) i true).2
def bdM4 (i : Int) (x y : UInt8) : DiskM := (writeDk (bdM3 i x) i [y]).2
def bdM5 (i : Int) (x y : UInt8) : DiskM := (badDk (bdM4 i x y) i false).2
theorem bd_facts {i : Int} (h0 : 0 ≤ i) (h7 : i ≤ 7) (x y : UInt8) : (writeDk (newDk 8) i [x]).1 = 0 ∧ (flushDk (bdM1 i x)).1 = 0 ∧ (badDk (bdM2 i x) i true).1 = 0 ∧ readDk (bdM3 i x) i = (41, []) ∧ readDk (bdM3 i x) ((i + 1) % 8) = (0, blankS) ∧ (writeDk (bdM3 i x) i [y]).1 = 0 ∧ readDk (bdM4 i x y) i = (41, []) ∧ (badDk (bdM4 i x y) i false).1 = 0 ∧ readDk (bdM5 i x y) i = (0, y :: List.replicate 63 0) := by
  have h : i = 0 ∨ i = 1 ∨ i = 2 ∨ i = 3 ∨ i = 4 ∨ i = 5 ∨ i = 6 ∨ i = 7 := by omega
  rcases h with rfl | rfl | rfl | rfl | rfl | rfl | rfl | rfl <;> exact ⟨by kernel_rfl, by kernel_rfl, by kernel_rfl, by kernel_rfl, by kernel_rfl, by kernel_rfl, by kernel_rfl, by kernel_rfl, by kernel_rfl⟩
end Go.Pantry
namespace Go.Proofs.Ytgdeiokaicjkdaa
open Go.RowKit Go.Pantry
set_option maxRecDepth 8000 in
set_option maxHeartbeats 4000000 in
theorem diskBad_over {Ok : World → Prop} {R : Rp} (D : Disks Ok R) (i : Int) (x y : UInt8) (w : World) (ho : Ok w) (hi : In15 i) :
    Calls Try.prog 8 #[.int .i64 i, byteV x, byteV y] w fun e w' => e = .returned (.bool true) ∧ Below w.heap.size w w' := by
  have C0 := hid (anchor15_any D w ho)
  by_cases h0 : 0 ≤ i
  case neg =>
    have hlt : i < 0 := by omega
    clear h0
    go_enter Try.func8, Try.ntmps8
    go_wp2_with fail
    refine C0.out.mono ?_
    rintro e w0 ⟨rfl, hb0⟩
    have HB := hid hb0
    clear C0 hb0
    go_wp2_with fail
    go_ret
    exact ⟨rfl, HB.out⟩
  by_cases h7 : i ≤ 7
  case neg =>
    have hgt : 7 < i := by omega
    have hnl : ¬ i < 0 := by omega
    clear h7
    go_enter Try.func8, Try.ntmps8
    go_wp2_with fail
    refine C0.out.mono ?_
    rintro e w0 ⟨rfl, hb0⟩
    have HB := hid hb0
    clear C0 hb0
    go_wp2_with fail
    go_ret
    exact ⟨rfl, HB.out⟩
  obtain ⟨e1, e2, e3, e4, e5, e6, e7, e8, e9⟩ := bd_facts h0 h7 x y
  have HE := hid (And.intro e1 (And.intro e2 (And.intro e3 (And.intro e4 (And.intro e5 (And.intro e6 (And.intro e7 (And.intro e8 e9))))))))
  have hwk : IntKind.i64.wrap (i + 1) = i + 1 := IntWalk.i64_in _ (by omega)
  have hnl : ¬ i < 0 := by omega
  have hng : ¬ 7 < i := by omega
  have hr8 : In15 ((i + 1) % 8) := ⟨by omega, by omega⟩
  clear e1 e2 e3 e4 e5 e6 e7 e8 e9
  go_enter Try.func8, Try.ntmps8
  go_wp2_with fail
  refine C0.out.mono ?_
  rintro e w0 ⟨rfl, hb0⟩
  have C1 := hid (D.newK 8 hb0 ho (by decide) (by decide))
  clear C0 hb0
  go_wp2_with fail
  refine C1.out.mono ?_
  rintro e w1 ⟨hb1, g, F1, rfl, h1, hF1⟩
  have hl1 := D.lt h1.rep
  obtain ⟨W1, hW1⟩ : ∃ W, w1.alloc (.cells #[byteV x] 5) = W := ⟨_, rfl⟩
  have a1 : Dk R w W1 g F1 (newDk 8) := h1.then D (by rw [← hW1]; exact below_alloc _ _)
  have b1 : Bytes W1 (.slice (some ⟨w1.heap.size, 0, none⟩) 1 1) [x] := by rw [← hW1]; exact bytes_out w1 [x] _ rfl _ _ rfl
  have C2 := hid (D.writeK a1 ho i _ [x] hi b1 (fun _ k hk hf => by cases hk; exact Nat.lt_irrefl _ (hl1 _ hf)))
  rw [HE.out.1] at C2
  clear h1 hl1 a1 b1 C1
  go_wp2_with fail
  try rw [hW1]
  clear hW1
  refine C2.out.mono ?_
  rintro e w2 ⟨rfl, F2, h2, -, -⟩
  have C3 := hid (D.flushK h2 ho)
  rw [show (writeDk (newDk 8) i [x]).2 = bdM1 i x from rfl, HE.out.2.1] at C3
  clear h2 C2
  go_wp2_with fail
  refine C3.out.mono ?_
  rintro e w3 ⟨rfl, F3, h3, -, -⟩
  have C4 := hid (D.badK h3 ho i true hi)
  rw [show (flushDk (bdM1 i x)).2 = bdM2 i x from rfl, HE.out.2.2.1] at C4
  clear h3 C3
  go_wp2_with fail
  refine C4.out.mono ?_
  rintro e w4 ⟨rfl, F4, h4, -, -⟩
  have C5 := hid (D.readK h4 ho i hi)
  rw [show (badDk (bdM2 i x) i true).2 = bdM3 i x from rfl, HE.out.2.2.2.1] at C5
  clear h4 C4
  go_wp2_with fail
  refine C5.out.mono ?_
  rintro e w5 ⟨h5, hb5, v5, rfl, ho5⟩
  have C6 := hid (D.readK h5 ho ((i + 1) % 8) hr8)
  rw [HE.out.2.2.2.2.1] at C6
  clear h5 hb5 ho5 C5
  go_wp2_with fail
  refine C6.out.mono ?_
  rintro e w6 ⟨h6, hb6, v6, rfl, ho6⟩
  have hl6 := D.lt h6.rep
  obtain ⟨W6, hW6⟩ : ∃ W, w6.alloc (.cells #[byteV y] 5) = W := ⟨_, rfl⟩
  have a6 : Dk R w W6 g F4 (bdM3 i x) := h6.then D (by rw [← hW6]; exact below_alloc _ _)
  have b6 : Bytes W6 (.slice (some ⟨w6.heap.size, 0, none⟩) 1 1) [y] := by rw [← hW6]; exact bytes_out w6 [y] _ rfl _ _ rfl
  have C7 := hid (D.writeK a6 ho i _ [y] hi b6 (fun _ k hk hf => by cases hk; exact Nat.lt_irrefl _ (hl6 _ hf)))
  rw [HE.out.2.2.2.2.2.1] at C7
  clear h6 hb6 ho6 hl6 a6 b6 C6
  go_wp2_with fail
  try rw [hW6]
  clear hW6
  refine C7.out.mono ?_
  rintro e w7 ⟨rfl, F7, h7', -, -⟩
  have C8 := hid (D.readK h7' ho i hi)
  rw [show (writeDk (bdM3 i x) i [y]).2 = bdM4 i x y from rfl, HE.out.2.2.2.2.2.2.1] at C8
  clear h7' C7
  go_wp2_with fail
  refine C8.out.mono ?_
  rintro e w8 ⟨h8, hb8, v8, rfl, ho8⟩
  have C9 := hid (D.badK h8 ho i false hi)
  rw [HE.out.2.2.2.2.2.2.2.1] at C9
  clear h8 hb8 ho8 C8
  go_wp2_with fail
  refine C9.out.mono ?_
  rintro e w9 ⟨rfl, F9, h9, -, -⟩
  have C10 := hid (D.readK h9 ho i hi)
  rw [show (badDk (bdM4 i x y) i false).2 = bdM5 i x y from rfl, HE.out.2.2.2.2.2.2.2.2] at C10
  clear h9 C9
  go_wp2_with fail
  refine C10.out.mono ?_
  rintro e w10 ⟨h10, hb10, v10, rfl, ho10⟩
  obtain ⟨gb, cb, rfl, -, hcb, -⟩ := own1_cells ho10 (by simp)
  have xb := hcb 0 (byteV y) rfl
  have HB := hid h10.bl
  clear h10 hb10 ho10 hcb C10
  simp only [List.length_cons, List.length_replicate]
  go_wp2_with fail
  go_ret
  exact ⟨rfl, HB.out⟩
end Go.Proofs.Ytgdeiokaicjkdaa
