/-
  Contract of package body: chunk.
-/
import Derived.Test.YtefplhkjcclppaaDoorBodyB
namespace Go.Proofs.YtefplhkjcclppaaDoor
open Go.RowKit Go.Pantry

/-- what 'chunk' leaves -/
def ChunkPost (g lack : Nat) (x : Except Nat (List UInt8 × List UInt8)) (w0 w : World) (e : Ending) (w' : World) : Prop :=
  w.grownBy w' (some g) ∧ match x with
  | .error k => ∃ v, e = .returned (.tuple #[v, .int .i64 (k : Int)])
  | .ok (c, t) => ∃ v v', e = .returned (.tuple #[v, .int .i64 0]) ∧ Bytes w0 v c ∧ Bytes w0 v' t ∧ rowIs w' g #[v', .int .i64 (lack : Int)] 61
theorem below_grow {w0 w w' : World} {g : Nat} (hb : Below w0.heap.size w0 w) (hg : w.grownBy w' (some g)) (h0 : w0.heap.size ≤ g) : Below w0.heap.size w0 w' := hb.trans (grown_below hg h0 hb.size)
set_option maxRecDepth 100000 in
set_option maxHeartbeats 8000000 in
theorem chunk_any (g lack most : Nat) (v : Value) (l : List UInt8) (w0 w : World) (hlk : lack ≠ 0) (h0 : w0.heap.size ≤ g) (hb : Below w0.heap.size w0 w) (hg : rowIs w g #[v, .int .i64 (lack : Int)] 61) (hr : Bytes w0 v l) (hl : l.length ≤ 1000000) :
    Calls Tryd.prog 25 #[.pointer (some ⟨g, 0, none⟩), .int .i64 (most : Int)] w fun e w' => ChunkPost g lack (chunkL lack most l) w0 w e w' := by
  have c1 := number_any g lack v l w0 w hb hg hr hl
  have c2 := fun W v' L h1 h2 h3 h4 => line_any g lack v' L w0 W hlk h1 h2 h3 h4
  have hx : chunkL lack most l = if numE l ≠ 0 then .error 21 else if lineE lack (l.drop (hexRun 8 0 l).2) ≠ 0 then .error (lineE lack (l.drop (hexRun 8 0 l).2)) else if most < (hexRun 8 0 l).1 then .error 23
    else if (l.drop ((hexRun 8 0 l).2 + 2)).length < (hexRun 8 0 l).1 then .error lack else if lineE lack ((l.drop ((hexRun 8 0 l).2 + 2)).drop (hexRun 8 0 l).1) ≠ 0 then .error (lineE lack ((l.drop ((hexRun 8 0 l).2 + 2)).drop (hexRun 8 0 l).1))
    else .ok ((l.drop ((hexRun 8 0 l).2 + 2)).take (hexRun 8 0 l).1, (l.drop ((hexRun 8 0 l).2 + 2)).drop ((hexRun 8 0 l).1 + 2)) := rfl
  unfold NumPost at c1
  rw [← List.drop_drop] at hx
  obtain ⟨N, hN⟩ : ∃ N, (hexRun 8 0 l).1 = N := ⟨_, rfl⟩
  obtain ⟨D, hD⟩ : ∃ D, (hexRun 8 0 l).2 = D := ⟨_, rfl⟩
  rw [hN, hD] at hx c1
  generalize chunkL lack most l = x at hx ⊢
  have hd1 : (l.drop D).length ≤ 1000000 := by rw [List.length_drop]; omega
  generalize l.drop D = L1 at hx c1 hd1
  have hd2 : (L1.drop 2).length ≤ 1000000 := by rw [List.length_drop]; omega
  have C1 := hid c1
  have C2 := hid c2
  have HX := hid hx
  have HB := hid hb
  have H1 := hid hd1
  have H2 := hid hd2
  clear c1 c2 hx hr hg hb hN hD hd1 hd2 hl
  go_enter Tryd.func25, Tryd.ntmps25
  go_wp2_with fail
  refine C1.out.mono ?_
  rintro e w1 (⟨hn, rfl, rfl⟩ | ⟨hn, v1, rfl, hv1, hg1, hgr1⟩)
  · have hx := HX.out
    rw [hn, if_pos (by decide)] at hx
    subst hx
    clear hn HX
    go_wp2_with fail
    go_ret2
    exact ⟨grown_refl _ _, _, rfl⟩
  · have hx := HX.out
    rw [hn, if_neg (by simp)] at hx
    have HX2 := hid hx
    have hb1 := below_grow HB.out hgr1 h0
    clear hn HX hx
    go_wp2_with fail
    refine (C2.out _ _ _ hb1 hg1 hv1 H1.out).mono ?_
    rintro e w2 ⟨rfl, hgr2, hok⟩
    have hgr := grown_trans hgr1 hgr2
    have hb2 := below_grow hb1 hgr2 h0
    have HGR := hid hgr
    have HB2 := hid hb2
    obtain ⟨k1, hk1⟩ : ∃ k, lineE lack L1 = k := ⟨_, rfl⟩
    have hx := HX2.out
    rw [hk1] at hx hok
    rw [hk1]
    by_cases hk : k1 = 0
    · subst hk
      obtain ⟨v2, hv2, hg2⟩ := hok rfl
      rw [if_neg (by simp)] at hx
      generalize L1.drop 2 = L2 at hx hv2 H2
      have HX3 := hid hx
      clear hx HX2 hgr hgr1 hgr2 hb1 hb2 hok hk1 hg1 hv1
      by_cases hm : (most : Int) < (N : Int)
      · have hx := HX3.out
        rw [if_pos (by omega)] at hx
        subst hx
        clear HX3 hv2 hg2
        go_wp2_with fail
        go_ret2
        exact ⟨HGR.out, _, rfl⟩
      · have hx := HX3.out
        rw [if_neg (by omega)] at hx
        have HX4 := hid hx
        obtain ⟨ao2, cap2, rfl, hc2⟩ := bytes_form hv2
        have g0 := hg2.cell 0
        have g1 := hg2.cell 1
        have f0 := hg2.free 0
        clear hx HX3
        by_cases hln : (L2.length : Int) < (N : Int)
        · have hx := HX4.out
          rw [if_pos (by omega)] at hx
          subst hx
          clear HX4
          go_wp2_with fail
          go_quiet (fail)
          go_wp2
          go_ret2
          exact ⟨grown_trans HGR.out (grown_drewN _ _ _), _, rfl⟩
        · have hx := HX4.out
          rw [if_neg (by omega)] at hx
          have hNl : N ≤ L2.length := by omega
          obtain ⟨aoc, cc, hhigh, hvc⟩ := bytes_high (P := Tryd.prog) 41 (by kernel_rfl) (fun _ => by kernel_rfl) hv2 N hNl
          obtain ⟨aot, ct, htail, hv3⟩ := bytes_low (P := Tryd.prog) 41 (by kernel_rfl) (fun _ => by kernel_rfl) hv2 N hNl
          have hd3 : (L2.drop N).length ≤ 1000000 := by have := H2.out; rw [List.length_drop]; omega
          rw [← List.drop_drop] at hx
          generalize L2.drop N = L3 at hx hv3 hd3
          generalize L2.take N = L4 at hx hvc
          have HX5 := hid hx
          have HC := hid hvc
          have HV3 := hid hv3
          have HH := hid hhigh
          have HT := hid htail
          have HG2 := hid hg2
          have HD3 := hid hd3
          clear hx HX4 hvc hv3 hhigh htail hv2 hg2 hd3
          obtain ⟨W3, hW3⟩ : ∃ W, W = w2.setCell ⟨g, 0, none⟩ (.slice aot (L2.length - N) ct) := ⟨_, rfl⟩
          have hg3 : rowIs W3 g #[.slice aot (L2.length - N) ct, .int .i64 (lack : Int)] 61 := by rw [hW3]; exact HG2.out.setCell 0 _
          have hgr3 := grown_set HGR.out 0 (.slice aot (L2.length - N) ct)
          rw [← hW3] at hgr3
          have hb3 := below_grow HB.out hgr3 h0
          have HG3 := hid hg3
          have HGR3 := hid hgr3
          have HB3 := hid hb3
          clear hg3 hgr3 hb3 HGR HB2
          go_wp2_with (first | (refine wpList_slice_high rfl 41 _ _ rfl rfl rfl (by kernel_rfl) (HH.out _) ?_) | (refine wpList_slice_low rfl 41 _ _ rfl rfl rfl (by kernel_rfl) (HT.out _) ?_))
          rw [← hW3]
          clear hW3
          refine (C2.out _ _ _ HB3.out HG3.out HV3.out HD3.out).mono ?_
          rintro e w4 ⟨rfl, hgr4, hok⟩
          have hgr5 := grown_trans HGR3.out hgr4
          go_wp2_with fail
          go_ret2
          refine ⟨hgr5, ?_⟩
          rw [HX5.out]
          by_cases hk2 : lineE lack L3 = 0
          · rw [hk2, if_neg (by simp)]
            obtain ⟨v5, hv5, hg5⟩ := hok hk2
            exact ⟨_, _, rfl, HC.out, hv5, hg5⟩
          · rw [if_pos hk2]
            exact ⟨_, rfl⟩
    · rw [if_pos hk] at hx
      subst hx
      have hk2 : ((k1 : Nat) : Int) ≠ 0 := by omega
      have hk3 : (((k1 : Nat) : Int) == 0) = false := by simpa using hk
      have hk4 : (((k1 : Nat) : Int) != 0) = true := by simpa using hk
      clear HX2 hgr hgr1 hgr2 hb1 hb2 hok hk1 hg1 hv1 hk
      go_wp2_with fail
      go_ret2
      exact ⟨HGR.out, _, rfl⟩
end Go.Proofs.YtefplhkjcclppaaDoor
