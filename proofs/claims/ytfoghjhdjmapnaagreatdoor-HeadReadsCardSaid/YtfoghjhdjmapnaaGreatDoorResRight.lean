/-
  Contract of package head: Response.Right.
-/
import Derived.Test.YtfoghjhdjmapnaaGreatDoorHeadH
namespace Go.Proofs.YtfoghjhdjmapnaaGreatDoor
open Go.RowKit Go.Pantry

/-- is a response right? (its Minor as it is) -/
def rightS (st : Int) (r : List UInt8) (z : Int) (L : List Fld) : Bool := formedS st r z && !decide (64 < r.length) && rightFs L
set_option maxHeartbeats 1000000 in
theorem sRight_any (st : Int) (r : List UInt8) (z : Int) (v : Value) (L : List Fld) (w : World) (hs : r.length ≤ 100000) (hr : Reads2 w v L) (hk : okFs L) :
    Calls Tryz.prog 12 #[.agg #[.int .i64 st, strV r, .int .i64 z, v]] w fun e w' => e = .returned (.bool (rightS st r z L)) ∧ Below w.heap.size w w' := by
  obtain ⟨ao, cap, rfl⟩ := hr.form
  have c1 := fun W => sformed_any st r z ao L.length cap W hs
  have c2 := fun W => slong_any st r z ao L.length cap W
  have c3 := fun W h => lRight_any (.slice ao L.length cap) L W h hk
  have hf : rightS st r z L = (formedS st r z && !decide (64 < r.length) && rightFs L) := rfl
  generalize rightS st r z L = R at hf ⊢
  generalize formedS st r z = q1 at c1 hf
  generalize decide (64 < r.length) = q2 at c2 hf
  generalize rightFs L = q3 at c3 hf
  have C1 := hid c1
  have C2 := hid c2
  have C3 := hid c3
  have HR := hid hr
  clear c1 c2 c3 hr hk
  obtain ⟨W, hW⟩ : ∃ W, W = w.alloc (.cells #[.int .i64 st, strV r, .int .i64 z, .slice ao L.length cap] 41) := ⟨_, rfl⟩
  have hbW : Below w.heap.size w W := by rw [hW]; exact below_alloc _ _
  have hroW : rowIs W w.heap.size #[.int .i64 st, strV r, .int .i64 z, .slice ao L.length cap] 41 := by rw [hW]; exact rowIs_new _ _ _
  cases q1
  · obtain rfl : R = false := hf
    go_enter Tryz.func12, Tryz.ntmps12
    go_wp2_with fail
    rw [← hW]
    clear hW
    refine (C1.out _).mono ?_
    rintro e w1 ⟨rfl, hb1⟩
    go_wp2_with fail
    go_ret
    exact ⟨rfl, chain2 hbW hbW.size hb1⟩
  · cases q2
    · obtain rfl : R = q3 := by rw [hf]; simp
      clear hf
      go_enter Tryz.func12, Tryz.ntmps12
      go_wp2_with fail
      rw [← hW]
      clear hW
      refine (C1.out _).mono ?_
      rintro e w1 ⟨rfl, hb1⟩
      have hro1 := hroW.below hb1
      have g0 := hro1.cell 0
      have g1 := hro1.cell 1
      have g2 := hro1.cell 2
      have g3 := hro1.cell 3
      go_wp2_with fail
      refine (C2.out _).mono ?_
      rintro e w2 ⟨rfl, hb2⟩
      have hro2 := hro1.below hb2
      clear g0 g1 g2 g3
      have g3 := hro2.cell 3
      have hbb := chain2 (chain2 hbW hbW.size hb1) (chain2 hbW hbW.size hb1).size hb2
      clear hro1 hro2 hroW hb1 hb2 hbW
      go_wp2_with fail
      refine (C3.out _ (HR.out.below hbb)).mono ?_
      rintro e w3 ⟨rfl, hb3⟩
      go_wp2_with fail
      go_ret
      exact ⟨rfl, chain2 hbb hbb.size hb3⟩
    · obtain rfl : R = false := by rw [hf]; simp
      clear hf
      go_enter Tryz.func12, Tryz.ntmps12
      go_wp2_with fail
      rw [← hW]
      clear hW
      refine (C1.out _).mono ?_
      rintro e w1 ⟨rfl, hb1⟩
      have hro1 := hroW.below hb1
      have g0 := hro1.cell 0
      have g1 := hro1.cell 1
      have g2 := hro1.cell 2
      have g3 := hro1.cell 3
      go_wp2_with fail
      refine (C2.out _).mono ?_
      rintro e w2 ⟨rfl, hb2⟩
      clear g0 g1 g2 g3
      go_wp2_with fail
      go_ret
      exact ⟨rfl, chain2 (chain2 hbW hbW.size hb1) (chain2 hbW hbW.size hb1).size hb2⟩
end Go.Proofs.YtfoghjhdjmapnaaGreatDoor
namespace Go.Proofs.YtfoghjhdjmapnaaGreatDoor
open Go.RowKit Go.Pantry

end Go.Proofs.YtfoghjhdjmapnaaGreatDoor
