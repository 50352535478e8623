/-
  The walk of FreshBounds.
-/
import Derived.Test.YtejdlplgkmelkaaGreatDoorF12Law12C
set_option linter.unusedVariables false
set_option linter.unusedSimpArgs false

namespace Go.Proofs.YtejdlplgkmelkaaGreatDoor
open Go.RowKit Go.Pantry

set_option maxRecDepth 8000 in
set_option maxHeartbeats 4000000 in
theorem freshBounds_over {Ok : World → Prop} (K : Freshs Ok) (n : Int) (cv : Value) (came : List Fld) (z : Int) (w : World) (ok : Ok w) (hcame : Reads2 w cv came ∧ came.length ≤ maxLen) (hn : InI n) (hz : InI z) :
    Calls Tryz.prog 9 #[.int .i64 n, cv, .int .i64 z] w fun e w' => e = .returned (.bool true) ∧ Below w.heap.size w w' := by
  have cA := hid (anchor_any K w ok)
  have cS := hid (fun (w' : World) (h : Below w.heap.size w w') => smallK_any cv came w' (hcame.1.below h) (by have := hcame.2; unfold maxLen at this; omega))
  have HR := hid hcame.1
  have OK := hid ok
  clear hcame ok
  go_enter Tryz.func9, Tryz.ntmps9
  go_wp2_with fail
  refine cA.out.mono ?_
  rintro e w1 ⟨rfl, hb1⟩
  have HB1 := hid hb1
  clear hb1 cA
  go_wp2_with fail
  refine (cS.out _ HB1.out).mono ?_
  rintro e w2 ⟨rfl, hb2⟩
  have HB2 := hid (chain2 HB1.out HB1.out.size hb2)
  clear hb2 HB1 cS
  cases hs : smallK came with
  | false =>
    go_wp2_with fail
    go_ret
    exact ⟨rfl, HB2.out⟩
  | true =>
  have SC := hid (smallK_ok hs)
  clear hs
  by_cases n0 : n < 0
  · have d : decide (n < 0) = true := decide_eq_true n0
    go_wp2_with fail
    go_ret
    exact ⟨rfl, HB2.out⟩
  have dn0 : decide (n < 0) = false := decide_eq_false n0
  by_cases n1 : 2147483648 < n
  · have d : decide (2147483648 < n) = true := decide_eq_true n1
    go_wp2_with fail
    go_ret
    exact ⟨rfl, HB2.out⟩
  have dn1 : decide (2147483648 < n) = false := decide_eq_false n1
  by_cases z0 : z < 0
  · have d : decide (z < 0) = true := decide_eq_true z0
    go_wp2_with fail
    go_ret
    exact ⟨rfl, HB2.out⟩
  have dz0 : decide (z < 0) = false := decide_eq_false z0
  by_cases z1 : 68719476736 < z
  · have d : decide (68719476736 < z) = true := decide_eq_true z1
    go_wp2_with fail
    go_ret
    exact ⟨rfl, HB2.out⟩
  have dz1 : decide (68719476736 < z) = false := decide_eq_false z1
  have hT := isT_of (t := z) (by omega) (by omega)
  have e1 := lifeF_same (n := n) came hT
  have e2 := lifeF_bd (lo := n) (hi := 2147483648) came (by omega) hT
  have e3 := lifeF_bd (lo := 0) (hi := n) came (by omega) hT
  have c1 := fun (W : World) (h : Below w.heap.size w W) => K.life none 0 0 ⟨[], 0, n, n, false, false, []⟩ cv came z W (K.keep _ _ OK.out h) (HR.out.below h) SC.out ⟨⟨by show 0 ≤ n; omega, by show n ≤ 2147483648; omega⟩, ⟨by show 0 ≤ n; omega, by show n ≤ 2147483648; omega⟩⟩ hz
  have c2 := fun (W : World) (h : Below w.heap.size w W) => K.life none 0 0 ⟨[], 0, n, 2147483648, false, false, []⟩ cv came z W (K.keep _ _ OK.out h) (HR.out.below h) SC.out ⟨⟨by show 0 ≤ n; omega, by show n ≤ 2147483648; omega⟩, ⟨by show (0 : Int) ≤ 2147483648; omega, by show (2147483648 : Int) ≤ 2147483648; omega⟩⟩ hz
  have c3 := fun (W : World) (h : Below w.heap.size w W) => K.life none 0 0 ⟨[], 0, 0, n, false, false, []⟩ cv came z W (K.keep _ _ OK.out h) (HR.out.below h) SC.out ⟨⟨by show (0 : Int) ≤ 0; omega, by show (0 : Int) ≤ 2147483648; omega⟩, ⟨by show 0 ≤ n; omega, by show n ≤ 2147483648; omega⟩⟩ hz
  simp only [e1] at c1
  simp only at c2 c3
  generalize lifeF n 2147483648 came z = L2 at c2 e2
  generalize lifeF 0 n came z = L3 at c3 e3
  have C1 := hid c1
  have C2 := hid c2
  have C3 := hid c3
  have q1 : (n == n) = true := by simp
  have q2 : decide (n ≤ L2) = true := decide_eq_true e2.1
  have q3 : decide (L3 ≤ n) = true := decide_eq_true e3.2
  clear c1 c2 c3 e1 e2 e3 hT n0 n1 z0 z1
  go_wp2_with fail
  refine (C1.out _ HB2.out).mono ?_
  rintro e w3 ⟨rfl, hb3⟩
  have HB3 := hid (chain2 HB2.out HB2.out.size hb3)
  clear hb3
  go_wp2_with fail
  refine (C2.out _ HB3.out).mono ?_
  rintro e w4 ⟨rfl, hb4⟩
  have HB4 := hid (chain2 HB3.out HB3.out.size hb4)
  clear hb4
  go_wp2_with fail
  refine (C3.out _ HB4.out).mono ?_
  rintro e w5 ⟨rfl, hb5⟩
  have HB5 := hid (chain2 HB4.out HB4.out.size hb5)
  clear hb5
  go_wp2_with fail
  go_ret
  exact ⟨rfl, HB5.out⟩
end Go.Proofs.YtejdlplgkmelkaaGreatDoor
