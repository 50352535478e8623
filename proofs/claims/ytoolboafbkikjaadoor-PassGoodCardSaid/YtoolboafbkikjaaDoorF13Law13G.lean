/-
  The walk of PassGood.
-/
import Derived.Test.YtoolboafbkikjaaDoorF1305
import Derived.Test.YtoolboafbkikjaaDoorF13Ref13E
set_option linter.unusedVariables false
set_option linter.unusedSimpArgs false

namespace Go.Proofs.YtoolboafbkikjaaDoor
open Go.RowKit Go.Pantry

set_option maxRecDepth 8000 in
set_option maxHeartbeats 4000000 in
theorem passGood_over {Ok : World → Prop} (K : Passes Ok) (rv : Value) (req : List Fld) (cv : Value) (came : List Fld) (m : List UInt8) (st : Int) (w : World) (ok : Ok w) (hreq : Reads2 w rv req ∧ req.length ≤ maxLen) (hcame : Reads2 w cv came ∧ came.length ≤ maxLen) (hm : m.length ≤ maxLen) (hst : InP st) :
    Calls Tryd.prog 6 #[rv, cv, strV m, .int .i64 st] w fun e w' => e = .returned (.bool true) ∧ Below w.heap.size w w' := by
  unfold maxLen at hm
  have cA := hid (anchor13_any K.toMoves w ok)
  have cSreq := hid (fun (w' : World) (h : Below w.heap.size w w') => smallK_any rv req w' (hreq.1.below h) (by have := hreq.2; unfold maxLen at this; omega))
  have HRreq := hid hreq.1
  have cScame := hid (fun (w' : World) (h : Below w.heap.size w w') => smallK_any cv came w' (hcame.1.below h) (by have := hcame.2; unfold maxLen at this; omega))
  have HRcame := hid hcame.1
  have OK := hid ok
  clear ok hreq hcame
  go_enter Tryd.func6, Tryd.ntmps6
  go_wp2_with fail
  refine cA.out.mono ?_
  rintro e w1 ⟨rfl, hb1⟩
  have HB1 := hid hb1
  clear hb1 cA
  go_wp2_with fail
  refine (cSreq.out _ HB1.out).mono ?_
  rintro e w2 ⟨rfl, hb2⟩
  have HB2 := hid (chain2 HB1.out HB1.out.size hb2)
  clear hb2 HB1 cSreq
  cases hsreq : smallK req with
  | false =>
    go_wp2_with fail
    go_ret
    exact ⟨rfl, HB2.out⟩
  | true =>
  have Sreq := hid (smallK_ok hsreq)
  have Nreq := hid (smallK_len hsreq)
  clear hsreq
  go_wp2_with fail
  refine (cScame.out _ HB2.out).mono ?_
  rintro e w3 ⟨rfl, hb3⟩
  have HB3 := hid (chain2 HB2.out HB2.out.size hb3)
  clear hb3 HB2 cScame
  cases hscame : smallK came with
  | false =>
    go_wp2_with fail
    go_ret
    exact ⟨rfl, HB3.out⟩
  | true =>
  have Scame := hid (smallK_ok hscame)
  have Ncame := hid (smallK_len hscame)
  clear hscame
  have hz : ((⟨m.toArray⟩ : ByteArray).size : Int) = (m.length : Int) := by rw [szL]
  by_cases h30 : (30 : Int) < (m.length : Int)
  · have d30 : decide ((30 : Int) < (m.length : Int)) = true := decide_eq_true h30
    go_wp2_with fail
    go_ret
    exact ⟨rfl, HB3.out⟩
  have d30 : decide ((30 : Int) < (m.length : Int)) = false := decide_eq_false h30
  have c1 := hid (fun (W : World) (h : Below w.heap.size w W) => K.good rv cv req came W (K.keep _ _ OK.out h) (HRreq.out.below h) (HRcame.out.below h) Sreq.out.wide Scame.out)
  have c2 := hid (fun (W : World) (h : Below w.heap.size w W) => Fields_any rv req W (HRreq.out.below h) (by have := Sreq.out.len; omega))
  have c3 := hid (fun (W : World) (h : Below w.heap.size w W) => Fields_any cv came W (HRcame.out.below h) (by have := Scame.out.len; omega))
  have c4 := hid (fun (W : World) (x y : Value) (h1 : Reads2 W x req) (h2 : Reads2 W y came) => r13Good_any x y req came W h1 h2 Sreq.out Scame.out)
  have c5 := hid (fun (W : World) (h : Below w.heap.size w W) => K.drops m st W (K.keep _ _ OK.out h) (by omega) hst)
  have c6 := hid (fun (W : World) => r13Drops_any m st W)
  generalize goodF req came = X at c1 c4
  generalize dropsF m st = Y at c5 c6
  have qx : (X == X) = true := beq_self_eq_true X
  have qy : (Y == Y) = true := beq_self_eq_true Y
  go_wp2_with fail
  refine (c1.out _ HB3.out).mono ?_
  rintro e w4 ⟨rfl, hb⟩
  have HB4 := hid (chain2 HB3.out HB3.out.size hb)
  clear hb HB3
  go_wp2_with fail
  refine (c2.out _ HB4.out).mono ?_
  rintro e w5 ⟨vb, rfl, hob, hb⟩
  have B1 := hid hob.reads2.2
  have HB5 := hid (chain2 HB4.out HB4.out.size hb)
  clear hb hob HB4
  go_wp2_with fail
  refine (c3.out _ HB5.out).mono ?_
  rintro e w6 ⟨vc, rfl, hoc, hb⟩
  have B2 := hid (B1.out.below hb)
  have C2 := hid hoc.reads2.2
  have HB6 := hid (chain2 HB5.out HB5.out.size hb)
  clear hb hoc B1 HB5
  go_wp2_with fail
  refine (c4.out _ _ _ B2.out C2.out).mono ?_
  rintro e w7 ⟨rfl, hb⟩
  have HB7 := hid (chain2 HB6.out HB6.out.size hb)
  clear B2 C2
  clear hb HB6
  go_wp2_with fail
  refine (c5.out _ HB7.out).mono ?_
  rintro e w8 ⟨rfl, hb⟩
  have HB8 := hid (chain2 HB7.out HB7.out.size hb)
  clear hb HB7
  go_wp2_with fail
  refine (c6.out _).mono ?_
  rintro e w9 ⟨rfl, hb⟩
  have HB9 := hid (chain2 HB8.out HB8.out.size hb)
  clear hb HB8
  go_wp2_with fail
  go_ret
  exact ⟨ret_bool (by simp), HB9.out⟩
end Go.Proofs.YtoolboafbkikjaaDoor
