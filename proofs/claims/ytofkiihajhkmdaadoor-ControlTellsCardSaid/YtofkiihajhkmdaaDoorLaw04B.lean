/-
  The walk of the statement ControlTells.
-/
import Derived.Test.YtofkiihajhkmdaaDoorLaw04A
import Derived.Test.YtofkiihajhkmdaaDoorRefCtlB
import Derived.Test.YtofkiihajhkmdaaDoorRefFieldM
import Derived.Test.YtofkiihajhkmdaaDoorCtlEq
namespace Go.Proofs.YtofkiihajhkmdaaDoor
open Go.RowKit Go.Pantry

theorem made_any (c : Ctl) (w : World) :
    Calls Tryd.prog 11 #[ctlV c] w fun e w' => e = .returned (ctlV c) ∧ Below w.heap.size w w' := by
  go_enter Tryd.func11, Tryd.ntmps11
  go_wp2_with fail
  refine bodyPost_ret (results_row Tryd.results11 _ _ (w.heap.size + 1) _ rfl (rowIs_new_at _ _ _ _ (by simp)) Tryd.underlying27 rfl infoRC) rfl ?_
  exact ⟨rfl, (below_alloc _ _).trans ((below_alloc _ _).mono (by simp))⟩

set_option maxHeartbeats 4000000 in
theorem controlTells_walk (v : Value) (L : List Fld) (w : World) (hl : Reads2 w v L ∧ (∀ f ∈ L, f.1.length ≤ maxLen ∧ f.2.length ≤ maxLen) ∧ L.length ≤ maxLen) :
    Calls Tryd.prog 3 #[v] w fun e w' => e = .returned (.bool true) ∧ Below w.heap.size w w' := by
  obtain ⟨hr, -, hLl⟩ := hl
  unfold maxLen at hLl
  have cs := fun W h => smallC_any v L W h (by omega)
  obtain ⟨q, hq⟩ : ∃ q, smallC L = q := ⟨_, rfl⟩
  rw [hq] at cs
  have CS := hid cs
  have HR := hid hr
  clear cs hr
  cases q
  · clear hq
    go_enter Tryd.func3, Tryd.ntmps3
    go_wp2_with fail
    refine (anchor_any _).mono ?_
    rintro e w1 ⟨rfl, hb⟩
    go_wp2_with fail
    refine (CS.out _ (HR.out.below hb)).mono ?_
    rintro e w2 ⟨rfl, hb2⟩
    go_wp2_with fail
    go_ret
    exact ⟨rfl, chain2 hb hb.size hb2⟩
  · obtain ⟨hk, hl30, hk2⟩ := smallC_ok hq
    have co := fun W h => ctlOf_any v L W h hk
    have cf := fun W h => Fields_any v L W h (by omega)
    have cr := fun W v h => refOf_any v L W h hk.2 hk.1
    generalize ctlF L = c at co cr
    have ge := eql_refCtl c
    have gg := guard_refCtl
    have CO := hid co
    have CF := hid cf
    have CR := hid cr
    clear co cf cr hq hk hk2
    go_enter Tryd.func3, Tryd.ntmps3
    go_wp2_with fail
    refine (anchor_any _).mono ?_
    rintro e w1 ⟨rfl, hb⟩
    go_wp2_with fail
    refine (CS.out _ (HR.out.below hb)).mono ?_
    rintro e w2 ⟨rfl, hb2⟩
    replace hb := chain2 hb hb.size hb2
    clear hb2
    go_wp2_with fail
    refine (CO.out _ (HR.out.below hb)).mono ?_
    rintro e w3 ⟨rfl, hb2⟩
    replace hb := chain2 hb hb.size hb2
    clear hb2
    go_wp2_with fail
    refine (made_any c _).mono ?_
    rintro e w4 ⟨rfl, hb2⟩
    replace hb := chain2 hb hb.size hb2
    clear hb2
    go_wp2_with fail
    refine (CF.out _ (HR.out.below hb)).mono ?_
    rintro e w5 ⟨vx, rfl, hox, hb2⟩
    replace hb := chain2 hb hb.size hb2
    have hrx := hox.reads2.2
    clear hb2 hox
    go_wp2_with fail
    refine (CR.out _ _ hrx).mono ?_
    rintro e w6 ⟨rfl, hb2⟩
    replace hb := chain2 hb hb.size hb2
    clear hb2 hrx
    go_wp2_with fail
    go_ret
    exact ⟨rfl, hb⟩
end Go.Proofs.YtofkiihajhkmdaaDoor
