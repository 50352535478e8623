/-
  Guarded operations whose guard is open: 'a || b' that is known to be true, without parting the walk. No program is imported.
-/
import Derived.Test.YtofkiihajhkmdaaDoorBase
namespace Go.Pantry
open Go.RowKit
theorem wpList_maybe {P : Program} {ops : Array Oper} {Q : Exit → Act → World → Prop} {a : Act} {w : World} {rest : List Oper} {o : Oper} (g : Bool) (v : Value) (hw : Region.wanted o (yielded ops a.tmps) = g)
    (hy : g = true → (execOp a.eval o).run P w = .ok (.value v) w) (h : ∀ u, (g = true → u = v) → wpList P ops Q rest (a.put o.dst u) w) : wpList P ops Q (o :: rest) a w := by
  cases g
  · exact wpList_skip hw (h undef (by simp))
  · refine wpList_step fun K hK => ?_
    simp only [hw, if_true]
    unfold Oper.wp
    rw [hy rfl, Oper.upon_value]
    exact hK _ _ (h v (fun _ => rfl))
/-- '!x || y', of which it is known that it is true: the address of y, y, and the sum. -/
theorem wpList_or3 {P : Program} {ops : Array Oper} {Q : Exit → Act → World → Prop} {a : Act} {w : World} {rest : List Oper} {o1 o2 o3 : Oper} (d1 d2 d3 j : Nat) (e1 : o1.dst = some d1) (e2 : o2.dst = some d2) (e3 : o3.dst = some d3)
    (q1 : o1.guard = some (j, false)) (q2 : o2.guard = some (j, false)) (x y : Bool) (hxy : (!x || y) = true) (p : Value)
    (h1 : yielded ops a.tmps j = some (!x)) (h2 : ∀ u1, yielded ops (a.put (some d1) u1).tmps j = some (!x)) (h3 : ∀ u1 u2, Region.wanted o3 (yielded ops ((a.put (some d1) u1).put (some d2) u2).tmps) = true)
    (y1 : (execOp a.eval o1).run P w = .ok (.value p) w) (y2 : (execOp (a.put (some d1) p).eval o2).run P w = .ok (.value (.bool y)) w)
    (y3 : ∀ u1 u2, (x = true → u2 = .bool y) → (execOp ((a.put (some d1) u1).put (some d2) u2).eval o3).run P w = .ok (.value (.bool true)) w)
    (h : ∀ u1 u2, wpList P ops Q rest (((a.put (some d1) u1).put (some d2) u2).put (some d3) (.bool true)) w) : wpList P ops Q (o1 :: o2 :: o3 :: rest) a w := by
  have hg : (some (!x) == some false) = x := by cases x <;> rfl
  refine wpList_maybe x p (by unfold Region.wanted; rw [q1]; show (yielded ops a.tmps j == some false) = x; rw [h1, hg]) (fun _ => y1) (fun u1 hu1 => ?_)
  rw [e1]
  refine wpList_maybe x (.bool y) (by unfold Region.wanted; rw [q2]; show (yielded ops (a.put (some d1) u1).tmps j == some false) = x; rw [h2, hg]) (fun hx => by rw [hu1 hx]; exact y2) (fun u2 hu2 => ?_)
  rw [e2]
  refine wpList_step fun K hK => ?_
  simp only [h3, if_true]
  unfold Oper.wp
  rw [y3 u1 u2 hu2, Oper.upon_value, e3]
  exact hK _ _ (h u1 u2)
end Go.Pantry
