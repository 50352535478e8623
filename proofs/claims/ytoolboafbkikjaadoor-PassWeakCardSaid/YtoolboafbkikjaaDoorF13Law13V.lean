/-
  For the walk of PassVia: what adds up, next, Get.
-/
import Derived.Test.YtoolboafbkikjaaDoorF1305
import Derived.Test.YtoolboafbkikjaaDoorF13Ref13C
import Derived.Test.YtoolboafbkikjaaDoorF1306
set_option linter.unusedVariables false
set_option linter.unusedSimpArgs false

namespace Go.Proofs.YtoolboafbkikjaaDoor
open Go.RowKit Go.Pantry

theorem getF_eq {n m : List UInt8} (h : lowerL n = lowerL m) (l : List Fld) : getF l n = getF l m := by unfold getF; rw [allF_eq h]
theorem via_low : lowerL sViaP = lowerL nViaP := by decide
theorem nextN_len (V : List UInt8) : ∀ k, (nextN k V).length = V.length + 12 * k
  | 0 => by simp [nextN]
  | k + 1 => by
    have ih := nextN_len V k
    show (nextV (nextN k V)).length = _
    unfold nextV
    rw [List.length_append, ih]
    simp [markP]
    omega
theorem wide_onwardN {l : List Fld} (h : SmallF l) {k : Nat} (hk : k ≤ 10) : WideF (onwardN k l) := by
  cases k with
  | zero => exact h.wide
  | succ k =>
    rw [onwardN_form]
    refine (h.wide.strip.out nViaP).snoc (Nat.le_trans (List.length_filter_le _ _) (Nat.le_trans (strip_len l) (Nat.le_trans h.len (by decide)))) (show sViaP.length ≤ 100000 by decide) ?_
    have h1 := nextN_len (viaL l) k
    have h2 := via_len h
    show (nextN k (viaL l)).length ≤ 100000
    omega
theorem _root_.Go.Pantry.WideF.okFs {l : List Fld} (h : WideF l) : okFs l := ⟨h.len, fun f hf => ⟨h.name f hf, h.val f hf⟩⟩
def wasK (l : List Fld) : Nat → List UInt8
  | 0 => getF (stripF l) sViaP
  | k + 1 => nextN k (viaL l)
def okK (l : List Fld) : Nat → Bool
  | 0 => !(allF (stripF l) sViaP).isEmpty
  | _ + 1 => true
def nextF (was : List UInt8) (ok : Bool) : List UInt8 := if ok then nextV was else markP
theorem wasK_succ {l : List Fld} (h1 : (!(allF l sViaP).isEmpty) = !(allF (stripF l) sViaP).isEmpty) (h2 : getF l sViaP = getF (stripF l) sViaP) : ∀ k, wasK l (k + 1) = nextF (wasK l k) (okK l k)
  | 0 => by
    show viaL l = nextF (getF (stripF l) sViaP) (!(allF (stripF l) sViaP).isEmpty)
    rw [← h1, ← h2]
    unfold viaL nextF nextV
    rw [allF_eq via_low, getF_eq via_low]
    cases h : allF l nViaP with
    | nil => rfl
    | cons a r => rfl
  | k + 1 => rfl
theorem wasK_len {l : List Fld} (h : SmallF l) {k : Nat} (hk : k ≤ 10) : (wasK l k).length ≤ 100002000 := by
  cases k with
  | zero => exact h.wide.strip.get _
  | succ k =>
    have h1 := nextN_len (viaL l) k
    have h2 := via_len h
    show (nextN k (viaL l)).length ≤ 100002000
    omega
set_option maxHeartbeats 4000000 in
theorem next13_any (was : List UInt8) (ok : Bool) (w : World) (h : was.length ≤ 500000000) :
    Calls Tryd.prog 31 #[strV was, .bool ok] w fun e w' => e = .returned (strV (nextF was ok)) ∧ Below w.heap.size w w' := by
  cases ok with
  | false =>
    go_enter Tryd.func31, Tryd.ntmps31
    go_wp2_with fail
    go_ret
    exact ⟨rfl, Below.refl _ _⟩
  | true =>
    obtain ⟨X, hX, -, hs1⟩ := sum_lists (P := Tryd.prog) was [44, 32, 49, 46, 49, 32, 112, 97, 110, 116, 114, 121] (by omega) (by decide)
    have hn : nextF was true = X := by rw [hX]; rfl
    rw [hn]
    clear hX hn
    go_enter Tryd.func31, Tryd.ntmps31
    go_wp2_with fail
    go_ret
    exact ⟨rfl, Below.refl _ _⟩
theorem lGetW_any (v : Value) (l : List Fld) (u : List UInt8) (W : World) (h : Reads2 W v l) (hs : WideF l) (hu : u.length ≤ 100000) :
    Calls Tryd.prog 14 #[v, strV u] W fun e w' => e = .returned (.tuple #[strV (getF l u), .bool (!(allF l u).isEmpty)]) ∧ Below W.heap.size W w' := by
  have c := lGet_any v l ⟨u.toArray⟩ W h hs.okFs (by rw [szL]; omega)
  rw [dtL] at c
  exact c
theorem same13_self (v x : Value) (L : List Fld) (w : World) (hr : Reads2 w v L) (hx : Reads2 w x L) (hn : L.length < 1000000) :
    Calls Tryd.prog 16 #[v, x] w fun e w' => e = .returned (.bool true) ∧ Below w.heap.size w w' := by
  have h := same13_any v x L L w hr hx hn
  rw [decide_eq_true rfl] at h
  exact h
end Go.Proofs.YtoolboafbkikjaaDoor
