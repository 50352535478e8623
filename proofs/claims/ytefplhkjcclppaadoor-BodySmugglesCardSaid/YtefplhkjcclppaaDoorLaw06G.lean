/-
  The walk of the statement BodySmuggles.
-/
import Derived.Test.YtefplhkjcclppaaDoorLaw06H0
import Derived.Test.YtefplhkjcclppaaDoorLaw06H1
import Derived.Test.YtefplhkjcclppaaDoorLaw06H2
import Derived.Test.YtefplhkjcclppaaDoorLaw06H3
import Derived.Test.YtefplhkjcclppaaDoorLaw06H4
namespace Go.Proofs.YtefplhkjcclppaaDoor
open Go.RowKit Go.Pantry

set_option maxRecDepth 100000 in
set_option maxHeartbeats 8000000 in
theorem bodySmuggles_walk (v : Value) (L : List Fld) (a b wh : Int) (w : World) (ht : Tab64 w) (hl : Reads2 w v L ∧ (∀ f ∈ L, f.1.length ≤ maxLen ∧ f.2.length ≤ maxLen) ∧ L.length ≤ maxLen) :
    Calls Tryd.prog 3 #[v, .int .i64 a, .int .i64 b, .int .i64 wh] w fun e w' => e = .returned (.bool true) ∧ Below w.heap.size w w' := by
  obtain ⟨hr, -, hLl⟩ := hl
  obtain ⟨ao, cap, rfl⟩ := hr.form
  unfold maxLen at hLl
  have cs := fun W h => small_any (.slice ao L.length cap) L W h (by omega)
  have CA := hid (anchor_any w ht)
  have HR := hid hr
  obtain ⟨q, hq⟩ : ∃ q, smallG L = q := ⟨_, rfl⟩
  rw [hq] at cs
  have CSM := hid cs
  clear cs
  cases q
  · clear hq hr ht
    go_enter Tryd.func3, Tryd.ntmps3
    go_wp2_with fail
    refine CA.out.mono ?_
    rintro e w1 ⟨rfl, hb1⟩
    go_wp2_with fail
    refine (CSM.out _ (HR.out.below hb1)).mono ?_
    rintro e w2 ⟨rfl, hb2⟩
    have hb3 := chain2 hb1 hb1.size hb2
    clear hb1 hb2
    go_wp2_with fail
    go_ret
    exact ⟨rfl, hb3⟩
  · by_cases hout : a < 0 ∨ 2000 < a ∨ b < 0 ∨ 2000 < b ∨ wh < 0 ∨ 4 < wh
    · have e : (decide (a < 0) = true) ∨ (decide (a < 0) = false ∧ decide ((2000 : Int) < a) = true) ∨ (decide (a < 0) = false ∧ decide ((2000 : Int) < a) = false ∧ decide (b < 0) = true) ∨ (decide (a < 0) = false ∧ decide ((2000 : Int) < a) = false ∧ decide (b < 0) = false ∧ decide ((2000 : Int) < b) = true) ∨ (decide (a < 0) = false ∧ decide ((2000 : Int) < a) = false ∧ decide (b < 0) = false ∧ decide ((2000 : Int) < b) = false ∧ decide (wh < 0) = true) ∨ (decide (a < 0) = false ∧ decide ((2000 : Int) < a) = false ∧ decide (b < 0) = false ∧ decide ((2000 : Int) < b) = false ∧ decide (wh < 0) = false ∧ decide ((4 : Int) < wh) = true) := by
        simp only [decide_eq_true_eq, decide_eq_false_iff_not]
        omega
      clear hout hq hr ht
      rcases e with e0 | ⟨e0, e1⟩ | ⟨e0, e1, e2⟩ | ⟨e0, e1, e2, e3⟩ | ⟨e0, e1, e2, e3, e4⟩ | ⟨e0, e1, e2, e3, e4, e5⟩
      all_goals
        go_enter Tryd.func3, Tryd.ntmps3
        go_wp2_with fail
        refine CA.out.mono ?_
        rintro e w1 ⟨rfl, hb1⟩
        go_wp2_with fail
        refine (CSM.out _ (HR.out.below hb1)).mono ?_
        rintro e w2 ⟨rfl, hb2⟩
        have hb3 := chain2 hb1 hb1.size hb2
        clear hb1 hb2
        go_wp2_with fail
        go_ret
        exact ⟨rfl, hb3⟩
    · have hL30 := (smallG_ok hq).2.1
      obtain ⟨a, rfl⟩ : ∃ n : Nat, a = (n : Int) := ⟨a.toNat, by omega⟩
      obtain ⟨b, rfl⟩ : ∃ n : Nat, b = (n : Int) := ⟨b.toNat, by omega⟩
      have hwh : wh = 0 ∨ wh = 1 ∨ wh = 2 ∨ wh = 3 ∨ wh = 4 := by omega
      rcases hwh with rfl | rfl | rfl | rfl | rfl
      · exact smug0_walk ao cap L a b w ht hr (by omega) hq (by omega) (by omega)
      · exact smug1_walk ao cap L a b w ht hr (by omega) hq (by omega) (by omega)
      · exact smug2_walk ao cap L a b w ht hr (by omega) hq (by omega) (by omega)
      · exact smug3_walk ao cap L a b w ht hr (by omega) hq (by omega) (by omega)
      · exact smug4_walk ao cap L a b w ht hr (by omega) hq (by omega) (by omega)
end Go.Proofs.YtefplhkjcclppaaDoor
