/-
  The walk of the statement ControlSeconds, whatever the numbers.
-/
import Derived.Test.YtofkiihajhkmdaaDoorLaw04E
namespace Go.Proofs.YtofkiihajhkmdaaDoor
open Go.RowKit Go.Pantry

set_option maxRecDepth 8000 in
theorem controlSeconds_walk (za zb zk : Int) (w : World) :
    Calls Tryd.prog 5 #[.int .i64 za, .int .i64 zb, .int .i64 zk] w fun e w' => e = .returned (.bool true) ∧ Below w.heap.size w w' := by
  by_cases hall : 0 ≤ za ∧ za ≤ 2147483648 ∧ 0 ≤ zb ∧ zb ≤ 2147483648 ∧ 0 ≤ zk ∧ zk ≤ 3
  · obtain ⟨a0, a1, b0, b1, k0, k1⟩ := hall
    obtain ⟨a, rfl⟩ : ∃ a : Nat, za = (a : Int) := ⟨za.toNat, by omega⟩
    obtain ⟨b, rfl⟩ : ∃ b : Nat, zb = (b : Int) := ⟨zb.toNat, by omega⟩
    have ha : a ≤ farN := by unfold farN; omega
    have hb : b ≤ farN := by unfold farN; omega
    have hk : zk = 0 ∨ zk = 1 ∨ zk = 2 ∨ zk = 3 := by omega
    rcases hk with rfl | rfl | rfl | rfl
    · exact controlSeconds_0 a b w ha hb
    · exact controlSeconds_1 a b w ha hb
    · exact controlSeconds_2 a b w ha hb
    · exact controlSeconds_3 a b w ha hb
  · have hcase : (decide (za < 0) = true) ∨ (decide (za < 0) = false ∧ decide (2147483648 < za) = true) ∨ (decide (za < 0) = false ∧ decide (2147483648 < za) = false ∧ decide (zb < 0) = true)
        ∨ (decide (za < 0) = false ∧ decide (2147483648 < za) = false ∧ decide (zb < 0) = false ∧ decide (2147483648 < zb) = true)
        ∨ (decide (za < 0) = false ∧ decide (2147483648 < za) = false ∧ decide (zb < 0) = false ∧ decide (2147483648 < zb) = false ∧ decide (zk < 0) = true)
        ∨ (decide (za < 0) = false ∧ decide (2147483648 < za) = false ∧ decide (zb < 0) = false ∧ decide (2147483648 < zb) = false ∧ decide (zk < 0) = false ∧ decide (3 < zk) = true) := by
      simp only [decide_eq_true_eq, decide_eq_false_iff_not]
      omega
    clear hall
    rcases hcase with h1 | ⟨h1, h2⟩ | ⟨h1, h2, h3⟩ | ⟨h1, h2, h3, h4⟩ | ⟨h1, h2, h3, h4, h5⟩ | ⟨h1, h2, h3, h4, h5, h6⟩
    all_goals
      go_enter Tryd.func5, Tryd.ntmps5
      go_wp2_with fail
      refine (anchor_any _).mono ?_
      rintro e w1 ⟨rfl, hb⟩
      go_wp2_with fail
      go_ret
      exact ⟨rfl, hb⟩
end Go.Proofs.YtofkiihajhkmdaaDoor
