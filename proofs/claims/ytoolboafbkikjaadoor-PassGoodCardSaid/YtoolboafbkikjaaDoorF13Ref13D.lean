/-
  The document's answers of layer 13: strong, Drops.
-/
import Derived.Test.YtoolboafbkikjaaDoorF1303
import Derived.Test.YtoolboafbkikjaaDoorF1304
set_option linter.unusedVariables false
set_option linter.unusedSimpArgs false

namespace Go.Proofs.YtoolboafbkikjaaDoor
open Go.RowKit Go.Pantry

set_option maxHeartbeats 4000000 in
theorem r13strong_any (l : List UInt8) (w : World) (hl : l.length ≤ 1000000000) :
    Calls Tryd.prog 53 #[strV l] w fun e w' => e = .returned (strV (strongL l)) ∧ Below w.heap.size w w' := by
  have hz : ((⟨l.toArray⟩ : ByteArray).size : Int) = (l.length : Int) := by rw [szL]
  by_cases h : 2 ≤ l.length
  · have hd : decide ((2 : Int) ≤ (l.length : Int)) = true := decide_eq_true (by omega)
    have hx : (⟨l.toArray⟩ : ByteArray).extract 0 2 = ⟨(l.take 2).toArray⟩ := by
      apply bytes_ext
      rw [Lib.extract_eq]; simp
    have hx2 : (⟨l.toArray⟩ : ByteArray).extract 2 l.length = ⟨(l.drop 2).toArray⟩ := by
      apply bytes_ext
      rw [Lib.extract_eq]; simp
      exact List.take_of_length_le (by simp)
    have hs : strongL l = if (l.take 2 == [87, 47]) then l.drop 2 else l := by unfold strongL; simp
    obtain ⟨q, hq⟩ : ∃ q, (l.take 2 == [87, 47]) = q := ⟨_, rfl⟩
    rw [hq] at hs
    rw [hs]
    generalize l.drop 2 = D at hx2 ⊢
    cases q
    · go_enter Tryd.func53, Tryd.ntmps53
      go_wp2_with fail
      go_ret
      exact ⟨rfl, Below.refl _ _⟩
    · go_enter Tryd.func53, Tryd.ntmps53
      go_wp2_with fail
      go_ret
      exact ⟨rfl, Below.refl _ _⟩
  · have hd : decide ((2 : Int) ≤ (l.length : Int)) = false := decide_eq_false (by omega)
    have hs : strongL l = l := by
      unfold strongL
      rw [if_neg]
      intro e
      have := congrArg List.length e
      rw [List.length_take] at this
      simp at this
      omega
    rw [hs]
    go_enter Tryd.func53, Tryd.ntmps53
    go_wp2_with fail
    go_ret
    exact ⟨rfl, Below.refl _ _⟩
set_option maxHeartbeats 4000000 in
theorem r13Drops_any (m : List UInt8) (st : Int) (w : World) :
    Calls Tryd.prog 29 #[strV m, .int .i64 st] w fun e w' => e = .returned (.bool (dropsF m st)) ∧ Below w.heap.size w w' := by
  have hd : dropsF m st = (!((m == [71, 69, 84]) || ((m == [72, 69, 65, 68]) || ((m == [79, 80, 84, 73, 79, 78, 83]) || (m == [84, 82, 65, 67, 69])))) && (decide (200 ≤ st) && decide (st < 400))) := by
    unfold dropsF
    simp only [List.contains_cons, List.contains_nil, Bool.or_false]
  rw [hd]
  clear hd
  obtain ⟨a, ha⟩ : ∃ a, (m == [71, 69, 84]) = a := ⟨_, rfl⟩
  obtain ⟨b, hb⟩ : ∃ b, (m == [72, 69, 65, 68]) = b := ⟨_, rfl⟩
  obtain ⟨c, hc⟩ : ∃ c, (m == [79, 80, 84, 73, 79, 78, 83]) = c := ⟨_, rfl⟩
  obtain ⟨d, hd⟩ : ∃ d, (m == [84, 82, 65, 67, 69]) = d := ⟨_, rfl⟩
  obtain ⟨p, hp⟩ : ∃ p, decide (200 ≤ st) = p := ⟨_, rfl⟩
  obtain ⟨q, hq⟩ : ∃ q, decide (st < 400) = q := ⟨_, rfl⟩
  rw [ha, hb, hc, hd, hp, hq]
  cases a
  · cases b
    · cases c
      · cases d
        · cases p
          · go_enter Tryd.func29, Tryd.ntmps29
            go_wp2_with fail
            go_ret
            exact ⟨rfl, Below.refl _ _⟩
          · go_enter Tryd.func29, Tryd.ntmps29
            go_wp2_with fail
            go_ret
            exact ⟨rfl, Below.refl _ _⟩
        · go_enter Tryd.func29, Tryd.ntmps29
          go_wp2_with fail
          go_ret
          exact ⟨rfl, Below.refl _ _⟩
      · go_enter Tryd.func29, Tryd.ntmps29
        go_wp2_with fail
        go_ret
        exact ⟨rfl, Below.refl _ _⟩
    · go_enter Tryd.func29, Tryd.ntmps29
      go_wp2_with fail
      go_ret
      exact ⟨rfl, Below.refl _ _⟩
  · go_enter Tryd.func29, Tryd.ntmps29
    go_wp2_with fail
    go_ret
    exact ⟨rfl, Below.refl _ _⟩
end Go.Proofs.YtoolboafbkikjaaDoor
