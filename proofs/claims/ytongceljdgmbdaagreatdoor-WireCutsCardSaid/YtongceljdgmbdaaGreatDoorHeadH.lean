/-
  Contracts of package head: of a response: long, formed.
-/
import Derived.Test.YtongceljdgmbdaaGreatDoorHeadG
namespace Go.Proofs.YtongceljdgmbdaaGreatDoor
open Go.RowKit Go.Pantry

theorem slong_any (st : Int) (r : List UInt8) (z : Int) (ao : Option Addr) (n cap : Nat) (w : World) :
    Calls Tryz.prog 107 #[resV st r z ao n cap] w fun e w' => e = .returned (.bool (decide (64 < r.length))) ∧ Below w.heap.size w w' := by
  by_cases h1 : (64 : Int) < (r.length : Int)
  · have e : decide (64 < r.length) = true := by simp; omega
    rw [e]
    clear e
    go_enter Tryz.func107, Tryz.ntmps107
    go_wp2
    go_ret
    exact ⟨rfl, below_alloc _ _⟩
  · have e : decide (64 < r.length) = false := by simp; omega
    rw [e]
    have d1 : decide ((64 : Int) < (r.length : Int)) = false := decide_eq_false h1
    clear e h1
    go_enter Tryz.func107, Tryz.ntmps107
    go_wp2
    go_ret
    exact ⟨rfl, below_alloc _ _⟩
def formedS (st : Int) (r : List UInt8) (z : Int) : Bool := (z == 0 || z == 1) && decide (100 ≤ st) && decide (st ≤ 599) && r.all okV && trimL r == r
set_option maxRecDepth 100000 in
set_option maxHeartbeats 4000000 in
theorem sformed_any (st : Int) (r : List UInt8) (z : Int) (ao : Option Addr) (n cap : Nat) (w : World) (hr : r.length ≤ 100000) :
    Calls Tryz.prog 106 #[resV st r z ao n cap] w fun e w' => e = .returned (.bool (formedS st r z)) ∧ Below w.heap.size w w' := by
  have c1 := fun W => versioned_any z ao n cap W
  have c2 := fun W => all_text ⟨r.toArray⟩ W (by rw [szL]; unfold maxLen; omega)
  have c3 := fun W => Trim_any ⟨r.toArray⟩ W (by rw [szL]; unfold maxLen; omega)
  rw [dtL] at c2 c3
  have hf : formedS st r z = ((z == 0 || z == 1) && decide (100 ≤ st) && decide (st ≤ 599) && r.all okV && trimL r == r) := rfl
  generalize formedS st r z = F at hf ⊢
  generalize (z == 0 || z == 1) = q1 at c1 hf
  generalize r.all okV = q4 at c2 hf
  generalize trimL r = T at c3 hf
  have C1 := hid c1
  have C2 := hid c2
  have C3 := hid c3
  clear c1 c2 c3 hr
  obtain ⟨W, hW⟩ : ∃ W, W = w.alloc (.cells #[.int .i64 st, strV r, .int .i64 z, .slice ao n cap] 53) := ⟨_, rfl⟩
  have hbW : Below w.heap.size w W := by rw [hW]; exact below_alloc _ _
  have hg : rowIs W w.heap.size #[.int .i64 st, strV r, .int .i64 z, .slice ao n cap] 53 := by rw [hW]; exact rowIs_new _ _ _
  have HS : BoxS w w.heap.size w.heap.size #[.int .i64 st, strV r, .int .i64 z, .slice ao n cap] 53 [] W := ⟨hbW, hbW.size, hg⟩
  clear hbW hg
  obtain ⟨q2, hq2⟩ : ∃ q, decide (100 ≤ st) = q := ⟨_, rfl⟩
  obtain ⟨q3, hq3⟩ : ∃ q, decide (st ≤ 599) = q := ⟨_, rfl⟩
  obtain ⟨q5, hq5⟩ : ∃ q, (T == r) = q := ⟨_, rfl⟩
  rw [hq2, hq3, hq5] at hf
  cases q1
  · obtain rfl : F = false := hf
    go_enter Tryz.func106, Tryz.ntmps106
    go_wp2_with fail
    rw [← hW]
    clear hW
    refine wp_region_U [] (by kernel_rfl) (BoxS w w.heap.size w.heap.size #[.int .i64 st, strV r, .int .i64 z, .slice ao n cap] 53) (b := []) (by kernel_rfl) HS.drew ?_
    refine wpAnyU_take (i := 0) (v := ?_) (by decide) rfl (by kernel_rfl) (by kernel_rfl) (by kernel_rfl) (fun _ _ _ h => h) (Steady.plain (by kernel_rfl) ?_) ?_
    rotate_left
    · intro b W hS
      have h0 := hS.2.2.cell 0
      have h1 := hS.2.2.cell 1
      have h2 := hS.2.2.cell 2
      have h3 := hS.2.2.cell 3
      go_simp
      first | done | with_reducible rfl
    simp only [Act.put, List.getElem_toArray, List.getElem_cons_zero, List.setIfInBounds_toArray, List.set_cons_zero, List.set_cons_succ]
    refine wpAnyU_take (i := 1) (v := ?_) (by decide) rfl (by kernel_rfl) (by kernel_rfl) (by kernel_rfl) (fun _ _ _ h => h) (Steady.plain (by kernel_rfl) ?_) ?_
    rotate_left
    · intro b W hS
      have h0 := hS.2.2.cell 0
      have h1 := hS.2.2.cell 1
      have h2 := hS.2.2.cell 2
      have h3 := hS.2.2.cell 3
      go_simp
      first | done | with_reducible rfl
    simp only [Act.put, List.getElem_toArray, List.getElem_cons_succ, List.getElem_cons_zero, List.setIfInBounds_toArray, List.set_cons_zero, List.set_cons_succ]
    refine wpAnyU_take (i := 2) (v := .bool false) (by decide) rfl (by kernel_rfl) (by kernel_rfl) (by kernel_rfl) (fun _ _ _ h => h) (Steady.call (f := 125) (args := #[.agg #[.int .i64 z, .slice ao n cap]]) (by kernel_rfl) (fun _ => by kernel_rfl) ?_) ?_
    · intro b W hS
      refine (C1.out W).mono ?_
      rintro e w' ⟨he, hb⟩
      exact ⟨he, hS.below hb⟩
    simp only [Act.put, List.getElem_toArray, List.getElem_cons_succ, List.getElem_cons_zero, List.setIfInBounds_toArray, List.set_cons_zero, List.set_cons_succ]
    refine wpAnyU_take (i := 3) (v := ?_) (by decide) rfl (by kernel_rfl) (by kernel_rfl) (by kernel_rfl) (fun _ _ _ h => h) (Steady.plain (by kernel_rfl) ?_) ?_
    rotate_left
    · intro b W hS
      have h0 := hS.2.2.cell 0
      have h1 := hS.2.2.cell 1
      have h2 := hS.2.2.cell 2
      have h3 := hS.2.2.cell 3
      go_simp
      first | done | with_reducible rfl
    simp only [Act.put, List.getElem_toArray, List.getElem_cons_succ, List.getElem_cons_zero, List.setIfInBounds_toArray, List.set_cons_zero, List.set_cons_succ]
    refine wpAnyU_take (i := 4) (by decide) rfl (by kernel_rfl) (by kernel_rfl) (by kernel_rfl) (fun _ _ _ h => h) (Steady.off (by kernel_rfl)) ?_
    simp only [Act.put, List.getElem_toArray, List.getElem_cons_succ, List.getElem_cons_zero, List.setIfInBounds_toArray, List.set_cons_zero, List.set_cons_succ]
    refine wpAnyU_take (i := 5) (by decide) rfl (by kernel_rfl) (by kernel_rfl) (by kernel_rfl) (fun _ _ _ h => h) (Steady.off (by kernel_rfl)) ?_
    simp only [Act.put, List.getElem_toArray, List.getElem_cons_succ, List.getElem_cons_zero, List.setIfInBounds_toArray, List.set_cons_zero, List.set_cons_succ]
    refine wpAnyU_take (i := 6) (by decide) rfl (by kernel_rfl) (by kernel_rfl) (by kernel_rfl) (fun _ _ _ h => h) (Steady.off (by kernel_rfl)) ?_
    simp only [Act.put, List.getElem_toArray, List.getElem_cons_succ, List.getElem_cons_zero, List.setIfInBounds_toArray, List.set_cons_zero, List.set_cons_succ]
    refine wpAnyU_take (i := 7) (v := ?_) (by decide) rfl (by kernel_rfl) (by kernel_rfl) (by kernel_rfl) (fun _ _ _ h => h) (Steady.plain (by kernel_rfl) ?_) ?_
    rotate_left
    · intro b W hS
      have h0 := hS.2.2.cell 0
      have h1 := hS.2.2.cell 1
      have h2 := hS.2.2.cell 2
      have h3 := hS.2.2.cell 3
      go_simp
      first | done | with_reducible rfl
    simp only [Act.put, List.getElem_toArray, List.getElem_cons_succ, List.getElem_cons_zero, List.setIfInBounds_toArray, List.set_cons_zero, List.set_cons_succ]
    refine wpAnyU_take (i := 8) (v := ?_) (by decide) rfl (by kernel_rfl) (by kernel_rfl) (by kernel_rfl) (fun _ _ _ h => h) (Steady.plain (by kernel_rfl) ?_) ?_
    rotate_left
    · intro b W hS
      have h0 := hS.2.2.cell 0
      have h1 := hS.2.2.cell 1
      have h2 := hS.2.2.cell 2
      have h3 := hS.2.2.cell 3
      go_simp
      first | done | with_reducible rfl
    simp only [Act.put, List.getElem_toArray, List.getElem_cons_succ, List.getElem_cons_zero, List.setIfInBounds_toArray, List.set_cons_zero, List.set_cons_succ]
    refine wpAnyU_take (i := 9) (by decide) rfl (by kernel_rfl) (by kernel_rfl) (by kernel_rfl) (fun _ _ _ h => h) (Steady.off (by kernel_rfl)) ?_
    simp only [Act.put, List.getElem_toArray, List.getElem_cons_succ, List.getElem_cons_zero, List.setIfInBounds_toArray, List.set_cons_zero, List.set_cons_succ]
    refine wpAnyU_take (i := 10) (by decide) rfl (by kernel_rfl) (by kernel_rfl) (by kernel_rfl) (fun _ _ _ h => h) (Steady.off (by kernel_rfl)) ?_
    simp only [Act.put, List.getElem_toArray, List.getElem_cons_succ, List.getElem_cons_zero, List.setIfInBounds_toArray, List.set_cons_zero, List.set_cons_succ]
    refine wpAnyU_take (i := 11) (by decide) rfl (by kernel_rfl) (by kernel_rfl) (by kernel_rfl) (fun _ _ _ h => h) (Steady.off (by kernel_rfl)) ?_
    simp only [Act.put, List.getElem_toArray, List.getElem_cons_succ, List.getElem_cons_zero, List.setIfInBounds_toArray, List.set_cons_zero, List.set_cons_succ]
    refine wpAnyU_take (i := 12) (v := ?_) (by decide) rfl (by kernel_rfl) (by kernel_rfl) (by kernel_rfl) (fun _ _ _ h => h) (Steady.plain (by kernel_rfl) ?_) ?_
    rotate_left
    · intro b W hS
      have h0 := hS.2.2.cell 0
      have h1 := hS.2.2.cell 1
      have h2 := hS.2.2.cell 2
      have h3 := hS.2.2.cell 3
      go_simp
      first | done | with_reducible rfl
    simp only [Act.put, List.getElem_toArray, List.getElem_cons_succ, List.getElem_cons_zero, List.setIfInBounds_toArray, List.set_cons_zero, List.set_cons_succ]
    refine wpAnyU_take (i := 13) (v := ?_) (by decide) rfl (by kernel_rfl) (by kernel_rfl) (by kernel_rfl) (fun _ _ _ h => h) (Steady.plain (by kernel_rfl) ?_) ?_
    rotate_left
    · intro b W hS
      have h0 := hS.2.2.cell 0
      have h1 := hS.2.2.cell 1
      have h2 := hS.2.2.cell 2
      have h3 := hS.2.2.cell 3
      go_simp
      first | done | with_reducible rfl
    simp only [Act.put, List.getElem_toArray, List.getElem_cons_succ, List.getElem_cons_zero, List.setIfInBounds_toArray, List.set_cons_zero, List.set_cons_succ]
    refine wpAnyU_take (i := 14) (by decide) rfl (by kernel_rfl) (by kernel_rfl) (by kernel_rfl) (fun _ _ _ h => h) (Steady.off (by kernel_rfl)) ?_
    simp only [Act.put, List.getElem_toArray, List.getElem_cons_succ, List.getElem_cons_zero, List.setIfInBounds_toArray, List.set_cons_zero, List.set_cons_succ]
    refine wpAnyU_take (i := 15) (by decide) rfl (by kernel_rfl) (by kernel_rfl) (by kernel_rfl) (fun _ _ _ h => h) (Steady.off (by kernel_rfl)) ?_
    simp only [Act.put, List.getElem_toArray, List.getElem_cons_succ, List.getElem_cons_zero, List.setIfInBounds_toArray, List.set_cons_zero, List.set_cons_succ]
    refine wpAnyU_take (i := 16) (by decide) rfl (by kernel_rfl) (by kernel_rfl) (by kernel_rfl) (fun _ _ _ h => h) (Steady.off (by kernel_rfl)) ?_
    simp only [Act.put, List.getElem_toArray, List.getElem_cons_succ, List.getElem_cons_zero, List.setIfInBounds_toArray, List.set_cons_zero, List.set_cons_succ]
    refine wpAnyU_take (i := 17) (v := ?_) (by decide) rfl (by kernel_rfl) (by kernel_rfl) (by kernel_rfl) (fun _ _ _ h => h) (Steady.plain (by kernel_rfl) ?_) ?_
    rotate_left
    · intro b W hS
      have h0 := hS.2.2.cell 0
      have h1 := hS.2.2.cell 1
      have h2 := hS.2.2.cell 2
      have h3 := hS.2.2.cell 3
      go_simp
      first | done | with_reducible rfl
    simp only [Act.put, List.getElem_toArray, List.getElem_cons_succ, List.getElem_cons_zero, List.setIfInBounds_toArray, List.set_cons_zero, List.set_cons_succ]
    refine wpAnyU_take (i := 18) (v := ?_) (by decide) rfl (by kernel_rfl) (by kernel_rfl) (by kernel_rfl) (fun _ _ _ h => h) (Steady.plain (by kernel_rfl) ?_) ?_
    rotate_left
    · intro b W hS
      have h0 := hS.2.2.cell 0
      have h1 := hS.2.2.cell 1
      have h2 := hS.2.2.cell 2
      have h3 := hS.2.2.cell 3
      go_simp
      first | done | with_reducible rfl
    simp only [Act.put, List.getElem_toArray, List.getElem_cons_succ, List.getElem_cons_zero, List.setIfInBounds_toArray, List.set_cons_zero, List.set_cons_succ]
    refine wpAnyU_take (i := 19) (by decide) rfl (by kernel_rfl) (by kernel_rfl) (by kernel_rfl) (fun _ _ _ h => h) (Steady.off (by kernel_rfl)) ?_
    simp only [Act.put, List.getElem_toArray, List.getElem_cons_succ, List.getElem_cons_zero, List.setIfInBounds_toArray, List.set_cons_zero, List.set_cons_succ]
    refine wpAnyU_take (i := 20) (by decide) rfl (by kernel_rfl) (by kernel_rfl) (by kernel_rfl) (fun _ _ _ h => h) (Steady.off (by kernel_rfl)) ?_
    simp only [Act.put, List.getElem_toArray, List.getElem_cons_succ, List.getElem_cons_zero, List.setIfInBounds_toArray, List.set_cons_zero, List.set_cons_succ]
    refine wpAnyU_take (i := 21) (by decide) rfl (by kernel_rfl) (by kernel_rfl) (by kernel_rfl) (fun _ _ _ h => h) (Steady.off (by kernel_rfl)) ?_
    simp only [Act.put, List.getElem_toArray, List.getElem_cons_succ, List.getElem_cons_zero, List.setIfInBounds_toArray, List.set_cons_zero, List.set_cons_succ]
    refine wpAnyU_take (i := 22) (by decide) rfl (by kernel_rfl) (by kernel_rfl) (by kernel_rfl) (fun _ _ _ h => h) (Steady.off (by kernel_rfl)) ?_
    simp only [Act.put, List.getElem_toArray, List.getElem_cons_succ, List.getElem_cons_zero, List.setIfInBounds_toArray, List.set_cons_zero, List.set_cons_succ]
    refine wpAnyU_take (i := 23) (by decide) rfl (by kernel_rfl) (by kernel_rfl) (by kernel_rfl) (fun _ _ _ h => h) (Steady.off (by kernel_rfl)) ?_
    simp only [Act.put, List.getElem_toArray, List.getElem_cons_succ, List.getElem_cons_zero, List.setIfInBounds_toArray, List.set_cons_zero, List.set_cons_succ]
    refine wpAnyU_take (i := 24) (by decide) rfl (by kernel_rfl) (by kernel_rfl) (by kernel_rfl) (fun _ _ _ h => h) (Steady.off (by kernel_rfl)) ?_
    simp only [Act.put, List.getElem_toArray, List.getElem_cons_succ, List.getElem_cons_zero, List.setIfInBounds_toArray, List.set_cons_zero, List.set_cons_succ]
    refine wpAnyU_take (i := 25) (v := ?_) (by decide) rfl (by kernel_rfl) (by kernel_rfl) (by kernel_rfl) (fun _ _ _ h => h) (Steady.plain (by kernel_rfl) ?_) ?_
    rotate_left
    · intro b W hS
      have h0 := hS.2.2.cell 0
      have h1 := hS.2.2.cell 1
      have h2 := hS.2.2.cell 2
      have h3 := hS.2.2.cell 3
      go_simp
      first | done | with_reducible rfl
    simp only [Act.put, List.getElem_toArray, List.getElem_cons_succ, List.getElem_cons_zero, List.setIfInBounds_toArray, List.set_cons_zero, List.set_cons_succ]
    refine wpAnyU_take (i := 26) (v := ?_) (by decide) rfl (by kernel_rfl) (by kernel_rfl) (by kernel_rfl) (fun _ _ _ h => h) (Steady.plain (by kernel_rfl) ?_) ?_
    rotate_left
    · intro b W hS
      have h0 := hS.2.2.cell 0
      have h1 := hS.2.2.cell 1
      have h2 := hS.2.2.cell 2
      have h3 := hS.2.2.cell 3
      go_simp
      first | done | with_reducible rfl
    simp only [Act.put, List.getElem_toArray, List.getElem_cons_succ, List.getElem_cons_zero, List.setIfInBounds_toArray, List.set_cons_zero, List.set_cons_succ]
    refine wpAnyU_done (b := []) (by kernel_rfl) (by kernel_rfl) ?_ _
    intro w' hS
    go_wp2_with fail
    go_ret
    exact ⟨rfl, hS.1⟩
  · cases q2
    · obtain rfl : F = false := hf
      go_enter Tryz.func106, Tryz.ntmps106
      go_wp2_with fail
      rw [← hW]
      clear hW
      refine wp_region_U [] (by kernel_rfl) (BoxS w w.heap.size w.heap.size #[.int .i64 st, strV r, .int .i64 z, .slice ao n cap] 53) (b := []) (by kernel_rfl) HS.drew ?_
      refine wpAnyU_take (i := 0) (v := ?_) (by decide) rfl (by kernel_rfl) (by kernel_rfl) (by kernel_rfl) (fun _ _ _ h => h) (Steady.plain (by kernel_rfl) ?_) ?_
      rotate_left
      · intro b W hS
        have h0 := hS.2.2.cell 0
        have h1 := hS.2.2.cell 1
        have h2 := hS.2.2.cell 2
        have h3 := hS.2.2.cell 3
        go_simp
        first | done | with_reducible rfl
      simp only [Act.put, List.getElem_toArray, List.getElem_cons_zero, List.setIfInBounds_toArray, List.set_cons_zero, List.set_cons_succ]
      refine wpAnyU_take (i := 1) (v := ?_) (by decide) rfl (by kernel_rfl) (by kernel_rfl) (by kernel_rfl) (fun _ _ _ h => h) (Steady.plain (by kernel_rfl) ?_) ?_
      rotate_left
      · intro b W hS
        have h0 := hS.2.2.cell 0
        have h1 := hS.2.2.cell 1
        have h2 := hS.2.2.cell 2
        have h3 := hS.2.2.cell 3
        go_simp
        first | done | with_reducible rfl
      simp only [Act.put, List.getElem_toArray, List.getElem_cons_succ, List.getElem_cons_zero, List.setIfInBounds_toArray, List.set_cons_zero, List.set_cons_succ]
      refine wpAnyU_take (i := 2) (v := .bool true) (by decide) rfl (by kernel_rfl) (by kernel_rfl) (by kernel_rfl) (fun _ _ _ h => h) (Steady.call (f := 125) (args := #[.agg #[.int .i64 z, .slice ao n cap]]) (by kernel_rfl) (fun _ => by kernel_rfl) ?_) ?_
      · intro b W hS
        refine (C1.out W).mono ?_
        rintro e w' ⟨he, hb⟩
        exact ⟨he, hS.below hb⟩
      simp only [Act.put, List.getElem_toArray, List.getElem_cons_succ, List.getElem_cons_zero, List.setIfInBounds_toArray, List.set_cons_zero, List.set_cons_succ]
      refine wpAnyU_take (i := 3) (v := ?_) (by decide) rfl (by kernel_rfl) (by kernel_rfl) (by kernel_rfl) (fun _ _ _ h => h) (Steady.plain (by kernel_rfl) ?_) ?_
      rotate_left
      · intro b W hS
        have h0 := hS.2.2.cell 0
        have h1 := hS.2.2.cell 1
        have h2 := hS.2.2.cell 2
        have h3 := hS.2.2.cell 3
        go_simp
        first | done | with_reducible rfl
      simp only [Act.put, List.getElem_toArray, List.getElem_cons_succ, List.getElem_cons_zero, List.setIfInBounds_toArray, List.set_cons_zero, List.set_cons_succ]
      refine wpAnyU_take (i := 4) (v := ?_) (by decide) rfl (by kernel_rfl) (by kernel_rfl) (by kernel_rfl) (fun _ _ _ h => h) (Steady.plain (by kernel_rfl) ?_) ?_
      rotate_left
      · intro b W hS
        have h0 := hS.2.2.cell 0
        have h1 := hS.2.2.cell 1
        have h2 := hS.2.2.cell 2
        have h3 := hS.2.2.cell 3
        go_simp
        first | done | with_reducible rfl
      simp only [Act.put, List.getElem_toArray, List.getElem_cons_succ, List.getElem_cons_zero, List.setIfInBounds_toArray, List.set_cons_zero, List.set_cons_succ]
      refine wpAnyU_take (i := 5) (v := ?_) (by decide) rfl (by kernel_rfl) (by kernel_rfl) (by kernel_rfl) (fun _ _ _ h => h) (Steady.plain (by kernel_rfl) ?_) ?_
      rotate_left
      · intro b W hS
        have h0 := hS.2.2.cell 0
        have h1 := hS.2.2.cell 1
        have h2 := hS.2.2.cell 2
        have h3 := hS.2.2.cell 3
        go_simp
        first | done | with_reducible rfl
      simp only [Act.put, List.getElem_toArray, List.getElem_cons_succ, List.getElem_cons_zero, List.setIfInBounds_toArray, List.set_cons_zero, List.set_cons_succ]
      refine wpAnyU_take (i := 6) (v := ?_) (by decide) rfl (by kernel_rfl) (by kernel_rfl) (by kernel_rfl) (fun _ _ _ h => h) (Steady.plain (by kernel_rfl) ?_) ?_
      rotate_left
      · intro b W hS
        have h0 := hS.2.2.cell 0
        have h1 := hS.2.2.cell 1
        have h2 := hS.2.2.cell 2
        have h3 := hS.2.2.cell 3
        go_simp
        first | done | with_reducible rfl
      simp only [Act.put, List.getElem_toArray, List.getElem_cons_succ, List.getElem_cons_zero, List.setIfInBounds_toArray, List.set_cons_zero, List.set_cons_succ]
      refine wpAnyU_take (i := 7) (v := ?_) (by decide) rfl (by kernel_rfl) (by kernel_rfl) (by kernel_rfl) (fun _ _ _ h => h) (Steady.plain (by kernel_rfl) ?_) ?_
      rotate_left
      · intro b W hS
        have h0 := hS.2.2.cell 0
        have h1 := hS.2.2.cell 1
        have h2 := hS.2.2.cell 2
        have h3 := hS.2.2.cell 3
        go_simp
        first | done | with_reducible rfl
      simp only [Act.put, List.getElem_toArray, List.getElem_cons_succ, List.getElem_cons_zero, List.setIfInBounds_toArray, List.set_cons_zero, List.set_cons_succ]
      refine wpAnyU_take (i := 8) (v := ?_) (by decide) rfl (by kernel_rfl) (by kernel_rfl) (by kernel_rfl) (fun _ _ _ h => h) (Steady.plain (by kernel_rfl) ?_) ?_
      rotate_left
      · intro b W hS
        have h0 := hS.2.2.cell 0
        have h1 := hS.2.2.cell 1
        have h2 := hS.2.2.cell 2
        have h3 := hS.2.2.cell 3
        go_simp
        first | done | with_reducible rfl
      simp only [Act.put, List.getElem_toArray, List.getElem_cons_succ, List.getElem_cons_zero, List.setIfInBounds_toArray, List.set_cons_zero, List.set_cons_succ]
      refine wpAnyU_take (i := 9) (by decide) rfl (by kernel_rfl) (by kernel_rfl) (by kernel_rfl) (fun _ _ _ h => h) (Steady.off (by kernel_rfl)) ?_
      simp only [Act.put, List.getElem_toArray, List.getElem_cons_succ, List.getElem_cons_zero, List.setIfInBounds_toArray, List.set_cons_zero, List.set_cons_succ]
      refine wpAnyU_take (i := 10) (by decide) rfl (by kernel_rfl) (by kernel_rfl) (by kernel_rfl) (fun _ _ _ h => h) (Steady.off (by kernel_rfl)) ?_
      simp only [Act.put, List.getElem_toArray, List.getElem_cons_succ, List.getElem_cons_zero, List.setIfInBounds_toArray, List.set_cons_zero, List.set_cons_succ]
      refine wpAnyU_take (i := 11) (by decide) rfl (by kernel_rfl) (by kernel_rfl) (by kernel_rfl) (fun _ _ _ h => h) (Steady.off (by kernel_rfl)) ?_
      simp only [Act.put, List.getElem_toArray, List.getElem_cons_succ, List.getElem_cons_zero, List.setIfInBounds_toArray, List.set_cons_zero, List.set_cons_succ]
      refine wpAnyU_take (i := 12) (v := ?_) (by decide) rfl (by kernel_rfl) (by kernel_rfl) (by kernel_rfl) (fun _ _ _ h => h) (Steady.plain (by kernel_rfl) ?_) ?_
      rotate_left
      · intro b W hS
        have h0 := hS.2.2.cell 0
        have h1 := hS.2.2.cell 1
        have h2 := hS.2.2.cell 2
        have h3 := hS.2.2.cell 3
        go_simp
        first | done | with_reducible rfl
      simp only [Act.put, List.getElem_toArray, List.getElem_cons_succ, List.getElem_cons_zero, List.setIfInBounds_toArray, List.set_cons_zero, List.set_cons_succ]
      refine wpAnyU_take (i := 13) (v := ?_) (by decide) rfl (by kernel_rfl) (by kernel_rfl) (by kernel_rfl) (fun _ _ _ h => h) (Steady.plain (by kernel_rfl) ?_) ?_
      rotate_left
      · intro b W hS
        have h0 := hS.2.2.cell 0
        have h1 := hS.2.2.cell 1
        have h2 := hS.2.2.cell 2
        have h3 := hS.2.2.cell 3
        go_simp
        first | done | with_reducible rfl
      simp only [Act.put, List.getElem_toArray, List.getElem_cons_succ, List.getElem_cons_zero, List.setIfInBounds_toArray, List.set_cons_zero, List.set_cons_succ]
      refine wpAnyU_take (i := 14) (by decide) rfl (by kernel_rfl) (by kernel_rfl) (by kernel_rfl) (fun _ _ _ h => h) (Steady.off (by kernel_rfl)) ?_
      simp only [Act.put, List.getElem_toArray, List.getElem_cons_succ, List.getElem_cons_zero, List.setIfInBounds_toArray, List.set_cons_zero, List.set_cons_succ]
      refine wpAnyU_take (i := 15) (by decide) rfl (by kernel_rfl) (by kernel_rfl) (by kernel_rfl) (fun _ _ _ h => h) (Steady.off (by kernel_rfl)) ?_
      simp only [Act.put, List.getElem_toArray, List.getElem_cons_succ, List.getElem_cons_zero, List.setIfInBounds_toArray, List.set_cons_zero, List.set_cons_succ]
      refine wpAnyU_take (i := 16) (by decide) rfl (by kernel_rfl) (by kernel_rfl) (by kernel_rfl) (fun _ _ _ h => h) (Steady.off (by kernel_rfl)) ?_
      simp only [Act.put, List.getElem_toArray, List.getElem_cons_succ, List.getElem_cons_zero, List.setIfInBounds_toArray, List.set_cons_zero, List.set_cons_succ]
      refine wpAnyU_take (i := 17) (v := ?_) (by decide) rfl (by kernel_rfl) (by kernel_rfl) (by kernel_rfl) (fun _ _ _ h => h) (Steady.plain (by kernel_rfl) ?_) ?_
      rotate_left
      · intro b W hS
        have h0 := hS.2.2.cell 0
        have h1 := hS.2.2.cell 1
        have h2 := hS.2.2.cell 2
        have h3 := hS.2.2.cell 3
        go_simp
        first | done | with_reducible rfl
      simp only [Act.put, List.getElem_toArray, List.getElem_cons_succ, List.getElem_cons_zero, List.setIfInBounds_toArray, List.set_cons_zero, List.set_cons_succ]
      refine wpAnyU_take (i := 18) (v := ?_) (by decide) rfl (by kernel_rfl) (by kernel_rfl) (by kernel_rfl) (fun _ _ _ h => h) (Steady.plain (by kernel_rfl) ?_) ?_
      rotate_left
      · intro b W hS
        have h0 := hS.2.2.cell 0
        have h1 := hS.2.2.cell 1
        have h2 := hS.2.2.cell 2
        have h3 := hS.2.2.cell 3
        go_simp
        first | done | with_reducible rfl
      simp only [Act.put, List.getElem_toArray, List.getElem_cons_succ, List.getElem_cons_zero, List.setIfInBounds_toArray, List.set_cons_zero, List.set_cons_succ]
      refine wpAnyU_take (i := 19) (by decide) rfl (by kernel_rfl) (by kernel_rfl) (by kernel_rfl) (fun _ _ _ h => h) (Steady.off (by kernel_rfl)) ?_
      simp only [Act.put, List.getElem_toArray, List.getElem_cons_succ, List.getElem_cons_zero, List.setIfInBounds_toArray, List.set_cons_zero, List.set_cons_succ]
      refine wpAnyU_take (i := 20) (by decide) rfl (by kernel_rfl) (by kernel_rfl) (by kernel_rfl) (fun _ _ _ h => h) (Steady.off (by kernel_rfl)) ?_
      simp only [Act.put, List.getElem_toArray, List.getElem_cons_succ, List.getElem_cons_zero, List.setIfInBounds_toArray, List.set_cons_zero, List.set_cons_succ]
      refine wpAnyU_take (i := 21) (by decide) rfl (by kernel_rfl) (by kernel_rfl) (by kernel_rfl) (fun _ _ _ h => h) (Steady.off (by kernel_rfl)) ?_
      simp only [Act.put, List.getElem_toArray, List.getElem_cons_succ, List.getElem_cons_zero, List.setIfInBounds_toArray, List.set_cons_zero, List.set_cons_succ]
      refine wpAnyU_take (i := 22) (by decide) rfl (by kernel_rfl) (by kernel_rfl) (by kernel_rfl) (fun _ _ _ h => h) (Steady.off (by kernel_rfl)) ?_
      simp only [Act.put, List.getElem_toArray, List.getElem_cons_succ, List.getElem_cons_zero, List.setIfInBounds_toArray, List.set_cons_zero, List.set_cons_succ]
      refine wpAnyU_take (i := 23) (by decide) rfl (by kernel_rfl) (by kernel_rfl) (by kernel_rfl) (fun _ _ _ h => h) (Steady.off (by kernel_rfl)) ?_
      simp only [Act.put, List.getElem_toArray, List.getElem_cons_succ, List.getElem_cons_zero, List.setIfInBounds_toArray, List.set_cons_zero, List.set_cons_succ]
      refine wpAnyU_take (i := 24) (by decide) rfl (by kernel_rfl) (by kernel_rfl) (by kernel_rfl) (fun _ _ _ h => h) (Steady.off (by kernel_rfl)) ?_
      simp only [Act.put, List.getElem_toArray, List.getElem_cons_succ, List.getElem_cons_zero, List.setIfInBounds_toArray, List.set_cons_zero, List.set_cons_succ]
      refine wpAnyU_take (i := 25) (v := ?_) (by decide) rfl (by kernel_rfl) (by kernel_rfl) (by kernel_rfl) (fun _ _ _ h => h) (Steady.plain (by kernel_rfl) ?_) ?_
      rotate_left
      · intro b W hS
        have h0 := hS.2.2.cell 0
        have h1 := hS.2.2.cell 1
        have h2 := hS.2.2.cell 2
        have h3 := hS.2.2.cell 3
        go_simp
        first | done | with_reducible rfl
      simp only [Act.put, List.getElem_toArray, List.getElem_cons_succ, List.getElem_cons_zero, List.setIfInBounds_toArray, List.set_cons_zero, List.set_cons_succ]
      refine wpAnyU_take (i := 26) (v := ?_) (by decide) rfl (by kernel_rfl) (by kernel_rfl) (by kernel_rfl) (fun _ _ _ h => h) (Steady.plain (by kernel_rfl) ?_) ?_
      rotate_left
      · intro b W hS
        have h0 := hS.2.2.cell 0
        have h1 := hS.2.2.cell 1
        have h2 := hS.2.2.cell 2
        have h3 := hS.2.2.cell 3
        go_simp
        first | done | with_reducible rfl
      simp only [Act.put, List.getElem_toArray, List.getElem_cons_succ, List.getElem_cons_zero, List.setIfInBounds_toArray, List.set_cons_zero, List.set_cons_succ]
      refine wpAnyU_done (b := []) (by kernel_rfl) (by kernel_rfl) ?_ _
      intro w' hS
      go_wp2_with fail
      go_ret
      exact ⟨rfl, hS.1⟩
    · cases q3
      · obtain rfl : F = false := hf
        go_enter Tryz.func106, Tryz.ntmps106
        go_wp2_with fail
        rw [← hW]
        clear hW
        refine wp_region_U [] (by kernel_rfl) (BoxS w w.heap.size w.heap.size #[.int .i64 st, strV r, .int .i64 z, .slice ao n cap] 53) (b := []) (by kernel_rfl) HS.drew ?_
        refine wpAnyU_take (i := 0) (v := ?_) (by decide) rfl (by kernel_rfl) (by kernel_rfl) (by kernel_rfl) (fun _ _ _ h => h) (Steady.plain (by kernel_rfl) ?_) ?_
        rotate_left
        · intro b W hS
          have h0 := hS.2.2.cell 0
          have h1 := hS.2.2.cell 1
          have h2 := hS.2.2.cell 2
          have h3 := hS.2.2.cell 3
          go_simp
          first | done | with_reducible rfl
        simp only [Act.put, List.getElem_toArray, List.getElem_cons_zero, List.setIfInBounds_toArray, List.set_cons_zero, List.set_cons_succ]
        refine wpAnyU_take (i := 1) (v := ?_) (by decide) rfl (by kernel_rfl) (by kernel_rfl) (by kernel_rfl) (fun _ _ _ h => h) (Steady.plain (by kernel_rfl) ?_) ?_
        rotate_left
        · intro b W hS
          have h0 := hS.2.2.cell 0
          have h1 := hS.2.2.cell 1
          have h2 := hS.2.2.cell 2
          have h3 := hS.2.2.cell 3
          go_simp
          first | done | with_reducible rfl
        simp only [Act.put, List.getElem_toArray, List.getElem_cons_succ, List.getElem_cons_zero, List.setIfInBounds_toArray, List.set_cons_zero, List.set_cons_succ]
        refine wpAnyU_take (i := 2) (v := .bool true) (by decide) rfl (by kernel_rfl) (by kernel_rfl) (by kernel_rfl) (fun _ _ _ h => h) (Steady.call (f := 125) (args := #[.agg #[.int .i64 z, .slice ao n cap]]) (by kernel_rfl) (fun _ => by kernel_rfl) ?_) ?_
        · intro b W hS
          refine (C1.out W).mono ?_
          rintro e w' ⟨he, hb⟩
          exact ⟨he, hS.below hb⟩
        simp only [Act.put, List.getElem_toArray, List.getElem_cons_succ, List.getElem_cons_zero, List.setIfInBounds_toArray, List.set_cons_zero, List.set_cons_succ]
        refine wpAnyU_take (i := 3) (v := ?_) (by decide) rfl (by kernel_rfl) (by kernel_rfl) (by kernel_rfl) (fun _ _ _ h => h) (Steady.plain (by kernel_rfl) ?_) ?_
        rotate_left
        · intro b W hS
          have h0 := hS.2.2.cell 0
          have h1 := hS.2.2.cell 1
          have h2 := hS.2.2.cell 2
          have h3 := hS.2.2.cell 3
          go_simp
          first | done | with_reducible rfl
        simp only [Act.put, List.getElem_toArray, List.getElem_cons_succ, List.getElem_cons_zero, List.setIfInBounds_toArray, List.set_cons_zero, List.set_cons_succ]
        refine wpAnyU_take (i := 4) (v := ?_) (by decide) rfl (by kernel_rfl) (by kernel_rfl) (by kernel_rfl) (fun _ _ _ h => h) (Steady.plain (by kernel_rfl) ?_) ?_
        rotate_left
        · intro b W hS
          have h0 := hS.2.2.cell 0
          have h1 := hS.2.2.cell 1
          have h2 := hS.2.2.cell 2
          have h3 := hS.2.2.cell 3
          go_simp
          first | done | with_reducible rfl
        simp only [Act.put, List.getElem_toArray, List.getElem_cons_succ, List.getElem_cons_zero, List.setIfInBounds_toArray, List.set_cons_zero, List.set_cons_succ]
        refine wpAnyU_take (i := 5) (v := ?_) (by decide) rfl (by kernel_rfl) (by kernel_rfl) (by kernel_rfl) (fun _ _ _ h => h) (Steady.plain (by kernel_rfl) ?_) ?_
        rotate_left
        · intro b W hS
          have h0 := hS.2.2.cell 0
          have h1 := hS.2.2.cell 1
          have h2 := hS.2.2.cell 2
          have h3 := hS.2.2.cell 3
          go_simp
          first | done | with_reducible rfl
        simp only [Act.put, List.getElem_toArray, List.getElem_cons_succ, List.getElem_cons_zero, List.setIfInBounds_toArray, List.set_cons_zero, List.set_cons_succ]
        refine wpAnyU_take (i := 6) (v := ?_) (by decide) rfl (by kernel_rfl) (by kernel_rfl) (by kernel_rfl) (fun _ _ _ h => h) (Steady.plain (by kernel_rfl) ?_) ?_
        rotate_left
        · intro b W hS
          have h0 := hS.2.2.cell 0
          have h1 := hS.2.2.cell 1
          have h2 := hS.2.2.cell 2
          have h3 := hS.2.2.cell 3
          go_simp
          first | done | with_reducible rfl
        simp only [Act.put, List.getElem_toArray, List.getElem_cons_succ, List.getElem_cons_zero, List.setIfInBounds_toArray, List.set_cons_zero, List.set_cons_succ]
        refine wpAnyU_take (i := 7) (v := ?_) (by decide) rfl (by kernel_rfl) (by kernel_rfl) (by kernel_rfl) (fun _ _ _ h => h) (Steady.plain (by kernel_rfl) ?_) ?_
        rotate_left
        · intro b W hS
          have h0 := hS.2.2.cell 0
          have h1 := hS.2.2.cell 1
          have h2 := hS.2.2.cell 2
          have h3 := hS.2.2.cell 3
          go_simp
          first | done | with_reducible rfl
        simp only [Act.put, List.getElem_toArray, List.getElem_cons_succ, List.getElem_cons_zero, List.setIfInBounds_toArray, List.set_cons_zero, List.set_cons_succ]
        refine wpAnyU_take (i := 8) (v := ?_) (by decide) rfl (by kernel_rfl) (by kernel_rfl) (by kernel_rfl) (fun _ _ _ h => h) (Steady.plain (by kernel_rfl) ?_) ?_
        rotate_left
        · intro b W hS
          have h0 := hS.2.2.cell 0
          have h1 := hS.2.2.cell 1
          have h2 := hS.2.2.cell 2
          have h3 := hS.2.2.cell 3
          go_simp
          first | done | with_reducible rfl
        simp only [Act.put, List.getElem_toArray, List.getElem_cons_succ, List.getElem_cons_zero, List.setIfInBounds_toArray, List.set_cons_zero, List.set_cons_succ]
        refine wpAnyU_take (i := 9) (v := ?_) (by decide) rfl (by kernel_rfl) (by kernel_rfl) (by kernel_rfl) (fun _ _ _ h => h) (Steady.plain (by kernel_rfl) ?_) ?_
        rotate_left
        · intro b W hS
          have h0 := hS.2.2.cell 0
          have h1 := hS.2.2.cell 1
          have h2 := hS.2.2.cell 2
          have h3 := hS.2.2.cell 3
          go_simp
          first | done | with_reducible rfl
        simp only [Act.put, List.getElem_toArray, List.getElem_cons_succ, List.getElem_cons_zero, List.setIfInBounds_toArray, List.set_cons_zero, List.set_cons_succ]
        refine wpAnyU_take (i := 10) (v := ?_) (by decide) rfl (by kernel_rfl) (by kernel_rfl) (by kernel_rfl) (fun _ _ _ h => h) (Steady.plain (by kernel_rfl) ?_) ?_
        rotate_left
        · intro b W hS
          have h0 := hS.2.2.cell 0
          have h1 := hS.2.2.cell 1
          have h2 := hS.2.2.cell 2
          have h3 := hS.2.2.cell 3
          go_simp
          first | done | with_reducible rfl
        simp only [Act.put, List.getElem_toArray, List.getElem_cons_succ, List.getElem_cons_zero, List.setIfInBounds_toArray, List.set_cons_zero, List.set_cons_succ]
        refine wpAnyU_take (i := 11) (v := ?_) (by decide) rfl (by kernel_rfl) (by kernel_rfl) (by kernel_rfl) (fun _ _ _ h => h) (Steady.plain (by kernel_rfl) ?_) ?_
        rotate_left
        · intro b W hS
          have h0 := hS.2.2.cell 0
          have h1 := hS.2.2.cell 1
          have h2 := hS.2.2.cell 2
          have h3 := hS.2.2.cell 3
          go_simp
          first | done | with_reducible rfl
        simp only [Act.put, List.getElem_toArray, List.getElem_cons_succ, List.getElem_cons_zero, List.setIfInBounds_toArray, List.set_cons_zero, List.set_cons_succ]
        refine wpAnyU_take (i := 12) (v := ?_) (by decide) rfl (by kernel_rfl) (by kernel_rfl) (by kernel_rfl) (fun _ _ _ h => h) (Steady.plain (by kernel_rfl) ?_) ?_
        rotate_left
        · intro b W hS
          have h0 := hS.2.2.cell 0
          have h1 := hS.2.2.cell 1
          have h2 := hS.2.2.cell 2
          have h3 := hS.2.2.cell 3
          go_simp
          first | done | with_reducible rfl
        simp only [Act.put, List.getElem_toArray, List.getElem_cons_succ, List.getElem_cons_zero, List.setIfInBounds_toArray, List.set_cons_zero, List.set_cons_succ]
        refine wpAnyU_take (i := 13) (v := ?_) (by decide) rfl (by kernel_rfl) (by kernel_rfl) (by kernel_rfl) (fun _ _ _ h => h) (Steady.plain (by kernel_rfl) ?_) ?_
        rotate_left
        · intro b W hS
          have h0 := hS.2.2.cell 0
          have h1 := hS.2.2.cell 1
          have h2 := hS.2.2.cell 2
          have h3 := hS.2.2.cell 3
          go_simp
          first | done | with_reducible rfl
        simp only [Act.put, List.getElem_toArray, List.getElem_cons_succ, List.getElem_cons_zero, List.setIfInBounds_toArray, List.set_cons_zero, List.set_cons_succ]
        refine wpAnyU_take (i := 14) (by decide) rfl (by kernel_rfl) (by kernel_rfl) (by kernel_rfl) (fun _ _ _ h => h) (Steady.off (by kernel_rfl)) ?_
        simp only [Act.put, List.getElem_toArray, List.getElem_cons_succ, List.getElem_cons_zero, List.setIfInBounds_toArray, List.set_cons_zero, List.set_cons_succ]
        refine wpAnyU_take (i := 15) (by decide) rfl (by kernel_rfl) (by kernel_rfl) (by kernel_rfl) (fun _ _ _ h => h) (Steady.off (by kernel_rfl)) ?_
        simp only [Act.put, List.getElem_toArray, List.getElem_cons_succ, List.getElem_cons_zero, List.setIfInBounds_toArray, List.set_cons_zero, List.set_cons_succ]
        refine wpAnyU_take (i := 16) (by decide) rfl (by kernel_rfl) (by kernel_rfl) (by kernel_rfl) (fun _ _ _ h => h) (Steady.off (by kernel_rfl)) ?_
        simp only [Act.put, List.getElem_toArray, List.getElem_cons_succ, List.getElem_cons_zero, List.setIfInBounds_toArray, List.set_cons_zero, List.set_cons_succ]
        refine wpAnyU_take (i := 17) (v := ?_) (by decide) rfl (by kernel_rfl) (by kernel_rfl) (by kernel_rfl) (fun _ _ _ h => h) (Steady.plain (by kernel_rfl) ?_) ?_
        rotate_left
        · intro b W hS
          have h0 := hS.2.2.cell 0
          have h1 := hS.2.2.cell 1
          have h2 := hS.2.2.cell 2
          have h3 := hS.2.2.cell 3
          go_simp
          first | done | with_reducible rfl
        simp only [Act.put, List.getElem_toArray, List.getElem_cons_succ, List.getElem_cons_zero, List.setIfInBounds_toArray, List.set_cons_zero, List.set_cons_succ]
        refine wpAnyU_take (i := 18) (v := ?_) (by decide) rfl (by kernel_rfl) (by kernel_rfl) (by kernel_rfl) (fun _ _ _ h => h) (Steady.plain (by kernel_rfl) ?_) ?_
        rotate_left
        · intro b W hS
          have h0 := hS.2.2.cell 0
          have h1 := hS.2.2.cell 1
          have h2 := hS.2.2.cell 2
          have h3 := hS.2.2.cell 3
          go_simp
          first | done | with_reducible rfl
        simp only [Act.put, List.getElem_toArray, List.getElem_cons_succ, List.getElem_cons_zero, List.setIfInBounds_toArray, List.set_cons_zero, List.set_cons_succ]
        refine wpAnyU_take (i := 19) (by decide) rfl (by kernel_rfl) (by kernel_rfl) (by kernel_rfl) (fun _ _ _ h => h) (Steady.off (by kernel_rfl)) ?_
        simp only [Act.put, List.getElem_toArray, List.getElem_cons_succ, List.getElem_cons_zero, List.setIfInBounds_toArray, List.set_cons_zero, List.set_cons_succ]
        refine wpAnyU_take (i := 20) (by decide) rfl (by kernel_rfl) (by kernel_rfl) (by kernel_rfl) (fun _ _ _ h => h) (Steady.off (by kernel_rfl)) ?_
        simp only [Act.put, List.getElem_toArray, List.getElem_cons_succ, List.getElem_cons_zero, List.setIfInBounds_toArray, List.set_cons_zero, List.set_cons_succ]
        refine wpAnyU_take (i := 21) (by decide) rfl (by kernel_rfl) (by kernel_rfl) (by kernel_rfl) (fun _ _ _ h => h) (Steady.off (by kernel_rfl)) ?_
        simp only [Act.put, List.getElem_toArray, List.getElem_cons_succ, List.getElem_cons_zero, List.setIfInBounds_toArray, List.set_cons_zero, List.set_cons_succ]
        refine wpAnyU_take (i := 22) (by decide) rfl (by kernel_rfl) (by kernel_rfl) (by kernel_rfl) (fun _ _ _ h => h) (Steady.off (by kernel_rfl)) ?_
        simp only [Act.put, List.getElem_toArray, List.getElem_cons_succ, List.getElem_cons_zero, List.setIfInBounds_toArray, List.set_cons_zero, List.set_cons_succ]
        refine wpAnyU_take (i := 23) (by decide) rfl (by kernel_rfl) (by kernel_rfl) (by kernel_rfl) (fun _ _ _ h => h) (Steady.off (by kernel_rfl)) ?_
        simp only [Act.put, List.getElem_toArray, List.getElem_cons_succ, List.getElem_cons_zero, List.setIfInBounds_toArray, List.set_cons_zero, List.set_cons_succ]
        refine wpAnyU_take (i := 24) (by decide) rfl (by kernel_rfl) (by kernel_rfl) (by kernel_rfl) (fun _ _ _ h => h) (Steady.off (by kernel_rfl)) ?_
        simp only [Act.put, List.getElem_toArray, List.getElem_cons_succ, List.getElem_cons_zero, List.setIfInBounds_toArray, List.set_cons_zero, List.set_cons_succ]
        refine wpAnyU_take (i := 25) (v := ?_) (by decide) rfl (by kernel_rfl) (by kernel_rfl) (by kernel_rfl) (fun _ _ _ h => h) (Steady.plain (by kernel_rfl) ?_) ?_
        rotate_left
        · intro b W hS
          have h0 := hS.2.2.cell 0
          have h1 := hS.2.2.cell 1
          have h2 := hS.2.2.cell 2
          have h3 := hS.2.2.cell 3
          go_simp
          first | done | with_reducible rfl
        simp only [Act.put, List.getElem_toArray, List.getElem_cons_succ, List.getElem_cons_zero, List.setIfInBounds_toArray, List.set_cons_zero, List.set_cons_succ]
        refine wpAnyU_take (i := 26) (v := ?_) (by decide) rfl (by kernel_rfl) (by kernel_rfl) (by kernel_rfl) (fun _ _ _ h => h) (Steady.plain (by kernel_rfl) ?_) ?_
        rotate_left
        · intro b W hS
          have h0 := hS.2.2.cell 0
          have h1 := hS.2.2.cell 1
          have h2 := hS.2.2.cell 2
          have h3 := hS.2.2.cell 3
          go_simp
          first | done | with_reducible rfl
        simp only [Act.put, List.getElem_toArray, List.getElem_cons_succ, List.getElem_cons_zero, List.setIfInBounds_toArray, List.set_cons_zero, List.set_cons_succ]
        refine wpAnyU_done (b := []) (by kernel_rfl) (by kernel_rfl) ?_ _
        intro w' hS
        go_wp2_with fail
        go_ret
        exact ⟨rfl, hS.1⟩
      · cases q4
        · obtain rfl : F = false := hf
          go_enter Tryz.func106, Tryz.ntmps106
          go_wp2_with fail
          rw [← hW]
          clear hW
          refine wp_region_U [] (by kernel_rfl) (BoxS w w.heap.size w.heap.size #[.int .i64 st, strV r, .int .i64 z, .slice ao n cap] 53) (b := []) (by kernel_rfl) HS.drew ?_
          refine wpAnyU_take (i := 0) (v := ?_) (by decide) rfl (by kernel_rfl) (by kernel_rfl) (by kernel_rfl) (fun _ _ _ h => h) (Steady.plain (by kernel_rfl) ?_) ?_
          rotate_left
          · intro b W hS
            have h0 := hS.2.2.cell 0
            have h1 := hS.2.2.cell 1
            have h2 := hS.2.2.cell 2
            have h3 := hS.2.2.cell 3
            go_simp
            first | done | with_reducible rfl
          simp only [Act.put, List.getElem_toArray, List.getElem_cons_zero, List.setIfInBounds_toArray, List.set_cons_zero, List.set_cons_succ]
          refine wpAnyU_take (i := 1) (v := ?_) (by decide) rfl (by kernel_rfl) (by kernel_rfl) (by kernel_rfl) (fun _ _ _ h => h) (Steady.plain (by kernel_rfl) ?_) ?_
          rotate_left
          · intro b W hS
            have h0 := hS.2.2.cell 0
            have h1 := hS.2.2.cell 1
            have h2 := hS.2.2.cell 2
            have h3 := hS.2.2.cell 3
            go_simp
            first | done | with_reducible rfl
          simp only [Act.put, List.getElem_toArray, List.getElem_cons_succ, List.getElem_cons_zero, List.setIfInBounds_toArray, List.set_cons_zero, List.set_cons_succ]
          refine wpAnyU_take (i := 2) (v := .bool true) (by decide) rfl (by kernel_rfl) (by kernel_rfl) (by kernel_rfl) (fun _ _ _ h => h) (Steady.call (f := 125) (args := #[.agg #[.int .i64 z, .slice ao n cap]]) (by kernel_rfl) (fun _ => by kernel_rfl) ?_) ?_
          · intro b W hS
            refine (C1.out W).mono ?_
            rintro e w' ⟨he, hb⟩
            exact ⟨he, hS.below hb⟩
          simp only [Act.put, List.getElem_toArray, List.getElem_cons_succ, List.getElem_cons_zero, List.setIfInBounds_toArray, List.set_cons_zero, List.set_cons_succ]
          refine wpAnyU_take (i := 3) (v := ?_) (by decide) rfl (by kernel_rfl) (by kernel_rfl) (by kernel_rfl) (fun _ _ _ h => h) (Steady.plain (by kernel_rfl) ?_) ?_
          rotate_left
          · intro b W hS
            have h0 := hS.2.2.cell 0
            have h1 := hS.2.2.cell 1
            have h2 := hS.2.2.cell 2
            have h3 := hS.2.2.cell 3
            go_simp
            first | done | with_reducible rfl
          simp only [Act.put, List.getElem_toArray, List.getElem_cons_succ, List.getElem_cons_zero, List.setIfInBounds_toArray, List.set_cons_zero, List.set_cons_succ]
          refine wpAnyU_take (i := 4) (v := ?_) (by decide) rfl (by kernel_rfl) (by kernel_rfl) (by kernel_rfl) (fun _ _ _ h => h) (Steady.plain (by kernel_rfl) ?_) ?_
          rotate_left
          · intro b W hS
            have h0 := hS.2.2.cell 0
            have h1 := hS.2.2.cell 1
            have h2 := hS.2.2.cell 2
            have h3 := hS.2.2.cell 3
            go_simp
            first | done | with_reducible rfl
          simp only [Act.put, List.getElem_toArray, List.getElem_cons_succ, List.getElem_cons_zero, List.setIfInBounds_toArray, List.set_cons_zero, List.set_cons_succ]
          refine wpAnyU_take (i := 5) (v := ?_) (by decide) rfl (by kernel_rfl) (by kernel_rfl) (by kernel_rfl) (fun _ _ _ h => h) (Steady.plain (by kernel_rfl) ?_) ?_
          rotate_left
          · intro b W hS
            have h0 := hS.2.2.cell 0
            have h1 := hS.2.2.cell 1
            have h2 := hS.2.2.cell 2
            have h3 := hS.2.2.cell 3
            go_simp
            first | done | with_reducible rfl
          simp only [Act.put, List.getElem_toArray, List.getElem_cons_succ, List.getElem_cons_zero, List.setIfInBounds_toArray, List.set_cons_zero, List.set_cons_succ]
          refine wpAnyU_take (i := 6) (v := ?_) (by decide) rfl (by kernel_rfl) (by kernel_rfl) (by kernel_rfl) (fun _ _ _ h => h) (Steady.plain (by kernel_rfl) ?_) ?_
          rotate_left
          · intro b W hS
            have h0 := hS.2.2.cell 0
            have h1 := hS.2.2.cell 1
            have h2 := hS.2.2.cell 2
            have h3 := hS.2.2.cell 3
            go_simp
            first | done | with_reducible rfl
          simp only [Act.put, List.getElem_toArray, List.getElem_cons_succ, List.getElem_cons_zero, List.setIfInBounds_toArray, List.set_cons_zero, List.set_cons_succ]
          refine wpAnyU_take (i := 7) (v := ?_) (by decide) rfl (by kernel_rfl) (by kernel_rfl) (by kernel_rfl) (fun _ _ _ h => h) (Steady.plain (by kernel_rfl) ?_) ?_
          rotate_left
          · intro b W hS
            have h0 := hS.2.2.cell 0
            have h1 := hS.2.2.cell 1
            have h2 := hS.2.2.cell 2
            have h3 := hS.2.2.cell 3
            go_simp
            first | done | with_reducible rfl
          simp only [Act.put, List.getElem_toArray, List.getElem_cons_succ, List.getElem_cons_zero, List.setIfInBounds_toArray, List.set_cons_zero, List.set_cons_succ]
          refine wpAnyU_take (i := 8) (v := ?_) (by decide) rfl (by kernel_rfl) (by kernel_rfl) (by kernel_rfl) (fun _ _ _ h => h) (Steady.plain (by kernel_rfl) ?_) ?_
          rotate_left
          · intro b W hS
            have h0 := hS.2.2.cell 0
            have h1 := hS.2.2.cell 1
            have h2 := hS.2.2.cell 2
            have h3 := hS.2.2.cell 3
            go_simp
            first | done | with_reducible rfl
          simp only [Act.put, List.getElem_toArray, List.getElem_cons_succ, List.getElem_cons_zero, List.setIfInBounds_toArray, List.set_cons_zero, List.set_cons_succ]
          refine wpAnyU_take (i := 9) (v := ?_) (by decide) rfl (by kernel_rfl) (by kernel_rfl) (by kernel_rfl) (fun _ _ _ h => h) (Steady.plain (by kernel_rfl) ?_) ?_
          rotate_left
          · intro b W hS
            have h0 := hS.2.2.cell 0
            have h1 := hS.2.2.cell 1
            have h2 := hS.2.2.cell 2
            have h3 := hS.2.2.cell 3
            go_simp
            first | done | with_reducible rfl
          simp only [Act.put, List.getElem_toArray, List.getElem_cons_succ, List.getElem_cons_zero, List.setIfInBounds_toArray, List.set_cons_zero, List.set_cons_succ]
          refine wpAnyU_take (i := 10) (v := ?_) (by decide) rfl (by kernel_rfl) (by kernel_rfl) (by kernel_rfl) (fun _ _ _ h => h) (Steady.plain (by kernel_rfl) ?_) ?_
          rotate_left
          · intro b W hS
            have h0 := hS.2.2.cell 0
            have h1 := hS.2.2.cell 1
            have h2 := hS.2.2.cell 2
            have h3 := hS.2.2.cell 3
            go_simp
            first | done | with_reducible rfl
          simp only [Act.put, List.getElem_toArray, List.getElem_cons_succ, List.getElem_cons_zero, List.setIfInBounds_toArray, List.set_cons_zero, List.set_cons_succ]
          refine wpAnyU_take (i := 11) (v := ?_) (by decide) rfl (by kernel_rfl) (by kernel_rfl) (by kernel_rfl) (fun _ _ _ h => h) (Steady.plain (by kernel_rfl) ?_) ?_
          rotate_left
          · intro b W hS
            have h0 := hS.2.2.cell 0
            have h1 := hS.2.2.cell 1
            have h2 := hS.2.2.cell 2
            have h3 := hS.2.2.cell 3
            go_simp
            first | done | with_reducible rfl
          simp only [Act.put, List.getElem_toArray, List.getElem_cons_succ, List.getElem_cons_zero, List.setIfInBounds_toArray, List.set_cons_zero, List.set_cons_succ]
          refine wpAnyU_take (i := 12) (v := ?_) (by decide) rfl (by kernel_rfl) (by kernel_rfl) (by kernel_rfl) (fun _ _ _ h => h) (Steady.plain (by kernel_rfl) ?_) ?_
          rotate_left
          · intro b W hS
            have h0 := hS.2.2.cell 0
            have h1 := hS.2.2.cell 1
            have h2 := hS.2.2.cell 2
            have h3 := hS.2.2.cell 3
            go_simp
            first | done | with_reducible rfl
          simp only [Act.put, List.getElem_toArray, List.getElem_cons_succ, List.getElem_cons_zero, List.setIfInBounds_toArray, List.set_cons_zero, List.set_cons_succ]
          refine wpAnyU_take (i := 13) (v := ?_) (by decide) rfl (by kernel_rfl) (by kernel_rfl) (by kernel_rfl) (fun _ _ _ h => h) (Steady.plain (by kernel_rfl) ?_) ?_
          rotate_left
          · intro b W hS
            have h0 := hS.2.2.cell 0
            have h1 := hS.2.2.cell 1
            have h2 := hS.2.2.cell 2
            have h3 := hS.2.2.cell 3
            go_simp
            first | done | with_reducible rfl
          simp only [Act.put, List.getElem_toArray, List.getElem_cons_succ, List.getElem_cons_zero, List.setIfInBounds_toArray, List.set_cons_zero, List.set_cons_succ]
          refine wpAnyU_take (i := 14) (v := ?_) (by decide) rfl (by kernel_rfl) (by kernel_rfl) (by kernel_rfl) (fun _ _ _ h => h) (Steady.plain (by kernel_rfl) ?_) ?_
          rotate_left
          · intro b W hS
            have h0 := hS.2.2.cell 0
            have h1 := hS.2.2.cell 1
            have h2 := hS.2.2.cell 2
            have h3 := hS.2.2.cell 3
            go_simp
            first | done | with_reducible rfl
          simp only [Act.put, List.getElem_toArray, List.getElem_cons_succ, List.getElem_cons_zero, List.setIfInBounds_toArray, List.set_cons_zero, List.set_cons_succ]
          refine wpAnyU_take (i := 15) (v := ?_) (by decide) rfl (by kernel_rfl) (by kernel_rfl) (by kernel_rfl) (fun _ _ _ h => h) (Steady.plain (by kernel_rfl) ?_) ?_
          rotate_left
          · intro b W hS
            have h0 := hS.2.2.cell 0
            have h1 := hS.2.2.cell 1
            have h2 := hS.2.2.cell 2
            have h3 := hS.2.2.cell 3
            go_simp
            first | done | with_reducible rfl
          simp only [Act.put, List.getElem_toArray, List.getElem_cons_succ, List.getElem_cons_zero, List.setIfInBounds_toArray, List.set_cons_zero, List.set_cons_succ]
          refine wpAnyU_take (i := 16) (v := .bool false) (by decide) rfl (by kernel_rfl) (by kernel_rfl) (by kernel_rfl) (fun _ _ _ h => h) (Steady.call (f := 123) (args := #[strV r, .func (.func 127) #[] #[]]) (by kernel_rfl) (fun _ => by kernel_rfl) ?_) ?_
          · intro b W hS
            refine (C2.out W).mono ?_
            rintro e w' ⟨he, hb⟩
            exact ⟨he, hS.below hb⟩
          simp only [Act.put, List.getElem_toArray, List.getElem_cons_succ, List.getElem_cons_zero, List.setIfInBounds_toArray, List.set_cons_zero, List.set_cons_succ]
          refine wpAnyU_take (i := 17) (v := ?_) (by decide) rfl (by kernel_rfl) (by kernel_rfl) (by kernel_rfl) (fun _ _ _ h => h) (Steady.plain (by kernel_rfl) ?_) ?_
          rotate_left
          · intro b W hS
            have h0 := hS.2.2.cell 0
            have h1 := hS.2.2.cell 1
            have h2 := hS.2.2.cell 2
            have h3 := hS.2.2.cell 3
            go_simp
            first | done | with_reducible rfl
          simp only [Act.put, List.getElem_toArray, List.getElem_cons_succ, List.getElem_cons_zero, List.setIfInBounds_toArray, List.set_cons_zero, List.set_cons_succ]
          refine wpAnyU_take (i := 18) (v := ?_) (by decide) rfl (by kernel_rfl) (by kernel_rfl) (by kernel_rfl) (fun _ _ _ h => h) (Steady.plain (by kernel_rfl) ?_) ?_
          rotate_left
          · intro b W hS
            have h0 := hS.2.2.cell 0
            have h1 := hS.2.2.cell 1
            have h2 := hS.2.2.cell 2
            have h3 := hS.2.2.cell 3
            go_simp
            first | done | with_reducible rfl
          simp only [Act.put, List.getElem_toArray, List.getElem_cons_succ, List.getElem_cons_zero, List.setIfInBounds_toArray, List.set_cons_zero, List.set_cons_succ]
          refine wpAnyU_take (i := 19) (by decide) rfl (by kernel_rfl) (by kernel_rfl) (by kernel_rfl) (fun _ _ _ h => h) (Steady.off (by kernel_rfl)) ?_
          simp only [Act.put, List.getElem_toArray, List.getElem_cons_succ, List.getElem_cons_zero, List.setIfInBounds_toArray, List.set_cons_zero, List.set_cons_succ]
          refine wpAnyU_take (i := 20) (by decide) rfl (by kernel_rfl) (by kernel_rfl) (by kernel_rfl) (fun _ _ _ h => h) (Steady.off (by kernel_rfl)) ?_
          simp only [Act.put, List.getElem_toArray, List.getElem_cons_succ, List.getElem_cons_zero, List.setIfInBounds_toArray, List.set_cons_zero, List.set_cons_succ]
          refine wpAnyU_take (i := 21) (by decide) rfl (by kernel_rfl) (by kernel_rfl) (by kernel_rfl) (fun _ _ _ h => h) (Steady.off (by kernel_rfl)) ?_
          simp only [Act.put, List.getElem_toArray, List.getElem_cons_succ, List.getElem_cons_zero, List.setIfInBounds_toArray, List.set_cons_zero, List.set_cons_succ]
          refine wpAnyU_take (i := 22) (by decide) rfl (by kernel_rfl) (by kernel_rfl) (by kernel_rfl) (fun _ _ _ h => h) (Steady.off (by kernel_rfl)) ?_
          simp only [Act.put, List.getElem_toArray, List.getElem_cons_succ, List.getElem_cons_zero, List.setIfInBounds_toArray, List.set_cons_zero, List.set_cons_succ]
          refine wpAnyU_take (i := 23) (by decide) rfl (by kernel_rfl) (by kernel_rfl) (by kernel_rfl) (fun _ _ _ h => h) (Steady.off (by kernel_rfl)) ?_
          simp only [Act.put, List.getElem_toArray, List.getElem_cons_succ, List.getElem_cons_zero, List.setIfInBounds_toArray, List.set_cons_zero, List.set_cons_succ]
          refine wpAnyU_take (i := 24) (by decide) rfl (by kernel_rfl) (by kernel_rfl) (by kernel_rfl) (fun _ _ _ h => h) (Steady.off (by kernel_rfl)) ?_
          simp only [Act.put, List.getElem_toArray, List.getElem_cons_succ, List.getElem_cons_zero, List.setIfInBounds_toArray, List.set_cons_zero, List.set_cons_succ]
          refine wpAnyU_take (i := 25) (v := ?_) (by decide) rfl (by kernel_rfl) (by kernel_rfl) (by kernel_rfl) (fun _ _ _ h => h) (Steady.plain (by kernel_rfl) ?_) ?_
          rotate_left
          · intro b W hS
            have h0 := hS.2.2.cell 0
            have h1 := hS.2.2.cell 1
            have h2 := hS.2.2.cell 2
            have h3 := hS.2.2.cell 3
            go_simp
            first | done | with_reducible rfl
          simp only [Act.put, List.getElem_toArray, List.getElem_cons_succ, List.getElem_cons_zero, List.setIfInBounds_toArray, List.set_cons_zero, List.set_cons_succ]
          refine wpAnyU_take (i := 26) (v := ?_) (by decide) rfl (by kernel_rfl) (by kernel_rfl) (by kernel_rfl) (fun _ _ _ h => h) (Steady.plain (by kernel_rfl) ?_) ?_
          rotate_left
          · intro b W hS
            have h0 := hS.2.2.cell 0
            have h1 := hS.2.2.cell 1
            have h2 := hS.2.2.cell 2
            have h3 := hS.2.2.cell 3
            go_simp
            first | done | with_reducible rfl
          simp only [Act.put, List.getElem_toArray, List.getElem_cons_succ, List.getElem_cons_zero, List.setIfInBounds_toArray, List.set_cons_zero, List.set_cons_succ]
          refine wpAnyU_done (b := []) (by kernel_rfl) (by kernel_rfl) ?_ _
          intro w' hS
          go_wp2_with fail
          go_ret
          exact ⟨rfl, hS.1⟩
        · obtain rfl : F = q5 := by rw [hf]; rfl
          clear hf
          go_enter Tryz.func106, Tryz.ntmps106
          go_wp2_with fail
          rw [← hW]
          clear hW
          refine wp_region_U [] (by kernel_rfl) (BoxS w w.heap.size w.heap.size #[.int .i64 st, strV r, .int .i64 z, .slice ao n cap] 53) (b := []) (by kernel_rfl) HS.drew ?_
          refine wpAnyU_take (i := 0) (v := ?_) (by decide) rfl (by kernel_rfl) (by kernel_rfl) (by kernel_rfl) (fun _ _ _ h => h) (Steady.plain (by kernel_rfl) ?_) ?_
          rotate_left
          · intro b W hS
            have h0 := hS.2.2.cell 0
            have h1 := hS.2.2.cell 1
            have h2 := hS.2.2.cell 2
            have h3 := hS.2.2.cell 3
            go_simp
            first | done | with_reducible rfl
          simp only [Act.put, List.getElem_toArray, List.getElem_cons_zero, List.setIfInBounds_toArray, List.set_cons_zero, List.set_cons_succ]
          refine wpAnyU_take (i := 1) (v := ?_) (by decide) rfl (by kernel_rfl) (by kernel_rfl) (by kernel_rfl) (fun _ _ _ h => h) (Steady.plain (by kernel_rfl) ?_) ?_
          rotate_left
          · intro b W hS
            have h0 := hS.2.2.cell 0
            have h1 := hS.2.2.cell 1
            have h2 := hS.2.2.cell 2
            have h3 := hS.2.2.cell 3
            go_simp
            first | done | with_reducible rfl
          simp only [Act.put, List.getElem_toArray, List.getElem_cons_succ, List.getElem_cons_zero, List.setIfInBounds_toArray, List.set_cons_zero, List.set_cons_succ]
          refine wpAnyU_take (i := 2) (v := .bool true) (by decide) rfl (by kernel_rfl) (by kernel_rfl) (by kernel_rfl) (fun _ _ _ h => h) (Steady.call (f := 125) (args := #[.agg #[.int .i64 z, .slice ao n cap]]) (by kernel_rfl) (fun _ => by kernel_rfl) ?_) ?_
          · intro b W hS
            refine (C1.out W).mono ?_
            rintro e w' ⟨he, hb⟩
            exact ⟨he, hS.below hb⟩
          simp only [Act.put, List.getElem_toArray, List.getElem_cons_succ, List.getElem_cons_zero, List.setIfInBounds_toArray, List.set_cons_zero, List.set_cons_succ]
          refine wpAnyU_take (i := 3) (v := ?_) (by decide) rfl (by kernel_rfl) (by kernel_rfl) (by kernel_rfl) (fun _ _ _ h => h) (Steady.plain (by kernel_rfl) ?_) ?_
          rotate_left
          · intro b W hS
            have h0 := hS.2.2.cell 0
            have h1 := hS.2.2.cell 1
            have h2 := hS.2.2.cell 2
            have h3 := hS.2.2.cell 3
            go_simp
            first | done | with_reducible rfl
          simp only [Act.put, List.getElem_toArray, List.getElem_cons_succ, List.getElem_cons_zero, List.setIfInBounds_toArray, List.set_cons_zero, List.set_cons_succ]
          refine wpAnyU_take (i := 4) (v := ?_) (by decide) rfl (by kernel_rfl) (by kernel_rfl) (by kernel_rfl) (fun _ _ _ h => h) (Steady.plain (by kernel_rfl) ?_) ?_
          rotate_left
          · intro b W hS
            have h0 := hS.2.2.cell 0
            have h1 := hS.2.2.cell 1
            have h2 := hS.2.2.cell 2
            have h3 := hS.2.2.cell 3
            go_simp
            first | done | with_reducible rfl
          simp only [Act.put, List.getElem_toArray, List.getElem_cons_succ, List.getElem_cons_zero, List.setIfInBounds_toArray, List.set_cons_zero, List.set_cons_succ]
          refine wpAnyU_take (i := 5) (v := ?_) (by decide) rfl (by kernel_rfl) (by kernel_rfl) (by kernel_rfl) (fun _ _ _ h => h) (Steady.plain (by kernel_rfl) ?_) ?_
          rotate_left
          · intro b W hS
            have h0 := hS.2.2.cell 0
            have h1 := hS.2.2.cell 1
            have h2 := hS.2.2.cell 2
            have h3 := hS.2.2.cell 3
            go_simp
            first | done | with_reducible rfl
          simp only [Act.put, List.getElem_toArray, List.getElem_cons_succ, List.getElem_cons_zero, List.setIfInBounds_toArray, List.set_cons_zero, List.set_cons_succ]
          refine wpAnyU_take (i := 6) (v := ?_) (by decide) rfl (by kernel_rfl) (by kernel_rfl) (by kernel_rfl) (fun _ _ _ h => h) (Steady.plain (by kernel_rfl) ?_) ?_
          rotate_left
          · intro b W hS
            have h0 := hS.2.2.cell 0
            have h1 := hS.2.2.cell 1
            have h2 := hS.2.2.cell 2
            have h3 := hS.2.2.cell 3
            go_simp
            first | done | with_reducible rfl
          simp only [Act.put, List.getElem_toArray, List.getElem_cons_succ, List.getElem_cons_zero, List.setIfInBounds_toArray, List.set_cons_zero, List.set_cons_succ]
          refine wpAnyU_take (i := 7) (v := ?_) (by decide) rfl (by kernel_rfl) (by kernel_rfl) (by kernel_rfl) (fun _ _ _ h => h) (Steady.plain (by kernel_rfl) ?_) ?_
          rotate_left
          · intro b W hS
            have h0 := hS.2.2.cell 0
            have h1 := hS.2.2.cell 1
            have h2 := hS.2.2.cell 2
            have h3 := hS.2.2.cell 3
            go_simp
            first | done | with_reducible rfl
          simp only [Act.put, List.getElem_toArray, List.getElem_cons_succ, List.getElem_cons_zero, List.setIfInBounds_toArray, List.set_cons_zero, List.set_cons_succ]
          refine wpAnyU_take (i := 8) (v := ?_) (by decide) rfl (by kernel_rfl) (by kernel_rfl) (by kernel_rfl) (fun _ _ _ h => h) (Steady.plain (by kernel_rfl) ?_) ?_
          rotate_left
          · intro b W hS
            have h0 := hS.2.2.cell 0
            have h1 := hS.2.2.cell 1
            have h2 := hS.2.2.cell 2
            have h3 := hS.2.2.cell 3
            go_simp
            first | done | with_reducible rfl
          simp only [Act.put, List.getElem_toArray, List.getElem_cons_succ, List.getElem_cons_zero, List.setIfInBounds_toArray, List.set_cons_zero, List.set_cons_succ]
          refine wpAnyU_take (i := 9) (v := ?_) (by decide) rfl (by kernel_rfl) (by kernel_rfl) (by kernel_rfl) (fun _ _ _ h => h) (Steady.plain (by kernel_rfl) ?_) ?_
          rotate_left
          · intro b W hS
            have h0 := hS.2.2.cell 0
            have h1 := hS.2.2.cell 1
            have h2 := hS.2.2.cell 2
            have h3 := hS.2.2.cell 3
            go_simp
            first | done | with_reducible rfl
          simp only [Act.put, List.getElem_toArray, List.getElem_cons_succ, List.getElem_cons_zero, List.setIfInBounds_toArray, List.set_cons_zero, List.set_cons_succ]
          refine wpAnyU_take (i := 10) (v := ?_) (by decide) rfl (by kernel_rfl) (by kernel_rfl) (by kernel_rfl) (fun _ _ _ h => h) (Steady.plain (by kernel_rfl) ?_) ?_
          rotate_left
          · intro b W hS
            have h0 := hS.2.2.cell 0
            have h1 := hS.2.2.cell 1
            have h2 := hS.2.2.cell 2
            have h3 := hS.2.2.cell 3
            go_simp
            first | done | with_reducible rfl
          simp only [Act.put, List.getElem_toArray, List.getElem_cons_succ, List.getElem_cons_zero, List.setIfInBounds_toArray, List.set_cons_zero, List.set_cons_succ]
          refine wpAnyU_take (i := 11) (v := ?_) (by decide) rfl (by kernel_rfl) (by kernel_rfl) (by kernel_rfl) (fun _ _ _ h => h) (Steady.plain (by kernel_rfl) ?_) ?_
          rotate_left
          · intro b W hS
            have h0 := hS.2.2.cell 0
            have h1 := hS.2.2.cell 1
            have h2 := hS.2.2.cell 2
            have h3 := hS.2.2.cell 3
            go_simp
            first | done | with_reducible rfl
          simp only [Act.put, List.getElem_toArray, List.getElem_cons_succ, List.getElem_cons_zero, List.setIfInBounds_toArray, List.set_cons_zero, List.set_cons_succ]
          refine wpAnyU_take (i := 12) (v := ?_) (by decide) rfl (by kernel_rfl) (by kernel_rfl) (by kernel_rfl) (fun _ _ _ h => h) (Steady.plain (by kernel_rfl) ?_) ?_
          rotate_left
          · intro b W hS
            have h0 := hS.2.2.cell 0
            have h1 := hS.2.2.cell 1
            have h2 := hS.2.2.cell 2
            have h3 := hS.2.2.cell 3
            go_simp
            first | done | with_reducible rfl
          simp only [Act.put, List.getElem_toArray, List.getElem_cons_succ, List.getElem_cons_zero, List.setIfInBounds_toArray, List.set_cons_zero, List.set_cons_succ]
          refine wpAnyU_take (i := 13) (v := ?_) (by decide) rfl (by kernel_rfl) (by kernel_rfl) (by kernel_rfl) (fun _ _ _ h => h) (Steady.plain (by kernel_rfl) ?_) ?_
          rotate_left
          · intro b W hS
            have h0 := hS.2.2.cell 0
            have h1 := hS.2.2.cell 1
            have h2 := hS.2.2.cell 2
            have h3 := hS.2.2.cell 3
            go_simp
            first | done | with_reducible rfl
          simp only [Act.put, List.getElem_toArray, List.getElem_cons_succ, List.getElem_cons_zero, List.setIfInBounds_toArray, List.set_cons_zero, List.set_cons_succ]
          refine wpAnyU_take (i := 14) (v := ?_) (by decide) rfl (by kernel_rfl) (by kernel_rfl) (by kernel_rfl) (fun _ _ _ h => h) (Steady.plain (by kernel_rfl) ?_) ?_
          rotate_left
          · intro b W hS
            have h0 := hS.2.2.cell 0
            have h1 := hS.2.2.cell 1
            have h2 := hS.2.2.cell 2
            have h3 := hS.2.2.cell 3
            go_simp
            first | done | with_reducible rfl
          simp only [Act.put, List.getElem_toArray, List.getElem_cons_succ, List.getElem_cons_zero, List.setIfInBounds_toArray, List.set_cons_zero, List.set_cons_succ]
          refine wpAnyU_take (i := 15) (v := ?_) (by decide) rfl (by kernel_rfl) (by kernel_rfl) (by kernel_rfl) (fun _ _ _ h => h) (Steady.plain (by kernel_rfl) ?_) ?_
          rotate_left
          · intro b W hS
            have h0 := hS.2.2.cell 0
            have h1 := hS.2.2.cell 1
            have h2 := hS.2.2.cell 2
            have h3 := hS.2.2.cell 3
            go_simp
            first | done | with_reducible rfl
          simp only [Act.put, List.getElem_toArray, List.getElem_cons_succ, List.getElem_cons_zero, List.setIfInBounds_toArray, List.set_cons_zero, List.set_cons_succ]
          refine wpAnyU_take (i := 16) (v := .bool true) (by decide) rfl (by kernel_rfl) (by kernel_rfl) (by kernel_rfl) (fun _ _ _ h => h) (Steady.call (f := 123) (args := #[strV r, .func (.func 127) #[] #[]]) (by kernel_rfl) (fun _ => by kernel_rfl) ?_) ?_
          · intro b W hS
            refine (C2.out W).mono ?_
            rintro e w' ⟨he, hb⟩
            exact ⟨he, hS.below hb⟩
          simp only [Act.put, List.getElem_toArray, List.getElem_cons_succ, List.getElem_cons_zero, List.setIfInBounds_toArray, List.set_cons_zero, List.set_cons_succ]
          refine wpAnyU_take (i := 17) (v := ?_) (by decide) rfl (by kernel_rfl) (by kernel_rfl) (by kernel_rfl) (fun _ _ _ h => h) (Steady.plain (by kernel_rfl) ?_) ?_
          rotate_left
          · intro b W hS
            have h0 := hS.2.2.cell 0
            have h1 := hS.2.2.cell 1
            have h2 := hS.2.2.cell 2
            have h3 := hS.2.2.cell 3
            go_simp
            first | done | with_reducible rfl
          simp only [Act.put, List.getElem_toArray, List.getElem_cons_succ, List.getElem_cons_zero, List.setIfInBounds_toArray, List.set_cons_zero, List.set_cons_succ]
          refine wpAnyU_take (i := 18) (v := ?_) (by decide) rfl (by kernel_rfl) (by kernel_rfl) (by kernel_rfl) (fun _ _ _ h => h) (Steady.plain (by kernel_rfl) ?_) ?_
          rotate_left
          · intro b W hS
            have h0 := hS.2.2.cell 0
            have h1 := hS.2.2.cell 1
            have h2 := hS.2.2.cell 2
            have h3 := hS.2.2.cell 3
            go_simp
            first | done | with_reducible rfl
          simp only [Act.put, List.getElem_toArray, List.getElem_cons_succ, List.getElem_cons_zero, List.setIfInBounds_toArray, List.set_cons_zero, List.set_cons_succ]
          refine wpAnyU_take (i := 19) (v := ?_) (by decide) rfl (by kernel_rfl) (by kernel_rfl) (by kernel_rfl) (fun _ _ _ h => h) (Steady.plain (by kernel_rfl) ?_) ?_
          rotate_left
          · intro b W hS
            have h0 := hS.2.2.cell 0
            have h1 := hS.2.2.cell 1
            have h2 := hS.2.2.cell 2
            have h3 := hS.2.2.cell 3
            go_simp
            first | done | with_reducible rfl
          simp only [Act.put, List.getElem_toArray, List.getElem_cons_succ, List.getElem_cons_zero, List.setIfInBounds_toArray, List.set_cons_zero, List.set_cons_succ]
          refine wpAnyU_take (i := 20) (v := ?_) (by decide) rfl (by kernel_rfl) (by kernel_rfl) (by kernel_rfl) (fun _ _ _ h => h) (Steady.plain (by kernel_rfl) ?_) ?_
          rotate_left
          · intro b W hS
            have h0 := hS.2.2.cell 0
            have h1 := hS.2.2.cell 1
            have h2 := hS.2.2.cell 2
            have h3 := hS.2.2.cell 3
            go_simp
            first | done | with_reducible rfl
          simp only [Act.put, List.getElem_toArray, List.getElem_cons_succ, List.getElem_cons_zero, List.setIfInBounds_toArray, List.set_cons_zero, List.set_cons_succ]
          refine wpAnyU_take (i := 21) (v := strV T) (by decide) rfl (by kernel_rfl) (by kernel_rfl) (by kernel_rfl) (fun _ _ _ h => h) (Steady.call (f := 126) (args := #[strV r]) (by kernel_rfl) (fun _ => by kernel_rfl) ?_) ?_
          · intro b W hS
            refine (C3.out W).mono ?_
            rintro e w' ⟨he, hb⟩
            exact ⟨he, hS.below hb⟩
          simp only [Act.put, List.getElem_toArray, List.getElem_cons_succ, List.getElem_cons_zero, List.setIfInBounds_toArray, List.set_cons_zero, List.set_cons_succ]
          refine wpAnyU_take (i := 22) (v := ?_) (by decide) rfl (by kernel_rfl) (by kernel_rfl) (by kernel_rfl) (fun _ _ _ h => h) (Steady.plain (by kernel_rfl) ?_) ?_
          rotate_left
          · intro b W hS
            have h0 := hS.2.2.cell 0
            have h1 := hS.2.2.cell 1
            have h2 := hS.2.2.cell 2
            have h3 := hS.2.2.cell 3
            go_simp
            first | done | with_reducible rfl
          simp only [Act.put, List.getElem_toArray, List.getElem_cons_succ, List.getElem_cons_zero, List.setIfInBounds_toArray, List.set_cons_zero, List.set_cons_succ]
          refine wpAnyU_take (i := 23) (v := ?_) (by decide) rfl (by kernel_rfl) (by kernel_rfl) (by kernel_rfl) (fun _ _ _ h => h) (Steady.plain (by kernel_rfl) ?_) ?_
          rotate_left
          · intro b W hS
            have h0 := hS.2.2.cell 0
            have h1 := hS.2.2.cell 1
            have h2 := hS.2.2.cell 2
            have h3 := hS.2.2.cell 3
            go_simp
            first | done | with_reducible rfl
          simp only [Act.put, List.getElem_toArray, List.getElem_cons_succ, List.getElem_cons_zero, List.setIfInBounds_toArray, List.set_cons_zero, List.set_cons_succ]
          refine wpAnyU_take (i := 24) (v := ?_) (by decide) rfl (by kernel_rfl) (by kernel_rfl) (by kernel_rfl) (fun _ _ _ h => h) (Steady.plain (by kernel_rfl) ?_) ?_
          rotate_left
          · intro b W hS
            have h0 := hS.2.2.cell 0
            have h1 := hS.2.2.cell 1
            have h2 := hS.2.2.cell 2
            have h3 := hS.2.2.cell 3
            go_simp
            first | done | with_reducible rfl
          simp only [Act.put, List.getElem_toArray, List.getElem_cons_succ, List.getElem_cons_zero, List.setIfInBounds_toArray, List.set_cons_zero, List.set_cons_succ]
          refine wpAnyU_take (i := 25) (v := ?_) (by decide) rfl (by kernel_rfl) (by kernel_rfl) (by kernel_rfl) (fun _ _ _ h => h) (Steady.plain (by kernel_rfl) ?_) ?_
          rotate_left
          · intro b W hS
            have h0 := hS.2.2.cell 0
            have h1 := hS.2.2.cell 1
            have h2 := hS.2.2.cell 2
            have h3 := hS.2.2.cell 3
            go_simp
            first | done | with_reducible rfl
          simp only [Act.put, List.getElem_toArray, List.getElem_cons_succ, List.getElem_cons_zero, List.setIfInBounds_toArray, List.set_cons_zero, List.set_cons_succ]
          refine wpAnyU_take (i := 26) (v := ?_) (by decide) rfl (by kernel_rfl) (by kernel_rfl) (by kernel_rfl) (fun _ _ _ h => h) (Steady.plain (by kernel_rfl) ?_) ?_
          rotate_left
          · intro b W hS
            have h0 := hS.2.2.cell 0
            have h1 := hS.2.2.cell 1
            have h2 := hS.2.2.cell 2
            have h3 := hS.2.2.cell 3
            go_simp
            first | done | with_reducible rfl
          simp only [Act.put, List.getElem_toArray, List.getElem_cons_succ, List.getElem_cons_zero, List.setIfInBounds_toArray, List.set_cons_zero, List.set_cons_succ]
          refine wpAnyU_done (b := []) (by kernel_rfl) (by kernel_rfl) ?_ _
          intro w' hS
          go_wp2_with fail
          go_ret
          exact ⟨rfl, hS.1⟩
end Go.Proofs.YtongceljdgmbdaaGreatDoor
