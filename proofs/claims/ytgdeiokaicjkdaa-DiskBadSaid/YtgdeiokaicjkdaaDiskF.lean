/-
  Package disk: New.
-/
import Derived.Test.YtgdeiokaicjkdaaDiskB
set_option linter.unusedVariables false
set_option linter.unusedSimpArgs false
namespace Go.Proofs.Ytgdeiokaicjkdaa
open Go.RowKit Go.Pantry

/-- what New lays -/
theorem laid_new {W : World} {g gs gm gb n : Nat} (h0 : 0 < n) (h1 : n ≤ 4096) (hr : rowIs W g #[.slice (some ⟨gs, 0, none⟩) n n, .map (some gm), .slice (some ⟨gb, 0, none⟩) n n, .int .i64 (-1), .bool false] 61) (hs : rowIs W gs (Array.replicate (n * 64) (.int .u8 0)) 64)
    (hm : W.heap[gm]? = some (.map #[] 0)) (hb : rowIs W gb (Array.replicate n (.bool false)) 4) (hn : g ≠ gs ∧ g ≠ gm ∧ g ≠ gb ∧ gs ≠ gm ∧ gs ≠ gb ∧ gm ≠ gb) : LAt W g gs gm gb n (-1) (.map []) (newDk n) := by
  refine ⟨hr, SecRow.new hs, ⟨#[], 0, hm, ⟨by simp, (MapKept.stamped_iff #[] 0).2 ⟨by simp, by simp, by simp⟩, by simp⟩, Nat.le_refl _, rfl⟩, ?_, PendAt.new n, ok_new n, h0, h1, by omega, by omega, fun _ => rfl, hn⟩
  show rowIs W gb ((List.replicate n false).map Value.bool).toArray _
  rw [List.map_replicate, List.toArray_replicate]
  exact hb
set_option maxRecDepth 8000 in
theorem lNew_none (n : Int) (w : World) (hn : ¬ (1 ≤ n ∧ n ≤ 4096)) :
    Calls Try.prog 10 #[.int .i64 n] w fun e w' => Below w.heap.size w w' ∧ e = .returned (.pointer none) := by
  by_cases h1 : n < 1
  · go_enter Try.func10, Try.ntmps10
    go_wp2
    go_ret
    exact ⟨Below.refl _ _, rfl⟩
  · have h2 : 4096 < n := by omega
    clear hn
    go_enter Try.func10, Try.ntmps10
    go_wp2
    go_ret
    exact ⟨Below.refl _ _, rfl⟩
theorem new_fin {w : World} {a b c d : Obj} {e : Ending} {n g gs gm gb : Nat} (h0 : 0 < n) (h1 : n ≤ 4096)
    (hq : ∀ W : World, W.heap[w.heap.size]? = some a → W.heap[w.heap.size + 1]? = some b → W.heap[w.heap.size + 1 + 1]? = some c → W.heap[w.heap.size + 1 + 1 + 1]? = some d →
      rowIs W g #[.slice (some ⟨gs, 0, none⟩) n n, .map (some gm), .slice (some ⟨gb, 0, none⟩) n n, .int .i64 (-1), .bool false] 61 ∧ rowIs W gs (Array.replicate (n * 64) (.int .u8 0)) 64 ∧ W.heap[gm]? = some (.map #[] 0) ∧ rowIs W gb (Array.replicate n (.bool false)) 4)
    (he : e = .returned (.pointer (some ⟨g, 0, none⟩))) (hn : g ≠ gs ∧ g ≠ gm ∧ g ≠ gb ∧ gs ≠ gm ∧ gs ≠ gb ∧ gm ≠ gb) (hl : ∀ k, FL g gs gm gb k → w.heap.size ≤ k) :
    Below w.heap.size w ((((w.alloc a).alloc b).alloc c).alloc d).drew ∧ ∃ g gs gm gb, e = .returned (.pointer (some ⟨g, 0, none⟩)) ∧ LAt ((((w.alloc a).alloc b).alloc c).alloc d).drew g gs gm gb n (-1) (.map []) (newDk n) ∧ ∀ k, FL g gs gm gb k → w.heap.size ≤ k := by
  have e1 : (w.alloc a).heap.size = w.heap.size + 1 := by simp
  have e2 : ((w.alloc a).alloc b).heap.size = w.heap.size + 1 + 1 := by simp
  have e3 : (((w.alloc a).alloc b).alloc c).heap.size = w.heap.size + 1 + 1 + 1 := by simp
  have hd : ∀ k : Nat, ((((w.alloc a).alloc b).alloc c).alloc d).drew.heap[k]? = ((((w.alloc a).alloc b).alloc c).alloc d).heap[k]? := fun _ => rfl
  obtain ⟨r0, r1, r2, r3⟩ := hq ((((w.alloc a).alloc b).alloc c).alloc d).drew
    (by rw [hd, heap_alloc_at, heap_alloc_at, heap_alloc_at, heap_alloc_at, e1, e2, e3, if_neg (by omega), if_neg (by omega), if_neg (by omega), if_pos rfl])
    (by rw [hd, heap_alloc_at, heap_alloc_at, heap_alloc_at, e1, e2, e3, if_neg (by omega), if_neg (by omega), if_pos rfl])
    (by rw [hd, heap_alloc_at, heap_alloc_at, e2, e3, if_neg (by omega), if_pos rfl])
    (by rw [hd, heap_alloc_at, e3, if_pos rfl])
  refine ⟨(((((Below.refl _ _).alloc (Nat.le_refl _) _).alloc (by rw [e1]; omega) _).alloc (by rw [e2]; omega) _).alloc (by rw [e3]; omega) _).drew, g, gs, gm, gb, he, laid_new h0 h1 r0 r1 r2 r3 hn, hl⟩
set_option maxRecDepth 8000 in
set_option maxHeartbeats 2000000 in
theorem lNew_any (n : Nat) (w : World) (h0 : 0 < n) (h1 : n ≤ 4096) :
    Calls Try.prog 10 #[.int .i64 (n : Int)] w fun e w' => Below w.heap.size w w' ∧ ∃ g gs gm gb, e = .returned (.pointer (some ⟨g, 0, none⟩)) ∧ LAt w' g gs gm gb n (-1) (.map []) (newDk n) ∧ ∀ k, FL g gs gm gb k → w.heap.size ≤ k := by
  have hms := make_rep (P := Try.prog) 58 64 (z := secV blankS) (z1 := .int .u8 0) (m := 64) (bytes := 64) Try.underlying58 (by kernel_rfl) rfl (by decide) (by decide) n (by omega)
  have hmb := make_rep (P := Try.prog) 30 4 (z := .bool false) (z1 := .bool false) (m := 1) (bytes := 1) Try.underlying30 (by kernel_rfl) rfl (by decide) (by decide) n (by omega)
  rw [Nat.mul_one] at hmb
  have hmm := @run_makeMap Try.prog
  go_enter Try.func10, Try.ntmps10
  go_wp2_with fail
  go_region
  all_goals
    go_wp2_with fail
    go_ret
    refine new_fin h0 h1 (fun W q0 q1 q2 q3 => ⟨q3, ?_, ?_, ?_⟩) rfl ?_ ?_
    · first | exact q0 | exact q1 | exact q2
    · first | exact q0 | exact q1 | exact q2
    · first | exact q0 | exact q1 | exact q2
    · omega
    · intro k hk
      rcases hk with rfl | rfl | rfl | rfl <;> omega
end Go.Proofs.Ytgdeiokaicjkdaa
