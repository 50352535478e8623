/-
  Contracts of package head: readRequestLine, readFields.
-/
import Derived.Test.YtongceljdgmbdaaGreatDoorHeadD
import Derived.StillTailTactics
namespace Go.Proofs.YtongceljdgmbdaaGreatDoor
open Go.RowKit Go.Pantry

theorem infoReqS : (Tryz.prog.info? 40).map (·.size) = some 4 := by kernel_rfl
theorem one4 (a b : List UInt8) (z : Int) (ao : Option Addr) (n c : Nat) : (#[strV a, strV b, .int .i64 z, .slice ao n c] : Array Value).all (·.oneCell') = true := by simp [Value.oneCell']
theorem one4' (z y : Int) (b : List UInt8) (ao : Option Addr) (n c : Nat) : (#[.int .i64 z, strV b, .int .i64 y, .slice ao n c] : Array Value).all (·.oneCell') = true := by simp [Value.oneCell']
/-- what a request's first line tells: an error, and (where it is none) what it has -/
def reqP (s : List UInt8) : List UInt8 × List UInt8 × Int × Int := match piecesL [32] s.length s with
  | [m, t, v] => (m, t, minorZ v, judgeZ (formedR m t (minorZ v)) (longR m t))
  | _ => ([], [], 0, 21)
set_option maxRecDepth 100000 in
set_option maxHeartbeats 4000000 in
theorem readRequestLine_any (s : List UInt8) (w : World) (hm : MaxOk w) (hs : s.length ≤ 100000) :
    Calls Tryz.prog 58 #[strV s] w fun e w' => e = .returned (.tuple #[reqV (reqP s).1 (reqP s).2.1 (reqP s).2.2.1 none 0 0, .int .i64 (reqP s).2.2.2]) ∧ Below w.heap.size w w' := by
  have c0 := fun W h => Split2_any s [32] W (by decide) h (by omega)
  have hps : ∀ a ∈ piecesL [32] s.length s, a.length ≤ 100000 := fun a ha => Nat.le_trans (pieces_size _ _ _ a ha) hs
  have hpl : (piecesL [32] s.length s).length < 4294967296 := by
    have := pieces_num (w := [32]) (by decide) s.length s (Nat.le_refl _)
    omega
  have hd : reqP s = match piecesL [32] s.length s with
    | [m, t, v] => (m, t, minorZ v, judgeZ (formedR m t (minorZ v)) (longR m t))
    | _ => ([], [], 0, 21) := rfl
  generalize reqP s = r at hd ⊢
  generalize piecesL [32] s.length s = l at c0 hps hpl hd
  have C0 := hid c0
  clear c0
  obtain ⟨W0, hW0⟩ : ∃ W, W = w.alloc (.cells #[.string ⟨#[]⟩, .string ⟨#[]⟩, .int .i64 0, .slice none 0 0] 40) := ⟨_, rfl⟩
  have hb0 : Below w.heap.size w W0 := by rw [hW0]; exact below_alloc _ _
  have hr0 : rowIs W0 w.heap.size #[.string ⟨#[]⟩, .string ⟨#[]⟩, .int .i64 0, .slice none 0 0] 40 := by rw [hW0]; exact rowIs_new _ _ _
  by_cases h3 : l.length = 3
  · obtain ⟨m, t, v, rfl⟩ : ∃ m t v, l = [m, t, v] := by
      match l, h3 with
      | [m, t, v], _ => exact ⟨m, t, v, rfl⟩
    simp only at hd
    subst hd
    have hml := hps m (by simp)
    have htl := hps t (by simp)
    clear hps hpl h3
    have c1 := fun W => minorOf_any v W
    generalize minorZ v = z at c1 ⊢
    have c2 := fun W => qformed_any m t z none 0 0 W hml htl
    have c3 := fun W => qlong_any m t z none 0 0 W
    generalize formedR m t z = q1 at c2 ⊢
    generalize longR m t = q2 at c3 ⊢
    have C1 := hid c1
    have C2 := hid c2
    have C3 := hid c3
    clear c1 c2 c3 hml htl
    go_enter Tryz.func58, Tryz.ntmps58
    go_wp2_with fail
    rw [← hW0]
    clear hW0
    refine (C0.out _ (hm.below hb0)).mono ?_
    rintro e w1 ⟨rfl, rfl⟩
    have hbA := below_alloc W0 (.cells ([m, t, v].map strV).toArray 9)
    have g0 : (W0.alloc (.cells ([m, t, v].map strV).toArray 9)).cell? ⟨W0.heap.size, 0, none⟩ = some (strV m) := by rw [World.cell?_alloc_at _ _ _ _ rfl]; rfl
    have g1 : (W0.alloc (.cells ([m, t, v].map strV).toArray 9)).cell? ⟨W0.heap.size, 1, none⟩ = some (strV t) := by rw [World.cell?_alloc_at _ _ _ _ rfl]; rfl
    have g2 : (W0.alloc (.cells ([m, t, v].map strV).toArray 9)).cell? ⟨W0.heap.size, 2, none⟩ = some (strV v) := by rw [World.cell?_alloc_at _ _ _ _ rfl]; rfl
    generalize hW1 : W0.alloc (.cells ([m, t, v].map strV).toArray 9) = W1 at hbA g0 g1 g2 ⊢
    clear hW1
    have hr1 := hr0.below hbA
    have hbb := chain2 hb0 hb0.size hbA
    clear hbA hb0 hr0 hm
    go_wp2_with fail
    refine wp_region_U [12, 13] (by kernel_rfl) (NewS W1 #[.string ⟨#[]⟩, .string ⟨#[]⟩, .int .i64 0, .slice none 0 0] #[strV m, strV t, .int .i64 z, .slice none 0 0] 40) (b := [false, false]) (by kernel_rfl) (NewS.begin _ _ _ _) ?_
    refine wpAnyU_take (i := 0) (v := ?_) (by decide) rfl (by kernel_rfl) (by kernel_rfl) (by kernel_rfl) (fun _ _ _ h => h) (Steady.plain (by kernel_rfl) ?_) ?_
    rotate_left
    · intro b W hS
      have h0 := kept g0 hS.1
      have h1 := kept g1 hS.1
      have h2 := kept g2 hS.1
      go_simp
      first | done | with_reducible rfl
    simp only [Act.put, List.getElem_toArray, List.getElem_cons_zero, List.setIfInBounds_toArray, List.set_cons_zero, List.set_cons_succ]
    refine wpAnyU_take (i := 1) (v := ?_) (by decide) rfl (by kernel_rfl) (by kernel_rfl) (by kernel_rfl) (fun _ _ _ h => h) (Steady.plain (by kernel_rfl) ?_) ?_
    rotate_left
    · intro b W hS
      have h0 := kept g0 hS.1
      have h1 := kept g1 hS.1
      have h2 := kept g2 hS.1
      go_simp
      first | done | with_reducible rfl
    simp only [Act.put, List.getElem_toArray, List.getElem_cons_succ, List.getElem_cons_zero, List.setIfInBounds_toArray, List.set_cons_zero, List.set_cons_succ]
    refine wpAnyU_take (i := 2) (v := ?_) (by decide) rfl (by kernel_rfl) (by kernel_rfl) (by kernel_rfl) (fun _ _ _ h => h) (Steady.plain (by kernel_rfl) ?_) ?_
    rotate_left
    · intro b W hS
      have h0 := kept g0 hS.1
      have h1 := kept g1 hS.1
      have h2 := kept g2 hS.1
      go_simp
      first | done | with_reducible rfl
    simp only [Act.put, List.getElem_toArray, List.getElem_cons_succ, List.getElem_cons_zero, List.setIfInBounds_toArray, List.set_cons_zero, List.set_cons_succ]
    refine wpAnyU_take (i := 3) (v := ?_) (by decide) rfl (by kernel_rfl) (by kernel_rfl) (by kernel_rfl) (fun _ _ _ h => h) (Steady.plain (by kernel_rfl) ?_) ?_
    rotate_left
    · intro b W hS
      have h0 := kept g0 hS.1
      have h1 := kept g1 hS.1
      have h2 := kept g2 hS.1
      go_simp
      first | done | with_reducible rfl
    simp only [Act.put, List.getElem_toArray, List.getElem_cons_succ, List.getElem_cons_zero, List.setIfInBounds_toArray, List.set_cons_zero, List.set_cons_succ]
    refine wpAnyU_take (i := 4) (v := ?_) (by decide) rfl (by kernel_rfl) (by kernel_rfl) (by kernel_rfl) (fun _ _ _ h => h) (Steady.plain (by kernel_rfl) ?_) ?_
    rotate_left
    · intro b W hS
      have h0 := kept g0 hS.1
      have h1 := kept g1 hS.1
      have h2 := kept g2 hS.1
      go_simp
      first | done | with_reducible rfl
    simp only [Act.put, List.getElem_toArray, List.getElem_cons_succ, List.getElem_cons_zero, List.setIfInBounds_toArray, List.set_cons_zero, List.set_cons_succ]
    refine wpAnyU_take (i := 5) (v := ?_) (by decide) rfl (by kernel_rfl) (by kernel_rfl) (by kernel_rfl) (fun _ _ _ h => h) (Steady.plain (by kernel_rfl) ?_) ?_
    rotate_left
    · intro b W hS
      have h0 := kept g0 hS.1
      have h1 := kept g1 hS.1
      have h2 := kept g2 hS.1
      go_simp
      first | done | with_reducible rfl
    simp only [Act.put, List.getElem_toArray, List.getElem_cons_succ, List.getElem_cons_zero, List.setIfInBounds_toArray, List.set_cons_zero, List.set_cons_succ]
    refine wpAnyU_take (i := 6) (v := ?_) (by decide) rfl (by kernel_rfl) (by kernel_rfl) (by kernel_rfl) (fun _ _ _ h => h) (Steady.plain (by kernel_rfl) ?_) ?_
    rotate_left
    · intro b W hS
      have h0 := kept g0 hS.1
      have h1 := kept g1 hS.1
      have h2 := kept g2 hS.1
      go_simp
      first | done | with_reducible rfl
    simp only [Act.put, List.getElem_toArray, List.getElem_cons_succ, List.getElem_cons_zero, List.setIfInBounds_toArray, List.set_cons_zero, List.set_cons_succ]
    refine wpAnyU_take (i := 7) (v := ?_) (by decide) rfl (by kernel_rfl) (by kernel_rfl) (by kernel_rfl) (fun _ _ _ h => h) (Steady.plain (by kernel_rfl) ?_) ?_
    rotate_left
    · intro b W hS
      have h0 := kept g0 hS.1
      have h1 := kept g1 hS.1
      have h2 := kept g2 hS.1
      go_simp
      first | done | with_reducible rfl
    simp only [Act.put, List.getElem_toArray, List.getElem_cons_succ, List.getElem_cons_zero, List.setIfInBounds_toArray, List.set_cons_zero, List.set_cons_succ]
    refine wpAnyU_take (i := 8) (v := ?_) (by decide) rfl (by kernel_rfl) (by kernel_rfl) (by kernel_rfl) (fun _ _ _ h => h) (Steady.plain (by kernel_rfl) ?_) ?_
    rotate_left
    · intro b W hS
      have h0 := kept g0 hS.1
      have h1 := kept g1 hS.1
      have h2 := kept g2 hS.1
      go_simp
      first | done | with_reducible rfl
    simp only [Act.put, List.getElem_toArray, List.getElem_cons_succ, List.getElem_cons_zero, List.setIfInBounds_toArray, List.set_cons_zero, List.set_cons_succ]
    refine wpAnyU_take (i := 9) (v := .int .i64 z) (by decide) rfl (by kernel_rfl) (by kernel_rfl) (by kernel_rfl) (fun _ _ _ h => h) (Steady.call (f := 89) (args := #[strV v]) (by kernel_rfl) (fun _ => by kernel_rfl) ?_) ?_
    · intro b W hS
      refine (C1.out W).mono ?_
      rintro e w' ⟨he, rfl⟩
      exact ⟨he, hS⟩
    simp only [Act.put, List.getElem_toArray, List.getElem_cons_succ, List.getElem_cons_zero, List.setIfInBounds_toArray, List.set_cons_zero, List.set_cons_succ]
    refine wpAnyU_take (i := 10) (v := ?_) (by decide) rfl (by kernel_rfl) (by kernel_rfl) (by kernel_rfl) (fun _ _ _ h => h) (Steady.plain (by kernel_rfl) ?_) ?_
    rotate_left
    · intro b W hS
      have h0 := kept g0 hS.1
      have h1 := kept g1 hS.1
      have h2 := kept g2 hS.1
      go_simp
      first | done | with_reducible rfl
    simp only [Act.put, List.getElem_toArray, List.getElem_cons_succ, List.getElem_cons_zero, List.setIfInBounds_toArray, List.set_cons_zero, List.set_cons_succ]
    refine wpAnyU_take (i := 11) (v := ?_) (by decide) rfl (by kernel_rfl) (by kernel_rfl) (by kernel_rfl) (fun _ _ _ h => h) (Steady.plain (by kernel_rfl) ?_) ?_
    rotate_left
    · intro b W hS
      have h0 := kept g0 hS.1
      have h1 := kept g1 hS.1
      have h2 := kept g2 hS.1
      go_simp
      first | done | with_reducible rfl
    simp only [Act.put, List.getElem_toArray, List.getElem_cons_succ, List.getElem_cons_zero, List.setIfInBounds_toArray, List.set_cons_zero, List.set_cons_succ]
    refine wpAnyU_turn (i := 12) (v := .pointer (some ⟨W1.heap.size, 0, none⟩)) (b := [false, false]) (b' := [true, false]) rfl (by kernel_rfl) (by kernel_rfl) (by kernel_rfl) (by kernel_rfl) (turn_alloc (zs := #[.string ⟨#[]⟩, .string ⟨#[]⟩, .int .i64 0, .slice none 0 0]) (t := 40) (fun _ => by kernel_rfl) (fun W hS => hS.made)) ?_
    simp only [Act.put, List.getElem_toArray, List.getElem_cons_succ, List.getElem_cons_zero, List.setIfInBounds_toArray, List.set_cons_zero, List.set_cons_succ]
    refine wpAnyU_turn (i := 13) (v := undef) (b := [true, false]) (b' := [true, true]) rfl (by kernel_rfl) (by kernel_rfl) (by kernel_rfl) (by kernel_rfl) (turn_store (ty := 40) (x := .tmp 5) (y := .tmp 23) (by kernel_rfl) W1.heap.size #[strV m, strV t, .int .i64 z, .slice none 0 0] (by kernel_rfl) (by kernel_rfl) infoReqS (one4 m t z none 0 0) (fun W hS => hS.stored rfl)) ?_
    simp only [Act.put, List.getElem_toArray, List.getElem_cons_succ, List.getElem_cons_zero]
    refine wpAnyU_done (b := [true, true]) (by kernel_rfl) (by kernel_rfl) ?_ _
    intro W hSW
    have hg : rowIs W W1.heap.size #[strV m, strV t, .int .i64 z, .slice none 0 0] 40 := hSW.2
    have hr3 := hr1.below hSW.1
    have hne : W1.heap.size ≠ w.heap.size := by have := hr1.lt; omega
    have hb2 := chain2 hbb hbb.size hSW.1
    clear hr1 hbb g0 g1 g2 hSW
    go_wp2_with fail
    generalize W1.heap.size = G at *
    have HS : HeldS w w.heap.size G #[strV m, strV t, .int .i64 z, .slice none 0 0] 40 w.heap.size #[.string ⟨#[]⟩, .string ⟨#[]⟩, .int .i64 0, .slice none 0 0] #[strV m, strV t, .int .i64 z, .slice none 0 0] 40 [false] W := ⟨hb2, hb2.size, hg, hr3⟩
    have HN := hid hne
    clear hb2 hg hr3 hne
    refine wp_region_U [6] (by kernel_rfl) (HeldS w w.heap.size G #[strV m, strV t, .int .i64 z, .slice none 0 0] 40 w.heap.size #[.string ⟨#[]⟩, .string ⟨#[]⟩, .int .i64 0, .slice none 0 0] #[strV m, strV t, .int .i64 z, .slice none 0 0] 40) (b := [false]) (by kernel_rfl) HS.drew ?_
    refine wpAnyU_take (i := 0) (v := .agg #[strV m, strV t, .int .i64 z, .slice none 0 0]) (by decide) rfl (by kernel_rfl) (by kernel_rfl) (by kernel_rfl) (fun _ _ _ h => h) (Steady.plain (by kernel_rfl) ?_) ?_
    · intro b W hS
      exact load_gives (x := .tmp 5) (by kernel_rfl) G (by kernel_rfl) hS.2.2.1 Tryz.underlying40 rfl infoReqS
    simp only [Act.put, List.getElem_toArray, List.getElem_cons_zero, List.setIfInBounds_toArray, List.set_cons_zero, List.set_cons_succ]
    refine wpAnyU_take (i := 1) (v := .agg #[strV m, strV t, .int .i64 z, .slice none 0 0]) (by decide) rfl (by kernel_rfl) (by kernel_rfl) (by kernel_rfl) (fun _ _ _ h => h) (Steady.plain (by kernel_rfl) ?_) ?_
    · intro b W hS
      exact load_gives (x := .tmp 5) (by kernel_rfl) G (by kernel_rfl) hS.2.2.1 Tryz.underlying40 rfl infoReqS
    simp only [Act.put, List.getElem_toArray, List.getElem_cons_succ, List.getElem_cons_zero, List.setIfInBounds_toArray, List.set_cons_zero, List.set_cons_succ]
    refine wpAnyU_take (i := 2) (v := .bool q1) (by decide) rfl (by kernel_rfl) (by kernel_rfl) (by kernel_rfl) (fun _ _ _ h => h) (Steady.call (f := 91) (args := #[reqV m t z none 0 0]) (by kernel_rfl) (fun _ => by kernel_rfl) ?_) ?_
    · intro b W hS
      refine (C2.out W).mono ?_
      rintro e w' ⟨he, hb⟩
      exact ⟨he, hS.below hb⟩
    simp only [Act.put, List.getElem_toArray, List.getElem_cons_succ, List.getElem_cons_zero, List.setIfInBounds_toArray, List.set_cons_zero, List.set_cons_succ]
    refine wpAnyU_take (i := 3) (v := .agg #[strV m, strV t, .int .i64 z, .slice none 0 0]) (by decide) rfl (by kernel_rfl) (by kernel_rfl) (by kernel_rfl) (fun _ _ _ h => h) (Steady.plain (by kernel_rfl) ?_) ?_
    · intro b W hS
      exact load_gives (x := .tmp 5) (by kernel_rfl) G (by kernel_rfl) hS.2.2.1 Tryz.underlying40 rfl infoReqS
    simp only [Act.put, List.getElem_toArray, List.getElem_cons_succ, List.getElem_cons_zero, List.setIfInBounds_toArray, List.set_cons_zero, List.set_cons_succ]
    refine wpAnyU_take (i := 4) (v := .bool q2) (by decide) rfl (by kernel_rfl) (by kernel_rfl) (by kernel_rfl) (fun _ _ _ h => h) (Steady.call (f := 92) (args := #[reqV m t z none 0 0]) (by kernel_rfl) (fun _ => by kernel_rfl) ?_) ?_
    · intro b W hS
      refine (C3.out W).mono ?_
      rintro e w' ⟨he, hb⟩
      exact ⟨he, hS.below hb⟩
    simp only [Act.put, List.getElem_toArray, List.getElem_cons_succ, List.getElem_cons_zero, List.setIfInBounds_toArray, List.set_cons_zero, List.set_cons_succ]
    refine wpAnyU_take (i := 5) (v := .int .i64 (judgeZ q1 q2)) (by decide) rfl (by kernel_rfl) (by kernel_rfl) (by kernel_rfl) (fun _ _ _ h => h) (Steady.call (f := 90) (args := #[.bool q1, .bool q2]) (by kernel_rfl) (fun _ => by kernel_rfl) ?_) ?_
    · intro b W hS
      refine (judge_any q1 q2 W).mono ?_
      rintro e w' ⟨he, rfl⟩
      exact ⟨he, hS⟩
    simp only [Act.put, List.getElem_toArray, List.getElem_cons_succ, List.getElem_cons_zero, List.setIfInBounds_toArray, List.set_cons_zero, List.set_cons_succ]
    refine wpAnyU_turn (i := 6) (v := undef) (b := [false]) (b' := [true]) rfl (by kernel_rfl) (by kernel_rfl) (by kernel_rfl) (by kernel_rfl) (turn_store (ty := 40) (x := .tmp 2) (y := .tmp 24) (by kernel_rfl) w.heap.size #[strV m, strV t, .int .i64 z, .slice none 0 0] (by kernel_rfl) (by kernel_rfl) infoReqS (one4 m t z none 0 0) (fun W hS => ⟨_, _, hS.2.2.2, rfl, hS.stored (Nat.le_refl _) HN.out⟩)) ?_
    simp only [Act.put, List.getElem_toArray, List.getElem_cons_succ, List.getElem_cons_zero]
    refine wpAnyU_take (i := 7) (v := ?_) (by decide) rfl (by kernel_rfl) (by kernel_rfl) (by kernel_rfl) (fun _ _ _ h => h) (Steady.plain (by kernel_rfl) ?_) ?_
    rotate_left
    · intro b W hS
      have h0 := hS.2.2.1.cell 0
      go_simp
      first | done | with_reducible rfl
    simp only [Act.put, List.getElem_toArray, List.getElem_cons_succ, List.getElem_cons_zero, List.setIfInBounds_toArray, List.set_cons_zero, List.set_cons_succ]
    refine wpAnyU_done (b := [true]) (by kernel_rfl) (by kernel_rfl) ?_ _
    intro w' hS
    go_wp2_with fail
    refine bodyPost_ret (results_row2 Tryz.results58 _ _ w.heap.size _ rfl hS.2.2.2 Tryz.underlying40 rfl infoReqS) rfl ?_
    exact ⟨rfl, hS.1⟩
  · have hr : r = ([], [], 0, 21) := by
      rw [hd]
      match l, h3 with
      | [], _ => rfl
      | [_], _ => rfl
      | [_, _], _ => rfl
      | [_, _, _], h => exact absurd rfl h
      | _ :: _ :: _ :: _ :: _, _ => rfl
    subst hr
    have e3 : ((l.length : Int) == 3) = false := by simp; omega
    have e4 : ((l.length : Int) != 3) = true := by simp; omega
    clear hd hps h3
    go_enter Tryz.func58, Tryz.ntmps58
    go_wp2_with fail
    rw [← hW0]
    clear hW0
    refine (C0.out _ (hm.below hb0)).mono ?_
    rintro e w1 ⟨rfl, rfl⟩
    have hbA := below_alloc W0 (.cells (l.map strV).toArray 9)
    have hr1 := hr0.below hbA
    have hbb := chain2 hb0 hb0.size hbA
    clear hbA hb0 hr0 hm
    generalize W0.alloc (.cells (l.map strV).toArray 9) = W1 at hr1 hbb ⊢
    go_wp2_with (refine wpList_store_row rfl 40 _ _ rfl w.heap.size _ rfl rfl 40 #[.string ⟨#[]⟩, .string ⟨#[]⟩, .int .i64 0, .slice none 0 0] hr1 infoReqS rfl (one4 [] [] 0 none 0 0) ?_)
    refine bodyPost_ret (results_row2 Tryz.results58 _ _ w.heap.size _ rfl (hr1.setRow _) Tryz.underlying40 rfl infoReqS) rfl ?_
    exact ⟨rfl, below_setRow hbb (Nat.le_refl _) _⟩
end Go.Proofs.YtongceljdgmbdaaGreatDoor
