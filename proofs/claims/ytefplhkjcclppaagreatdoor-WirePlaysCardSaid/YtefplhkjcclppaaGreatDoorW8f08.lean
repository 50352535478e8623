/-
  Several texts in one: HeadE, HeadF, HeadG, HeadH, RefClean.
-/
import Derived.Test.YtefplhkjcclppaaGreatDoorW8f07
import Derived.StillTailTactics
import Derived.Test.YtefplhkjcclppaaGreatDoorPureAll2
/-
  Contracts of package head: readRequestLine, readFields.
-/
namespace Go.Proofs.YtefplhkjcclppaaGreatDoor
open Go.RowKit Go.Pantry

theorem infoReqS : (Tryz.prog.info? 40).map (·.size) = some 4 := by kernel_rfl
theorem one4 (a b : List UInt8) (z : Int) (ao : Option Addr) (n c : Nat) : (#[strV a, strV b, .int .i64 z, .slice ao n c] : Array Value).all (·.oneCell') = true := by simp [Value.oneCell']
theorem one4' (z y : Int) (b : List UInt8) (ao : Option Addr) (n c : Nat) : (#[.int .i64 z, strV b, .int .i64 y, .slice ao n c] : Array Value).all (·.oneCell') = true := by simp [Value.oneCell']
/-- what a request's first line tells: an error, and (where it is none) what it has -/
def reqP (s : List UInt8) : List UInt8 × List UInt8 × Int × Int := match piecesL [32] s.length s with
  | [m, t, v] => (m, t, minorZ v, judgeZ (formedR m t (minorZ v)) (longR m t))
  | _ => ([], [], 0, 21)
set_option maxRecDepth 100000 in
set_option maxHeartbeats 4000000 in
theorem readRequestLine_any (s : List UInt8) (w : World) (hm : MaxOk w) (hs : s.length ≤ 100000) :
    Calls Tryz.prog 36 #[strV s] w fun e w' => e = .returned (.tuple #[reqV (reqP s).1 (reqP s).2.1 (reqP s).2.2.1 none 0 0, .int .i64 (reqP s).2.2.2]) ∧ Below w.heap.size w w' := by
  have c0 := fun W h => Split2_any s [32] W (by decide) h (by omega)
  have hps : ∀ a ∈ piecesL [32] s.length s, a.length ≤ 100000 := fun a ha => Nat.le_trans (pieces_size _ _ _ a ha) hs
  have hpl : (piecesL [32] s.length s).length < 4294967296 := by
    have := pieces_num (w := [32]) (by decide) s.length s (Nat.le_refl _)
    omega
  have hd : reqP s = match piecesL [32] s.length s with
    | [m, t, v] => (m, t, minorZ v, judgeZ (formedR m t (minorZ v)) (longR m t))
    | _ => ([], [], 0, 21) := rfl
  generalize reqP s = r at hd ⊢
  generalize piecesL [32] s.length s = l at c0 hps hpl hd
  have C0 := hid c0
  clear c0
  obtain ⟨W0, hW0⟩ : ∃ W, W = w.alloc (.cells #[.string ⟨#[]⟩, .string ⟨#[]⟩, .int .i64 0, .slice none 0 0] 40) := ⟨_, rfl⟩
  have hb0 : Below w.heap.size w W0 := by rw [hW0]; exact below_alloc _ _
  have hr0 : rowIs W0 w.heap.size #[.string ⟨#[]⟩, .string ⟨#[]⟩, .int .i64 0, .slice none 0 0] 40 := by rw [hW0]; exact rowIs_new _ _ _
  by_cases h3 : l.length = 3
  · obtain ⟨m, t, v, rfl⟩ : ∃ m t v, l = [m, t, v] := by
      match l, h3 with
      | [m, t, v], _ => exact ⟨m, t, v, rfl⟩
    simp only at hd
    subst hd
    have hml := hps m (by simp)
    have htl := hps t (by simp)
    clear hps hpl h3
    have c1 := fun W => minorOf_any v W
    generalize minorZ v = z at c1 ⊢
    have c2 := fun W => qformed_any m t z none 0 0 W hml htl
    have c3 := fun W => qlong_any m t z none 0 0 W
    generalize formedR m t z = q1 at c2 ⊢
    generalize longR m t = q2 at c3 ⊢
    have C1 := hid c1
    have C2 := hid c2
    have C3 := hid c3
    clear c1 c2 c3 hml htl
    go_enter Tryz.func36, Tryz.ntmps36
    go_wp2_with fail
    rw [← hW0]
    clear hW0
    refine (C0.out _ (hm.below hb0)).mono ?_
    rintro e w1 ⟨rfl, rfl⟩
    have hbA := below_alloc W0 (.cells ([m, t, v].map strV).toArray 9)
    have g0 : (W0.alloc (.cells ([m, t, v].map strV).toArray 9)).cell? ⟨W0.heap.size, 0, none⟩ = some (strV m) := by rw [World.cell?_alloc_at _ _ _ _ rfl]; rfl
    have g1 : (W0.alloc (.cells ([m, t, v].map strV).toArray 9)).cell? ⟨W0.heap.size, 1, none⟩ = some (strV t) := by rw [World.cell?_alloc_at _ _ _ _ rfl]; rfl
    have g2 : (W0.alloc (.cells ([m, t, v].map strV).toArray 9)).cell? ⟨W0.heap.size, 2, none⟩ = some (strV v) := by rw [World.cell?_alloc_at _ _ _ _ rfl]; rfl
    generalize hW1 : W0.alloc (.cells ([m, t, v].map strV).toArray 9) = W1 at hbA g0 g1 g2 ⊢
    clear hW1
    have hr1 := hr0.below hbA
    have hbb := chain2 hb0 hb0.size hbA
    clear hbA hb0 hr0 hm
    go_wp2_with fail
    refine wp_region_U [12, 13] (by kernel_rfl) (NewS W1 #[.string ⟨#[]⟩, .string ⟨#[]⟩, .int .i64 0, .slice none 0 0] #[strV m, strV t, .int .i64 z, .slice none 0 0] 40) (b := [false, false]) (by kernel_rfl) (NewS.begin _ _ _ _) ?_
    refine wpAnyU_take (i := 0) (v := ?_) (by decide) rfl (by kernel_rfl) (by kernel_rfl) (by kernel_rfl) (fun _ _ _ h => h) (Steady.plain (by kernel_rfl) ?_) ?_
    rotate_left
    · intro b W hS
      have h0 := kept g0 hS.1
      have h1 := kept g1 hS.1
      have h2 := kept g2 hS.1
      go_simp
      first | done | with_reducible rfl
    simp only [Act.put, List.getElem_toArray, List.getElem_cons_zero, List.setIfInBounds_toArray, List.set_cons_zero, List.set_cons_succ]
    refine wpAnyU_take (i := 1) (v := ?_) (by decide) rfl (by kernel_rfl) (by kernel_rfl) (by kernel_rfl) (fun _ _ _ h => h) (Steady.plain (by kernel_rfl) ?_) ?_
    rotate_left
    · intro b W hS
      have h0 := kept g0 hS.1
      have h1 := kept g1 hS.1
      have h2 := kept g2 hS.1
      go_simp
      first | done | with_reducible rfl
    simp only [Act.put, List.getElem_toArray, List.getElem_cons_succ, List.getElem_cons_zero, List.setIfInBounds_toArray, List.set_cons_zero, List.set_cons_succ]
    refine wpAnyU_take (i := 2) (v := ?_) (by decide) rfl (by kernel_rfl) (by kernel_rfl) (by kernel_rfl) (fun _ _ _ h => h) (Steady.plain (by kernel_rfl) ?_) ?_
    rotate_left
    · intro b W hS
      have h0 := kept g0 hS.1
      have h1 := kept g1 hS.1
      have h2 := kept g2 hS.1
      go_simp
      first | done | with_reducible rfl
    simp only [Act.put, List.getElem_toArray, List.getElem_cons_succ, List.getElem_cons_zero, List.setIfInBounds_toArray, List.set_cons_zero, List.set_cons_succ]
    refine wpAnyU_take (i := 3) (v := ?_) (by decide) rfl (by kernel_rfl) (by kernel_rfl) (by kernel_rfl) (fun _ _ _ h => h) (Steady.plain (by kernel_rfl) ?_) ?_
    rotate_left
    · intro b W hS
      have h0 := kept g0 hS.1
      have h1 := kept g1 hS.1
      have h2 := kept g2 hS.1
      go_simp
      first | done | with_reducible rfl
    simp only [Act.put, List.getElem_toArray, List.getElem_cons_succ, List.getElem_cons_zero, List.setIfInBounds_toArray, List.set_cons_zero, List.set_cons_succ]
    refine wpAnyU_take (i := 4) (v := ?_) (by decide) rfl (by kernel_rfl) (by kernel_rfl) (by kernel_rfl) (fun _ _ _ h => h) (Steady.plain (by kernel_rfl) ?_) ?_
    rotate_left
    · intro b W hS
      have h0 := kept g0 hS.1
      have h1 := kept g1 hS.1
      have h2 := kept g2 hS.1
      go_simp
      first | done | with_reducible rfl
    simp only [Act.put, List.getElem_toArray, List.getElem_cons_succ, List.getElem_cons_zero, List.setIfInBounds_toArray, List.set_cons_zero, List.set_cons_succ]
    refine wpAnyU_take (i := 5) (v := ?_) (by decide) rfl (by kernel_rfl) (by kernel_rfl) (by kernel_rfl) (fun _ _ _ h => h) (Steady.plain (by kernel_rfl) ?_) ?_
    rotate_left
    · intro b W hS
      have h0 := kept g0 hS.1
      have h1 := kept g1 hS.1
      have h2 := kept g2 hS.1
      go_simp
      first | done | with_reducible rfl
    simp only [Act.put, List.getElem_toArray, List.getElem_cons_succ, List.getElem_cons_zero, List.setIfInBounds_toArray, List.set_cons_zero, List.set_cons_succ]
    refine wpAnyU_take (i := 6) (v := ?_) (by decide) rfl (by kernel_rfl) (by kernel_rfl) (by kernel_rfl) (fun _ _ _ h => h) (Steady.plain (by kernel_rfl) ?_) ?_
    rotate_left
    · intro b W hS
      have h0 := kept g0 hS.1
      have h1 := kept g1 hS.1
      have h2 := kept g2 hS.1
      go_simp
      first | done | with_reducible rfl
    simp only [Act.put, List.getElem_toArray, List.getElem_cons_succ, List.getElem_cons_zero, List.setIfInBounds_toArray, List.set_cons_zero, List.set_cons_succ]
    refine wpAnyU_take (i := 7) (v := ?_) (by decide) rfl (by kernel_rfl) (by kernel_rfl) (by kernel_rfl) (fun _ _ _ h => h) (Steady.plain (by kernel_rfl) ?_) ?_
    rotate_left
    · intro b W hS
      have h0 := kept g0 hS.1
      have h1 := kept g1 hS.1
      have h2 := kept g2 hS.1
      go_simp
      first | done | with_reducible rfl
    simp only [Act.put, List.getElem_toArray, List.getElem_cons_succ, List.getElem_cons_zero, List.setIfInBounds_toArray, List.set_cons_zero, List.set_cons_succ]
    refine wpAnyU_take (i := 8) (v := ?_) (by decide) rfl (by kernel_rfl) (by kernel_rfl) (by kernel_rfl) (fun _ _ _ h => h) (Steady.plain (by kernel_rfl) ?_) ?_
    rotate_left
    · intro b W hS
      have h0 := kept g0 hS.1
      have h1 := kept g1 hS.1
      have h2 := kept g2 hS.1
      go_simp
      first | done | with_reducible rfl
    simp only [Act.put, List.getElem_toArray, List.getElem_cons_succ, List.getElem_cons_zero, List.setIfInBounds_toArray, List.set_cons_zero, List.set_cons_succ]
    refine wpAnyU_take (i := 9) (v := .int .i64 z) (by decide) rfl (by kernel_rfl) (by kernel_rfl) (by kernel_rfl) (fun _ _ _ h => h) (Steady.call (f := 53) (args := #[strV v]) (by kernel_rfl) (fun _ => by kernel_rfl) ?_) ?_
    · intro b W hS
      refine (C1.out W).mono ?_
      rintro e w' ⟨he, rfl⟩
      exact ⟨he, hS⟩
    simp only [Act.put, List.getElem_toArray, List.getElem_cons_succ, List.getElem_cons_zero, List.setIfInBounds_toArray, List.set_cons_zero, List.set_cons_succ]
    refine wpAnyU_take (i := 10) (v := ?_) (by decide) rfl (by kernel_rfl) (by kernel_rfl) (by kernel_rfl) (fun _ _ _ h => h) (Steady.plain (by kernel_rfl) ?_) ?_
    rotate_left
    · intro b W hS
      have h0 := kept g0 hS.1
      have h1 := kept g1 hS.1
      have h2 := kept g2 hS.1
      go_simp
      first | done | with_reducible rfl
    simp only [Act.put, List.getElem_toArray, List.getElem_cons_succ, List.getElem_cons_zero, List.setIfInBounds_toArray, List.set_cons_zero, List.set_cons_succ]
    refine wpAnyU_take (i := 11) (v := ?_) (by decide) rfl (by kernel_rfl) (by kernel_rfl) (by kernel_rfl) (fun _ _ _ h => h) (Steady.plain (by kernel_rfl) ?_) ?_
    rotate_left
    · intro b W hS
      have h0 := kept g0 hS.1
      have h1 := kept g1 hS.1
      have h2 := kept g2 hS.1
      go_simp
      first | done | with_reducible rfl
    simp only [Act.put, List.getElem_toArray, List.getElem_cons_succ, List.getElem_cons_zero, List.setIfInBounds_toArray, List.set_cons_zero, List.set_cons_succ]
    refine wpAnyU_turn (i := 12) (v := .pointer (some ⟨W1.heap.size, 0, none⟩)) (b := [false, false]) (b' := [true, false]) rfl (by kernel_rfl) (by kernel_rfl) (by kernel_rfl) (by kernel_rfl) (turn_alloc (zs := #[.string ⟨#[]⟩, .string ⟨#[]⟩, .int .i64 0, .slice none 0 0]) (t := 40) (fun _ => by kernel_rfl) (fun W hS => hS.made)) ?_
    simp only [Act.put, List.getElem_toArray, List.getElem_cons_succ, List.getElem_cons_zero, List.setIfInBounds_toArray, List.set_cons_zero, List.set_cons_succ]
    refine wpAnyU_turn (i := 13) (v := undef) (b := [true, false]) (b' := [true, true]) rfl (by kernel_rfl) (by kernel_rfl) (by kernel_rfl) (by kernel_rfl) (turn_store (ty := 40) (x := .tmp 5) (y := .tmp 23) (by kernel_rfl) W1.heap.size #[strV m, strV t, .int .i64 z, .slice none 0 0] (by kernel_rfl) (by kernel_rfl) infoReqS (one4 m t z none 0 0) (fun W hS => hS.stored rfl)) ?_
    simp only [Act.put, List.getElem_toArray, List.getElem_cons_succ, List.getElem_cons_zero]
    refine wpAnyU_done (b := [true, true]) (by kernel_rfl) (by kernel_rfl) ?_ _
    intro W hSW
    have hg : rowIs W W1.heap.size #[strV m, strV t, .int .i64 z, .slice none 0 0] 40 := hSW.2
    have hr3 := hr1.below hSW.1
    have hne : W1.heap.size ≠ w.heap.size := by have := hr1.lt; omega
    have hb2 := chain2 hbb hbb.size hSW.1
    clear hr1 hbb g0 g1 g2 hSW
    go_wp2_with fail
    generalize W1.heap.size = G at *
    have HS : HeldS w w.heap.size G #[strV m, strV t, .int .i64 z, .slice none 0 0] 40 w.heap.size #[.string ⟨#[]⟩, .string ⟨#[]⟩, .int .i64 0, .slice none 0 0] #[strV m, strV t, .int .i64 z, .slice none 0 0] 40 [false] W := ⟨hb2, hb2.size, hg, hr3⟩
    have HN := hid hne
    clear hb2 hg hr3 hne
    refine wp_region_U [6] (by kernel_rfl) (HeldS w w.heap.size G #[strV m, strV t, .int .i64 z, .slice none 0 0] 40 w.heap.size #[.string ⟨#[]⟩, .string ⟨#[]⟩, .int .i64 0, .slice none 0 0] #[strV m, strV t, .int .i64 z, .slice none 0 0] 40) (b := [false]) (by kernel_rfl) HS.drew ?_
    refine wpAnyU_take (i := 0) (v := .agg #[strV m, strV t, .int .i64 z, .slice none 0 0]) (by decide) rfl (by kernel_rfl) (by kernel_rfl) (by kernel_rfl) (fun _ _ _ h => h) (Steady.plain (by kernel_rfl) ?_) ?_
    · intro b W hS
      exact load_gives (x := .tmp 5) (by kernel_rfl) G (by kernel_rfl) hS.2.2.1 Tryz.underlying40 rfl infoReqS
    simp only [Act.put, List.getElem_toArray, List.getElem_cons_zero, List.setIfInBounds_toArray, List.set_cons_zero, List.set_cons_succ]
    refine wpAnyU_take (i := 1) (v := .agg #[strV m, strV t, .int .i64 z, .slice none 0 0]) (by decide) rfl (by kernel_rfl) (by kernel_rfl) (by kernel_rfl) (fun _ _ _ h => h) (Steady.plain (by kernel_rfl) ?_) ?_
    · intro b W hS
      exact load_gives (x := .tmp 5) (by kernel_rfl) G (by kernel_rfl) hS.2.2.1 Tryz.underlying40 rfl infoReqS
    simp only [Act.put, List.getElem_toArray, List.getElem_cons_succ, List.getElem_cons_zero, List.setIfInBounds_toArray, List.set_cons_zero, List.set_cons_succ]
    refine wpAnyU_take (i := 2) (v := .bool q1) (by decide) rfl (by kernel_rfl) (by kernel_rfl) (by kernel_rfl) (fun _ _ _ h => h) (Steady.call (f := 55) (args := #[reqV m t z none 0 0]) (by kernel_rfl) (fun _ => by kernel_rfl) ?_) ?_
    · intro b W hS
      refine (C2.out W).mono ?_
      rintro e w' ⟨he, hb⟩
      exact ⟨he, hS.below hb⟩
    simp only [Act.put, List.getElem_toArray, List.getElem_cons_succ, List.getElem_cons_zero, List.setIfInBounds_toArray, List.set_cons_zero, List.set_cons_succ]
    refine wpAnyU_take (i := 3) (v := .agg #[strV m, strV t, .int .i64 z, .slice none 0 0]) (by decide) rfl (by kernel_rfl) (by kernel_rfl) (by kernel_rfl) (fun _ _ _ h => h) (Steady.plain (by kernel_rfl) ?_) ?_
    · intro b W hS
      exact load_gives (x := .tmp 5) (by kernel_rfl) G (by kernel_rfl) hS.2.2.1 Tryz.underlying40 rfl infoReqS
    simp only [Act.put, List.getElem_toArray, List.getElem_cons_succ, List.getElem_cons_zero, List.setIfInBounds_toArray, List.set_cons_zero, List.set_cons_succ]
    refine wpAnyU_take (i := 4) (v := .bool q2) (by decide) rfl (by kernel_rfl) (by kernel_rfl) (by kernel_rfl) (fun _ _ _ h => h) (Steady.call (f := 56) (args := #[reqV m t z none 0 0]) (by kernel_rfl) (fun _ => by kernel_rfl) ?_) ?_
    · intro b W hS
      refine (C3.out W).mono ?_
      rintro e w' ⟨he, hb⟩
      exact ⟨he, hS.below hb⟩
    simp only [Act.put, List.getElem_toArray, List.getElem_cons_succ, List.getElem_cons_zero, List.setIfInBounds_toArray, List.set_cons_zero, List.set_cons_succ]
    refine wpAnyU_take (i := 5) (v := .int .i64 (judgeZ q1 q2)) (by decide) rfl (by kernel_rfl) (by kernel_rfl) (by kernel_rfl) (fun _ _ _ h => h) (Steady.call (f := 54) (args := #[.bool q1, .bool q2]) (by kernel_rfl) (fun _ => by kernel_rfl) ?_) ?_
    · intro b W hS
      refine (judge_any q1 q2 W).mono ?_
      rintro e w' ⟨he, rfl⟩
      exact ⟨he, hS⟩
    simp only [Act.put, List.getElem_toArray, List.getElem_cons_succ, List.getElem_cons_zero, List.setIfInBounds_toArray, List.set_cons_zero, List.set_cons_succ]
    refine wpAnyU_turn (i := 6) (v := undef) (b := [false]) (b' := [true]) rfl (by kernel_rfl) (by kernel_rfl) (by kernel_rfl) (by kernel_rfl) (turn_store (ty := 40) (x := .tmp 2) (y := .tmp 24) (by kernel_rfl) w.heap.size #[strV m, strV t, .int .i64 z, .slice none 0 0] (by kernel_rfl) (by kernel_rfl) infoReqS (one4 m t z none 0 0) (fun W hS => ⟨_, _, hS.2.2.2, rfl, hS.stored (Nat.le_refl _) HN.out⟩)) ?_
    simp only [Act.put, List.getElem_toArray, List.getElem_cons_succ, List.getElem_cons_zero]
    refine wpAnyU_take (i := 7) (v := ?_) (by decide) rfl (by kernel_rfl) (by kernel_rfl) (by kernel_rfl) (fun _ _ _ h => h) (Steady.plain (by kernel_rfl) ?_) ?_
    rotate_left
    · intro b W hS
      have h0 := hS.2.2.1.cell 0
      go_simp
      first | done | with_reducible rfl
    simp only [Act.put, List.getElem_toArray, List.getElem_cons_succ, List.getElem_cons_zero, List.setIfInBounds_toArray, List.set_cons_zero, List.set_cons_succ]
    refine wpAnyU_done (b := [true]) (by kernel_rfl) (by kernel_rfl) ?_ _
    intro w' hS
    go_wp2_with fail
    refine bodyPost_ret (results_row2 Tryz.results36 _ _ w.heap.size _ rfl hS.2.2.2 Tryz.underlying40 rfl infoReqS) rfl ?_
    exact ⟨rfl, hS.1⟩
  · have hr : r = ([], [], 0, 21) := by
      rw [hd]
      match l, h3 with
      | [], _ => rfl
      | [_], _ => rfl
      | [_, _], _ => rfl
      | [_, _, _], h => exact absurd rfl h
      | _ :: _ :: _ :: _ :: _, _ => rfl
    subst hr
    have e3 : ((l.length : Int) == 3) = false := by simp; omega
    have e4 : ((l.length : Int) != 3) = true := by simp; omega
    clear hd hps h3
    go_enter Tryz.func36, Tryz.ntmps36
    go_wp2_with fail
    rw [← hW0]
    clear hW0
    refine (C0.out _ (hm.below hb0)).mono ?_
    rintro e w1 ⟨rfl, rfl⟩
    have hbA := below_alloc W0 (.cells (l.map strV).toArray 9)
    have hr1 := hr0.below hbA
    have hbb := chain2 hb0 hb0.size hbA
    clear hbA hb0 hr0 hm
    generalize W0.alloc (.cells (l.map strV).toArray 9) = W1 at hr1 hbb ⊢
    go_wp2_with (refine wpList_store_row rfl 40 _ _ rfl w.heap.size _ rfl rfl 40 #[.string ⟨#[]⟩, .string ⟨#[]⟩, .int .i64 0, .slice none 0 0] hr1 infoReqS rfl (one4 [] [] 0 none 0 0) ?_)
    refine bodyPost_ret (results_row2 Tryz.results36 _ _ w.heap.size _ rfl (hr1.setRow _) Tryz.underlying40 rfl infoReqS) rfl ?_
    exact ⟨rfl, below_setRow hbb (Nat.le_refl _) _⟩
end Go.Proofs.YtefplhkjcclppaaGreatDoor
/-
  Contract of package head: readFields.
-/
namespace Go.Proofs.YtefplhkjcclppaaGreatDoor
open Go.RowKit Go.Pantry

theorem fldL_code (i : Nat) (a : List UInt8) : (codeF a = 0 ∧ fldL i a = if 64 ≤ i then .error 22 else .ok (nmF a, vlF a)) ∨ ((codeF a = 21 ∨ codeF a = 22) ∧ fldL i a = .error (codeF a).toNat) := by
  unfold codeF judgeZ fmF nmF vlF fldL cutT
  cases hf : findL [58] a with
  | none => right; exact ⟨.inl rfl, rfl⟩
  | some k =>
    have hk := (findL_some hf).1
    simp only [List.length_cons, List.length_nil, Nat.zero_add, Bool.true_and]
    have hl : (a.take k).length = k := by rw [List.length_take]; omega
    have hid := trimL_idem (a.drop (k + 1))
    generalize trimL (a.drop (k + 1)) = v at hid ⊢
    generalize a.take k = n at hl ⊢
    have hr : rightF (n, v) = (tokenL n && decide (n.length ≤ 64) && decide (v.length ≤ 1024) && trimL v == v && v.all okV) := rfl
    rw [hr, hid, hl]
    cases tokenL n with
    | false => right; exact ⟨.inl rfl, rfl⟩
    | true =>
      cases v.all okV with
      | false => right; exact ⟨.inl rfl, rfl⟩
      | true =>
        by_cases h1 : k ≤ 64
        · by_cases h2 : v.length ≤ 1024
          · left
            have e : (true && decide (k ≤ 64) && decide (v.length ≤ 1024) && v == v && true) = true := by simp [h1, h2]
            rw [e]
            refine ⟨rfl, ?_⟩
            by_cases h3 : 64 ≤ i
            · simp [h3]
            · rw [if_pos (show (true && true) = true from rfl), if_neg (by omega), if_neg h3]
          · right
            have e : (true && decide (k ≤ 64) && decide (v.length ≤ 1024) && v == v && true) = false := by simp [h2]
            rw [e]
            refine ⟨.inr rfl, ?_⟩
            rw [if_pos (show (true && true) = true from rfl), if_pos (by omega)]; rfl
        · right
          have e : (true && decide (k ≤ 64) && decide (v.length ≤ 1024) && v == v && true) = false := by simp [h1]
          rw [e]
          refine ⟨.inr rfl, ?_⟩
          rw [if_pos (show (true && true) = true from rfl), if_pos (by omega)]; rfl
/-- what readFields tells -/
def FldsRead (t : TypeId) (B : Nat) (x : Except Nat (List Fld)) (e : Ending) (w' : World) : Prop := match x with
  | .ok L => ∃ v', e = .returned (.tuple #[v', .int .i64 0]) ∧ w'.ownsRow B t 2 v' L.length (fldCells L)
  | .error k => k ≠ 0 ∧ e = .returned (.tuple #[.slice none 0 0, .int .i64 (k : Int)])
def addL (acc : List Fld) (x : Except Nat (List Fld)) : Except Nat (List Fld) := match x with | .error e => .error e | .ok L => .ok (acc ++ L)
theorem addL_err (acc : List Fld) (k : Nat) (a : List UInt8) (r : List (List UInt8)) (e : Nat) (h : fldL k a = .error e) : addL acc (fldsL k (a :: r)) = .error e := by
  unfold addL fldsL; rw [h]
theorem addL_step (acc : List Fld) (k : Nat) (a : List UInt8) (r : List (List UInt8)) (f : Fld) (h : fldL k a = .ok f) : addL acc (fldsL k (a :: r)) = addL (acc ++ [f]) (fldsL (k + 1) r) := by
  unfold addL
  rw [fldsL, h]
  cases fldsL (k + 1) r with
  | error e => rfl
  | ok L => simp
theorem ownsRow_form {w : World} {B : Nat} {e : TypeId} {v : Value} {n : Nat} {L : List Fld} (h : w.ownsRow B e 2 v n (fldCells L)) : ∃ ao c, v = .slice ao n c := by
  obtain ⟨e1, h2⟩ := h.reads2
  obtain ⟨ao, c, rfl⟩ := h2.form
  exact ⟨ao, c, by rw [e1]⟩
set_option maxHeartbeats 4000000 in
theorem readFields_any (v : Value) (l : List (List UInt8)) (w : World) (hr : Reads w v (l.map strV)) (hl : l.length < 4294967296) (ha : ∀ a ∈ l, a.length ≤ 100000) (hm : MaxOk w) :
    Calls Tryz.prog 37 #[v] w fun e w' => FldsRead 110 w.heap.size (fldsL 0 l) e w' ∧ Below w.heap.size w w' := by
  obtain ⟨ao, cap, rfl⟩ := Reads.strs hr
  have HR := hid hr
  have HL := hid ha
  have HM := hid hm
  obtain ⟨R, hR⟩ : ∃ R, fldsL 0 l = R := ⟨_, rfl⟩
  rw [hR]
  have HRR := hid hR
  clear hr ha hm hR
  go_enter Tryz.func37, Tryz.ntmps37
  go_wp2
  go_loopw [4, 11] (fun v' i wr => ∃ (k : Nat) (acc : List Fld), k ≤ l.length ∧ k ≤ 64 ∧ acc.length = k ∧ i = .int .i64 k ∧ R = addL acc (fldsL k (l.drop k)) ∧ wr.ownsRow w.heap.size 110 2 v' k (fldCells acc) ∧ Below w.heap.size w wr) (fun _ i _ => l.length - (intOf i).toNat)
  case atStart =>
    refine ⟨0, [], Nat.zero_le _, by omega, rfl, rfl, ?_, World.ownsRow_nil _ _ _ _, Below.refl _ _⟩
    rw [← HRR.out, List.drop_zero]
    unfold addL
    cases fldsL 0 l <;> rfl
  case round =>
    obtain ⟨k, acc, hk, hk64, hacc, rfl, hRk, ho, hb⟩ := hrel
    have HRK := hid hRk
    have HA := hid hacc
    clear hRk hacc
    have hs := hb.size
    by_cases hlt : k < l.length
    · obtain ⟨a, hx⟩ : ∃ a, l[k]? = some a := ⟨_, List.getElem?_eq_getElem hlt⟩
      have hdr : l.drop k = a :: l.drop (k + 1) := by
        rw [List.drop_eq_getElem_cons hlt]
        obtain ⟨_, e⟩ := List.getElem?_eq_some_iff.1 hx
        rw [e]
      have hal := HL.out a (List.mem_of_getElem? hx)
      obtain ⟨b, off, cap', hv, hc⟩ := (HR.out.below hb).at_some (by rw [List.length_map]; omega)
      have hcell := hc k (strV a) (by rw [List.getElem?_map, hx]; rfl)
      rw [List.length_map] at hv
      cases hv
      have HD := hid hdr
      clear hx hdr hc
      have c1 := fun W h => readField_any a W h hal
      have hfl := fldL_code k a
      obtain ⟨code, hcode⟩ : ∃ c, codeF a = c := ⟨_, rfl⟩
      rw [hcode] at c1 hfl
      generalize nmF a = nm at c1 hfl
      generalize vlF a = vl at c1 hfl
      have C1 := hid c1
      have HF := hid hfl
      clear c1 hfl hcode hal
      by_cases h0 : code = 0
      · subst h0
        have hf2 : fldL k a = if 64 ≤ k then .error 22 else .ok (nm, vl) := by
          rcases HF.out with h | ⟨h, _⟩
          · exact h.2
          · rcases h with h | h <;> cases h
        have HF2 := hid hf2
        clear hf2 HF
        by_cases h64 : k = 64
        · subst h64
          have hRe : R = .error 22 := by rw [HRK.out, HD.out]; exact addL_err acc 64 a _ 22 (by rw [HF2.out]; rfl)
          subst hRe
          obtain ⟨aov, capv, rfl⟩ := ownsRow_form ho
          go_wp2_with fail
          refine (C1.out _ (HM.out.below hb)).mono ?_
          rintro e w1 ⟨rfl, hb1⟩
          go_wp2_with fail
          go_ret2
          exact ⟨⟨by decide, rfl⟩, chain2 (chain2 hb hs hb1) (chain2 hb hs hb1).size (below_alloc _ _)⟩
        · have hk' : (k : Int) < 64 := by omega
          have hne : ((k : Int) == 64) = false := by simp; omega
          have hRs : R = addL (acc ++ [(nm, vl)]) (fldsL (k + 1) (l.drop (k + 1))) := by rw [HRK.out, HD.out]; exact addL_step acc k a _ (nm, vl) (by rw [HF2.out, if_neg (by omega)])
          have HRS := hid hRs
          obtain ⟨aov, capv, rfl⟩ := ownsRow_form ho
          clear hRs h64
          go_wp2_with fail
          refine (C1.out _ (HM.out.below hb)).mono ?_
          rintro e w1 ⟨rfl, hb1⟩
          have hbn := chain2 hb hs hb1
          have ho1 := ho.below hb1
          have ho2 := ho1.alloc (.cells #[strV nm, strV vl] 110)
          have hbw := hbn.trans ((below_alloc w1 (.cells #[strV nm, strV vl] 110)).mono hbn.size)
          have hs2 := hbw.size
          clear hb1 hb hs ho ho1 hbn hcell
          go_wp2_with ((at_builtin; go_must (refine wpList_append_fld _ rfl _ _ 36 rfl w.heap.size 110 Tryz.underlying36 infoFld rfl (by decide) rfl ho2 (nm, vl) rfl (by first | rfl | simp) (by omega) hs2 ?_); intro v2 w3 hown3 hb3))
          go_roundw
          case rel => exact ⟨k + 1, acc ++ [(nm, vl)], hlt, by omega, by rw [List.length_append, HA.out]; rfl, by go_num, HRS.out, hown3, hbw.trans hb3⟩
          case measure => simp [intOf]; omega
      · have hq : code = 21 ∨ code = 22 := by
          rcases HF.out with h | h
          · exact absurd h.1 h0
          · exact h.1
        have hRe : R = .error code.toNat := by
          rw [HRK.out, HD.out]
          refine addL_err acc k a _ _ ?_
          rcases HF.out with h | h
          · exact absurd h.1 h0
          · exact h.2
        subst hRe
        have hn1 : (code == 0) = false := by simpa using h0
        have hn2 : (code != 0) = true := by simpa using h0
        have hcz : ((code.toNat : Nat) : Int) = code := by omega
        have hcn : code.toNat ≠ 0 := by omega
        have HQ := hid (And.intro hcz hcn)
        clear hq h0 hcz hcn HF
        go_wp2_with fail
        refine (C1.out _ (HM.out.below hb)).mono ?_
        rintro e w1 ⟨rfl, hb1⟩
        go_wp2_with fail
        go_ret2
        exact ⟨⟨HQ.out.2, by rw [HQ.out.1]; rfl⟩, chain2 (chain2 hb hs hb1) (chain2 hb hs hb1).size (below_alloc _ _)⟩
    · have hke : k = l.length := by omega
      have hRe : R = .ok acc := by
        rw [HRK.out, hke, List.drop_length]
        unfold addL fldsL
        simp
      subst hRe
      rw [← HA.out] at ho
      go_wp2_with fail
      go_ret2
      exact ⟨⟨_, rfl, ho⟩, hb⟩
end Go.Proofs.YtefplhkjcclppaaGreatDoor
/-
  Contract of package head: ReadRequest.
-/
namespace Go.Proofs.YtefplhkjcclppaaGreatDoor
open Go.RowKit Go.Pantry

theorem minorZ_cases (v : List UInt8) : (minorL v = some 0 ∧ minorZ v = 0) ∨ (minorL v = some 1 ∧ minorZ v = 1) ∨ (minorL v = none ∧ minorZ v = -1) := by
  unfold minorZ
  cases h : minorL v with
  | none => right; right; exact ⟨rfl, rfl⟩
  | some n =>
    have := minorL_le h
    rcases Nat.lt_or_ge n 1 with h1 | h1
    · left
      have : n = 0 := by omega
      subst this
      exact ⟨rfl, rfl⟩
    · right; left
      have : n = 1 := by omega
      subst this
      exact ⟨rfl, rfl⟩
theorem reqL_code (s : List UInt8) : ((reqP s).2.2.2 = 0 ∧ 0 ≤ (reqP s).2.2.1 ∧ reqL s = .ok ⟨(reqP s).1, (reqP s).2.1, 0, (reqP s).2.2.1.toNat, []⟩) ∨ (((reqP s).2.2.2 = 21 ∨ (reqP s).2.2.2 = 22) ∧ reqL s = .error (reqP s).2.2.2.toNat) := by
  unfold reqP reqL
  generalize piecesL [32] s.length s = l
  match l with
  | [] => right; exact ⟨.inl rfl, rfl⟩
  | [_] => right; exact ⟨.inl rfl, rfl⟩
  | [_, _] => right; exact ⟨.inl rfl, rfl⟩
  | _ :: _ :: _ :: _ :: _ => right; exact ⟨.inl rfl, rfl⟩
  | [m, t, v] =>
    simp only
    unfold judgeZ formedR longR
    rcases minorZ_cases v with ⟨h1, h2⟩ | ⟨h1, h2⟩ | ⟨h1, h2⟩
    · rw [h1, h2]
      cases tokenL m && seenL t with
      | false => right; exact ⟨.inl rfl, rfl⟩
      | true =>
        by_cases h3 : 16 < m.length ∨ 1024 < t.length
        · right
          have e : (decide (16 < m.length) || decide (1024 < t.length)) = true := by simpa using h3
          rw [e]
          refine ⟨.inr rfl, ?_⟩
          rw [if_pos (show (true && (some 0).isSome) = true from rfl), if_pos h3]; rfl
        · left
          have e : (decide (16 < m.length) || decide (1024 < t.length)) = false := by simp; omega
          rw [e]
          refine ⟨rfl, Int.le_refl _, ?_⟩
          rw [if_pos (show (true && (some 0).isSome) = true from rfl), if_neg h3]; rfl
    · rw [h1, h2]
      cases tokenL m && seenL t with
      | false => right; exact ⟨.inl rfl, rfl⟩
      | true =>
        by_cases h3 : 16 < m.length ∨ 1024 < t.length
        · right
          have e : (decide (16 < m.length) || decide (1024 < t.length)) = true := by simpa using h3
          rw [e]
          refine ⟨.inr rfl, ?_⟩
          rw [if_pos (show (true && (some 1).isSome) = true from rfl), if_pos h3]; rfl
        · left
          have e : (decide (16 < m.length) || decide (1024 < t.length)) = false := by simp; omega
          rw [e]
          refine ⟨rfl, by decide, ?_⟩
          rw [if_pos (show (true && (some 1).isSome) = true from rfl), if_neg h3]; rfl
    · right
      rw [h1, h2]
      cases tokenL m && seenL t <;> exact ⟨.inl rfl, rfl⟩
theorem cutL_err {s : List UInt8} {e : Nat} (h : cutL s = .error e) : e = 20 ∨ e = 22 := by
  unfold cutL at h
  cases hf : findL crlf2 (s.take 4096) with
  | some i => rw [hf] at h; cases h
  | none =>
    rw [hf] at h
    simp only at h
    split at h <;> cases h <;> simp
theorem ownsRow_far {w w' : World} {B : Nat} {e : TypeId} {size : Nat} {v : Value} {n : Nat} {xs : List Value} (h : w.ownsRow B e size v n xs) (hh : ∀ k, B ≤ k → w'.heap[k]? = w.heap[k]?) : w'.ownsRow B e size v n xs := by
  refine ⟨h.1, ?_⟩
  rcases h.2 with hn | ⟨g, cap, cur, rfl, hbg, hgg, rest⟩
  · exact .inl hn
  · exact .inr ⟨g, cap, cur, rfl, hbg, (hh g hbg).trans hgg, rest⟩
/-- what ReadRequest tells -/
def ReqRead (t : TypeId) (B : Nat) (x : Except Nat (Hd × Nat)) (e : Ending) (w' : World) : Prop := match x with
  | .error k => k ≠ 0 ∧ e = .returned (.tuple #[reqV [] [] 0 none 0 0, .int .i64 0, .int .i64 (k : Int)])
  | .ok (h, n) => ∃ v', e = .returned (.tuple #[.agg #[strV h.first, strV h.second, .int .i64 (h.minor : Int), v'], .int .i64 (n : Int), .int .i64 0]) ∧ w'.ownsRow B t 2 v' h.flds.length (fldCells h.flds)
set_option maxRecDepth 100000 in
set_option maxHeartbeats 4000000 in
theorem ReadRequest_any (ao : Option Addr) (cap : Nat) (l : List UInt8) (w : World) (hr : Reads w (.slice ao l.length cap) (l.map byteV)) (hc : l.length ≤ cap) (hm : MaxOk w) :
    Calls Tryz.prog 18 #[.slice ao l.length cap] w fun e w' => ReqRead 110 w.heap.size (readL reqL l) e w' ∧ Below w.heap.size w w' := by
  obtain ⟨W0, hW0⟩ : ∃ W, W = w.alloc (.cells #[.string ⟨#[]⟩, .string ⟨#[]⟩, .int .i64 0, .slice none 0 0] 40) := ⟨_, rfl⟩
  have hb0 : Below w.heap.size w W0 := by rw [hW0]; exact below_alloc _ _
  have hr0 : rowIs W0 w.heap.size #[.string ⟨#[]⟩, .string ⟨#[]⟩, .int .i64 0, .slice none 0 0] 40 := by rw [hW0]; exact rowIs_new _ _ _
  obtain ⟨R, hR⟩ : ∃ R, readL reqL l = R := ⟨_, rfl⟩
  rw [hR]
  rw [readL_cut] at hR
  have hrd0 := hr.below hb0
  have hm0 := hm.below hb0
  cases hcut : cutL l with
  | error k =>
    rw [hcut] at hR
    simp only at hR
    have c0 := cut_err ao cap l k W0 hrd0 hc hm0 hcut
    have C0 := hid c0
    subst hR
    rcases cutL_err hcut with rfl | rfl
    all_goals
      clear hcut c0 hr hrd0 hm hm0 hc
      go_enter Tryz.func18, Tryz.ntmps18
      go_wp2_with fail
      rw [← hW0]
      clear hW0
      refine C0.out.mono ?_
      rintro e w1 ⟨rfl, hb1⟩
      have hr1 := hr0.below hb1
      have hbb := chain2 hb0 hb0.size hb1
      clear hb0 hr0 hb1
      go_wp2_with (refine wpList_store_row rfl 40 _ _ rfl w.heap.size _ rfl rfl 40 #[.string ⟨#[]⟩, .string ⟨#[]⟩, .int .i64 0, .slice none 0 0] hr1 infoReqS rfl (one4 [] [] 0 none 0 0) ?_)
      refine bodyPost_ret (results_row3 Tryz.results18 _ _ w.heap.size _ rfl (hr1.setRow _) Tryz.underlying40 rfl infoReqS) rfl ?_
      exact ⟨⟨by decide, rfl⟩, below_setRow hbb (Nat.le_refl _) _⟩
  | ok p =>
    obtain ⟨lst, n⟩ := p
    obtain ⟨p1, p2, p3, p4, p5⟩ := cutL_pos hcut
    obtain ⟨a, r, rfl⟩ : ∃ a r, lst = a :: r := by
      cases lst with
      | nil => cases p1
      | cons a r => exact ⟨a, r, rfl⟩
    rw [hcut] at hR
    simp only at hR
    have c0 := cut_ok ao cap l a r n W0 hrd0 hc hm0 hcut
    have C0 := hid c0
    have ha : a.length ≤ 100000 := Nat.le_trans (p3 a (by simp)) (by decide)
    have hrl : ∀ x ∈ r, x.length ≤ 100000 := fun x hx => Nat.le_trans (p3 x (by simp [hx])) (by decide)
    have hrn : r.length < 4294967296 := by simp at p2; omega
    have c1 := fun W h => readRequestLine_any a W h ha
    have c2 := fun W v h1 h2 => readFields_any v r W h1 hrn hrl h2
    have hq := reqL_code a
    generalize reqP a = q at c1 hq
    obtain ⟨m, t, z, code⟩ := q
    simp only at c1 hq
    have hR2 : R = match reqL a with
      | .error e => .error e
      | .ok h => match fldsL 0 r with | .error e => .error e | .ok f => .ok ({ h with flds := f }, n) := by
      rw [← hR]
      unfold headL
      simp only
      cases reqL a with
      | error e => rfl
      | ok h => cases fldsL 0 r <;> rfl
    have C1 := hid c1
    have C2 := hid c2
    have HQ := hid hq
    have HR2 := hid hR2
    clear c0 c1 c2 hq hR hR2 hcut hr hrd0 hm hc p1 p2 p3 p4 p5 ha hrl hrn
    by_cases h0 : code = 0
    · subst h0
      obtain ⟨hz, hqe⟩ : 0 ≤ z ∧ reqL a = .ok ⟨m, t, 0, z.toNat, []⟩ := by
        rcases HQ.out with h | ⟨h, _⟩
        · exact h.2
        · rcases h with h | h <;> cases h
      have hR3 : R = match fldsL 0 r with | .error e => .error e | .ok f => .ok (⟨m, t, 0, z.toNat, f⟩, n) := by
        rw [HR2.out, hqe]
      have hzz : ((z.toNat : Nat) : Int) = z := by omega
      have HZ := hid hzz
      have HR3 := hid hR3
      clear hR3 HR2 hqe HQ hzz hz
      generalize fldsL 0 r = F at C2 HR3
      go_enter Tryz.func18, Tryz.ntmps18
      go_wp2_with fail
      rw [← hW0]
      clear hW0
      refine C0.out.mono ?_
      rintro e w1 ⟨⟨aor, capr, rfl, hrd⟩, hb1⟩
      have hr1 := hr0.below hb1
      have hbb := chain2 hb0 hb0.size hb1
      have hm1 := hm0.below hb1
      clear hb0 hr0 hb1 hm0 C0
      go_wp2_with fail
      refine (C1.out _ hm1).mono ?_
      rintro e w2 ⟨rfl, hb2⟩
      obtain ⟨W, hW⟩ : ∃ W, W = w2.alloc (.cells #[strV m, strV t, .int .i64 z, .slice none 0 0] 40) := ⟨_, rfl⟩
      have hbW : Below w2.heap.size w2 W := by rw [hW]; exact below_alloc _ _
      have hg : rowIs W w2.heap.size #[strV m, strV t, .int .i64 z, .slice none 0 0] 40 := by rw [hW]; exact rowIs_new _ _ _
      have hr2 := (hr1.below hb2).below hbW
      have hne : w2.heap.size ≠ w.heap.size := by have := (hr1.below hb2).lt; omega
      have hm2 := (hm1.below hb2).below hbW
      have hrd2 := (hrd.below hb2).below hbW
      have hb3 := chain2 (chain2 hbb hbb.size hb2) (chain2 hbb hbb.size hb2).size hbW
      have hwg : w.heap.size ≤ w2.heap.size := (chain2 hbb hbb.size hb2).size
      clear hr1 hbb hm1 hrd hb2 hbW C1
      go_wp2_with fail
      rw [← hW]
      clear hW
      generalize w2.heap.size = G at *
      refine (C2.out _ _ hrd2 hm2).mono ?_
      rintro e w3 ⟨hfl, hb4⟩
      have hr3 := hr2.below hb4
      have hg3 := hg.below hb4
      have hb5 := chain2 hb3 hb3.size hb4
      have hBs := hb3.size
      have hgl := hg.lt
      have hwl := hr2.lt
      clear hr2 hg hb4 hb3 hrd2 hm2 C2
      cases F with
      | error k =>
        obtain ⟨hk0, rfl⟩ := hfl
        have hR4 : R = .error k := HR3.out
        subst hR4
        have k1 : ((k : Int) == 0) = false := by simp; omega
        have k2 : ((k : Int) != 0) = true := by simp; omega
        have HK := hid hk0
        clear hk0
        have hcl := hg3.cell 3
        have hfr := hg3.free 3
        have hg4 := hg3.setCell 3 (.slice none 0 0)
        have hr4 := hr3.setCell_block (g' := G) (Ne.symm hne) 3 (.slice none 0 0)
        have hb6 := hb5.setCell (p := ⟨G, 3, none⟩) hwg (.slice none 0 0)
        have d0 : (w3.setCell ⟨G, 3, none⟩ (.slice none 0 0)).cell? ⟨G, 0, none⟩ = some (strV m) := hg4.cell 0
        have d1 : (w3.setCell ⟨G, 3, none⟩ (.slice none 0 0)).cell? ⟨G, 1, none⟩ = some (strV t) := hg4.cell 1
        have d2 : (w3.setCell ⟨G, 3, none⟩ (.slice none 0 0)).cell? ⟨G, 2, none⟩ = some (.int .i64 z) := hg4.cell 2
        have d3 : (w3.setCell ⟨G, 3, none⟩ (.slice none 0 0)).cell? ⟨G, 3, none⟩ = some (.slice none 0 0) := hg4.cell 3
        clear hg3 hr3 hb5 hg4
        go_wp2_with (refine wpList_store_row rfl 40 _ _ rfl w.heap.size _ rfl rfl 40 #[.string ⟨#[]⟩, .string ⟨#[]⟩, .int .i64 0, .slice none 0 0] hr4 infoReqS rfl (one4 [] [] 0 none 0 0) ?_)
        refine bodyPost_ret (results_row3 Tryz.results18 _ _ w.heap.size _ rfl (hr4.setRow _) Tryz.underlying40 rfl infoReqS) rfl ?_
        exact ⟨⟨HK.out, rfl⟩, below_setRow hb6 (Nat.le_refl _) _⟩
      | ok L =>
        obtain ⟨v', rfl, ho⟩ := hfl
        have hR4 : R = .ok (⟨m, t, 0, z.toNat, L⟩, n) := HR3.out
        subst hR4
        obtain ⟨aov, capv, rfl⟩ := ownsRow_form ho
        have HO := hid ho
        clear ho
        have hcl := hg3.cell 3
        have hfr := hg3.free 3
        have hg4 := hg3.setCell 3 (.slice aov L.length capv)
        have hr4 := hr3.setCell_block (g' := G) (Ne.symm hne) 3 (.slice aov L.length capv)
        have hb6 := hb5.setCell (p := ⟨G, 3, none⟩) hwg (.slice aov L.length capv)
        have d0 : (w3.setCell ⟨G, 3, none⟩ (.slice aov L.length capv)).cell? ⟨G, 0, none⟩ = some (strV m) := hg4.cell 0
        have d1 : (w3.setCell ⟨G, 3, none⟩ (.slice aov L.length capv)).cell? ⟨G, 1, none⟩ = some (strV t) := hg4.cell 1
        have d2 : (w3.setCell ⟨G, 3, none⟩ (.slice aov L.length capv)).cell? ⟨G, 2, none⟩ = some (.int .i64 z) := hg4.cell 2
        have d3 : (w3.setCell ⟨G, 3, none⟩ (.slice aov L.length capv)).cell? ⟨G, 3, none⟩ = some (.slice aov L.length capv) := hg4.cell 3
        clear hg3 hr3 hb5 hg4
        go_wp2_with (refine wpList_store_row rfl 40 _ _ rfl w.heap.size _ rfl rfl 40 #[.string ⟨#[]⟩, .string ⟨#[]⟩, .int .i64 0, .slice none 0 0] hr4 infoReqS rfl (one4 m t z aov L.length capv) ?_)
        refine bodyPost_ret (results_row3 Tryz.results18 _ _ w.heap.size _ rfl (hr4.setRow _) Tryz.underlying40 rfl infoReqS) rfl ?_
        refine ⟨⟨_, by rw [HZ.out]; rfl, ?_⟩, below_setRow hb6 (Nat.le_refl _) _⟩
        refine (ownsRow_far HO.out fun k hk => ?_).base hBs
        rw [_root_.Go.setRow_other _ _ _ _ (by omega), Below.heap_setCell _ ⟨G, 3, none⟩ _ k (by show k ≠ G; omega)]
    · have hq2 : code = 21 ∨ code = 22 := by
        rcases HQ.out with h | h
        · exact absurd h.1 h0
        · exact h.1
      have hR3 : R = .error code.toNat := by
        rw [HR2.out]
        rcases HQ.out with h | h
        · exact absurd h.1 h0
        · rw [h.2]
      subst hR3
      have k1 : (code == 0) = false := by simpa using h0
      have k2 : (code != 0) = true := by simpa using h0
      have hcz : ((code.toNat : Nat) : Int) = code := by omega
      have hcn : code.toNat ≠ 0 := by omega
      have HK := hid (And.intro hcz hcn)
      clear hq2 h0 hcz hcn HQ HR2
      go_enter Tryz.func18, Tryz.ntmps18
      go_wp2_with fail
      rw [← hW0]
      clear hW0
      refine C0.out.mono ?_
      rintro e w1 ⟨⟨aor, capr, rfl, hrd⟩, hb1⟩
      have hr1 := hr0.below hb1
      have hbb := chain2 hb0 hb0.size hb1
      have hm1 := hm0.below hb1
      clear hb0 hr0 hb1 hm0 C0
      go_wp2_with fail
      refine (C1.out _ hm1).mono ?_
      rintro e w2 ⟨rfl, hb2⟩
      have hr2 := hr1.below hb2
      have hb3 := chain2 hbb hbb.size hb2
      obtain ⟨W, hW⟩ : ∃ W, W = w2.alloc (.cells #[strV m, strV t, .int .i64 z, .slice none 0 0] 40) := ⟨_, rfl⟩
      have hbW : Below w2.heap.size w2 W := by rw [hW]; exact below_alloc _ _
      have hr3 := hr2.below hbW
      have hb4 := chain2 hb3 hb3.size hbW
      rw [hW] at hr3 hb4
      clear hr1 hr2 hbb hb2 hb3 hm1 hrd hW hbW
      go_wp2_with (refine wpList_store_row rfl 40 _ _ rfl w.heap.size _ rfl rfl 40 #[.string ⟨#[]⟩, .string ⟨#[]⟩, .int .i64 0, .slice none 0 0] hr3 infoReqS rfl (one4 [] [] 0 none 0 0) ?_)
      refine bodyPost_ret (results_row3 Tryz.results18 _ _ w.heap.size _ rfl (hr3.setRow _) Tryz.underlying40 rfl infoReqS) rfl ?_
      exact ⟨⟨HK.out.2, by rw [HK.out.1]; rfl⟩, below_setRow hb4 (Nat.le_refl _) _⟩
end Go.Proofs.YtefplhkjcclppaaGreatDoor
/-
  Contracts of package head: of a response: long, formed.
-/
namespace Go.Proofs.YtefplhkjcclppaaGreatDoor
open Go.RowKit Go.Pantry

theorem slong_any (st : Int) (r : List UInt8) (z : Int) (ao : Option Addr) (n cap : Nat) (w : World) :
    Calls Tryz.prog 75 #[resV st r z ao n cap] w fun e w' => e = .returned (.bool (decide (64 < r.length))) ∧ Below w.heap.size w w' := by
  by_cases h1 : (64 : Int) < (r.length : Int)
  · have e : decide (64 < r.length) = true := by simp; omega
    rw [e]
    clear e
    go_enter Tryz.func75, Tryz.ntmps75
    go_wp2
    go_ret
    exact ⟨rfl, below_alloc _ _⟩
  · have e : decide (64 < r.length) = false := by simp; omega
    rw [e]
    have d1 : decide ((64 : Int) < (r.length : Int)) = false := decide_eq_false h1
    clear e h1
    go_enter Tryz.func75, Tryz.ntmps75
    go_wp2
    go_ret
    exact ⟨rfl, below_alloc _ _⟩
def formedS (st : Int) (r : List UInt8) (z : Int) : Bool := (z == 0 || z == 1) && decide (100 ≤ st) && decide (st ≤ 599) && r.all okV && trimL r == r
set_option maxRecDepth 100000 in
set_option maxHeartbeats 4000000 in
theorem sformed_any (st : Int) (r : List UInt8) (z : Int) (ao : Option Addr) (n cap : Nat) (w : World) (hr : r.length ≤ 100000) :
    Calls Tryz.prog 74 #[resV st r z ao n cap] w fun e w' => e = .returned (.bool (formedS st r z)) ∧ Below w.heap.size w w' := by
  have c1 := fun W => versioned_any z ao n cap W
  have c2 := fun W => all_text ⟨r.toArray⟩ W (by rw [szL]; unfold maxLen; omega)
  have c3 := fun W => Trim_any ⟨r.toArray⟩ W (by rw [szL]; unfold maxLen; omega)
  rw [dtL] at c2 c3
  have hf : formedS st r z = ((z == 0 || z == 1) && decide (100 ≤ st) && decide (st ≤ 599) && r.all okV && trimL r == r) := rfl
  generalize formedS st r z = F at hf ⊢
  generalize (z == 0 || z == 1) = q1 at c1 hf
  generalize r.all okV = q4 at c2 hf
  generalize trimL r = T at c3 hf
  have C1 := hid c1
  have C2 := hid c2
  have C3 := hid c3
  clear c1 c2 c3 hr
  obtain ⟨W, hW⟩ : ∃ W, W = w.alloc (.cells #[.int .i64 st, strV r, .int .i64 z, .slice ao n cap] 53) := ⟨_, rfl⟩
  have hbW : Below w.heap.size w W := by rw [hW]; exact below_alloc _ _
  have hg : rowIs W w.heap.size #[.int .i64 st, strV r, .int .i64 z, .slice ao n cap] 53 := by rw [hW]; exact rowIs_new _ _ _
  have HS : BoxS w w.heap.size w.heap.size #[.int .i64 st, strV r, .int .i64 z, .slice ao n cap] 53 [] W := ⟨hbW, hbW.size, hg⟩
  clear hbW hg
  obtain ⟨q2, hq2⟩ : ∃ q, decide (100 ≤ st) = q := ⟨_, rfl⟩
  obtain ⟨q3, hq3⟩ : ∃ q, decide (st ≤ 599) = q := ⟨_, rfl⟩
  obtain ⟨q5, hq5⟩ : ∃ q, (T == r) = q := ⟨_, rfl⟩
  rw [hq2, hq3, hq5] at hf
  cases q1
  · obtain rfl : F = false := hf
    go_enter Tryz.func74, Tryz.ntmps74
    go_wp2_with fail
    rw [← hW]
    clear hW
    refine wp_region_U [] (by kernel_rfl) (BoxS w w.heap.size w.heap.size #[.int .i64 st, strV r, .int .i64 z, .slice ao n cap] 53) (b := []) (by kernel_rfl) HS.drew ?_
    refine wpAnyU_take (i := 0) (v := ?_) (by decide) rfl (by kernel_rfl) (by kernel_rfl) (by kernel_rfl) (fun _ _ _ h => h) (Steady.plain (by kernel_rfl) ?_) ?_
    rotate_left
    · intro b W hS
      have h0 := hS.2.2.cell 0
      have h1 := hS.2.2.cell 1
      have h2 := hS.2.2.cell 2
      have h3 := hS.2.2.cell 3
      go_simp
      first | done | with_reducible rfl
    simp only [Act.put, List.getElem_toArray, List.getElem_cons_zero, List.setIfInBounds_toArray, List.set_cons_zero, List.set_cons_succ]
    refine wpAnyU_take (i := 1) (v := ?_) (by decide) rfl (by kernel_rfl) (by kernel_rfl) (by kernel_rfl) (fun _ _ _ h => h) (Steady.plain (by kernel_rfl) ?_) ?_
    rotate_left
    · intro b W hS
      have h0 := hS.2.2.cell 0
      have h1 := hS.2.2.cell 1
      have h2 := hS.2.2.cell 2
      have h3 := hS.2.2.cell 3
      go_simp
      first | done | with_reducible rfl
    simp only [Act.put, List.getElem_toArray, List.getElem_cons_succ, List.getElem_cons_zero, List.setIfInBounds_toArray, List.set_cons_zero, List.set_cons_succ]
    refine wpAnyU_take (i := 2) (v := .bool false) (by decide) rfl (by kernel_rfl) (by kernel_rfl) (by kernel_rfl) (fun _ _ _ h => h) (Steady.call (f := 84) (args := #[.agg #[.int .i64 z, .slice ao n cap]]) (by kernel_rfl) (fun _ => by kernel_rfl) ?_) ?_
    · intro b W hS
      refine (C1.out W).mono ?_
      rintro e w' ⟨he, hb⟩
      exact ⟨he, hS.below hb⟩
    simp only [Act.put, List.getElem_toArray, List.getElem_cons_succ, List.getElem_cons_zero, List.setIfInBounds_toArray, List.set_cons_zero, List.set_cons_succ]
    refine wpAnyU_take (i := 3) (v := ?_) (by decide) rfl (by kernel_rfl) (by kernel_rfl) (by kernel_rfl) (fun _ _ _ h => h) (Steady.plain (by kernel_rfl) ?_) ?_
    rotate_left
    · intro b W hS
      have h0 := hS.2.2.cell 0
      have h1 := hS.2.2.cell 1
      have h2 := hS.2.2.cell 2
      have h3 := hS.2.2.cell 3
      go_simp
      first | done | with_reducible rfl
    simp only [Act.put, List.getElem_toArray, List.getElem_cons_succ, List.getElem_cons_zero, List.setIfInBounds_toArray, List.set_cons_zero, List.set_cons_succ]
    refine wpAnyU_take (i := 4) (by decide) rfl (by kernel_rfl) (by kernel_rfl) (by kernel_rfl) (fun _ _ _ h => h) (Steady.off (by kernel_rfl)) ?_
    simp only [Act.put, List.getElem_toArray, List.getElem_cons_succ, List.getElem_cons_zero, List.setIfInBounds_toArray, List.set_cons_zero, List.set_cons_succ]
    refine wpAnyU_take (i := 5) (by decide) rfl (by kernel_rfl) (by kernel_rfl) (by kernel_rfl) (fun _ _ _ h => h) (Steady.off (by kernel_rfl)) ?_
    simp only [Act.put, List.getElem_toArray, List.getElem_cons_succ, List.getElem_cons_zero, List.setIfInBounds_toArray, List.set_cons_zero, List.set_cons_succ]
    refine wpAnyU_take (i := 6) (by decide) rfl (by kernel_rfl) (by kernel_rfl) (by kernel_rfl) (fun _ _ _ h => h) (Steady.off (by kernel_rfl)) ?_
    simp only [Act.put, List.getElem_toArray, List.getElem_cons_succ, List.getElem_cons_zero, List.setIfInBounds_toArray, List.set_cons_zero, List.set_cons_succ]
    refine wpAnyU_take (i := 7) (v := ?_) (by decide) rfl (by kernel_rfl) (by kernel_rfl) (by kernel_rfl) (fun _ _ _ h => h) (Steady.plain (by kernel_rfl) ?_) ?_
    rotate_left
    · intro b W hS
      have h0 := hS.2.2.cell 0
      have h1 := hS.2.2.cell 1
      have h2 := hS.2.2.cell 2
      have h3 := hS.2.2.cell 3
      go_simp
      first | done | with_reducible rfl
    simp only [Act.put, List.getElem_toArray, List.getElem_cons_succ, List.getElem_cons_zero, List.setIfInBounds_toArray, List.set_cons_zero, List.set_cons_succ]
    refine wpAnyU_take (i := 8) (v := ?_) (by decide) rfl (by kernel_rfl) (by kernel_rfl) (by kernel_rfl) (fun _ _ _ h => h) (Steady.plain (by kernel_rfl) ?_) ?_
    rotate_left
    · intro b W hS
      have h0 := hS.2.2.cell 0
      have h1 := hS.2.2.cell 1
      have h2 := hS.2.2.cell 2
      have h3 := hS.2.2.cell 3
      go_simp
      first | done | with_reducible rfl
    simp only [Act.put, List.getElem_toArray, List.getElem_cons_succ, List.getElem_cons_zero, List.setIfInBounds_toArray, List.set_cons_zero, List.set_cons_succ]
    refine wpAnyU_take (i := 9) (by decide) rfl (by kernel_rfl) (by kernel_rfl) (by kernel_rfl) (fun _ _ _ h => h) (Steady.off (by kernel_rfl)) ?_
    simp only [Act.put, List.getElem_toArray, List.getElem_cons_succ, List.getElem_cons_zero, List.setIfInBounds_toArray, List.set_cons_zero, List.set_cons_succ]
    refine wpAnyU_take (i := 10) (by decide) rfl (by kernel_rfl) (by kernel_rfl) (by kernel_rfl) (fun _ _ _ h => h) (Steady.off (by kernel_rfl)) ?_
    simp only [Act.put, List.getElem_toArray, List.getElem_cons_succ, List.getElem_cons_zero, List.setIfInBounds_toArray, List.set_cons_zero, List.set_cons_succ]
    refine wpAnyU_take (i := 11) (by decide) rfl (by kernel_rfl) (by kernel_rfl) (by kernel_rfl) (fun _ _ _ h => h) (Steady.off (by kernel_rfl)) ?_
    simp only [Act.put, List.getElem_toArray, List.getElem_cons_succ, List.getElem_cons_zero, List.setIfInBounds_toArray, List.set_cons_zero, List.set_cons_succ]
    refine wpAnyU_take (i := 12) (v := ?_) (by decide) rfl (by kernel_rfl) (by kernel_rfl) (by kernel_rfl) (fun _ _ _ h => h) (Steady.plain (by kernel_rfl) ?_) ?_
    rotate_left
    · intro b W hS
      have h0 := hS.2.2.cell 0
      have h1 := hS.2.2.cell 1
      have h2 := hS.2.2.cell 2
      have h3 := hS.2.2.cell 3
      go_simp
      first | done | with_reducible rfl
    simp only [Act.put, List.getElem_toArray, List.getElem_cons_succ, List.getElem_cons_zero, List.setIfInBounds_toArray, List.set_cons_zero, List.set_cons_succ]
    refine wpAnyU_take (i := 13) (v := ?_) (by decide) rfl (by kernel_rfl) (by kernel_rfl) (by kernel_rfl) (fun _ _ _ h => h) (Steady.plain (by kernel_rfl) ?_) ?_
    rotate_left
    · intro b W hS
      have h0 := hS.2.2.cell 0
      have h1 := hS.2.2.cell 1
      have h2 := hS.2.2.cell 2
      have h3 := hS.2.2.cell 3
      go_simp
      first | done | with_reducible rfl
    simp only [Act.put, List.getElem_toArray, List.getElem_cons_succ, List.getElem_cons_zero, List.setIfInBounds_toArray, List.set_cons_zero, List.set_cons_succ]
    refine wpAnyU_take (i := 14) (by decide) rfl (by kernel_rfl) (by kernel_rfl) (by kernel_rfl) (fun _ _ _ h => h) (Steady.off (by kernel_rfl)) ?_
    simp only [Act.put, List.getElem_toArray, List.getElem_cons_succ, List.getElem_cons_zero, List.setIfInBounds_toArray, List.set_cons_zero, List.set_cons_succ]
    refine wpAnyU_take (i := 15) (by decide) rfl (by kernel_rfl) (by kernel_rfl) (by kernel_rfl) (fun _ _ _ h => h) (Steady.off (by kernel_rfl)) ?_
    simp only [Act.put, List.getElem_toArray, List.getElem_cons_succ, List.getElem_cons_zero, List.setIfInBounds_toArray, List.set_cons_zero, List.set_cons_succ]
    refine wpAnyU_take (i := 16) (by decide) rfl (by kernel_rfl) (by kernel_rfl) (by kernel_rfl) (fun _ _ _ h => h) (Steady.off (by kernel_rfl)) ?_
    simp only [Act.put, List.getElem_toArray, List.getElem_cons_succ, List.getElem_cons_zero, List.setIfInBounds_toArray, List.set_cons_zero, List.set_cons_succ]
    refine wpAnyU_take (i := 17) (v := ?_) (by decide) rfl (by kernel_rfl) (by kernel_rfl) (by kernel_rfl) (fun _ _ _ h => h) (Steady.plain (by kernel_rfl) ?_) ?_
    rotate_left
    · intro b W hS
      have h0 := hS.2.2.cell 0
      have h1 := hS.2.2.cell 1
      have h2 := hS.2.2.cell 2
      have h3 := hS.2.2.cell 3
      go_simp
      first | done | with_reducible rfl
    simp only [Act.put, List.getElem_toArray, List.getElem_cons_succ, List.getElem_cons_zero, List.setIfInBounds_toArray, List.set_cons_zero, List.set_cons_succ]
    refine wpAnyU_take (i := 18) (v := ?_) (by decide) rfl (by kernel_rfl) (by kernel_rfl) (by kernel_rfl) (fun _ _ _ h => h) (Steady.plain (by kernel_rfl) ?_) ?_
    rotate_left
    · intro b W hS
      have h0 := hS.2.2.cell 0
      have h1 := hS.2.2.cell 1
      have h2 := hS.2.2.cell 2
      have h3 := hS.2.2.cell 3
      go_simp
      first | done | with_reducible rfl
    simp only [Act.put, List.getElem_toArray, List.getElem_cons_succ, List.getElem_cons_zero, List.setIfInBounds_toArray, List.set_cons_zero, List.set_cons_succ]
    refine wpAnyU_take (i := 19) (by decide) rfl (by kernel_rfl) (by kernel_rfl) (by kernel_rfl) (fun _ _ _ h => h) (Steady.off (by kernel_rfl)) ?_
    simp only [Act.put, List.getElem_toArray, List.getElem_cons_succ, List.getElem_cons_zero, List.setIfInBounds_toArray, List.set_cons_zero, List.set_cons_succ]
    refine wpAnyU_take (i := 20) (by decide) rfl (by kernel_rfl) (by kernel_rfl) (by kernel_rfl) (fun _ _ _ h => h) (Steady.off (by kernel_rfl)) ?_
    simp only [Act.put, List.getElem_toArray, List.getElem_cons_succ, List.getElem_cons_zero, List.setIfInBounds_toArray, List.set_cons_zero, List.set_cons_succ]
    refine wpAnyU_take (i := 21) (by decide) rfl (by kernel_rfl) (by kernel_rfl) (by kernel_rfl) (fun _ _ _ h => h) (Steady.off (by kernel_rfl)) ?_
    simp only [Act.put, List.getElem_toArray, List.getElem_cons_succ, List.getElem_cons_zero, List.setIfInBounds_toArray, List.set_cons_zero, List.set_cons_succ]
    refine wpAnyU_take (i := 22) (by decide) rfl (by kernel_rfl) (by kernel_rfl) (by kernel_rfl) (fun _ _ _ h => h) (Steady.off (by kernel_rfl)) ?_
    simp only [Act.put, List.getElem_toArray, List.getElem_cons_succ, List.getElem_cons_zero, List.setIfInBounds_toArray, List.set_cons_zero, List.set_cons_succ]
    refine wpAnyU_take (i := 23) (by decide) rfl (by kernel_rfl) (by kernel_rfl) (by kernel_rfl) (fun _ _ _ h => h) (Steady.off (by kernel_rfl)) ?_
    simp only [Act.put, List.getElem_toArray, List.getElem_cons_succ, List.getElem_cons_zero, List.setIfInBounds_toArray, List.set_cons_zero, List.set_cons_succ]
    refine wpAnyU_take (i := 24) (by decide) rfl (by kernel_rfl) (by kernel_rfl) (by kernel_rfl) (fun _ _ _ h => h) (Steady.off (by kernel_rfl)) ?_
    simp only [Act.put, List.getElem_toArray, List.getElem_cons_succ, List.getElem_cons_zero, List.setIfInBounds_toArray, List.set_cons_zero, List.set_cons_succ]
    refine wpAnyU_take (i := 25) (v := ?_) (by decide) rfl (by kernel_rfl) (by kernel_rfl) (by kernel_rfl) (fun _ _ _ h => h) (Steady.plain (by kernel_rfl) ?_) ?_
    rotate_left
    · intro b W hS
      have h0 := hS.2.2.cell 0
      have h1 := hS.2.2.cell 1
      have h2 := hS.2.2.cell 2
      have h3 := hS.2.2.cell 3
      go_simp
      first | done | with_reducible rfl
    simp only [Act.put, List.getElem_toArray, List.getElem_cons_succ, List.getElem_cons_zero, List.setIfInBounds_toArray, List.set_cons_zero, List.set_cons_succ]
    refine wpAnyU_take (i := 26) (v := ?_) (by decide) rfl (by kernel_rfl) (by kernel_rfl) (by kernel_rfl) (fun _ _ _ h => h) (Steady.plain (by kernel_rfl) ?_) ?_
    rotate_left
    · intro b W hS
      have h0 := hS.2.2.cell 0
      have h1 := hS.2.2.cell 1
      have h2 := hS.2.2.cell 2
      have h3 := hS.2.2.cell 3
      go_simp
      first | done | with_reducible rfl
    simp only [Act.put, List.getElem_toArray, List.getElem_cons_succ, List.getElem_cons_zero, List.setIfInBounds_toArray, List.set_cons_zero, List.set_cons_succ]
    refine wpAnyU_done (b := []) (by kernel_rfl) (by kernel_rfl) ?_ _
    intro w' hS
    go_wp2_with fail
    go_ret
    exact ⟨rfl, hS.1⟩
  · cases q2
    · obtain rfl : F = false := hf
      go_enter Tryz.func74, Tryz.ntmps74
      go_wp2_with fail
      rw [← hW]
      clear hW
      refine wp_region_U [] (by kernel_rfl) (BoxS w w.heap.size w.heap.size #[.int .i64 st, strV r, .int .i64 z, .slice ao n cap] 53) (b := []) (by kernel_rfl) HS.drew ?_
      refine wpAnyU_take (i := 0) (v := ?_) (by decide) rfl (by kernel_rfl) (by kernel_rfl) (by kernel_rfl) (fun _ _ _ h => h) (Steady.plain (by kernel_rfl) ?_) ?_
      rotate_left
      · intro b W hS
        have h0 := hS.2.2.cell 0
        have h1 := hS.2.2.cell 1
        have h2 := hS.2.2.cell 2
        have h3 := hS.2.2.cell 3
        go_simp
        first | done | with_reducible rfl
      simp only [Act.put, List.getElem_toArray, List.getElem_cons_zero, List.setIfInBounds_toArray, List.set_cons_zero, List.set_cons_succ]
      refine wpAnyU_take (i := 1) (v := ?_) (by decide) rfl (by kernel_rfl) (by kernel_rfl) (by kernel_rfl) (fun _ _ _ h => h) (Steady.plain (by kernel_rfl) ?_) ?_
      rotate_left
      · intro b W hS
        have h0 := hS.2.2.cell 0
        have h1 := hS.2.2.cell 1
        have h2 := hS.2.2.cell 2
        have h3 := hS.2.2.cell 3
        go_simp
        first | done | with_reducible rfl
      simp only [Act.put, List.getElem_toArray, List.getElem_cons_succ, List.getElem_cons_zero, List.setIfInBounds_toArray, List.set_cons_zero, List.set_cons_succ]
      refine wpAnyU_take (i := 2) (v := .bool true) (by decide) rfl (by kernel_rfl) (by kernel_rfl) (by kernel_rfl) (fun _ _ _ h => h) (Steady.call (f := 84) (args := #[.agg #[.int .i64 z, .slice ao n cap]]) (by kernel_rfl) (fun _ => by kernel_rfl) ?_) ?_
      · intro b W hS
        refine (C1.out W).mono ?_
        rintro e w' ⟨he, hb⟩
        exact ⟨he, hS.below hb⟩
      simp only [Act.put, List.getElem_toArray, List.getElem_cons_succ, List.getElem_cons_zero, List.setIfInBounds_toArray, List.set_cons_zero, List.set_cons_succ]
      refine wpAnyU_take (i := 3) (v := ?_) (by decide) rfl (by kernel_rfl) (by kernel_rfl) (by kernel_rfl) (fun _ _ _ h => h) (Steady.plain (by kernel_rfl) ?_) ?_
      rotate_left
      · intro b W hS
        have h0 := hS.2.2.cell 0
        have h1 := hS.2.2.cell 1
        have h2 := hS.2.2.cell 2
        have h3 := hS.2.2.cell 3
        go_simp
        first | done | with_reducible rfl
      simp only [Act.put, List.getElem_toArray, List.getElem_cons_succ, List.getElem_cons_zero, List.setIfInBounds_toArray, List.set_cons_zero, List.set_cons_succ]
      refine wpAnyU_take (i := 4) (v := ?_) (by decide) rfl (by kernel_rfl) (by kernel_rfl) (by kernel_rfl) (fun _ _ _ h => h) (Steady.plain (by kernel_rfl) ?_) ?_
      rotate_left
      · intro b W hS
        have h0 := hS.2.2.cell 0
        have h1 := hS.2.2.cell 1
        have h2 := hS.2.2.cell 2
        have h3 := hS.2.2.cell 3
        go_simp
        first | done | with_reducible rfl
      simp only [Act.put, List.getElem_toArray, List.getElem_cons_succ, List.getElem_cons_zero, List.setIfInBounds_toArray, List.set_cons_zero, List.set_cons_succ]
      refine wpAnyU_take (i := 5) (v := ?_) (by decide) rfl (by kernel_rfl) (by kernel_rfl) (by kernel_rfl) (fun _ _ _ h => h) (Steady.plain (by kernel_rfl) ?_) ?_
      rotate_left
      · intro b W hS
        have h0 := hS.2.2.cell 0
        have h1 := hS.2.2.cell 1
        have h2 := hS.2.2.cell 2
        have h3 := hS.2.2.cell 3
        go_simp
        first | done | with_reducible rfl
      simp only [Act.put, List.getElem_toArray, List.getElem_cons_succ, List.getElem_cons_zero, List.setIfInBounds_toArray, List.set_cons_zero, List.set_cons_succ]
      refine wpAnyU_take (i := 6) (v := ?_) (by decide) rfl (by kernel_rfl) (by kernel_rfl) (by kernel_rfl) (fun _ _ _ h => h) (Steady.plain (by kernel_rfl) ?_) ?_
      rotate_left
      · intro b W hS
        have h0 := hS.2.2.cell 0
        have h1 := hS.2.2.cell 1
        have h2 := hS.2.2.cell 2
        have h3 := hS.2.2.cell 3
        go_simp
        first | done | with_reducible rfl
      simp only [Act.put, List.getElem_toArray, List.getElem_cons_succ, List.getElem_cons_zero, List.setIfInBounds_toArray, List.set_cons_zero, List.set_cons_succ]
      refine wpAnyU_take (i := 7) (v := ?_) (by decide) rfl (by kernel_rfl) (by kernel_rfl) (by kernel_rfl) (fun _ _ _ h => h) (Steady.plain (by kernel_rfl) ?_) ?_
      rotate_left
      · intro b W hS
        have h0 := hS.2.2.cell 0
        have h1 := hS.2.2.cell 1
        have h2 := hS.2.2.cell 2
        have h3 := hS.2.2.cell 3
        go_simp
        first | done | with_reducible rfl
      simp only [Act.put, List.getElem_toArray, List.getElem_cons_succ, List.getElem_cons_zero, List.setIfInBounds_toArray, List.set_cons_zero, List.set_cons_succ]
      refine wpAnyU_take (i := 8) (v := ?_) (by decide) rfl (by kernel_rfl) (by kernel_rfl) (by kernel_rfl) (fun _ _ _ h => h) (Steady.plain (by kernel_rfl) ?_) ?_
      rotate_left
      · intro b W hS
        have h0 := hS.2.2.cell 0
        have h1 := hS.2.2.cell 1
        have h2 := hS.2.2.cell 2
        have h3 := hS.2.2.cell 3
        go_simp
        first | done | with_reducible rfl
      simp only [Act.put, List.getElem_toArray, List.getElem_cons_succ, List.getElem_cons_zero, List.setIfInBounds_toArray, List.set_cons_zero, List.set_cons_succ]
      refine wpAnyU_take (i := 9) (by decide) rfl (by kernel_rfl) (by kernel_rfl) (by kernel_rfl) (fun _ _ _ h => h) (Steady.off (by kernel_rfl)) ?_
      simp only [Act.put, List.getElem_toArray, List.getElem_cons_succ, List.getElem_cons_zero, List.setIfInBounds_toArray, List.set_cons_zero, List.set_cons_succ]
      refine wpAnyU_take (i := 10) (by decide) rfl (by kernel_rfl) (by kernel_rfl) (by kernel_rfl) (fun _ _ _ h => h) (Steady.off (by kernel_rfl)) ?_
      simp only [Act.put, List.getElem_toArray, List.getElem_cons_succ, List.getElem_cons_zero, List.setIfInBounds_toArray, List.set_cons_zero, List.set_cons_succ]
      refine wpAnyU_take (i := 11) (by decide) rfl (by kernel_rfl) (by kernel_rfl) (by kernel_rfl) (fun _ _ _ h => h) (Steady.off (by kernel_rfl)) ?_
      simp only [Act.put, List.getElem_toArray, List.getElem_cons_succ, List.getElem_cons_zero, List.setIfInBounds_toArray, List.set_cons_zero, List.set_cons_succ]
      refine wpAnyU_take (i := 12) (v := ?_) (by decide) rfl (by kernel_rfl) (by kernel_rfl) (by kernel_rfl) (fun _ _ _ h => h) (Steady.plain (by kernel_rfl) ?_) ?_
      rotate_left
      · intro b W hS
        have h0 := hS.2.2.cell 0
        have h1 := hS.2.2.cell 1
        have h2 := hS.2.2.cell 2
        have h3 := hS.2.2.cell 3
        go_simp
        first | done | with_reducible rfl
      simp only [Act.put, List.getElem_toArray, List.getElem_cons_succ, List.getElem_cons_zero, List.setIfInBounds_toArray, List.set_cons_zero, List.set_cons_succ]
      refine wpAnyU_take (i := 13) (v := ?_) (by decide) rfl (by kernel_rfl) (by kernel_rfl) (by kernel_rfl) (fun _ _ _ h => h) (Steady.plain (by kernel_rfl) ?_) ?_
      rotate_left
      · intro b W hS
        have h0 := hS.2.2.cell 0
        have h1 := hS.2.2.cell 1
        have h2 := hS.2.2.cell 2
        have h3 := hS.2.2.cell 3
        go_simp
        first | done | with_reducible rfl
      simp only [Act.put, List.getElem_toArray, List.getElem_cons_succ, List.getElem_cons_zero, List.setIfInBounds_toArray, List.set_cons_zero, List.set_cons_succ]
      refine wpAnyU_take (i := 14) (by decide) rfl (by kernel_rfl) (by kernel_rfl) (by kernel_rfl) (fun _ _ _ h => h) (Steady.off (by kernel_rfl)) ?_
      simp only [Act.put, List.getElem_toArray, List.getElem_cons_succ, List.getElem_cons_zero, List.setIfInBounds_toArray, List.set_cons_zero, List.set_cons_succ]
      refine wpAnyU_take (i := 15) (by decide) rfl (by kernel_rfl) (by kernel_rfl) (by kernel_rfl) (fun _ _ _ h => h) (Steady.off (by kernel_rfl)) ?_
      simp only [Act.put, List.getElem_toArray, List.getElem_cons_succ, List.getElem_cons_zero, List.setIfInBounds_toArray, List.set_cons_zero, List.set_cons_succ]
      refine wpAnyU_take (i := 16) (by decide) rfl (by kernel_rfl) (by kernel_rfl) (by kernel_rfl) (fun _ _ _ h => h) (Steady.off (by kernel_rfl)) ?_
      simp only [Act.put, List.getElem_toArray, List.getElem_cons_succ, List.getElem_cons_zero, List.setIfInBounds_toArray, List.set_cons_zero, List.set_cons_succ]
      refine wpAnyU_take (i := 17) (v := ?_) (by decide) rfl (by kernel_rfl) (by kernel_rfl) (by kernel_rfl) (fun _ _ _ h => h) (Steady.plain (by kernel_rfl) ?_) ?_
      rotate_left
      · intro b W hS
        have h0 := hS.2.2.cell 0
        have h1 := hS.2.2.cell 1
        have h2 := hS.2.2.cell 2
        have h3 := hS.2.2.cell 3
        go_simp
        first | done | with_reducible rfl
      simp only [Act.put, List.getElem_toArray, List.getElem_cons_succ, List.getElem_cons_zero, List.setIfInBounds_toArray, List.set_cons_zero, List.set_cons_succ]
      refine wpAnyU_take (i := 18) (v := ?_) (by decide) rfl (by kernel_rfl) (by kernel_rfl) (by kernel_rfl) (fun _ _ _ h => h) (Steady.plain (by kernel_rfl) ?_) ?_
      rotate_left
      · intro b W hS
        have h0 := hS.2.2.cell 0
        have h1 := hS.2.2.cell 1
        have h2 := hS.2.2.cell 2
        have h3 := hS.2.2.cell 3
        go_simp
        first | done | with_reducible rfl
      simp only [Act.put, List.getElem_toArray, List.getElem_cons_succ, List.getElem_cons_zero, List.setIfInBounds_toArray, List.set_cons_zero, List.set_cons_succ]
      refine wpAnyU_take (i := 19) (by decide) rfl (by kernel_rfl) (by kernel_rfl) (by kernel_rfl) (fun _ _ _ h => h) (Steady.off (by kernel_rfl)) ?_
      simp only [Act.put, List.getElem_toArray, List.getElem_cons_succ, List.getElem_cons_zero, List.setIfInBounds_toArray, List.set_cons_zero, List.set_cons_succ]
      refine wpAnyU_take (i := 20) (by decide) rfl (by kernel_rfl) (by kernel_rfl) (by kernel_rfl) (fun _ _ _ h => h) (Steady.off (by kernel_rfl)) ?_
      simp only [Act.put, List.getElem_toArray, List.getElem_cons_succ, List.getElem_cons_zero, List.setIfInBounds_toArray, List.set_cons_zero, List.set_cons_succ]
      refine wpAnyU_take (i := 21) (by decide) rfl (by kernel_rfl) (by kernel_rfl) (by kernel_rfl) (fun _ _ _ h => h) (Steady.off (by kernel_rfl)) ?_
      simp only [Act.put, List.getElem_toArray, List.getElem_cons_succ, List.getElem_cons_zero, List.setIfInBounds_toArray, List.set_cons_zero, List.set_cons_succ]
      refine wpAnyU_take (i := 22) (by decide) rfl (by kernel_rfl) (by kernel_rfl) (by kernel_rfl) (fun _ _ _ h => h) (Steady.off (by kernel_rfl)) ?_
      simp only [Act.put, List.getElem_toArray, List.getElem_cons_succ, List.getElem_cons_zero, List.setIfInBounds_toArray, List.set_cons_zero, List.set_cons_succ]
      refine wpAnyU_take (i := 23) (by decide) rfl (by kernel_rfl) (by kernel_rfl) (by kernel_rfl) (fun _ _ _ h => h) (Steady.off (by kernel_rfl)) ?_
      simp only [Act.put, List.getElem_toArray, List.getElem_cons_succ, List.getElem_cons_zero, List.setIfInBounds_toArray, List.set_cons_zero, List.set_cons_succ]
      refine wpAnyU_take (i := 24) (by decide) rfl (by kernel_rfl) (by kernel_rfl) (by kernel_rfl) (fun _ _ _ h => h) (Steady.off (by kernel_rfl)) ?_
      simp only [Act.put, List.getElem_toArray, List.getElem_cons_succ, List.getElem_cons_zero, List.setIfInBounds_toArray, List.set_cons_zero, List.set_cons_succ]
      refine wpAnyU_take (i := 25) (v := ?_) (by decide) rfl (by kernel_rfl) (by kernel_rfl) (by kernel_rfl) (fun _ _ _ h => h) (Steady.plain (by kernel_rfl) ?_) ?_
      rotate_left
      · intro b W hS
        have h0 := hS.2.2.cell 0
        have h1 := hS.2.2.cell 1
        have h2 := hS.2.2.cell 2
        have h3 := hS.2.2.cell 3
        go_simp
        first | done | with_reducible rfl
      simp only [Act.put, List.getElem_toArray, List.getElem_cons_succ, List.getElem_cons_zero, List.setIfInBounds_toArray, List.set_cons_zero, List.set_cons_succ]
      refine wpAnyU_take (i := 26) (v := ?_) (by decide) rfl (by kernel_rfl) (by kernel_rfl) (by kernel_rfl) (fun _ _ _ h => h) (Steady.plain (by kernel_rfl) ?_) ?_
      rotate_left
      · intro b W hS
        have h0 := hS.2.2.cell 0
        have h1 := hS.2.2.cell 1
        have h2 := hS.2.2.cell 2
        have h3 := hS.2.2.cell 3
        go_simp
        first | done | with_reducible rfl
      simp only [Act.put, List.getElem_toArray, List.getElem_cons_succ, List.getElem_cons_zero, List.setIfInBounds_toArray, List.set_cons_zero, List.set_cons_succ]
      refine wpAnyU_done (b := []) (by kernel_rfl) (by kernel_rfl) ?_ _
      intro w' hS
      go_wp2_with fail
      go_ret
      exact ⟨rfl, hS.1⟩
    · cases q3
      · obtain rfl : F = false := hf
        go_enter Tryz.func74, Tryz.ntmps74
        go_wp2_with fail
        rw [← hW]
        clear hW
        refine wp_region_U [] (by kernel_rfl) (BoxS w w.heap.size w.heap.size #[.int .i64 st, strV r, .int .i64 z, .slice ao n cap] 53) (b := []) (by kernel_rfl) HS.drew ?_
        refine wpAnyU_take (i := 0) (v := ?_) (by decide) rfl (by kernel_rfl) (by kernel_rfl) (by kernel_rfl) (fun _ _ _ h => h) (Steady.plain (by kernel_rfl) ?_) ?_
        rotate_left
        · intro b W hS
          have h0 := hS.2.2.cell 0
          have h1 := hS.2.2.cell 1
          have h2 := hS.2.2.cell 2
          have h3 := hS.2.2.cell 3
          go_simp
          first | done | with_reducible rfl
        simp only [Act.put, List.getElem_toArray, List.getElem_cons_zero, List.setIfInBounds_toArray, List.set_cons_zero, List.set_cons_succ]
        refine wpAnyU_take (i := 1) (v := ?_) (by decide) rfl (by kernel_rfl) (by kernel_rfl) (by kernel_rfl) (fun _ _ _ h => h) (Steady.plain (by kernel_rfl) ?_) ?_
        rotate_left
        · intro b W hS
          have h0 := hS.2.2.cell 0
          have h1 := hS.2.2.cell 1
          have h2 := hS.2.2.cell 2
          have h3 := hS.2.2.cell 3
          go_simp
          first | done | with_reducible rfl
        simp only [Act.put, List.getElem_toArray, List.getElem_cons_succ, List.getElem_cons_zero, List.setIfInBounds_toArray, List.set_cons_zero, List.set_cons_succ]
        refine wpAnyU_take (i := 2) (v := .bool true) (by decide) rfl (by kernel_rfl) (by kernel_rfl) (by kernel_rfl) (fun _ _ _ h => h) (Steady.call (f := 84) (args := #[.agg #[.int .i64 z, .slice ao n cap]]) (by kernel_rfl) (fun _ => by kernel_rfl) ?_) ?_
        · intro b W hS
          refine (C1.out W).mono ?_
          rintro e w' ⟨he, hb⟩
          exact ⟨he, hS.below hb⟩
        simp only [Act.put, List.getElem_toArray, List.getElem_cons_succ, List.getElem_cons_zero, List.setIfInBounds_toArray, List.set_cons_zero, List.set_cons_succ]
        refine wpAnyU_take (i := 3) (v := ?_) (by decide) rfl (by kernel_rfl) (by kernel_rfl) (by kernel_rfl) (fun _ _ _ h => h) (Steady.plain (by kernel_rfl) ?_) ?_
        rotate_left
        · intro b W hS
          have h0 := hS.2.2.cell 0
          have h1 := hS.2.2.cell 1
          have h2 := hS.2.2.cell 2
          have h3 := hS.2.2.cell 3
          go_simp
          first | done | with_reducible rfl
        simp only [Act.put, List.getElem_toArray, List.getElem_cons_succ, List.getElem_cons_zero, List.setIfInBounds_toArray, List.set_cons_zero, List.set_cons_succ]
        refine wpAnyU_take (i := 4) (v := ?_) (by decide) rfl (by kernel_rfl) (by kernel_rfl) (by kernel_rfl) (fun _ _ _ h => h) (Steady.plain (by kernel_rfl) ?_) ?_
        rotate_left
        · intro b W hS
          have h0 := hS.2.2.cell 0
          have h1 := hS.2.2.cell 1
          have h2 := hS.2.2.cell 2
          have h3 := hS.2.2.cell 3
          go_simp
          first | done | with_reducible rfl
        simp only [Act.put, List.getElem_toArray, List.getElem_cons_succ, List.getElem_cons_zero, List.setIfInBounds_toArray, List.set_cons_zero, List.set_cons_succ]
        refine wpAnyU_take (i := 5) (v := ?_) (by decide) rfl (by kernel_rfl) (by kernel_rfl) (by kernel_rfl) (fun _ _ _ h => h) (Steady.plain (by kernel_rfl) ?_) ?_
        rotate_left
        · intro b W hS
          have h0 := hS.2.2.cell 0
          have h1 := hS.2.2.cell 1
          have h2 := hS.2.2.cell 2
          have h3 := hS.2.2.cell 3
          go_simp
          first | done | with_reducible rfl
        simp only [Act.put, List.getElem_toArray, List.getElem_cons_succ, List.getElem_cons_zero, List.setIfInBounds_toArray, List.set_cons_zero, List.set_cons_succ]
        refine wpAnyU_take (i := 6) (v := ?_) (by decide) rfl (by kernel_rfl) (by kernel_rfl) (by kernel_rfl) (fun _ _ _ h => h) (Steady.plain (by kernel_rfl) ?_) ?_
        rotate_left
        · intro b W hS
          have h0 := hS.2.2.cell 0
          have h1 := hS.2.2.cell 1
          have h2 := hS.2.2.cell 2
          have h3 := hS.2.2.cell 3
          go_simp
          first | done | with_reducible rfl
        simp only [Act.put, List.getElem_toArray, List.getElem_cons_succ, List.getElem_cons_zero, List.setIfInBounds_toArray, List.set_cons_zero, List.set_cons_succ]
        refine wpAnyU_take (i := 7) (v := ?_) (by decide) rfl (by kernel_rfl) (by kernel_rfl) (by kernel_rfl) (fun _ _ _ h => h) (Steady.plain (by kernel_rfl) ?_) ?_
        rotate_left
        · intro b W hS
          have h0 := hS.2.2.cell 0
          have h1 := hS.2.2.cell 1
          have h2 := hS.2.2.cell 2
          have h3 := hS.2.2.cell 3
          go_simp
          first | done | with_reducible rfl
        simp only [Act.put, List.getElem_toArray, List.getElem_cons_succ, List.getElem_cons_zero, List.setIfInBounds_toArray, List.set_cons_zero, List.set_cons_succ]
        refine wpAnyU_take (i := 8) (v := ?_) (by decide) rfl (by kernel_rfl) (by kernel_rfl) (by kernel_rfl) (fun _ _ _ h => h) (Steady.plain (by kernel_rfl) ?_) ?_
        rotate_left
        · intro b W hS
          have h0 := hS.2.2.cell 0
          have h1 := hS.2.2.cell 1
          have h2 := hS.2.2.cell 2
          have h3 := hS.2.2.cell 3
          go_simp
          first | done | with_reducible rfl
        simp only [Act.put, List.getElem_toArray, List.getElem_cons_succ, List.getElem_cons_zero, List.setIfInBounds_toArray, List.set_cons_zero, List.set_cons_succ]
        refine wpAnyU_take (i := 9) (v := ?_) (by decide) rfl (by kernel_rfl) (by kernel_rfl) (by kernel_rfl) (fun _ _ _ h => h) (Steady.plain (by kernel_rfl) ?_) ?_
        rotate_left
        · intro b W hS
          have h0 := hS.2.2.cell 0
          have h1 := hS.2.2.cell 1
          have h2 := hS.2.2.cell 2
          have h3 := hS.2.2.cell 3
          go_simp
          first | done | with_reducible rfl
        simp only [Act.put, List.getElem_toArray, List.getElem_cons_succ, List.getElem_cons_zero, List.setIfInBounds_toArray, List.set_cons_zero, List.set_cons_succ]
        refine wpAnyU_take (i := 10) (v := ?_) (by decide) rfl (by kernel_rfl) (by kernel_rfl) (by kernel_rfl) (fun _ _ _ h => h) (Steady.plain (by kernel_rfl) ?_) ?_
        rotate_left
        · intro b W hS
          have h0 := hS.2.2.cell 0
          have h1 := hS.2.2.cell 1
          have h2 := hS.2.2.cell 2
          have h3 := hS.2.2.cell 3
          go_simp
          first | done | with_reducible rfl
        simp only [Act.put, List.getElem_toArray, List.getElem_cons_succ, List.getElem_cons_zero, List.setIfInBounds_toArray, List.set_cons_zero, List.set_cons_succ]
        refine wpAnyU_take (i := 11) (v := ?_) (by decide) rfl (by kernel_rfl) (by kernel_rfl) (by kernel_rfl) (fun _ _ _ h => h) (Steady.plain (by kernel_rfl) ?_) ?_
        rotate_left
        · intro b W hS
          have h0 := hS.2.2.cell 0
          have h1 := hS.2.2.cell 1
          have h2 := hS.2.2.cell 2
          have h3 := hS.2.2.cell 3
          go_simp
          first | done | with_reducible rfl
        simp only [Act.put, List.getElem_toArray, List.getElem_cons_succ, List.getElem_cons_zero, List.setIfInBounds_toArray, List.set_cons_zero, List.set_cons_succ]
        refine wpAnyU_take (i := 12) (v := ?_) (by decide) rfl (by kernel_rfl) (by kernel_rfl) (by kernel_rfl) (fun _ _ _ h => h) (Steady.plain (by kernel_rfl) ?_) ?_
        rotate_left
        · intro b W hS
          have h0 := hS.2.2.cell 0
          have h1 := hS.2.2.cell 1
          have h2 := hS.2.2.cell 2
          have h3 := hS.2.2.cell 3
          go_simp
          first | done | with_reducible rfl
        simp only [Act.put, List.getElem_toArray, List.getElem_cons_succ, List.getElem_cons_zero, List.setIfInBounds_toArray, List.set_cons_zero, List.set_cons_succ]
        refine wpAnyU_take (i := 13) (v := ?_) (by decide) rfl (by kernel_rfl) (by kernel_rfl) (by kernel_rfl) (fun _ _ _ h => h) (Steady.plain (by kernel_rfl) ?_) ?_
        rotate_left
        · intro b W hS
          have h0 := hS.2.2.cell 0
          have h1 := hS.2.2.cell 1
          have h2 := hS.2.2.cell 2
          have h3 := hS.2.2.cell 3
          go_simp
          first | done | with_reducible rfl
        simp only [Act.put, List.getElem_toArray, List.getElem_cons_succ, List.getElem_cons_zero, List.setIfInBounds_toArray, List.set_cons_zero, List.set_cons_succ]
        refine wpAnyU_take (i := 14) (by decide) rfl (by kernel_rfl) (by kernel_rfl) (by kernel_rfl) (fun _ _ _ h => h) (Steady.off (by kernel_rfl)) ?_
        simp only [Act.put, List.getElem_toArray, List.getElem_cons_succ, List.getElem_cons_zero, List.setIfInBounds_toArray, List.set_cons_zero, List.set_cons_succ]
        refine wpAnyU_take (i := 15) (by decide) rfl (by kernel_rfl) (by kernel_rfl) (by kernel_rfl) (fun _ _ _ h => h) (Steady.off (by kernel_rfl)) ?_
        simp only [Act.put, List.getElem_toArray, List.getElem_cons_succ, List.getElem_cons_zero, List.setIfInBounds_toArray, List.set_cons_zero, List.set_cons_succ]
        refine wpAnyU_take (i := 16) (by decide) rfl (by kernel_rfl) (by kernel_rfl) (by kernel_rfl) (fun _ _ _ h => h) (Steady.off (by kernel_rfl)) ?_
        simp only [Act.put, List.getElem_toArray, List.getElem_cons_succ, List.getElem_cons_zero, List.setIfInBounds_toArray, List.set_cons_zero, List.set_cons_succ]
        refine wpAnyU_take (i := 17) (v := ?_) (by decide) rfl (by kernel_rfl) (by kernel_rfl) (by kernel_rfl) (fun _ _ _ h => h) (Steady.plain (by kernel_rfl) ?_) ?_
        rotate_left
        · intro b W hS
          have h0 := hS.2.2.cell 0
          have h1 := hS.2.2.cell 1
          have h2 := hS.2.2.cell 2
          have h3 := hS.2.2.cell 3
          go_simp
          first | done | with_reducible rfl
        simp only [Act.put, List.getElem_toArray, List.getElem_cons_succ, List.getElem_cons_zero, List.setIfInBounds_toArray, List.set_cons_zero, List.set_cons_succ]
        refine wpAnyU_take (i := 18) (v := ?_) (by decide) rfl (by kernel_rfl) (by kernel_rfl) (by kernel_rfl) (fun _ _ _ h => h) (Steady.plain (by kernel_rfl) ?_) ?_
        rotate_left
        · intro b W hS
          have h0 := hS.2.2.cell 0
          have h1 := hS.2.2.cell 1
          have h2 := hS.2.2.cell 2
          have h3 := hS.2.2.cell 3
          go_simp
          first | done | with_reducible rfl
        simp only [Act.put, List.getElem_toArray, List.getElem_cons_succ, List.getElem_cons_zero, List.setIfInBounds_toArray, List.set_cons_zero, List.set_cons_succ]
        refine wpAnyU_take (i := 19) (by decide) rfl (by kernel_rfl) (by kernel_rfl) (by kernel_rfl) (fun _ _ _ h => h) (Steady.off (by kernel_rfl)) ?_
        simp only [Act.put, List.getElem_toArray, List.getElem_cons_succ, List.getElem_cons_zero, List.setIfInBounds_toArray, List.set_cons_zero, List.set_cons_succ]
        refine wpAnyU_take (i := 20) (by decide) rfl (by kernel_rfl) (by kernel_rfl) (by kernel_rfl) (fun _ _ _ h => h) (Steady.off (by kernel_rfl)) ?_
        simp only [Act.put, List.getElem_toArray, List.getElem_cons_succ, List.getElem_cons_zero, List.setIfInBounds_toArray, List.set_cons_zero, List.set_cons_succ]
        refine wpAnyU_take (i := 21) (by decide) rfl (by kernel_rfl) (by kernel_rfl) (by kernel_rfl) (fun _ _ _ h => h) (Steady.off (by kernel_rfl)) ?_
        simp only [Act.put, List.getElem_toArray, List.getElem_cons_succ, List.getElem_cons_zero, List.setIfInBounds_toArray, List.set_cons_zero, List.set_cons_succ]
        refine wpAnyU_take (i := 22) (by decide) rfl (by kernel_rfl) (by kernel_rfl) (by kernel_rfl) (fun _ _ _ h => h) (Steady.off (by kernel_rfl)) ?_
        simp only [Act.put, List.getElem_toArray, List.getElem_cons_succ, List.getElem_cons_zero, List.setIfInBounds_toArray, List.set_cons_zero, List.set_cons_succ]
        refine wpAnyU_take (i := 23) (by decide) rfl (by kernel_rfl) (by kernel_rfl) (by kernel_rfl) (fun _ _ _ h => h) (Steady.off (by kernel_rfl)) ?_
        simp only [Act.put, List.getElem_toArray, List.getElem_cons_succ, List.getElem_cons_zero, List.setIfInBounds_toArray, List.set_cons_zero, List.set_cons_succ]
        refine wpAnyU_take (i := 24) (by decide) rfl (by kernel_rfl) (by kernel_rfl) (by kernel_rfl) (fun _ _ _ h => h) (Steady.off (by kernel_rfl)) ?_
        simp only [Act.put, List.getElem_toArray, List.getElem_cons_succ, List.getElem_cons_zero, List.setIfInBounds_toArray, List.set_cons_zero, List.set_cons_succ]
        refine wpAnyU_take (i := 25) (v := ?_) (by decide) rfl (by kernel_rfl) (by kernel_rfl) (by kernel_rfl) (fun _ _ _ h => h) (Steady.plain (by kernel_rfl) ?_) ?_
        rotate_left
        · intro b W hS
          have h0 := hS.2.2.cell 0
          have h1 := hS.2.2.cell 1
          have h2 := hS.2.2.cell 2
          have h3 := hS.2.2.cell 3
          go_simp
          first | done | with_reducible rfl
        simp only [Act.put, List.getElem_toArray, List.getElem_cons_succ, List.getElem_cons_zero, List.setIfInBounds_toArray, List.set_cons_zero, List.set_cons_succ]
        refine wpAnyU_take (i := 26) (v := ?_) (by decide) rfl (by kernel_rfl) (by kernel_rfl) (by kernel_rfl) (fun _ _ _ h => h) (Steady.plain (by kernel_rfl) ?_) ?_
        rotate_left
        · intro b W hS
          have h0 := hS.2.2.cell 0
          have h1 := hS.2.2.cell 1
          have h2 := hS.2.2.cell 2
          have h3 := hS.2.2.cell 3
          go_simp
          first | done | with_reducible rfl
        simp only [Act.put, List.getElem_toArray, List.getElem_cons_succ, List.getElem_cons_zero, List.setIfInBounds_toArray, List.set_cons_zero, List.set_cons_succ]
        refine wpAnyU_done (b := []) (by kernel_rfl) (by kernel_rfl) ?_ _
        intro w' hS
        go_wp2_with fail
        go_ret
        exact ⟨rfl, hS.1⟩
      · cases q4
        · obtain rfl : F = false := hf
          go_enter Tryz.func74, Tryz.ntmps74
          go_wp2_with fail
          rw [← hW]
          clear hW
          refine wp_region_U [] (by kernel_rfl) (BoxS w w.heap.size w.heap.size #[.int .i64 st, strV r, .int .i64 z, .slice ao n cap] 53) (b := []) (by kernel_rfl) HS.drew ?_
          refine wpAnyU_take (i := 0) (v := ?_) (by decide) rfl (by kernel_rfl) (by kernel_rfl) (by kernel_rfl) (fun _ _ _ h => h) (Steady.plain (by kernel_rfl) ?_) ?_
          rotate_left
          · intro b W hS
            have h0 := hS.2.2.cell 0
            have h1 := hS.2.2.cell 1
            have h2 := hS.2.2.cell 2
            have h3 := hS.2.2.cell 3
            go_simp
            first | done | with_reducible rfl
          simp only [Act.put, List.getElem_toArray, List.getElem_cons_zero, List.setIfInBounds_toArray, List.set_cons_zero, List.set_cons_succ]
          refine wpAnyU_take (i := 1) (v := ?_) (by decide) rfl (by kernel_rfl) (by kernel_rfl) (by kernel_rfl) (fun _ _ _ h => h) (Steady.plain (by kernel_rfl) ?_) ?_
          rotate_left
          · intro b W hS
            have h0 := hS.2.2.cell 0
            have h1 := hS.2.2.cell 1
            have h2 := hS.2.2.cell 2
            have h3 := hS.2.2.cell 3
            go_simp
            first | done | with_reducible rfl
          simp only [Act.put, List.getElem_toArray, List.getElem_cons_succ, List.getElem_cons_zero, List.setIfInBounds_toArray, List.set_cons_zero, List.set_cons_succ]
          refine wpAnyU_take (i := 2) (v := .bool true) (by decide) rfl (by kernel_rfl) (by kernel_rfl) (by kernel_rfl) (fun _ _ _ h => h) (Steady.call (f := 84) (args := #[.agg #[.int .i64 z, .slice ao n cap]]) (by kernel_rfl) (fun _ => by kernel_rfl) ?_) ?_
          · intro b W hS
            refine (C1.out W).mono ?_
            rintro e w' ⟨he, hb⟩
            exact ⟨he, hS.below hb⟩
          simp only [Act.put, List.getElem_toArray, List.getElem_cons_succ, List.getElem_cons_zero, List.setIfInBounds_toArray, List.set_cons_zero, List.set_cons_succ]
          refine wpAnyU_take (i := 3) (v := ?_) (by decide) rfl (by kernel_rfl) (by kernel_rfl) (by kernel_rfl) (fun _ _ _ h => h) (Steady.plain (by kernel_rfl) ?_) ?_
          rotate_left
          · intro b W hS
            have h0 := hS.2.2.cell 0
            have h1 := hS.2.2.cell 1
            have h2 := hS.2.2.cell 2
            have h3 := hS.2.2.cell 3
            go_simp
            first | done | with_reducible rfl
          simp only [Act.put, List.getElem_toArray, List.getElem_cons_succ, List.getElem_cons_zero, List.setIfInBounds_toArray, List.set_cons_zero, List.set_cons_succ]
          refine wpAnyU_take (i := 4) (v := ?_) (by decide) rfl (by kernel_rfl) (by kernel_rfl) (by kernel_rfl) (fun _ _ _ h => h) (Steady.plain (by kernel_rfl) ?_) ?_
          rotate_left
          · intro b W hS
            have h0 := hS.2.2.cell 0
            have h1 := hS.2.2.cell 1
            have h2 := hS.2.2.cell 2
            have h3 := hS.2.2.cell 3
            go_simp
            first | done | with_reducible rfl
          simp only [Act.put, List.getElem_toArray, List.getElem_cons_succ, List.getElem_cons_zero, List.setIfInBounds_toArray, List.set_cons_zero, List.set_cons_succ]
          refine wpAnyU_take (i := 5) (v := ?_) (by decide) rfl (by kernel_rfl) (by kernel_rfl) (by kernel_rfl) (fun _ _ _ h => h) (Steady.plain (by kernel_rfl) ?_) ?_
          rotate_left
          · intro b W hS
            have h0 := hS.2.2.cell 0
            have h1 := hS.2.2.cell 1
            have h2 := hS.2.2.cell 2
            have h3 := hS.2.2.cell 3
            go_simp
            first | done | with_reducible rfl
          simp only [Act.put, List.getElem_toArray, List.getElem_cons_succ, List.getElem_cons_zero, List.setIfInBounds_toArray, List.set_cons_zero, List.set_cons_succ]
          refine wpAnyU_take (i := 6) (v := ?_) (by decide) rfl (by kernel_rfl) (by kernel_rfl) (by kernel_rfl) (fun _ _ _ h => h) (Steady.plain (by kernel_rfl) ?_) ?_
          rotate_left
          · intro b W hS
            have h0 := hS.2.2.cell 0
            have h1 := hS.2.2.cell 1
            have h2 := hS.2.2.cell 2
            have h3 := hS.2.2.cell 3
            go_simp
            first | done | with_reducible rfl
          simp only [Act.put, List.getElem_toArray, List.getElem_cons_succ, List.getElem_cons_zero, List.setIfInBounds_toArray, List.set_cons_zero, List.set_cons_succ]
          refine wpAnyU_take (i := 7) (v := ?_) (by decide) rfl (by kernel_rfl) (by kernel_rfl) (by kernel_rfl) (fun _ _ _ h => h) (Steady.plain (by kernel_rfl) ?_) ?_
          rotate_left
          · intro b W hS
            have h0 := hS.2.2.cell 0
            have h1 := hS.2.2.cell 1
            have h2 := hS.2.2.cell 2
            have h3 := hS.2.2.cell 3
            go_simp
            first | done | with_reducible rfl
          simp only [Act.put, List.getElem_toArray, List.getElem_cons_succ, List.getElem_cons_zero, List.setIfInBounds_toArray, List.set_cons_zero, List.set_cons_succ]
          refine wpAnyU_take (i := 8) (v := ?_) (by decide) rfl (by kernel_rfl) (by kernel_rfl) (by kernel_rfl) (fun _ _ _ h => h) (Steady.plain (by kernel_rfl) ?_) ?_
          rotate_left
          · intro b W hS
            have h0 := hS.2.2.cell 0
            have h1 := hS.2.2.cell 1
            have h2 := hS.2.2.cell 2
            have h3 := hS.2.2.cell 3
            go_simp
            first | done | with_reducible rfl
          simp only [Act.put, List.getElem_toArray, List.getElem_cons_succ, List.getElem_cons_zero, List.setIfInBounds_toArray, List.set_cons_zero, List.set_cons_succ]
          refine wpAnyU_take (i := 9) (v := ?_) (by decide) rfl (by kernel_rfl) (by kernel_rfl) (by kernel_rfl) (fun _ _ _ h => h) (Steady.plain (by kernel_rfl) ?_) ?_
          rotate_left
          · intro b W hS
            have h0 := hS.2.2.cell 0
            have h1 := hS.2.2.cell 1
            have h2 := hS.2.2.cell 2
            have h3 := hS.2.2.cell 3
            go_simp
            first | done | with_reducible rfl
          simp only [Act.put, List.getElem_toArray, List.getElem_cons_succ, List.getElem_cons_zero, List.setIfInBounds_toArray, List.set_cons_zero, List.set_cons_succ]
          refine wpAnyU_take (i := 10) (v := ?_) (by decide) rfl (by kernel_rfl) (by kernel_rfl) (by kernel_rfl) (fun _ _ _ h => h) (Steady.plain (by kernel_rfl) ?_) ?_
          rotate_left
          · intro b W hS
            have h0 := hS.2.2.cell 0
            have h1 := hS.2.2.cell 1
            have h2 := hS.2.2.cell 2
            have h3 := hS.2.2.cell 3
            go_simp
            first | done | with_reducible rfl
          simp only [Act.put, List.getElem_toArray, List.getElem_cons_succ, List.getElem_cons_zero, List.setIfInBounds_toArray, List.set_cons_zero, List.set_cons_succ]
          refine wpAnyU_take (i := 11) (v := ?_) (by decide) rfl (by kernel_rfl) (by kernel_rfl) (by kernel_rfl) (fun _ _ _ h => h) (Steady.plain (by kernel_rfl) ?_) ?_
          rotate_left
          · intro b W hS
            have h0 := hS.2.2.cell 0
            have h1 := hS.2.2.cell 1
            have h2 := hS.2.2.cell 2
            have h3 := hS.2.2.cell 3
            go_simp
            first | done | with_reducible rfl
          simp only [Act.put, List.getElem_toArray, List.getElem_cons_succ, List.getElem_cons_zero, List.setIfInBounds_toArray, List.set_cons_zero, List.set_cons_succ]
          refine wpAnyU_take (i := 12) (v := ?_) (by decide) rfl (by kernel_rfl) (by kernel_rfl) (by kernel_rfl) (fun _ _ _ h => h) (Steady.plain (by kernel_rfl) ?_) ?_
          rotate_left
          · intro b W hS
            have h0 := hS.2.2.cell 0
            have h1 := hS.2.2.cell 1
            have h2 := hS.2.2.cell 2
            have h3 := hS.2.2.cell 3
            go_simp
            first | done | with_reducible rfl
          simp only [Act.put, List.getElem_toArray, List.getElem_cons_succ, List.getElem_cons_zero, List.setIfInBounds_toArray, List.set_cons_zero, List.set_cons_succ]
          refine wpAnyU_take (i := 13) (v := ?_) (by decide) rfl (by kernel_rfl) (by kernel_rfl) (by kernel_rfl) (fun _ _ _ h => h) (Steady.plain (by kernel_rfl) ?_) ?_
          rotate_left
          · intro b W hS
            have h0 := hS.2.2.cell 0
            have h1 := hS.2.2.cell 1
            have h2 := hS.2.2.cell 2
            have h3 := hS.2.2.cell 3
            go_simp
            first | done | with_reducible rfl
          simp only [Act.put, List.getElem_toArray, List.getElem_cons_succ, List.getElem_cons_zero, List.setIfInBounds_toArray, List.set_cons_zero, List.set_cons_succ]
          refine wpAnyU_take (i := 14) (v := ?_) (by decide) rfl (by kernel_rfl) (by kernel_rfl) (by kernel_rfl) (fun _ _ _ h => h) (Steady.plain (by kernel_rfl) ?_) ?_
          rotate_left
          · intro b W hS
            have h0 := hS.2.2.cell 0
            have h1 := hS.2.2.cell 1
            have h2 := hS.2.2.cell 2
            have h3 := hS.2.2.cell 3
            go_simp
            first | done | with_reducible rfl
          simp only [Act.put, List.getElem_toArray, List.getElem_cons_succ, List.getElem_cons_zero, List.setIfInBounds_toArray, List.set_cons_zero, List.set_cons_succ]
          refine wpAnyU_take (i := 15) (v := ?_) (by decide) rfl (by kernel_rfl) (by kernel_rfl) (by kernel_rfl) (fun _ _ _ h => h) (Steady.plain (by kernel_rfl) ?_) ?_
          rotate_left
          · intro b W hS
            have h0 := hS.2.2.cell 0
            have h1 := hS.2.2.cell 1
            have h2 := hS.2.2.cell 2
            have h3 := hS.2.2.cell 3
            go_simp
            first | done | with_reducible rfl
          simp only [Act.put, List.getElem_toArray, List.getElem_cons_succ, List.getElem_cons_zero, List.setIfInBounds_toArray, List.set_cons_zero, List.set_cons_succ]
          refine wpAnyU_take (i := 16) (v := .bool false) (by decide) rfl (by kernel_rfl) (by kernel_rfl) (by kernel_rfl) (fun _ _ _ h => h) (Steady.call (f := 82) (args := #[strV r, .func (.func 86) #[] #[]]) (by kernel_rfl) (fun _ => by kernel_rfl) ?_) ?_
          · intro b W hS
            refine (C2.out W).mono ?_
            rintro e w' ⟨he, hb⟩
            exact ⟨he, hS.below hb⟩
          simp only [Act.put, List.getElem_toArray, List.getElem_cons_succ, List.getElem_cons_zero, List.setIfInBounds_toArray, List.set_cons_zero, List.set_cons_succ]
          refine wpAnyU_take (i := 17) (v := ?_) (by decide) rfl (by kernel_rfl) (by kernel_rfl) (by kernel_rfl) (fun _ _ _ h => h) (Steady.plain (by kernel_rfl) ?_) ?_
          rotate_left
          · intro b W hS
            have h0 := hS.2.2.cell 0
            have h1 := hS.2.2.cell 1
            have h2 := hS.2.2.cell 2
            have h3 := hS.2.2.cell 3
            go_simp
            first | done | with_reducible rfl
          simp only [Act.put, List.getElem_toArray, List.getElem_cons_succ, List.getElem_cons_zero, List.setIfInBounds_toArray, List.set_cons_zero, List.set_cons_succ]
          refine wpAnyU_take (i := 18) (v := ?_) (by decide) rfl (by kernel_rfl) (by kernel_rfl) (by kernel_rfl) (fun _ _ _ h => h) (Steady.plain (by kernel_rfl) ?_) ?_
          rotate_left
          · intro b W hS
            have h0 := hS.2.2.cell 0
            have h1 := hS.2.2.cell 1
            have h2 := hS.2.2.cell 2
            have h3 := hS.2.2.cell 3
            go_simp
            first | done | with_reducible rfl
          simp only [Act.put, List.getElem_toArray, List.getElem_cons_succ, List.getElem_cons_zero, List.setIfInBounds_toArray, List.set_cons_zero, List.set_cons_succ]
          refine wpAnyU_take (i := 19) (by decide) rfl (by kernel_rfl) (by kernel_rfl) (by kernel_rfl) (fun _ _ _ h => h) (Steady.off (by kernel_rfl)) ?_
          simp only [Act.put, List.getElem_toArray, List.getElem_cons_succ, List.getElem_cons_zero, List.setIfInBounds_toArray, List.set_cons_zero, List.set_cons_succ]
          refine wpAnyU_take (i := 20) (by decide) rfl (by kernel_rfl) (by kernel_rfl) (by kernel_rfl) (fun _ _ _ h => h) (Steady.off (by kernel_rfl)) ?_
          simp only [Act.put, List.getElem_toArray, List.getElem_cons_succ, List.getElem_cons_zero, List.setIfInBounds_toArray, List.set_cons_zero, List.set_cons_succ]
          refine wpAnyU_take (i := 21) (by decide) rfl (by kernel_rfl) (by kernel_rfl) (by kernel_rfl) (fun _ _ _ h => h) (Steady.off (by kernel_rfl)) ?_
          simp only [Act.put, List.getElem_toArray, List.getElem_cons_succ, List.getElem_cons_zero, List.setIfInBounds_toArray, List.set_cons_zero, List.set_cons_succ]
          refine wpAnyU_take (i := 22) (by decide) rfl (by kernel_rfl) (by kernel_rfl) (by kernel_rfl) (fun _ _ _ h => h) (Steady.off (by kernel_rfl)) ?_
          simp only [Act.put, List.getElem_toArray, List.getElem_cons_succ, List.getElem_cons_zero, List.setIfInBounds_toArray, List.set_cons_zero, List.set_cons_succ]
          refine wpAnyU_take (i := 23) (by decide) rfl (by kernel_rfl) (by kernel_rfl) (by kernel_rfl) (fun _ _ _ h => h) (Steady.off (by kernel_rfl)) ?_
          simp only [Act.put, List.getElem_toArray, List.getElem_cons_succ, List.getElem_cons_zero, List.setIfInBounds_toArray, List.set_cons_zero, List.set_cons_succ]
          refine wpAnyU_take (i := 24) (by decide) rfl (by kernel_rfl) (by kernel_rfl) (by kernel_rfl) (fun _ _ _ h => h) (Steady.off (by kernel_rfl)) ?_
          simp only [Act.put, List.getElem_toArray, List.getElem_cons_succ, List.getElem_cons_zero, List.setIfInBounds_toArray, List.set_cons_zero, List.set_cons_succ]
          refine wpAnyU_take (i := 25) (v := ?_) (by decide) rfl (by kernel_rfl) (by kernel_rfl) (by kernel_rfl) (fun _ _ _ h => h) (Steady.plain (by kernel_rfl) ?_) ?_
          rotate_left
          · intro b W hS
            have h0 := hS.2.2.cell 0
            have h1 := hS.2.2.cell 1
            have h2 := hS.2.2.cell 2
            have h3 := hS.2.2.cell 3
            go_simp
            first | done | with_reducible rfl
          simp only [Act.put, List.getElem_toArray, List.getElem_cons_succ, List.getElem_cons_zero, List.setIfInBounds_toArray, List.set_cons_zero, List.set_cons_succ]
          refine wpAnyU_take (i := 26) (v := ?_) (by decide) rfl (by kernel_rfl) (by kernel_rfl) (by kernel_rfl) (fun _ _ _ h => h) (Steady.plain (by kernel_rfl) ?_) ?_
          rotate_left
          · intro b W hS
            have h0 := hS.2.2.cell 0
            have h1 := hS.2.2.cell 1
            have h2 := hS.2.2.cell 2
            have h3 := hS.2.2.cell 3
            go_simp
            first | done | with_reducible rfl
          simp only [Act.put, List.getElem_toArray, List.getElem_cons_succ, List.getElem_cons_zero, List.setIfInBounds_toArray, List.set_cons_zero, List.set_cons_succ]
          refine wpAnyU_done (b := []) (by kernel_rfl) (by kernel_rfl) ?_ _
          intro w' hS
          go_wp2_with fail
          go_ret
          exact ⟨rfl, hS.1⟩
        · obtain rfl : F = q5 := by rw [hf]; rfl
          clear hf
          go_enter Tryz.func74, Tryz.ntmps74
          go_wp2_with fail
          rw [← hW]
          clear hW
          refine wp_region_U [] (by kernel_rfl) (BoxS w w.heap.size w.heap.size #[.int .i64 st, strV r, .int .i64 z, .slice ao n cap] 53) (b := []) (by kernel_rfl) HS.drew ?_
          refine wpAnyU_take (i := 0) (v := ?_) (by decide) rfl (by kernel_rfl) (by kernel_rfl) (by kernel_rfl) (fun _ _ _ h => h) (Steady.plain (by kernel_rfl) ?_) ?_
          rotate_left
          · intro b W hS
            have h0 := hS.2.2.cell 0
            have h1 := hS.2.2.cell 1
            have h2 := hS.2.2.cell 2
            have h3 := hS.2.2.cell 3
            go_simp
            first | done | with_reducible rfl
          simp only [Act.put, List.getElem_toArray, List.getElem_cons_zero, List.setIfInBounds_toArray, List.set_cons_zero, List.set_cons_succ]
          refine wpAnyU_take (i := 1) (v := ?_) (by decide) rfl (by kernel_rfl) (by kernel_rfl) (by kernel_rfl) (fun _ _ _ h => h) (Steady.plain (by kernel_rfl) ?_) ?_
          rotate_left
          · intro b W hS
            have h0 := hS.2.2.cell 0
            have h1 := hS.2.2.cell 1
            have h2 := hS.2.2.cell 2
            have h3 := hS.2.2.cell 3
            go_simp
            first | done | with_reducible rfl
          simp only [Act.put, List.getElem_toArray, List.getElem_cons_succ, List.getElem_cons_zero, List.setIfInBounds_toArray, List.set_cons_zero, List.set_cons_succ]
          refine wpAnyU_take (i := 2) (v := .bool true) (by decide) rfl (by kernel_rfl) (by kernel_rfl) (by kernel_rfl) (fun _ _ _ h => h) (Steady.call (f := 84) (args := #[.agg #[.int .i64 z, .slice ao n cap]]) (by kernel_rfl) (fun _ => by kernel_rfl) ?_) ?_
          · intro b W hS
            refine (C1.out W).mono ?_
            rintro e w' ⟨he, hb⟩
            exact ⟨he, hS.below hb⟩
          simp only [Act.put, List.getElem_toArray, List.getElem_cons_succ, List.getElem_cons_zero, List.setIfInBounds_toArray, List.set_cons_zero, List.set_cons_succ]
          refine wpAnyU_take (i := 3) (v := ?_) (by decide) rfl (by kernel_rfl) (by kernel_rfl) (by kernel_rfl) (fun _ _ _ h => h) (Steady.plain (by kernel_rfl) ?_) ?_
          rotate_left
          · intro b W hS
            have h0 := hS.2.2.cell 0
            have h1 := hS.2.2.cell 1
            have h2 := hS.2.2.cell 2
            have h3 := hS.2.2.cell 3
            go_simp
            first | done | with_reducible rfl
          simp only [Act.put, List.getElem_toArray, List.getElem_cons_succ, List.getElem_cons_zero, List.setIfInBounds_toArray, List.set_cons_zero, List.set_cons_succ]
          refine wpAnyU_take (i := 4) (v := ?_) (by decide) rfl (by kernel_rfl) (by kernel_rfl) (by kernel_rfl) (fun _ _ _ h => h) (Steady.plain (by kernel_rfl) ?_) ?_
          rotate_left
          · intro b W hS
            have h0 := hS.2.2.cell 0
            have h1 := hS.2.2.cell 1
            have h2 := hS.2.2.cell 2
            have h3 := hS.2.2.cell 3
            go_simp
            first | done | with_reducible rfl
          simp only [Act.put, List.getElem_toArray, List.getElem_cons_succ, List.getElem_cons_zero, List.setIfInBounds_toArray, List.set_cons_zero, List.set_cons_succ]
          refine wpAnyU_take (i := 5) (v := ?_) (by decide) rfl (by kernel_rfl) (by kernel_rfl) (by kernel_rfl) (fun _ _ _ h => h) (Steady.plain (by kernel_rfl) ?_) ?_
          rotate_left
          · intro b W hS
            have h0 := hS.2.2.cell 0
            have h1 := hS.2.2.cell 1
            have h2 := hS.2.2.cell 2
            have h3 := hS.2.2.cell 3
            go_simp
            first | done | with_reducible rfl
          simp only [Act.put, List.getElem_toArray, List.getElem_cons_succ, List.getElem_cons_zero, List.setIfInBounds_toArray, List.set_cons_zero, List.set_cons_succ]
          refine wpAnyU_take (i := 6) (v := ?_) (by decide) rfl (by kernel_rfl) (by kernel_rfl) (by kernel_rfl) (fun _ _ _ h => h) (Steady.plain (by kernel_rfl) ?_) ?_
          rotate_left
          · intro b W hS
            have h0 := hS.2.2.cell 0
            have h1 := hS.2.2.cell 1
            have h2 := hS.2.2.cell 2
            have h3 := hS.2.2.cell 3
            go_simp
            first | done | with_reducible rfl
          simp only [Act.put, List.getElem_toArray, List.getElem_cons_succ, List.getElem_cons_zero, List.setIfInBounds_toArray, List.set_cons_zero, List.set_cons_succ]
          refine wpAnyU_take (i := 7) (v := ?_) (by decide) rfl (by kernel_rfl) (by kernel_rfl) (by kernel_rfl) (fun _ _ _ h => h) (Steady.plain (by kernel_rfl) ?_) ?_
          rotate_left
          · intro b W hS
            have h0 := hS.2.2.cell 0
            have h1 := hS.2.2.cell 1
            have h2 := hS.2.2.cell 2
            have h3 := hS.2.2.cell 3
            go_simp
            first | done | with_reducible rfl
          simp only [Act.put, List.getElem_toArray, List.getElem_cons_succ, List.getElem_cons_zero, List.setIfInBounds_toArray, List.set_cons_zero, List.set_cons_succ]
          refine wpAnyU_take (i := 8) (v := ?_) (by decide) rfl (by kernel_rfl) (by kernel_rfl) (by kernel_rfl) (fun _ _ _ h => h) (Steady.plain (by kernel_rfl) ?_) ?_
          rotate_left
          · intro b W hS
            have h0 := hS.2.2.cell 0
            have h1 := hS.2.2.cell 1
            have h2 := hS.2.2.cell 2
            have h3 := hS.2.2.cell 3
            go_simp
            first | done | with_reducible rfl
          simp only [Act.put, List.getElem_toArray, List.getElem_cons_succ, List.getElem_cons_zero, List.setIfInBounds_toArray, List.set_cons_zero, List.set_cons_succ]
          refine wpAnyU_take (i := 9) (v := ?_) (by decide) rfl (by kernel_rfl) (by kernel_rfl) (by kernel_rfl) (fun _ _ _ h => h) (Steady.plain (by kernel_rfl) ?_) ?_
          rotate_left
          · intro b W hS
            have h0 := hS.2.2.cell 0
            have h1 := hS.2.2.cell 1
            have h2 := hS.2.2.cell 2
            have h3 := hS.2.2.cell 3
            go_simp
            first | done | with_reducible rfl
          simp only [Act.put, List.getElem_toArray, List.getElem_cons_succ, List.getElem_cons_zero, List.setIfInBounds_toArray, List.set_cons_zero, List.set_cons_succ]
          refine wpAnyU_take (i := 10) (v := ?_) (by decide) rfl (by kernel_rfl) (by kernel_rfl) (by kernel_rfl) (fun _ _ _ h => h) (Steady.plain (by kernel_rfl) ?_) ?_
          rotate_left
          · intro b W hS
            have h0 := hS.2.2.cell 0
            have h1 := hS.2.2.cell 1
            have h2 := hS.2.2.cell 2
            have h3 := hS.2.2.cell 3
            go_simp
            first | done | with_reducible rfl
          simp only [Act.put, List.getElem_toArray, List.getElem_cons_succ, List.getElem_cons_zero, List.setIfInBounds_toArray, List.set_cons_zero, List.set_cons_succ]
          refine wpAnyU_take (i := 11) (v := ?_) (by decide) rfl (by kernel_rfl) (by kernel_rfl) (by kernel_rfl) (fun _ _ _ h => h) (Steady.plain (by kernel_rfl) ?_) ?_
          rotate_left
          · intro b W hS
            have h0 := hS.2.2.cell 0
            have h1 := hS.2.2.cell 1
            have h2 := hS.2.2.cell 2
            have h3 := hS.2.2.cell 3
            go_simp
            first | done | with_reducible rfl
          simp only [Act.put, List.getElem_toArray, List.getElem_cons_succ, List.getElem_cons_zero, List.setIfInBounds_toArray, List.set_cons_zero, List.set_cons_succ]
          refine wpAnyU_take (i := 12) (v := ?_) (by decide) rfl (by kernel_rfl) (by kernel_rfl) (by kernel_rfl) (fun _ _ _ h => h) (Steady.plain (by kernel_rfl) ?_) ?_
          rotate_left
          · intro b W hS
            have h0 := hS.2.2.cell 0
            have h1 := hS.2.2.cell 1
            have h2 := hS.2.2.cell 2
            have h3 := hS.2.2.cell 3
            go_simp
            first | done | with_reducible rfl
          simp only [Act.put, List.getElem_toArray, List.getElem_cons_succ, List.getElem_cons_zero, List.setIfInBounds_toArray, List.set_cons_zero, List.set_cons_succ]
          refine wpAnyU_take (i := 13) (v := ?_) (by decide) rfl (by kernel_rfl) (by kernel_rfl) (by kernel_rfl) (fun _ _ _ h => h) (Steady.plain (by kernel_rfl) ?_) ?_
          rotate_left
          · intro b W hS
            have h0 := hS.2.2.cell 0
            have h1 := hS.2.2.cell 1
            have h2 := hS.2.2.cell 2
            have h3 := hS.2.2.cell 3
            go_simp
            first | done | with_reducible rfl
          simp only [Act.put, List.getElem_toArray, List.getElem_cons_succ, List.getElem_cons_zero, List.setIfInBounds_toArray, List.set_cons_zero, List.set_cons_succ]
          refine wpAnyU_take (i := 14) (v := ?_) (by decide) rfl (by kernel_rfl) (by kernel_rfl) (by kernel_rfl) (fun _ _ _ h => h) (Steady.plain (by kernel_rfl) ?_) ?_
          rotate_left
          · intro b W hS
            have h0 := hS.2.2.cell 0
            have h1 := hS.2.2.cell 1
            have h2 := hS.2.2.cell 2
            have h3 := hS.2.2.cell 3
            go_simp
            first | done | with_reducible rfl
          simp only [Act.put, List.getElem_toArray, List.getElem_cons_succ, List.getElem_cons_zero, List.setIfInBounds_toArray, List.set_cons_zero, List.set_cons_succ]
          refine wpAnyU_take (i := 15) (v := ?_) (by decide) rfl (by kernel_rfl) (by kernel_rfl) (by kernel_rfl) (fun _ _ _ h => h) (Steady.plain (by kernel_rfl) ?_) ?_
          rotate_left
          · intro b W hS
            have h0 := hS.2.2.cell 0
            have h1 := hS.2.2.cell 1
            have h2 := hS.2.2.cell 2
            have h3 := hS.2.2.cell 3
            go_simp
            first | done | with_reducible rfl
          simp only [Act.put, List.getElem_toArray, List.getElem_cons_succ, List.getElem_cons_zero, List.setIfInBounds_toArray, List.set_cons_zero, List.set_cons_succ]
          refine wpAnyU_take (i := 16) (v := .bool true) (by decide) rfl (by kernel_rfl) (by kernel_rfl) (by kernel_rfl) (fun _ _ _ h => h) (Steady.call (f := 82) (args := #[strV r, .func (.func 86) #[] #[]]) (by kernel_rfl) (fun _ => by kernel_rfl) ?_) ?_
          · intro b W hS
            refine (C2.out W).mono ?_
            rintro e w' ⟨he, hb⟩
            exact ⟨he, hS.below hb⟩
          simp only [Act.put, List.getElem_toArray, List.getElem_cons_succ, List.getElem_cons_zero, List.setIfInBounds_toArray, List.set_cons_zero, List.set_cons_succ]
          refine wpAnyU_take (i := 17) (v := ?_) (by decide) rfl (by kernel_rfl) (by kernel_rfl) (by kernel_rfl) (fun _ _ _ h => h) (Steady.plain (by kernel_rfl) ?_) ?_
          rotate_left
          · intro b W hS
            have h0 := hS.2.2.cell 0
            have h1 := hS.2.2.cell 1
            have h2 := hS.2.2.cell 2
            have h3 := hS.2.2.cell 3
            go_simp
            first | done | with_reducible rfl
          simp only [Act.put, List.getElem_toArray, List.getElem_cons_succ, List.getElem_cons_zero, List.setIfInBounds_toArray, List.set_cons_zero, List.set_cons_succ]
          refine wpAnyU_take (i := 18) (v := ?_) (by decide) rfl (by kernel_rfl) (by kernel_rfl) (by kernel_rfl) (fun _ _ _ h => h) (Steady.plain (by kernel_rfl) ?_) ?_
          rotate_left
          · intro b W hS
            have h0 := hS.2.2.cell 0
            have h1 := hS.2.2.cell 1
            have h2 := hS.2.2.cell 2
            have h3 := hS.2.2.cell 3
            go_simp
            first | done | with_reducible rfl
          simp only [Act.put, List.getElem_toArray, List.getElem_cons_succ, List.getElem_cons_zero, List.setIfInBounds_toArray, List.set_cons_zero, List.set_cons_succ]
          refine wpAnyU_take (i := 19) (v := ?_) (by decide) rfl (by kernel_rfl) (by kernel_rfl) (by kernel_rfl) (fun _ _ _ h => h) (Steady.plain (by kernel_rfl) ?_) ?_
          rotate_left
          · intro b W hS
            have h0 := hS.2.2.cell 0
            have h1 := hS.2.2.cell 1
            have h2 := hS.2.2.cell 2
            have h3 := hS.2.2.cell 3
            go_simp
            first | done | with_reducible rfl
          simp only [Act.put, List.getElem_toArray, List.getElem_cons_succ, List.getElem_cons_zero, List.setIfInBounds_toArray, List.set_cons_zero, List.set_cons_succ]
          refine wpAnyU_take (i := 20) (v := ?_) (by decide) rfl (by kernel_rfl) (by kernel_rfl) (by kernel_rfl) (fun _ _ _ h => h) (Steady.plain (by kernel_rfl) ?_) ?_
          rotate_left
          · intro b W hS
            have h0 := hS.2.2.cell 0
            have h1 := hS.2.2.cell 1
            have h2 := hS.2.2.cell 2
            have h3 := hS.2.2.cell 3
            go_simp
            first | done | with_reducible rfl
          simp only [Act.put, List.getElem_toArray, List.getElem_cons_succ, List.getElem_cons_zero, List.setIfInBounds_toArray, List.set_cons_zero, List.set_cons_succ]
          refine wpAnyU_take (i := 21) (v := strV T) (by decide) rfl (by kernel_rfl) (by kernel_rfl) (by kernel_rfl) (fun _ _ _ h => h) (Steady.call (f := 85) (args := #[strV r]) (by kernel_rfl) (fun _ => by kernel_rfl) ?_) ?_
          · intro b W hS
            refine (C3.out W).mono ?_
            rintro e w' ⟨he, hb⟩
            exact ⟨he, hS.below hb⟩
          simp only [Act.put, List.getElem_toArray, List.getElem_cons_succ, List.getElem_cons_zero, List.setIfInBounds_toArray, List.set_cons_zero, List.set_cons_succ]
          refine wpAnyU_take (i := 22) (v := ?_) (by decide) rfl (by kernel_rfl) (by kernel_rfl) (by kernel_rfl) (fun _ _ _ h => h) (Steady.plain (by kernel_rfl) ?_) ?_
          rotate_left
          · intro b W hS
            have h0 := hS.2.2.cell 0
            have h1 := hS.2.2.cell 1
            have h2 := hS.2.2.cell 2
            have h3 := hS.2.2.cell 3
            go_simp
            first | done | with_reducible rfl
          simp only [Act.put, List.getElem_toArray, List.getElem_cons_succ, List.getElem_cons_zero, List.setIfInBounds_toArray, List.set_cons_zero, List.set_cons_succ]
          refine wpAnyU_take (i := 23) (v := ?_) (by decide) rfl (by kernel_rfl) (by kernel_rfl) (by kernel_rfl) (fun _ _ _ h => h) (Steady.plain (by kernel_rfl) ?_) ?_
          rotate_left
          · intro b W hS
            have h0 := hS.2.2.cell 0
            have h1 := hS.2.2.cell 1
            have h2 := hS.2.2.cell 2
            have h3 := hS.2.2.cell 3
            go_simp
            first | done | with_reducible rfl
          simp only [Act.put, List.getElem_toArray, List.getElem_cons_succ, List.getElem_cons_zero, List.setIfInBounds_toArray, List.set_cons_zero, List.set_cons_succ]
          refine wpAnyU_take (i := 24) (v := ?_) (by decide) rfl (by kernel_rfl) (by kernel_rfl) (by kernel_rfl) (fun _ _ _ h => h) (Steady.plain (by kernel_rfl) ?_) ?_
          rotate_left
          · intro b W hS
            have h0 := hS.2.2.cell 0
            have h1 := hS.2.2.cell 1
            have h2 := hS.2.2.cell 2
            have h3 := hS.2.2.cell 3
            go_simp
            first | done | with_reducible rfl
          simp only [Act.put, List.getElem_toArray, List.getElem_cons_succ, List.getElem_cons_zero, List.setIfInBounds_toArray, List.set_cons_zero, List.set_cons_succ]
          refine wpAnyU_take (i := 25) (v := ?_) (by decide) rfl (by kernel_rfl) (by kernel_rfl) (by kernel_rfl) (fun _ _ _ h => h) (Steady.plain (by kernel_rfl) ?_) ?_
          rotate_left
          · intro b W hS
            have h0 := hS.2.2.cell 0
            have h1 := hS.2.2.cell 1
            have h2 := hS.2.2.cell 2
            have h3 := hS.2.2.cell 3
            go_simp
            first | done | with_reducible rfl
          simp only [Act.put, List.getElem_toArray, List.getElem_cons_succ, List.getElem_cons_zero, List.setIfInBounds_toArray, List.set_cons_zero, List.set_cons_succ]
          refine wpAnyU_take (i := 26) (v := ?_) (by decide) rfl (by kernel_rfl) (by kernel_rfl) (by kernel_rfl) (fun _ _ _ h => h) (Steady.plain (by kernel_rfl) ?_) ?_
          rotate_left
          · intro b W hS
            have h0 := hS.2.2.cell 0
            have h1 := hS.2.2.cell 1
            have h2 := hS.2.2.cell 2
            have h3 := hS.2.2.cell 3
            go_simp
            first | done | with_reducible rfl
          simp only [Act.put, List.getElem_toArray, List.getElem_cons_succ, List.getElem_cons_zero, List.setIfInBounds_toArray, List.set_cons_zero, List.set_cons_succ]
          refine wpAnyU_done (b := []) (by kernel_rfl) (by kernel_rfl) ?_ _
          intro w' hS
          go_wp2_with fail
          go_ret
          exact ⟨rfl, hS.1⟩
end Go.Proofs.YtefplhkjcclppaaGreatDoor
/-
  The document's answers of layer 5: clean; a response's Right in the statement's order.
-/
namespace Go.Proofs.YtefplhkjcclppaaGreatDoor
open Go.RowKit Go.Pantry

theorem okV_int (c : UInt8) : okV c = ((decide (32 ≤ (c.toNat : Int)) || decide ((c.toNat : Int) = 9)) && decide ((c.toNat : Int) ≠ 127)) := by
  unfold okV; rw [Bool.eq_iff_iff]; simp; omega
set_option maxHeartbeats 1000000 in
theorem refClean_any (s : ByteArray) (w : World) (hs : s.size ≤ maxLen) :
    Calls Tryz.prog 64 #[.string s] w fun e w' => e = .returned (.bool (s.data.toList.all okV)) ∧ w = w' := by
  unfold maxLen at hs
  obtain ⟨R, hR⟩ : ∃ R, s.data.toList.all okV = R := ⟨_, rfl⟩
  rw [hR]
  have HR := hid hR.symm
  clear hR
  go_enter Tryz.func64, Tryz.ntmps64
  go_wp2
  go_loop [3] (fun i => ∃ k : Nat, k ≤ s.size ∧ i = .int .i64 k ∧ (s.data.toList.take k).all okV = true) (fun i => s.size - (intOf i).toNat)
  case atStart => exact ⟨0, Nat.zero_le _, rfl, rfl⟩
  case round =>
    obtain ⟨k, hk, rfl, hall⟩ := hrel
    have HA := hid hall
    clear hall
    by_cases hlt : k < s.size
    · by_cases h1 : (s[k].toNat : Int) < 32
      · by_cases h2 : (s[k].toNat : Int) = 9
        · have hok := hid (show okV s[k] = true by rw [okV_int]; simp; omega)
          have b1 : ((s[k].toNat : Int) == 9) = true := by simp [h2]
          have b2 : ((s[k].toNat : Int) == 127) = false := by simp [h2]
          go_wp2
          go_round
          case rel => exact ⟨k + 1, hlt, by go_num, by rw [take_succ_list s k hlt, List.all_append, HA.out]; simp [hok.out]⟩
          case measure => simp [intOf]; omega
        · have b1 : ((s[k].toNat : Int) == 9) = false := by simpa using h2
          have hno : R = false := by
            rw [HR.out, all_bad s okV k hlt (by rw [okV_int]; simp; omega)]
          subst hno
          go_wp2
          go_ret
          exact ⟨rfl, rfl⟩
      · by_cases h3 : (s[k].toNat : Int) = 127
        · have b3 : ((s[k].toNat : Int) == 127) = true := by simp [h3]
          have hno : R = false := by
            rw [HR.out, all_bad s okV k hlt (by rw [okV_int]; simp; omega)]
          subst hno
          go_wp2
          go_ret
          exact ⟨rfl, rfl⟩
        · have hok := hid (show okV s[k] = true by rw [okV_int]; simp; omega)
          have b3 : ((s[k].toNat : Int) == 127) = false := by simpa using h3
          go_wp2
          go_round
          case rel => exact ⟨k + 1, hlt, by go_num, by rw [take_succ_list s k hlt, List.all_append, HA.out]; simp [hok.out]⟩
          case measure => simp [intOf]; omega
    · have hke := take_all s k hlt
      have hyes : R = true := by rw [HR.out, ← hke, HA.out]
      subst hyes
      go_wp2
      go_ret
      exact ⟨rfl, rfl⟩
end Go.Proofs.YtefplhkjcclppaaGreatDoor
