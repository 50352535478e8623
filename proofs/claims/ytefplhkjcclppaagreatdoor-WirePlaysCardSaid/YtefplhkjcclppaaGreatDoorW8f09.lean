/-
  Several texts in one: HeadI, HeadX.
-/
import Derived.Test.YtefplhkjcclppaaGreatDoorW8f08
/-
  Contracts of package head: readResponseLine, ReadResponse.
-/
namespace Go.Proofs.YtefplhkjcclppaaGreatDoor
open Go.RowKit Go.Pantry

theorem infoResS : (Tryz.prog.info? 53).map (·.size) = some 4 := by kernel_rfl
/-- what a response's first line tells -/
def resP (s : List UInt8) : Nat × List UInt8 × Int × Int := match piecesL [32] 2 s with
  | [v, d, r] => ((if d.length = 3 then (numberL d).getD 0 else 0), r, minorZ v, judgeZ (formedS ((if d.length = 3 then (numberL d).getD 0 else 0 : Nat) : Int) r (minorZ v)) (decide (64 < r.length)))
  | _ => (0, [], 0, 21)
set_option maxRecDepth 100000 in
set_option maxHeartbeats 4000000 in
theorem readResponseLine_any (s : List UInt8) (w : World) (hm : MaxOk w) (hs : s.length ≤ 100000) :
    Calls Tryz.prog 47 #[strV s] w fun e w' => e = .returned (.tuple #[resV ((resP s).1 : Int) (resP s).2.1 (resP s).2.2.1 none 0 0, .int .i64 (resP s).2.2.2]) ∧ Below w.heap.size w w' := by
  have c0 := fun W h => SplitN3_any s [32] W (by decide) h (by omega)
  have hps : ∀ a ∈ piecesL [32] 2 s, a.length ≤ 100000 := fun a ha => Nat.le_trans (pieces_size _ _ _ a ha) hs
  have hpl := pieces_len [32] 2 s
  have hd : resP s = match piecesL [32] 2 s with
    | [v, d, r] => ((if d.length = 3 then (numberL d).getD 0 else 0), r, minorZ v, judgeZ (formedS ((if d.length = 3 then (numberL d).getD 0 else 0 : Nat) : Int) r (minorZ v)) (decide (64 < r.length)))
    | _ => (0, [], 0, 21) := rfl
  generalize resP s = x at hd ⊢
  generalize piecesL [32] 2 s = l at c0 hps hpl hd
  have C0 := hid c0
  clear c0
  obtain ⟨W0, hW0⟩ : ∃ W, W = w.alloc (.cells #[.int .i64 0, .string ⟨#[]⟩, .int .i64 0, .slice none 0 0] 53) := ⟨_, rfl⟩
  have hb0 : Below w.heap.size w W0 := by rw [hW0]; exact below_alloc _ _
  have hr0 : rowIs W0 w.heap.size #[.int .i64 0, .string ⟨#[]⟩, .int .i64 0, .slice none 0 0] 53 := by rw [hW0]; exact rowIs_new _ _ _
  by_cases h3 : l.length = 3
  · obtain ⟨v, d, r, rfl⟩ : ∃ v d r, l = [v, d, r] := by
      match l, h3 with
      | [v, d, r], _ => exact ⟨v, d, r, rfl⟩
    simp only at hd
    subst hd
    have hrl := hps r (by simp)
    have hdl := hps d (by simp)
    clear hps hpl h3
    have c1 := fun W => minorOf_any v W
    have c4 := fun W => statusOf_any d W hdl
    generalize minorZ v = z at c1 ⊢
    generalize (if d.length = 3 then (numberL d).getD 0 else 0) = st at c4 ⊢
    have c2 := fun W => sformed_any (st : Int) r z none 0 0 W hrl
    have c3 := fun W => slong_any (st : Int) r z none 0 0 W
    generalize formedS (st : Int) r z = q1 at c2 ⊢
    generalize decide (64 < r.length) = q2 at c3 ⊢
    have C1 := hid c1
    have C2 := hid c2
    have C3 := hid c3
    have C4 := hid c4
    clear c1 c2 c3 c4 hrl hdl
    go_enter Tryz.func47, Tryz.ntmps47
    go_wp2_with fail
    rw [← hW0]
    clear hW0
    refine (C0.out _ (hm.below hb0)).mono ?_
    rintro e W1 ⟨N, rfl, hce, hbA⟩
    have g0 := hce 0 v rfl
    have g1 := hce 1 d rfl
    have g2 := hce 2 r rfl
    have hr1 := hr0.below hbA
    have hbb := chain2 hb0 hb0.size hbA
    clear hbA hb0 hr0 hm hce
    go_wp2_with fail
    refine wp_region_U [13, 14] (by kernel_rfl) (NewS W1 #[.int .i64 0, .string ⟨#[]⟩, .int .i64 0, .slice none 0 0] #[.int .i64 (st : Int), strV r, .int .i64 z, .slice none 0 0] 53) (b := [false, false]) (by kernel_rfl) (NewS.begin _ _ _ _) ?_
    refine wpAnyU_take (i := 0) (v := ?_) (by decide) rfl (by kernel_rfl) (by kernel_rfl) (by kernel_rfl) (fun _ _ _ h => h) (Steady.plain (by kernel_rfl) ?_) ?_
    rotate_left
    · intro b W hS
      have h0 := kept g0 hS.1
      have h1 := kept g1 hS.1
      have h2 := kept g2 hS.1
      go_simp
      first | done | with_reducible rfl
    simp only [Act.put, List.getElem_toArray, List.getElem_cons_zero, List.setIfInBounds_toArray, List.set_cons_zero, List.set_cons_succ]
    refine wpAnyU_take (i := 1) (v := ?_) (by decide) rfl (by kernel_rfl) (by kernel_rfl) (by kernel_rfl) (fun _ _ _ h => h) (Steady.plain (by kernel_rfl) ?_) ?_
    rotate_left
    · intro b W hS
      have h0 := kept g0 hS.1
      have h1 := kept g1 hS.1
      have h2 := kept g2 hS.1
      go_simp
      first | done | with_reducible rfl
    simp only [Act.put, List.getElem_toArray, List.getElem_cons_succ, List.getElem_cons_zero, List.setIfInBounds_toArray, List.set_cons_zero, List.set_cons_succ]
    refine wpAnyU_take (i := 2) (v := ?_) (by decide) rfl (by kernel_rfl) (by kernel_rfl) (by kernel_rfl) (fun _ _ _ h => h) (Steady.plain (by kernel_rfl) ?_) ?_
    rotate_left
    · intro b W hS
      have h0 := kept g0 hS.1
      have h1 := kept g1 hS.1
      have h2 := kept g2 hS.1
      go_simp
      first | done | with_reducible rfl
    simp only [Act.put, List.getElem_toArray, List.getElem_cons_succ, List.getElem_cons_zero, List.setIfInBounds_toArray, List.set_cons_zero, List.set_cons_succ]
    refine wpAnyU_take (i := 3) (v := .int .i64 (st : Int)) (by decide) rfl (by kernel_rfl) (by kernel_rfl) (by kernel_rfl) (fun _ _ _ h => h) (Steady.call (f := 73) (args := #[strV d]) (by kernel_rfl) (fun _ => by kernel_rfl) ?_) ?_
    · intro b W hS
      refine (C4.out W).mono ?_
      rintro e w' ⟨he, rfl⟩
      exact ⟨he, hS⟩
    simp only [Act.put, List.getElem_toArray, List.getElem_cons_succ, List.getElem_cons_zero, List.setIfInBounds_toArray, List.set_cons_zero, List.set_cons_succ]
    refine wpAnyU_take (i := 4) (v := ?_) (by decide) rfl (by kernel_rfl) (by kernel_rfl) (by kernel_rfl) (fun _ _ _ h => h) (Steady.plain (by kernel_rfl) ?_) ?_
    rotate_left
    · intro b W hS
      have h0 := kept g0 hS.1
      have h1 := kept g1 hS.1
      have h2 := kept g2 hS.1
      go_simp
      first | done | with_reducible rfl
    simp only [Act.put, List.getElem_toArray, List.getElem_cons_succ, List.getElem_cons_zero, List.setIfInBounds_toArray, List.set_cons_zero, List.set_cons_succ]
    refine wpAnyU_take (i := 5) (v := ?_) (by decide) rfl (by kernel_rfl) (by kernel_rfl) (by kernel_rfl) (fun _ _ _ h => h) (Steady.plain (by kernel_rfl) ?_) ?_
    rotate_left
    · intro b W hS
      have h0 := kept g0 hS.1
      have h1 := kept g1 hS.1
      have h2 := kept g2 hS.1
      go_simp
      first | done | with_reducible rfl
    simp only [Act.put, List.getElem_toArray, List.getElem_cons_succ, List.getElem_cons_zero, List.setIfInBounds_toArray, List.set_cons_zero, List.set_cons_succ]
    refine wpAnyU_take (i := 6) (v := ?_) (by decide) rfl (by kernel_rfl) (by kernel_rfl) (by kernel_rfl) (fun _ _ _ h => h) (Steady.plain (by kernel_rfl) ?_) ?_
    rotate_left
    · intro b W hS
      have h0 := kept g0 hS.1
      have h1 := kept g1 hS.1
      have h2 := kept g2 hS.1
      go_simp
      first | done | with_reducible rfl
    simp only [Act.put, List.getElem_toArray, List.getElem_cons_succ, List.getElem_cons_zero, List.setIfInBounds_toArray, List.set_cons_zero, List.set_cons_succ]
    refine wpAnyU_take (i := 7) (v := ?_) (by decide) rfl (by kernel_rfl) (by kernel_rfl) (by kernel_rfl) (fun _ _ _ h => h) (Steady.plain (by kernel_rfl) ?_) ?_
    rotate_left
    · intro b W hS
      have h0 := kept g0 hS.1
      have h1 := kept g1 hS.1
      have h2 := kept g2 hS.1
      go_simp
      first | done | with_reducible rfl
    simp only [Act.put, List.getElem_toArray, List.getElem_cons_succ, List.getElem_cons_zero, List.setIfInBounds_toArray, List.set_cons_zero, List.set_cons_succ]
    refine wpAnyU_take (i := 8) (v := ?_) (by decide) rfl (by kernel_rfl) (by kernel_rfl) (by kernel_rfl) (fun _ _ _ h => h) (Steady.plain (by kernel_rfl) ?_) ?_
    rotate_left
    · intro b W hS
      have h0 := kept g0 hS.1
      have h1 := kept g1 hS.1
      have h2 := kept g2 hS.1
      go_simp
      first | done | with_reducible rfl
    simp only [Act.put, List.getElem_toArray, List.getElem_cons_succ, List.getElem_cons_zero, List.setIfInBounds_toArray, List.set_cons_zero, List.set_cons_succ]
    refine wpAnyU_take (i := 9) (v := ?_) (by decide) rfl (by kernel_rfl) (by kernel_rfl) (by kernel_rfl) (fun _ _ _ h => h) (Steady.plain (by kernel_rfl) ?_) ?_
    rotate_left
    · intro b W hS
      have h0 := kept g0 hS.1
      have h1 := kept g1 hS.1
      have h2 := kept g2 hS.1
      go_simp
      first | done | with_reducible rfl
    simp only [Act.put, List.getElem_toArray, List.getElem_cons_succ, List.getElem_cons_zero, List.setIfInBounds_toArray, List.set_cons_zero, List.set_cons_succ]
    refine wpAnyU_take (i := 10) (v := .int .i64 z) (by decide) rfl (by kernel_rfl) (by kernel_rfl) (by kernel_rfl) (fun _ _ _ h => h) (Steady.call (f := 53) (args := #[strV v]) (by kernel_rfl) (fun _ => by kernel_rfl) ?_) ?_
    · intro b W hS
      refine (C1.out W).mono ?_
      rintro e w' ⟨he, rfl⟩
      exact ⟨he, hS⟩
    simp only [Act.put, List.getElem_toArray, List.getElem_cons_succ, List.getElem_cons_zero, List.setIfInBounds_toArray, List.set_cons_zero, List.set_cons_succ]
    refine wpAnyU_take (i := 11) (v := ?_) (by decide) rfl (by kernel_rfl) (by kernel_rfl) (by kernel_rfl) (fun _ _ _ h => h) (Steady.plain (by kernel_rfl) ?_) ?_
    rotate_left
    · intro b W hS
      have h0 := kept g0 hS.1
      have h1 := kept g1 hS.1
      have h2 := kept g2 hS.1
      go_simp
      first | done | with_reducible rfl
    simp only [Act.put, List.getElem_toArray, List.getElem_cons_succ, List.getElem_cons_zero, List.setIfInBounds_toArray, List.set_cons_zero, List.set_cons_succ]
    refine wpAnyU_take (i := 12) (v := ?_) (by decide) rfl (by kernel_rfl) (by kernel_rfl) (by kernel_rfl) (fun _ _ _ h => h) (Steady.plain (by kernel_rfl) ?_) ?_
    rotate_left
    · intro b W hS
      have h0 := kept g0 hS.1
      have h1 := kept g1 hS.1
      have h2 := kept g2 hS.1
      go_simp
      first | done | with_reducible rfl
    simp only [Act.put, List.getElem_toArray, List.getElem_cons_succ, List.getElem_cons_zero, List.setIfInBounds_toArray, List.set_cons_zero, List.set_cons_succ]
    refine wpAnyU_turn (i := 13) (v := .pointer (some ⟨W1.heap.size, 0, none⟩)) (b := [false, false]) (b' := [true, false]) rfl (by kernel_rfl) (by kernel_rfl) (by kernel_rfl) (by kernel_rfl) (turn_alloc (zs := #[.int .i64 0, .string ⟨#[]⟩, .int .i64 0, .slice none 0 0]) (t := 53) (fun _ => by kernel_rfl) (fun W hS => hS.made)) ?_
    simp only [Act.put, List.getElem_toArray, List.getElem_cons_succ, List.getElem_cons_zero, List.setIfInBounds_toArray, List.set_cons_zero, List.set_cons_succ]
    refine wpAnyU_turn (i := 14) (v := undef) (b := [true, false]) (b' := [true, true]) rfl (by kernel_rfl) (by kernel_rfl) (by kernel_rfl) (by kernel_rfl) (turn_store (ty := 53) (x := .tmp 5) (y := .tmp 24) (by kernel_rfl) W1.heap.size #[.int .i64 (st : Int), strV r, .int .i64 z, .slice none 0 0] (by kernel_rfl) (by kernel_rfl) infoResS (one4' st z r none 0 0) (fun W hS => hS.stored rfl)) ?_
    simp only [Act.put, List.getElem_toArray, List.getElem_cons_succ, List.getElem_cons_zero]
    refine wpAnyU_done (b := [true, true]) (by kernel_rfl) (by kernel_rfl) ?_ _
    intro W hSW
    have hg : rowIs W W1.heap.size #[.int .i64 (st : Int), strV r, .int .i64 z, .slice none 0 0] 53 := hSW.2
    have hr3 := hr1.below hSW.1
    have hne : W1.heap.size ≠ w.heap.size := by have := hr1.lt; omega
    have hb2 := chain2 hbb hbb.size hSW.1
    clear hr1 hbb g0 g1 g2 hSW
    go_wp2_with fail
    generalize W1.heap.size = G at *
    have HS : HeldS w w.heap.size G #[.int .i64 (st : Int), strV r, .int .i64 z, .slice none 0 0] 53 w.heap.size #[.int .i64 0, .string ⟨#[]⟩, .int .i64 0, .slice none 0 0] #[.int .i64 (st : Int), strV r, .int .i64 z, .slice none 0 0] 53 [false] W := ⟨hb2, hb2.size, hg, hr3⟩
    have HN := hid hne
    clear hb2 hg hr3 hne
    refine wp_region_U [6] (by kernel_rfl) (HeldS w w.heap.size G #[.int .i64 (st : Int), strV r, .int .i64 z, .slice none 0 0] 53 w.heap.size #[.int .i64 0, .string ⟨#[]⟩, .int .i64 0, .slice none 0 0] #[.int .i64 (st : Int), strV r, .int .i64 z, .slice none 0 0] 53) (b := [false]) (by kernel_rfl) HS.drew ?_
    refine wpAnyU_take (i := 0) (v := .agg #[.int .i64 (st : Int), strV r, .int .i64 z, .slice none 0 0]) (by decide) rfl (by kernel_rfl) (by kernel_rfl) (by kernel_rfl) (fun _ _ _ h => h) (Steady.plain (by kernel_rfl) ?_) ?_
    · intro b W hS
      exact load_gives (x := .tmp 5) (by kernel_rfl) G (by kernel_rfl) hS.2.2.1 Tryz.underlying53 rfl infoResS
    simp only [Act.put, List.getElem_toArray, List.getElem_cons_zero, List.setIfInBounds_toArray, List.set_cons_zero, List.set_cons_succ]
    refine wpAnyU_take (i := 1) (v := .agg #[.int .i64 (st : Int), strV r, .int .i64 z, .slice none 0 0]) (by decide) rfl (by kernel_rfl) (by kernel_rfl) (by kernel_rfl) (fun _ _ _ h => h) (Steady.plain (by kernel_rfl) ?_) ?_
    · intro b W hS
      exact load_gives (x := .tmp 5) (by kernel_rfl) G (by kernel_rfl) hS.2.2.1 Tryz.underlying53 rfl infoResS
    simp only [Act.put, List.getElem_toArray, List.getElem_cons_succ, List.getElem_cons_zero, List.setIfInBounds_toArray, List.set_cons_zero, List.set_cons_succ]
    refine wpAnyU_take (i := 2) (v := .bool q1) (by decide) rfl (by kernel_rfl) (by kernel_rfl) (by kernel_rfl) (fun _ _ _ h => h) (Steady.call (f := 74) (args := #[resV st r z none 0 0]) (by kernel_rfl) (fun _ => by kernel_rfl) ?_) ?_
    · intro b W hS
      refine (C2.out W).mono ?_
      rintro e w' ⟨he, hb⟩
      exact ⟨he, hS.below hb⟩
    simp only [Act.put, List.getElem_toArray, List.getElem_cons_succ, List.getElem_cons_zero, List.setIfInBounds_toArray, List.set_cons_zero, List.set_cons_succ]
    refine wpAnyU_take (i := 3) (v := .agg #[.int .i64 (st : Int), strV r, .int .i64 z, .slice none 0 0]) (by decide) rfl (by kernel_rfl) (by kernel_rfl) (by kernel_rfl) (fun _ _ _ h => h) (Steady.plain (by kernel_rfl) ?_) ?_
    · intro b W hS
      exact load_gives (x := .tmp 5) (by kernel_rfl) G (by kernel_rfl) hS.2.2.1 Tryz.underlying53 rfl infoResS
    simp only [Act.put, List.getElem_toArray, List.getElem_cons_succ, List.getElem_cons_zero, List.setIfInBounds_toArray, List.set_cons_zero, List.set_cons_succ]
    refine wpAnyU_take (i := 4) (v := .bool q2) (by decide) rfl (by kernel_rfl) (by kernel_rfl) (by kernel_rfl) (fun _ _ _ h => h) (Steady.call (f := 75) (args := #[resV st r z none 0 0]) (by kernel_rfl) (fun _ => by kernel_rfl) ?_) ?_
    · intro b W hS
      refine (C3.out W).mono ?_
      rintro e w' ⟨he, hb⟩
      exact ⟨he, hS.below hb⟩
    simp only [Act.put, List.getElem_toArray, List.getElem_cons_succ, List.getElem_cons_zero, List.setIfInBounds_toArray, List.set_cons_zero, List.set_cons_succ]
    refine wpAnyU_take (i := 5) (v := .int .i64 (judgeZ q1 q2)) (by decide) rfl (by kernel_rfl) (by kernel_rfl) (by kernel_rfl) (fun _ _ _ h => h) (Steady.call (f := 54) (args := #[.bool q1, .bool q2]) (by kernel_rfl) (fun _ => by kernel_rfl) ?_) ?_
    · intro b W hS
      refine (judge_any q1 q2 W).mono ?_
      rintro e w' ⟨he, rfl⟩
      exact ⟨he, hS⟩
    simp only [Act.put, List.getElem_toArray, List.getElem_cons_succ, List.getElem_cons_zero, List.setIfInBounds_toArray, List.set_cons_zero, List.set_cons_succ]
    refine wpAnyU_turn (i := 6) (v := undef) (b := [false]) (b' := [true]) rfl (by kernel_rfl) (by kernel_rfl) (by kernel_rfl) (by kernel_rfl) (turn_store (ty := 53) (x := .tmp 2) (y := .tmp 25) (by kernel_rfl) w.heap.size #[.int .i64 (st : Int), strV r, .int .i64 z, .slice none 0 0] (by kernel_rfl) (by kernel_rfl) infoResS (one4' st z r none 0 0) (fun W hS => ⟨_, _, hS.2.2.2, rfl, hS.stored (Nat.le_refl _) HN.out⟩)) ?_
    simp only [Act.put, List.getElem_toArray, List.getElem_cons_succ, List.getElem_cons_zero]
    refine wpAnyU_take (i := 7) (v := ?_) (by decide) rfl (by kernel_rfl) (by kernel_rfl) (by kernel_rfl) (fun _ _ _ h => h) (Steady.plain (by kernel_rfl) ?_) ?_
    rotate_left
    · intro b W hS
      have h0 := hS.2.2.1.cell 0
      go_simp
      first | done | with_reducible rfl
    simp only [Act.put, List.getElem_toArray, List.getElem_cons_succ, List.getElem_cons_zero, List.setIfInBounds_toArray, List.set_cons_zero, List.set_cons_succ]
    refine wpAnyU_done (b := [true]) (by kernel_rfl) (by kernel_rfl) ?_ _
    intro w' hS
    go_wp2_with fail
    refine bodyPost_ret (results_row2 Tryz.results47 _ _ w.heap.size _ rfl hS.2.2.2 Tryz.underlying53 rfl infoResS) rfl ?_
    exact ⟨rfl, hS.1⟩
  · have hx : x = (0, [], 0, 21) := by
      rw [hd]
      match l, h3 with
      | [], _ => rfl
      | [_], _ => rfl
      | [_, _], _ => rfl
      | [_, _, _], h => exact absurd rfl h
      | _ :: _ :: _ :: _ :: _, _ => rfl
    subst hx
    have e3 : ((l.length : Int) == 3) = false := by simp; omega
    have e4 : ((l.length : Int) != 3) = true := by simp; omega
    clear hd hps h3
    go_enter Tryz.func47, Tryz.ntmps47
    go_wp2_with fail
    rw [← hW0]
    clear hW0
    refine (C0.out _ (hm.below hb0)).mono ?_
    rintro e W1 ⟨N, rfl, hce, hbA⟩
    have hr1 := hr0.below hbA
    have hbb := chain2 hb0 hb0.size hbA
    clear hbA hb0 hr0 hm hce
    go_wp2_with (refine wpList_store_row rfl 53 _ _ rfl w.heap.size _ rfl rfl 53 #[.int .i64 0, .string ⟨#[]⟩, .int .i64 0, .slice none 0 0] hr1 infoResS rfl (one4' 0 0 [] none 0 0) ?_)
    refine bodyPost_ret (results_row2 Tryz.results47 _ _ w.heap.size _ rfl (hr1.setRow _) Tryz.underlying53 rfl infoResS) rfl ?_
    exact ⟨rfl, below_setRow hbb (Nat.le_refl _) _⟩
end Go.Proofs.YtefplhkjcclppaaGreatDoor
namespace Go.Proofs.YtefplhkjcclppaaGreatDoor
open Go.RowKit Go.Pantry

theorem resL_code (s : List UInt8) : ((resP s).2.2.2 = 0 ∧ 0 ≤ (resP s).2.2.1 ∧ resL s = .ok ⟨(resP s).2.1, [], (resP s).1, (resP s).2.2.1.toNat, []⟩) ∨ (((resP s).2.2.2 = 21 ∨ (resP s).2.2.2 = 22) ∧ resL s = .error (resP s).2.2.2.toNat) := by
  unfold resP resL
  generalize piecesL [32] 2 s = l
  match l with
  | [] => right; exact ⟨.inl rfl, rfl⟩
  | [_] => right; exact ⟨.inl rfl, rfl⟩
  | [_, _] => right; exact ⟨.inl rfl, rfl⟩
  | _ :: _ :: _ :: _ :: _ => right; exact ⟨.inl rfl, rfl⟩
  | [v, d, r] =>
    simp only
    unfold judgeZ formedS
    obtain ⟨st, hst⟩ : ∃ st, (if d.length = 3 then (numberL d).getD 0 else 0) = st := ⟨_, rfl⟩
    have hcond : (d.length == 3 && (numberL d).isSome && decide (100 ≤ (numberL d).getD 0) && decide ((numberL d).getD 0 ≤ 599)) = (decide ((100 : Int) ≤ (st : Int)) && decide ((st : Int) ≤ 599)) := by
      by_cases h3 : d.length = 3
      · rw [if_pos h3] at hst
        cases hn : numberL d with
        | none =>
          rw [hn] at hst
          obtain rfl : st = 0 := hst.symm
          simp
        | some k =>
          rw [hn] at hst
          obtain rfl : st = k := hst.symm
          rw [Bool.eq_iff_iff]
          simp [h3]
          omega
      · rw [if_neg h3] at hst
        subst hst
        have : (d.length == 3) = false := by simpa using h3
        rw [this]
        simp
    have hgd : (decide ((100 : Int) ≤ (st : Int)) && decide ((st : Int) ≤ 599)) = true → (numberL d).getD 0 = st := fun h => by
      by_cases h3 : d.length = 3
      · rw [if_pos h3] at hst; exact hst
      · rw [if_neg h3] at hst
        subst hst
        simp at h
    rw [hst]
    rcases minorZ_cases v with ⟨h1, h2⟩ | ⟨h1, h2⟩ | ⟨h1, h2⟩
    · rw [h1, h2]
      have e0 : ((some 0 : Option Nat).isSome && d.length == 3 && (numberL d).isSome && decide (100 ≤ (numberL d).getD 0) && decide ((numberL d).getD 0 ≤ 599) && r.all okV && trimL r == r) = ((decide ((100 : Int) ≤ (st : Int)) && decide ((st : Int) ≤ 599)) && r.all okV && trimL r == r) := by
        rw [← hcond]
        simp
      have e1 : (((0 : Int) == 0 || (0 : Int) == 1) && decide ((100 : Int) ≤ (st : Int)) && decide ((st : Int) ≤ 599) && r.all okV && trimL r == r) = ((decide ((100 : Int) ≤ (st : Int)) && decide ((st : Int) ≤ 599)) && r.all okV && trimL r == r) := by simp
      rw [e0, e1]
      cases hc : ((decide ((100 : Int) ≤ (st : Int)) && decide ((st : Int) ≤ 599)) && r.all okV && trimL r == r) with
      | false => right; exact ⟨.inl rfl, rfl⟩
      | true =>
        have hg := hgd (by
          simp only [Bool.and_eq_true] at hc ⊢
          exact hc.1.1)
        by_cases h3 : 64 < r.length
        · right
          rw [decide_eq_true h3]
          refine ⟨.inr rfl, ?_⟩
          rw [if_pos rfl, if_pos h3]; rfl
        · left
          rw [decide_eq_false h3]
          refine ⟨rfl, by decide, ?_⟩
          rw [if_pos rfl, if_neg h3, hg]; rfl
    · rw [h1, h2]
      have e0 : ((some 1 : Option Nat).isSome && d.length == 3 && (numberL d).isSome && decide (100 ≤ (numberL d).getD 0) && decide ((numberL d).getD 0 ≤ 599) && r.all okV && trimL r == r) = ((decide ((100 : Int) ≤ (st : Int)) && decide ((st : Int) ≤ 599)) && r.all okV && trimL r == r) := by
        rw [← hcond]
        simp
      have e1 : (((1 : Int) == 0 || (1 : Int) == 1) && decide ((100 : Int) ≤ (st : Int)) && decide ((st : Int) ≤ 599) && r.all okV && trimL r == r) = ((decide ((100 : Int) ≤ (st : Int)) && decide ((st : Int) ≤ 599)) && r.all okV && trimL r == r) := by simp
      rw [e0, e1]
      cases hc : ((decide ((100 : Int) ≤ (st : Int)) && decide ((st : Int) ≤ 599)) && r.all okV && trimL r == r) with
      | false => right; exact ⟨.inl rfl, rfl⟩
      | true =>
        have hg := hgd (by
          simp only [Bool.and_eq_true] at hc ⊢
          exact hc.1.1)
        by_cases h3 : 64 < r.length
        · right
          rw [decide_eq_true h3]
          refine ⟨.inr rfl, ?_⟩
          rw [if_pos rfl, if_pos h3]; rfl
        · left
          rw [decide_eq_false h3]
          refine ⟨rfl, by decide, ?_⟩
          rw [if_pos rfl, if_neg h3, hg]; rfl
    · right
      rw [h1, h2]
      exact ⟨.inl rfl, rfl⟩
/-- what ReadResponse tells -/
def ResRead (t : TypeId) (B : Nat) (x : Except Nat (Hd × Nat)) (e : Ending) (w' : World) : Prop := match x with
  | .error k => k ≠ 0 ∧ e = .returned (.tuple #[resV 0 [] 0 none 0 0, .int .i64 0, .int .i64 (k : Int)])
  | .ok (h, n) => ∃ v', e = .returned (.tuple #[.agg #[.int .i64 (h.status : Int), strV h.first, .int .i64 (h.minor : Int), v'], .int .i64 (n : Int), .int .i64 0]) ∧ w'.ownsRow B t 2 v' h.flds.length (fldCells h.flds)
set_option maxRecDepth 100000 in
set_option maxHeartbeats 4000000 in
theorem ReadResponse_any (ao : Option Addr) (cap : Nat) (l : List UInt8) (w : World) (hr : Reads w (.slice ao l.length cap) (l.map byteV)) (hc : l.length ≤ cap) (hm : MaxOk w) :
    Calls Tryz.prog 30 #[.slice ao l.length cap] w fun e w' => ResRead 110 w.heap.size (readL resL l) e w' ∧ Below w.heap.size w w' := by
  obtain ⟨W0, hW0⟩ : ∃ W, W = w.alloc (.cells #[.int .i64 0, .string ⟨#[]⟩, .int .i64 0, .slice none 0 0] 53) := ⟨_, rfl⟩
  have hb0 : Below w.heap.size w W0 := by rw [hW0]; exact below_alloc _ _
  have hr0 : rowIs W0 w.heap.size #[.int .i64 0, .string ⟨#[]⟩, .int .i64 0, .slice none 0 0] 53 := by rw [hW0]; exact rowIs_new _ _ _
  obtain ⟨R, hR⟩ : ∃ R, readL resL l = R := ⟨_, rfl⟩
  rw [hR]
  rw [readL_cut] at hR
  have hrd0 := hr.below hb0
  have hm0 := hm.below hb0
  cases hcut : cutL l with
  | error k =>
    rw [hcut] at hR
    simp only at hR
    have c0 := cut_err ao cap l k W0 hrd0 hc hm0 hcut
    have C0 := hid c0
    subst hR
    rcases cutL_err hcut with rfl | rfl
    all_goals
      clear hcut c0 hr hrd0 hm hm0 hc
      go_enter Tryz.func30, Tryz.ntmps30
      go_wp2_with fail
      rw [← hW0]
      clear hW0
      refine C0.out.mono ?_
      rintro e w1 ⟨rfl, hb1⟩
      have hr1 := hr0.below hb1
      have hbb := chain2 hb0 hb0.size hb1
      clear hb0 hr0 hb1
      go_wp2_with (refine wpList_store_row rfl 53 _ _ rfl w.heap.size _ rfl rfl 53 #[.int .i64 0, .string ⟨#[]⟩, .int .i64 0, .slice none 0 0] hr1 infoResS rfl (one4' 0 0 [] none 0 0) ?_)
      refine bodyPost_ret (results_row3 Tryz.results30 _ _ w.heap.size _ rfl (hr1.setRow _) Tryz.underlying53 rfl infoResS) rfl ?_
      exact ⟨⟨by decide, rfl⟩, below_setRow hbb (Nat.le_refl _) _⟩
  | ok p =>
    obtain ⟨lst, n⟩ := p
    obtain ⟨p1, p2, p3, p4, p5⟩ := cutL_pos hcut
    obtain ⟨a, r, rfl⟩ : ∃ a r, lst = a :: r := by
      cases lst with
      | nil => cases p1
      | cons a r => exact ⟨a, r, rfl⟩
    rw [hcut] at hR
    simp only at hR
    have c0 := cut_ok ao cap l a r n W0 hrd0 hc hm0 hcut
    have C0 := hid c0
    have ha : a.length ≤ 100000 := Nat.le_trans (p3 a (by simp)) (by decide)
    have hrl : ∀ x ∈ r, x.length ≤ 100000 := fun x hx => Nat.le_trans (p3 x (by simp [hx])) (by decide)
    have hrn : r.length < 4294967296 := by simp at p2; omega
    have c1 := fun W h => readResponseLine_any a W h ha
    have c2 := fun W v h1 h2 => readFields_any v r W h1 hrn hrl h2
    have hq := resL_code a
    generalize resP a = q at c1 hq
    obtain ⟨st, m, z, code⟩ := q
    simp only at c1 hq
    have hR2 : R = match resL a with
      | .error e => .error e
      | .ok h => match fldsL 0 r with | .error e => .error e | .ok f => .ok ({ h with flds := f }, n) := by
      rw [← hR]
      unfold headL
      simp only
      cases resL a with
      | error e => rfl
      | ok h => cases fldsL 0 r <;> rfl
    have C1 := hid c1
    have C2 := hid c2
    have HQ := hid hq
    have HR2 := hid hR2
    clear c0 c1 c2 hq hR hR2 hcut hr hrd0 hm hc p1 p2 p3 p4 p5 ha hrl hrn
    by_cases h0 : code = 0
    · subst h0
      obtain ⟨hz, hqe⟩ : 0 ≤ z ∧ resL a = .ok ⟨m, [], st, z.toNat, []⟩ := by
        rcases HQ.out with h | ⟨h, _⟩
        · exact h.2
        · rcases h with h | h <;> cases h
      have hR3 : R = match fldsL 0 r with | .error e => .error e | .ok f => .ok (⟨m, [], st, z.toNat, f⟩, n) := by
        rw [HR2.out, hqe]
      have hzz : ((z.toNat : Nat) : Int) = z := by omega
      have HZ := hid hzz
      have HR3 := hid hR3
      clear hR3 HR2 hqe HQ hzz hz
      generalize fldsL 0 r = F at C2 HR3
      go_enter Tryz.func30, Tryz.ntmps30
      go_wp2_with fail
      rw [← hW0]
      clear hW0
      refine C0.out.mono ?_
      rintro e w1 ⟨⟨aor, capr, rfl, hrd⟩, hb1⟩
      have hr1 := hr0.below hb1
      have hbb := chain2 hb0 hb0.size hb1
      have hm1 := hm0.below hb1
      clear hb0 hr0 hb1 hm0 C0
      go_wp2_with fail
      refine (C1.out _ hm1).mono ?_
      rintro e w2 ⟨rfl, hb2⟩
      obtain ⟨W, hW⟩ : ∃ W, W = w2.alloc (.cells #[.int .i64 (st : Int), strV m, .int .i64 z, .slice none 0 0] 53) := ⟨_, rfl⟩
      have hbW : Below w2.heap.size w2 W := by rw [hW]; exact below_alloc _ _
      have hg : rowIs W w2.heap.size #[.int .i64 (st : Int), strV m, .int .i64 z, .slice none 0 0] 53 := by rw [hW]; exact rowIs_new _ _ _
      have hr2 := (hr1.below hb2).below hbW
      have hne : w2.heap.size ≠ w.heap.size := by have := (hr1.below hb2).lt; omega
      have hm2 := (hm1.below hb2).below hbW
      have hrd2 := (hrd.below hb2).below hbW
      have hb3 := chain2 (chain2 hbb hbb.size hb2) (chain2 hbb hbb.size hb2).size hbW
      have hwg : w.heap.size ≤ w2.heap.size := (chain2 hbb hbb.size hb2).size
      clear hr1 hbb hm1 hrd hb2 hbW C1
      go_wp2_with fail
      rw [← hW]
      clear hW
      generalize w2.heap.size = G at *
      refine (C2.out _ _ hrd2 hm2).mono ?_
      rintro e w3 ⟨hfl, hb4⟩
      have hr3 := hr2.below hb4
      have hg3 := hg.below hb4
      have hb5 := chain2 hb3 hb3.size hb4
      have hBs := hb3.size
      have hgl := hg.lt
      have hwl := hr2.lt
      clear hr2 hg hb4 hb3 hrd2 hm2 C2
      cases F with
      | error k =>
        obtain ⟨hk0, rfl⟩ := hfl
        have hR4 : R = .error k := HR3.out
        subst hR4
        have k1 : ((k : Int) == 0) = false := by simp; omega
        have k2 : ((k : Int) != 0) = true := by simp; omega
        have HK := hid hk0
        clear hk0
        have hcl := hg3.cell 3
        have hfr := hg3.free 3
        have hg4 := hg3.setCell 3 (.slice none 0 0)
        have hr4 := hr3.setCell_block (g' := G) (Ne.symm hne) 3 (.slice none 0 0)
        have hb6 := hb5.setCell (p := ⟨G, 3, none⟩) hwg (.slice none 0 0)
        have d0 : (w3.setCell ⟨G, 3, none⟩ (.slice none 0 0)).cell? ⟨G, 0, none⟩ = some (.int .i64 (st : Int)) := hg4.cell 0
        have d1 : (w3.setCell ⟨G, 3, none⟩ (.slice none 0 0)).cell? ⟨G, 1, none⟩ = some (strV m) := hg4.cell 1
        have d2 : (w3.setCell ⟨G, 3, none⟩ (.slice none 0 0)).cell? ⟨G, 2, none⟩ = some (.int .i64 z) := hg4.cell 2
        have d3 : (w3.setCell ⟨G, 3, none⟩ (.slice none 0 0)).cell? ⟨G, 3, none⟩ = some (.slice none 0 0) := hg4.cell 3
        clear hg3 hr3 hb5 hg4
        go_wp2_with (refine wpList_store_row rfl 53 _ _ rfl w.heap.size _ rfl rfl 53 #[.int .i64 0, .string ⟨#[]⟩, .int .i64 0, .slice none 0 0] hr4 infoResS rfl (one4' 0 0 [] none 0 0) ?_)
        refine bodyPost_ret (results_row3 Tryz.results30 _ _ w.heap.size _ rfl (hr4.setRow _) Tryz.underlying53 rfl infoResS) rfl ?_
        exact ⟨⟨HK.out, rfl⟩, below_setRow hb6 (Nat.le_refl _) _⟩
      | ok L =>
        obtain ⟨v', rfl, ho⟩ := hfl
        have hR4 : R = .ok (⟨m, [], st, z.toNat, L⟩, n) := HR3.out
        subst hR4
        obtain ⟨aov, capv, rfl⟩ := ownsRow_form ho
        have HO := hid ho
        clear ho
        have hcl := hg3.cell 3
        have hfr := hg3.free 3
        have hg4 := hg3.setCell 3 (.slice aov L.length capv)
        have hr4 := hr3.setCell_block (g' := G) (Ne.symm hne) 3 (.slice aov L.length capv)
        have hb6 := hb5.setCell (p := ⟨G, 3, none⟩) hwg (.slice aov L.length capv)
        have d0 : (w3.setCell ⟨G, 3, none⟩ (.slice aov L.length capv)).cell? ⟨G, 0, none⟩ = some (.int .i64 (st : Int)) := hg4.cell 0
        have d1 : (w3.setCell ⟨G, 3, none⟩ (.slice aov L.length capv)).cell? ⟨G, 1, none⟩ = some (strV m) := hg4.cell 1
        have d2 : (w3.setCell ⟨G, 3, none⟩ (.slice aov L.length capv)).cell? ⟨G, 2, none⟩ = some (.int .i64 z) := hg4.cell 2
        have d3 : (w3.setCell ⟨G, 3, none⟩ (.slice aov L.length capv)).cell? ⟨G, 3, none⟩ = some (.slice aov L.length capv) := hg4.cell 3
        clear hg3 hr3 hb5 hg4
        go_wp2_with (refine wpList_store_row rfl 53 _ _ rfl w.heap.size _ rfl rfl 53 #[.int .i64 0, .string ⟨#[]⟩, .int .i64 0, .slice none 0 0] hr4 infoResS rfl (one4' st z m aov L.length capv) ?_)
        refine bodyPost_ret (results_row3 Tryz.results30 _ _ w.heap.size _ rfl (hr4.setRow _) Tryz.underlying53 rfl infoResS) rfl ?_
        refine ⟨⟨_, by rw [HZ.out]; rfl, ?_⟩, below_setRow hb6 (Nat.le_refl _) _⟩
        refine (ownsRow_far HO.out fun k hk => ?_).base hBs
        rw [_root_.Go.setRow_other _ _ _ _ (by omega), Below.heap_setCell _ ⟨G, 3, none⟩ _ k (by show k ≠ G; omega)]
    · have hq2 : code = 21 ∨ code = 22 := by
        rcases HQ.out with h | h
        · exact absurd h.1 h0
        · exact h.1
      have hR3 : R = .error code.toNat := by
        rw [HR2.out]
        rcases HQ.out with h | h
        · exact absurd h.1 h0
        · rw [h.2]
      subst hR3
      have k1 : (code == 0) = false := by simpa using h0
      have k2 : (code != 0) = true := by simpa using h0
      have hcz : ((code.toNat : Nat) : Int) = code := by omega
      have hcn : code.toNat ≠ 0 := by omega
      have HK := hid (And.intro hcz hcn)
      clear hq2 h0 hcz hcn HQ HR2
      go_enter Tryz.func30, Tryz.ntmps30
      go_wp2_with fail
      rw [← hW0]
      clear hW0
      refine C0.out.mono ?_
      rintro e w1 ⟨⟨aor, capr, rfl, hrd⟩, hb1⟩
      have hr1 := hr0.below hb1
      have hbb := chain2 hb0 hb0.size hb1
      have hm1 := hm0.below hb1
      clear hb0 hr0 hb1 hm0 C0
      go_wp2_with fail
      refine (C1.out _ hm1).mono ?_
      rintro e w2 ⟨rfl, hb2⟩
      have hr2 := hr1.below hb2
      have hb3 := chain2 hbb hbb.size hb2
      obtain ⟨W, hW⟩ : ∃ W, W = w2.alloc (.cells #[.int .i64 (st : Int), strV m, .int .i64 z, .slice none 0 0] 53) := ⟨_, rfl⟩
      have hbW : Below w2.heap.size w2 W := by rw [hW]; exact below_alloc _ _
      have hr3 := hr2.below hbW
      have hb4 := chain2 hb3 hb3.size hbW
      rw [hW] at hr3 hb4
      clear hr1 hr2 hbb hb2 hb3 hm1 hrd hW hbW
      go_wp2_with (refine wpList_store_row rfl 53 _ _ rfl w.heap.size _ rfl rfl 53 #[.int .i64 0, .string ⟨#[]⟩, .int .i64 0, .slice none 0 0] hr3 infoResS rfl (one4' 0 0 [] none 0 0) ?_)
      refine bodyPost_ret (results_row3 Tryz.results30 _ _ w.heap.size _ rfl (hr3.setRow _) Tryz.underlying53 rfl infoResS) rfl ?_
      exact ⟨⟨HK.out.2, by rw [HK.out.1]; rfl⟩, below_setRow hb4 (Nat.le_refl _) _⟩
end Go.Proofs.YtefplhkjcclppaaGreatDoor
/-
  What the Reads tell, as numbers.
-/
namespace Go.Proofs.YtefplhkjcclppaaGreatDoor
open Go.RowKit Go.Pantry

/-- an error's number, or 0; how many bytes -/
def codeX (x : Except Nat (Hd × Nat)) : Int := match x with | .error k => (k : Int) | .ok _ => 0
def nX (x : Except Nat (Hd × Nat)) : Int := match x with | .error _ => 0 | .ok p => (p.2 : Int)
/-- the head, or none -/
def hX (x : Except Nat (Hd × Nat)) : Hd := match x with | .error _ => hd0 | .ok p => p.1
theorem reqRead_form {t : TypeId} {B : Nat} {x : Except Nat (Hd × Nat)} {e : Ending} {w' : World} (h : ReqRead t B x e w') :
    ∃ ao c, e = .returned (.tuple #[.agg #[strV (hX x).first, strV (hX x).second, .int .i64 ((hX x).minor : Int), .slice ao (hX x).flds.length c], .int .i64 (nX x), .int .i64 (codeX x)]) ∧ Reads2 w' (.slice ao (hX x).flds.length c) (hX x).flds := by
  cases x with
  | error k =>
    obtain ⟨_, rfl⟩ := h
    exact ⟨none, 0, rfl, ⟨none, 0, rfl, (fun j p hj => by cases hj), fun _ => rfl, Nat.le_refl _⟩⟩
  | ok p =>
    obtain ⟨h', n⟩ := p
    obtain ⟨v', rfl, ho⟩ := h
    obtain ⟨ao, c, rfl⟩ := ownsRow_form ho
    exact ⟨ao, c, rfl, (ho.reads2).2⟩
theorem resRead_form {t : TypeId} {B : Nat} {x : Except Nat (Hd × Nat)} {e : Ending} {w' : World} (h : ResRead t B x e w') :
    ∃ ao c, e = .returned (.tuple #[.agg #[.int .i64 ((hX x).status : Int), strV (hX x).first, .int .i64 ((hX x).minor : Int), .slice ao (hX x).flds.length c], .int .i64 (nX x), .int .i64 (codeX x)]) ∧ Reads2 w' (.slice ao (hX x).flds.length c) (hX x).flds := by
  cases x with
  | error k =>
    obtain ⟨_, rfl⟩ := h
    exact ⟨none, 0, rfl, ⟨none, 0, rfl, (fun j p hj => by cases hj), fun _ => rfl, Nat.le_refl _⟩⟩
  | ok p =>
    obtain ⟨h', n⟩ := p
    obtain ⟨v', rfl, ho⟩ := h
    obtain ⟨ao, c, rfl⟩ := ownsRow_form ho
    exact ⟨ao, c, rfl, (ho.reads2).2⟩
theorem reqL_err {s : List UInt8} {e : Nat} (h : reqL s = .error e) : e = 21 ∨ e = 22 := by
  rcases reqL_code s with ⟨_, _, h2⟩ | ⟨h1, h2⟩
  · rw [h2] at h; cases h
  · rw [h2] at h
    cases h
    omega
theorem resL_err {s : List UInt8} {e : Nat} (h : resL s = .error e) : e = 21 ∨ e = 22 := by
  rcases resL_code s with ⟨_, _, h2⟩ | ⟨h1, h2⟩
  · rw [h2] at h; cases h
  · rw [h2] at h
    cases h
    omega
theorem fldsL_err : ∀ (l : List (List UInt8)) (i e : Nat), fldsL i l = .error e → e = 21 ∨ e = 22
  | [], _, _, h => by cases h
  | a :: r, i, e, h => by
    rw [fldsL] at h
    rcases fldL_code i a with ⟨_, h2⟩ | ⟨h1, h2⟩
    · rw [h2] at h
      by_cases h64 : 64 ≤ i
      · rw [if_pos h64] at h
        cases h
        exact .inr rfl
      · rw [if_neg h64] at h
        simp only at h
        cases hf : fldsL (i + 1) r with
        | error k =>
          rw [hf] at h
          cases h
          exact fldsL_err r (i + 1) _ hf
        | ok L => rw [hf] at h; cases h
    · rw [h2] at h
      cases h
      omega
theorem headL_err {first : List UInt8 → Except Nat Hd} (hf : ∀ s e, first s = .error e → e = 21 ∨ e = 22) {l : List (List UInt8)} {e : Nat} (h : headL first l = .error e) : e = 21 ∨ e = 22 := by
  cases l with
  | nil => cases h; exact .inl rfl
  | cons a r =>
    unfold headL at h
    simp only at h
    cases h1 : first a with
    | error k => rw [h1] at h; cases h; exact hf _ _ h1
    | ok g =>
      rw [h1] at h
      simp only at h
      cases h2 : fldsL 0 r with
      | error k => rw [h2] at h; cases h; exact fldsL_err _ _ _ h2
      | ok L => rw [h2] at h; cases h
/-- both Reads ask for more, or say that it is too long; or what each says is of the lines -/
theorem read_cases (s : List UInt8) : (readL reqL s = .error 20 ∧ readL resL s = .error 20) ∨ (readL reqL s = .error 22 ∧ readL resL s = .error 22) ∨
    ((∀ e, readL reqL s = .error e → e = 21 ∨ e = 22) ∧ (∀ e, readL resL s = .error e → e = 21 ∨ e = 22)) := by
  rw [readL_cut, readL_cut]
  cases hc : cutL s with
  | error e => rcases cutL_err hc with rfl | rfl <;> simp
  | ok p =>
    obtain ⟨l, n⟩ := p
    right; right
    simp only
    constructor
    · intro e h
      cases hh : headL reqL l with
      | error k => rw [hh] at h; cases h; exact headL_err (fun _ _ => reqL_err) hh
      | ok g => rw [hh] at h; cases h
    · intro e h
      cases hh : headL resL l with
      | error k => rw [hh] at h; cases h; exact headL_err (fun _ _ => resL_err) hh
      | ok g => rw [hh] at h; cases h
theorem kinds_cases (s : List UInt8) : (codeX (readL reqL s) = 20 ∧ nX (readL reqL s) = 0 ∧ codeX (readL resL s) = 20 ∧ nX (readL resL s) = 0) ∨
    ((codeX (readL reqL s) = 21 ∨ codeX (readL reqL s) = 22) ∧ nX (readL reqL s) = 0 ∧ (codeX (readL resL s) = 21 ∨ codeX (readL resL s) = 22) ∧ nX (readL resL s) = 0) ∨
    (codeX (readL reqL s) = 0 ∧ (codeX (readL resL s) = 21 ∨ codeX (readL resL s) = 22) ∧ nX (readL resL s) = 0) ∨
    ((codeX (readL reqL s) = 21 ∨ codeX (readL reqL s) = 22) ∧ nX (readL reqL s) = 0 ∧ codeX (readL resL s) = 0) := by
  have hk := read_kinds s
  have err : ∀ {k : Nat}, k = 21 ∨ k = 22 → (codeX (.error k) = 21 ∨ codeX (.error k) = 22) := fun h => by
    rcases h with rfl | rfl
    · exact .inl rfl
    · exact .inr rfl
  rcases read_cases s with ⟨h1, h2⟩ | ⟨h1, h2⟩ | ⟨h1, h2⟩
  · rw [h1, h2]; left; exact ⟨rfl, rfl, rfl, rfl⟩
  · rw [h1, h2]; right; left; exact ⟨.inr rfl, rfl, .inr rfl, rfl⟩
  · cases hx : readL reqL s with
    | error k =>
      have hk1 := err (h1 k hx)
      cases hy : readL resL s with
      | error j =>
        have hj1 := err (h2 j hy)
        right; left; exact ⟨hk1, rfl, hj1, rfl⟩
      | ok q => right; right; right; exact ⟨hk1, rfl, rfl⟩
    | ok p =>
      cases hy : readL resL s with
      | error j =>
        have hj1 := err (h2 j hy)
        right; right; left; exact ⟨rfl, hj1, rfl⟩
      | ok q => exact (hk p q hx hy).elim
end Go.Proofs.YtefplhkjcclppaaGreatDoor
