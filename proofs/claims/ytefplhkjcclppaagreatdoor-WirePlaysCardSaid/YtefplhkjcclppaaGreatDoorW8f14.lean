/-
  Several texts in one: Ref5F, Ref5H.
-/
import Derived.Test.YtefplhkjcclppaaGreatDoorW8f12
import Derived.Test.YtefplhkjcclppaaGreatDoorW8f08
import Derived.Test.YtefplhkjcclppaaGreatDoorW8fRefSignN
import Derived.BigQuiet
import Derived.Deep.QuietTactic
import Derived.Test.YtefplhkjcclppaaGreatDoorPureAll2
/-
  The document's answers of layer 5: a response's first line.
-/
namespace Go.Proofs.YtefplhkjcclppaaGreatDoor
open Go.RowKit Go.Pantry

set_option maxRecDepth 100000 in
set_option maxHeartbeats 16000000 in
theorem refResponse_any (s : List UInt8) (w : World) (hs : s.length ≤ 100000) :
    Calls Tryz.prog 41 #[strV s] w fun e w' => LineRead (resL s) e ∧ Below w.heap.size w w' := by
  have c0 := fun W => refPieces_any s [32] 2 2 W (by decide) (by omega) (by decide) (.inl ⟨rfl, by decide⟩)
  have hps : ∀ a ∈ piecesL [32] 2 s, a.length ≤ 100000 := fun a ha => Nat.le_trans (pieces_size _ _ _ a ha) hs
  have hd : resL s = match piecesL [32] 2 s with
    | [v, d, r] => if (minorL v).isSome && d.length == 3 && (numberL d).isSome && decide (100 ≤ (numberL d).getD 0) && decide ((numberL d).getD 0 ≤ 599) && r.all okV && trimL r == r then (if 64 < r.length then .error 22 else .ok ⟨r, [], (numberL d).getD 0, (minorL v).getD 0, []⟩) else .error 21
    | _ => .error 21 := rfl
  generalize resL s = x at hd ⊢
  generalize piecesL [32] 2 s = l at c0 hps hd
  have C0 := hid c0
  clear c0
  obtain ⟨W0, hW0⟩ : ∃ W, W = w.alloc (.cells #[.string ⟨#[]⟩, .string ⟨#[]⟩, .int .i64 0, .int .i64 0, .slice none 0 0] 47) := ⟨_, rfl⟩
  have hb0 : Below w.heap.size w W0 := by rw [hW0]; exact below_alloc _ _
  have hr0 : rowIs W0 w.heap.size #[.string ⟨#[]⟩, .string ⟨#[]⟩, .int .i64 0, .int .i64 0, .slice none 0 0] 47 := by rw [hW0]; exact rowIs_new _ _ _
  have hs0 : W0.heap.size = w.heap.size + 1 := by rw [hW0]; simp
  by_cases h3 : l.length = 3
  · obtain ⟨v, d, r, rfl⟩ : ∃ v d r, l = [v, d, r] := by
      match l, h3 with
      | [v, d, r], _ => exact ⟨v, d, r, rfl⟩
    simp only at hd
    have hdl := hps d (by simp)
    have hrl := hps r (by simp)
    clear hps h3
    have c1 := fun W => (refClean_any ⟨r.toArray⟩ W (by rw [szL]; unfold maxLen; omega)).mono (fun _ _ h => (⟨h.1, h.2.symm⟩ : _ ∧ _))
    have c2 := fun W => (refTrim_any ⟨r.toArray⟩ W (by rw [szL]; unfold maxLen; omega)).mono (fun _ _ h => (⟨h.1, h.2.symm⟩ : _ ∧ _))
    have c3 := fun W => refMinor_any v W
    have c4 := fun W => refNumber_any ⟨d.toArray⟩ W (by rw [szL]; omega)
    rw [dtL] at c1 c2 c4
    generalize r.all okV = q1 at c1 hd
    generalize trimL r = T at c2 hd
    generalize numberL d = nd at c4 hd
    have hz := minorI_cases v
    generalize minorI v = z at c3 hz
    have C1 := hid c1
    have C2 := hid c2
    have C3 := hid c3
    have C4 := hid c4
    have HD := hid hd
    have HZ := hid hz
    clear c1 c2 c3 c4 hd hz
    go_enter Tryz.func41, Tryz.ntmps41
    go_wp2_with fail
    rw [← hW0]
    clear hW0
    refine (C0.out _).mono ?_
    rintro e w1 ⟨v1, rfl, ho, hb1⟩
    rcases ho.2 with ⟨-, hn0⟩ | ⟨g, cap, cur, rfl, hbg, hgg, hnc, -, -, htake⟩
    · cases hn0
    have hrow : rowIs w1 g cur 9 := hgg
    obtain ⟨q0, q1', q2'⟩ := take3 htake
    have hr1 := hr0.below hb1
    have hbb := chain2 hb0 hb0.size hb1
    have hne : g ≠ w.heap.size := by omega
    have k0 := (hrow.cell 0).trans q0
    have k1 := (hrow.cell 1).trans q1'
    have k2 := (hrow.cell 2).trans q2'
    have hr1d : ∀ n, rowIs (w1.drewN n) w.heap.size #[.string ⟨#[]⟩, .string ⟨#[]⟩, .int .i64 0, .int .i64 0, .slice none 0 0] 47 := fun n => hr1
    clear ho hgg htake hr0 hb0 hb1 C0 hbg
    rcases HZ.out with ⟨n, hz1, rfl, hn1⟩ | ⟨hz1, rfl⟩
    · have hx := HD.out
      rw [hz1] at hx
      simp only [Option.isSome_some, Bool.true_and, Option.getD_some] at hx
      have HD2 := hid hx
      clear HD HZ hx
      by_cases hd3 : (d.length : Int) = 3
      · have b3 : (d.length == 3) = true := by simp; omega
        have e3 : ((d.length : Int) == 3) = true := by simp; omega
        have e4 : ((d.length : Int) != 3) = false := by simp; omega
        have hx := HD2.out
        rw [b3] at hx
        simp only [Bool.true_and] at hx
        cases nd with
        | none =>
          simp only [Option.isSome_none, Bool.false_and, Bool.false_eq_true, if_false, Option.getD_none] at hx C4
          subst hx
          clear HD2 hd3 b3
          go_wp2_with (first
            | (go_at_call 62; refine (C3.out _).mono ?_; rintro e w' ⟨rfl, rfl⟩)
            | (go_at_call 63; refine (C4.out _).mono ?_; rintro e w' ⟨rfl, rfl⟩))
          go_quiet ((first | (go_at_call 64; with_reducible exact Calls.quiet_of_same (C1.out _)) | (go_at_call 65; with_reducible exact Calls.quiet_of_same (C2.out _))))
          go_wp2_with (refine wpList_store_row rfl 47 _ _ rfl w.heap.size _ rfl rfl 47 #[.string ⟨#[]⟩, .string ⟨#[]⟩, .int .i64 0, .int .i64 0, .slice none 0 0] (hr1d _) infoHdS rfl (one5 [] [] 0 0 none 0 0) ?_)
          refine bodyPost_ret (results_row2 Tryz.results41 _ _ w.heap.size _ rfl ((hr1d _).setRow _) Tryz.underlying47 rfl infoHdS) rfl ?_
          exact ⟨rfl, below_setRow (below_drewN hbb _) (Nat.le_refl _) _⟩
        | some k =>
          simp only [Option.isSome_some, Bool.true_and, Option.getD_some] at hx C4
          have HD3 := hid hx
          clear HD2 hx hd3 b3
          by_cases h100 : (k : Int) < 100
          · have d1 : decide ((k : Int) < 100) = true := decide_eq_true h100
            have hx := HD3.out
            rw [decide_eq_false (show ¬ 100 ≤ k by omega)] at hx
            simp only [Bool.false_and, Bool.false_eq_true, if_false] at hx
            subst hx
            clear HD3
            go_wp2_with (first
              | (go_at_call 62; refine (C3.out _).mono ?_; rintro e w' ⟨rfl, rfl⟩)
              | (go_at_call 63; refine (C4.out _).mono ?_; rintro e w' ⟨rfl, rfl⟩))
            go_quiet ((first | (go_at_call 64; with_reducible exact Calls.quiet_of_same (C1.out _)) | (go_at_call 65; with_reducible exact Calls.quiet_of_same (C2.out _))))
            go_wp2_with (refine wpList_store_row rfl 47 _ _ rfl w.heap.size _ rfl rfl 47 #[.string ⟨#[]⟩, .string ⟨#[]⟩, .int .i64 0, .int .i64 0, .slice none 0 0] (hr1d _) infoHdS rfl (one5 [] [] 0 0 none 0 0) ?_)
            refine bodyPost_ret (results_row2 Tryz.results41 _ _ w.heap.size _ rfl ((hr1d _).setRow _) Tryz.underlying47 rfl infoHdS) rfl ?_
            exact ⟨rfl, below_setRow (below_drewN hbb _) (Nat.le_refl _) _⟩
          · have d1 : decide ((k : Int) < 100) = false := decide_eq_false h100
            by_cases h599 : (599 : Int) < (k : Int)
            · have d2 : decide ((599 : Int) < (k : Int)) = true := decide_eq_true h599
              have hx := HD3.out
              rw [decide_eq_false (show ¬ k ≤ 599 by omega)] at hx
              simp only [Bool.and_false, Bool.false_and, Bool.false_eq_true, if_false] at hx
              subst hx
              clear HD3 h100 h599
              go_wp2_with (first
                | (go_at_call 62; refine (C3.out _).mono ?_; rintro e w' ⟨rfl, rfl⟩)
                | (go_at_call 63; refine (C4.out _).mono ?_; rintro e w' ⟨rfl, rfl⟩))
              go_quiet ((first | (go_at_call 64; with_reducible exact Calls.quiet_of_same (C1.out _)) | (go_at_call 65; with_reducible exact Calls.quiet_of_same (C2.out _))))
              go_wp2_with (refine wpList_store_row rfl 47 _ _ rfl w.heap.size _ rfl rfl 47 #[.string ⟨#[]⟩, .string ⟨#[]⟩, .int .i64 0, .int .i64 0, .slice none 0 0] (hr1d _) infoHdS rfl (one5 [] [] 0 0 none 0 0) ?_)
              refine bodyPost_ret (results_row2 Tryz.results41 _ _ w.heap.size _ rfl ((hr1d _).setRow _) Tryz.underlying47 rfl infoHdS) rfl ?_
              exact ⟨rfl, below_setRow (below_drewN hbb _) (Nat.le_refl _) _⟩
            · have d2 : decide ((599 : Int) < (k : Int)) = false := decide_eq_false h599
              have hx := HD3.out
              rw [decide_eq_true (show 100 ≤ k by omega), decide_eq_true (show k ≤ 599 by omega)] at hx
              simp only [Bool.true_and] at hx
              have HD4 := hid hx
              clear HD3 hx h100 h599
              cases q1 with
              | false =>
                have hx := HD4.out
                simp only [Bool.false_and, Bool.false_eq_true, if_false] at hx
                subst hx
                clear HD4
                go_wp2_with (first
                  | (go_at_call 62; refine (C3.out _).mono ?_; rintro e w' ⟨rfl, rfl⟩)
                  | (go_at_call 63; refine (C4.out _).mono ?_; rintro e w' ⟨rfl, rfl⟩))
                go_quiet ((first | (go_at_call 64; with_reducible exact Calls.quiet_of_same (C1.out _)) | (go_at_call 65; with_reducible exact Calls.quiet_of_same (C2.out _))))
                go_wp2_with (refine wpList_store_row rfl 47 _ _ rfl w.heap.size _ rfl rfl 47 #[.string ⟨#[]⟩, .string ⟨#[]⟩, .int .i64 0, .int .i64 0, .slice none 0 0] (hr1d _) infoHdS rfl (one5 [] [] 0 0 none 0 0) ?_)
                refine bodyPost_ret (results_row2 Tryz.results41 _ _ w.heap.size _ rfl ((hr1d _).setRow _) Tryz.underlying47 rfl infoHdS) rfl ?_
                exact ⟨rfl, below_setRow (below_drewN hbb _) (Nat.le_refl _) _⟩
              | true =>
                have hx := HD4.out
                simp only [Bool.true_and] at hx
                have HD5 := hid hx
                clear HD4 hx
                by_cases hT : T = r
                · have t1 : (T == r) = true := by simpa using hT
                  have t2 : (T != r) = false := by simpa using hT
                  have hx := HD5.out
                  rw [t1, if_pos rfl] at hx
                  have HD6 := hid hx
                  clear HD5 hx hT
                  by_cases h64 : (64 : Int) < (r.length : Int)
                  · have hx := HD6.out
                    rw [if_pos (by omega)] at hx
                    subst hx
                    clear HD6
                    go_wp2_with (first
                      | (go_at_call 62; refine (C3.out _).mono ?_; rintro e w' ⟨rfl, rfl⟩)
                      | (go_at_call 63; refine (C4.out _).mono ?_; rintro e w' ⟨rfl, rfl⟩))
                    go_quiet ((first | (go_at_call 64; with_reducible exact Calls.quiet_of_same (C1.out _)) | (go_at_call 65; with_reducible exact Calls.quiet_of_same (C2.out _))))
                    go_wp2_with (refine wpList_store_row rfl 47 _ _ rfl w.heap.size _ rfl rfl 47 #[.string ⟨#[]⟩, .string ⟨#[]⟩, .int .i64 0, .int .i64 0, .slice none 0 0] (hr1d _) infoHdS rfl (one5 [] [] 0 0 none 0 0) ?_)
                    refine bodyPost_ret (results_row2 Tryz.results41 _ _ w.heap.size _ rfl ((hr1d _).setRow _) Tryz.underlying47 rfl infoHdS) rfl ?_
                    exact ⟨rfl, below_setRow (below_drewN hbb _) (Nat.le_refl _) _⟩
                  · have hx := HD6.out
                    rw [if_neg (by omega)] at hx
                    subst hx
                    have HN := hid hne
                    have HS : ∀ i, HeldS w w.heap.size g cur 9 w.heap.size #[.string ⟨#[]⟩, .string ⟨#[]⟩, .int .i64 0, .int .i64 0, .slice none 0 0] #[strV r, .string ⟨#[]⟩, .int .i64 (k : Int), .int .i64 (n : Int), .slice none 0 0] 47 [false] (w1.drewN i) := fun i => ⟨below_drewN hbb i, hbb.size, hrow, hr1⟩
                    clear HD6 hne hbb hrow hr1
                    go_wp2_with (first
                      | (go_at_call 62; refine (C3.out _).mono ?_; rintro e w' ⟨rfl, rfl⟩)
                      | (go_at_call 63; refine (C4.out _).mono ?_; rintro e w' ⟨rfl, rfl⟩))
                    go_quiet ((first | (go_at_call 64; with_reducible exact Calls.quiet_of_same (C1.out _)) | (go_at_call 65; with_reducible exact Calls.quiet_of_same (C2.out _))))
                    go_wp2_with fail
                    refine wp_region_U [9] (by kernel_rfl) (HeldS w w.heap.size g cur 9 w.heap.size #[.string ⟨#[]⟩, .string ⟨#[]⟩, .int .i64 0, .int .i64 0, .slice none 0 0] #[strV r, .string ⟨#[]⟩, .int .i64 (k : Int), .int .i64 (n : Int), .slice none 0 0] 47) (b := [false]) (by kernel_rfl) (HS _).drew ?_
                    refine wpAnyU_take (i := 0) (v := ?_) (by decide) rfl (by kernel_rfl) (by kernel_rfl) (by kernel_rfl) (fun _ _ _ h => h) (Steady.plain (by kernel_rfl) ?_) ?_
                    rotate_left
                    · intro b W hS
                      have h0 := (hS.2.2.1.cell 0).trans q0
                      have h2 := (hS.2.2.1.cell 2).trans q2'
                      go_simp
                      first | done | with_reducible rfl
                    simp only [Act.put, List.getElem_toArray, List.getElem_cons_succ, List.getElem_cons_zero, List.setIfInBounds_toArray, List.set_cons_zero, List.set_cons_succ]
                    refine wpAnyU_take (i := 1) (v := ?_) (by decide) rfl (by kernel_rfl) (by kernel_rfl) (by kernel_rfl) (fun _ _ _ h => h) (Steady.plain (by kernel_rfl) ?_) ?_
                    rotate_left
                    · intro b W hS
                      have h0 := (hS.2.2.1.cell 0).trans q0
                      have h2 := (hS.2.2.1.cell 2).trans q2'
                      go_simp
                      first | done | with_reducible rfl
                    simp only [Act.put, List.getElem_toArray, List.getElem_cons_succ, List.getElem_cons_zero, List.setIfInBounds_toArray, List.set_cons_zero, List.set_cons_succ]
                    refine wpAnyU_take (i := 2) (v := ?_) (by decide) rfl (by kernel_rfl) (by kernel_rfl) (by kernel_rfl) (fun _ _ _ h => h) (Steady.plain (by kernel_rfl) ?_) ?_
                    rotate_left
                    · intro b W hS
                      have h0 := (hS.2.2.1.cell 0).trans q0
                      have h2 := (hS.2.2.1.cell 2).trans q2'
                      go_simp
                      first | done | with_reducible rfl
                    simp only [Act.put, List.getElem_toArray, List.getElem_cons_succ, List.getElem_cons_zero, List.setIfInBounds_toArray, List.set_cons_zero, List.set_cons_succ]
                    refine wpAnyU_take (i := 3) (v := ?_) (by decide) rfl (by kernel_rfl) (by kernel_rfl) (by kernel_rfl) (fun _ _ _ h => h) (Steady.plain (by kernel_rfl) ?_) ?_
                    rotate_left
                    · intro b W hS
                      have h0 := (hS.2.2.1.cell 0).trans q0
                      have h2 := (hS.2.2.1.cell 2).trans q2'
                      go_simp
                      first | done | with_reducible rfl
                    simp only [Act.put, List.getElem_toArray, List.getElem_cons_succ, List.getElem_cons_zero, List.setIfInBounds_toArray, List.set_cons_zero, List.set_cons_succ]
                    refine wpAnyU_take (i := 4) (v := ?_) (by decide) rfl (by kernel_rfl) (by kernel_rfl) (by kernel_rfl) (fun _ _ _ h => h) (Steady.plain (by kernel_rfl) ?_) ?_
                    rotate_left
                    · intro b W hS
                      have h0 := (hS.2.2.1.cell 0).trans q0
                      have h2 := (hS.2.2.1.cell 2).trans q2'
                      go_simp
                      first | done | with_reducible rfl
                    simp only [Act.put, List.getElem_toArray, List.getElem_cons_succ, List.getElem_cons_zero, List.setIfInBounds_toArray, List.set_cons_zero, List.set_cons_succ]
                    refine wpAnyU_take (i := 5) (v := ?_) (by decide) rfl (by kernel_rfl) (by kernel_rfl) (by kernel_rfl) (fun _ _ _ h => h) (Steady.plain (by kernel_rfl) ?_) ?_
                    rotate_left
                    · intro b W hS
                      have h0 := (hS.2.2.1.cell 0).trans q0
                      have h2 := (hS.2.2.1.cell 2).trans q2'
                      go_simp
                      first | done | with_reducible rfl
                    simp only [Act.put, List.getElem_toArray, List.getElem_cons_succ, List.getElem_cons_zero, List.setIfInBounds_toArray, List.set_cons_zero, List.set_cons_succ]
                    refine wpAnyU_take (i := 6) (v := ?_) (by decide) rfl (by kernel_rfl) (by kernel_rfl) (by kernel_rfl) (fun _ _ _ h => h) (Steady.plain (by kernel_rfl) ?_) ?_
                    rotate_left
                    · intro b W hS
                      have h0 := (hS.2.2.1.cell 0).trans q0
                      have h2 := (hS.2.2.1.cell 2).trans q2'
                      go_simp
                      first | done | with_reducible rfl
                    simp only [Act.put, List.getElem_toArray, List.getElem_cons_succ, List.getElem_cons_zero, List.setIfInBounds_toArray, List.set_cons_zero, List.set_cons_succ]
                    refine wpAnyU_take (i := 7) (v := .int .i64 (n : Int)) (by decide) rfl (by kernel_rfl) (by kernel_rfl) (by kernel_rfl) (fun _ _ _ h => h) (Steady.call (f := 62) (args := #[strV v]) (by kernel_rfl) (fun _ => by kernel_rfl) ?_) ?_
                    · intro b W hS
                      refine (C3.out W).mono ?_
                      rintro e w' ⟨he, rfl⟩
                      exact ⟨he, hS⟩
                    simp only [Act.put, List.getElem_toArray, List.getElem_cons_succ, List.getElem_cons_zero, List.setIfInBounds_toArray, List.set_cons_zero, List.set_cons_succ]
                    refine wpAnyU_take (i := 8) (v := ?_) (by decide) rfl (by kernel_rfl) (by kernel_rfl) (by kernel_rfl) (fun _ _ _ h => h) (Steady.plain (by kernel_rfl) ?_) ?_
                    rotate_left
                    · intro b W hS
                      have h0 := (hS.2.2.1.cell 0).trans q0
                      have h2 := (hS.2.2.1.cell 2).trans q2'
                      go_simp
                      first | done | with_reducible rfl
                    simp only [Act.put, List.getElem_toArray, List.getElem_cons_succ, List.getElem_cons_zero, List.setIfInBounds_toArray, List.set_cons_zero, List.set_cons_succ]
                    refine wpAnyU_turn (i := 9) (v := undef) (b := [false]) (b' := [true]) rfl (by kernel_rfl) (by kernel_rfl) (by kernel_rfl) (by kernel_rfl) (turn_store (ty := 47) (x := .tmp 2) (y := .tmp 76) (by kernel_rfl) w.heap.size #[strV r, .string ⟨#[]⟩, .int .i64 (k : Int), .int .i64 (n : Int), .slice none 0 0] (by kernel_rfl) (by kernel_rfl) infoHdS (one5 r [] k n none 0 0) (fun W hS => ⟨_, _, hS.2.2.2, rfl, hS.stored (Nat.le_refl _) HN.out⟩)) ?_
                    simp only [Act.put, List.getElem_toArray, List.getElem_cons_succ, List.getElem_cons_zero, List.setIfInBounds_toArray, List.set_cons_zero, List.set_cons_succ]
                    refine wpAnyU_take (i := 10) (v := ?_) (by decide) rfl (by kernel_rfl) (by kernel_rfl) (by kernel_rfl) (fun _ _ _ h => h) (Steady.plain (by kernel_rfl) ?_) ?_
                    rotate_left
                    · intro b W hS
                      have h0 := (hS.2.2.1.cell 0).trans q0
                      have h2 := (hS.2.2.1.cell 2).trans q2'
                      go_simp
                      first | done | with_reducible rfl
                    simp only [Act.put, List.getElem_toArray, List.getElem_cons_succ, List.getElem_cons_zero, List.setIfInBounds_toArray, List.set_cons_zero, List.set_cons_succ]
                    refine wpAnyU_done (b := [true]) (by kernel_rfl) (by kernel_rfl) ?_ _
                    intro w' hS
                    go_wp2_with fail
                    refine bodyPost_ret (results_row2 Tryz.results41 _ _ w.heap.size _ rfl hS.2.2.2 Tryz.underlying47 rfl infoHdS) rfl ?_
                    exact ⟨rfl, hS.1⟩
                · have t1 : (T == r) = false := by simpa using hT
                  have t2 : (T != r) = true := by simpa using hT
                  have hx := HD5.out
                  rw [t1, if_neg (by simp)] at hx
                  subst hx
                  clear HD5 hT
                  go_wp2_with (first
                    | (go_at_call 62; refine (C3.out _).mono ?_; rintro e w' ⟨rfl, rfl⟩)
                    | (go_at_call 63; refine (C4.out _).mono ?_; rintro e w' ⟨rfl, rfl⟩))
                  go_quiet ((first | (go_at_call 64; with_reducible exact Calls.quiet_of_same (C1.out _)) | (go_at_call 65; with_reducible exact Calls.quiet_of_same (C2.out _))))
                  go_wp2_with (refine wpList_store_row rfl 47 _ _ rfl w.heap.size _ rfl rfl 47 #[.string ⟨#[]⟩, .string ⟨#[]⟩, .int .i64 0, .int .i64 0, .slice none 0 0] (hr1d _) infoHdS rfl (one5 [] [] 0 0 none 0 0) ?_)
                  refine bodyPost_ret (results_row2 Tryz.results41 _ _ w.heap.size _ rfl ((hr1d _).setRow _) Tryz.underlying47 rfl infoHdS) rfl ?_
                  exact ⟨rfl, below_setRow (below_drewN hbb _) (Nat.le_refl _) _⟩
      · have b3 : (d.length == 3) = false := by simp; omega
        have e3 : ((d.length : Int) == 3) = false := by simp; omega
        have e4 : ((d.length : Int) != 3) = true := by simp; omega
        have hx := HD2.out
        rw [b3] at hx
        simp only [Bool.false_and, Bool.false_eq_true, if_false] at hx
        subst hx
        clear HD2 hd3 b3
        go_wp2_with (first
          | (go_at_call 62; refine (C3.out _).mono ?_; rintro e w' ⟨rfl, rfl⟩)
          | (go_at_call 63; refine (C4.out _).mono ?_; rintro e w' ⟨rfl, rfl⟩)
          | (refine wpList_store_row rfl 47 _ _ rfl w.heap.size _ rfl rfl 47 #[.string ⟨#[]⟩, .string ⟨#[]⟩, .int .i64 0, .int .i64 0, .slice none 0 0] hr1 infoHdS rfl (one5 [] [] 0 0 none 0 0) ?_))
        refine bodyPost_ret (results_row2 Tryz.results41 _ _ w.heap.size _ rfl (hr1.setRow _) Tryz.underlying47 rfl infoHdS) rfl ?_
        exact ⟨rfl, below_setRow hbb (Nat.le_refl _) _⟩
    · have hx := HD.out
      rw [hz1] at hx
      simp only [Option.isSome_none, Bool.false_and, Bool.false_eq_true, if_false] at hx
      subst hx
      clear HD HZ
      go_wp2_with (first
        | (go_at_call 62; refine (C3.out _).mono ?_; rintro e w' ⟨rfl, rfl⟩)
        | (go_at_call 63; refine (C4.out _).mono ?_; rintro e w' ⟨rfl, rfl⟩)
        | (refine wpList_store_row rfl 47 _ _ rfl w.heap.size _ rfl rfl 47 #[.string ⟨#[]⟩, .string ⟨#[]⟩, .int .i64 0, .int .i64 0, .slice none 0 0] hr1 infoHdS rfl (one5 [] [] 0 0 none 0 0) ?_))
      refine bodyPost_ret (results_row2 Tryz.results41 _ _ w.heap.size _ rfl (hr1.setRow _) Tryz.underlying47 rfl infoHdS) rfl ?_
      exact ⟨rfl, below_setRow hbb (Nat.le_refl _) _⟩
  · have hx : x = .error 21 := by
      rw [hd]
      match l, h3 with
      | [], _ => rfl
      | [_], _ => rfl
      | [_, _], _ => rfl
      | [_, _, _], h => exact absurd rfl h
      | _ :: _ :: _ :: _ :: _, _ => rfl
    subst hx
    have e3 : ((l.length : Int) == 3) = false := by simp; omega
    have e4 : ((l.length : Int) != 3) = true := by simp; omega
    clear hd hps h3
    go_enter Tryz.func41, Tryz.ntmps41
    go_wp2_with fail
    rw [← hW0]
    clear hW0
    refine (C0.out _).mono ?_
    rintro e w1 ⟨v1, rfl, ho, hb1⟩
    obtain ⟨ao1, cap1, rfl⟩ := Reads.strs ho.reads
    have hr1 := hr0.below hb1
    have hbb := chain2 hb0 hb0.size hb1
    clear ho hr0 hb0 hb1 C0
    go_wp2_with (refine wpList_store_row rfl 47 _ _ rfl w.heap.size _ rfl rfl 47 #[.string ⟨#[]⟩, .string ⟨#[]⟩, .int .i64 0, .int .i64 0, .slice none 0 0] hr1 infoHdS rfl (one5 [] [] 0 0 none 0 0) ?_)
    refine bodyPost_ret (results_row2 Tryz.results41 _ _ w.heap.size _ rfl (hr1.setRow _) Tryz.underlying47 rfl infoHdS) rfl ?_
    exact ⟨rfl, below_setRow hbb (Nat.le_refl _) _⟩
end Go.Proofs.YtefplhkjcclppaaGreatDoor
/-
  The document's answers of layer 5: Read.
-/
namespace Go.Proofs.YtefplhkjcclppaaGreatDoor
open Go.RowKit Go.Pantry

/-- what the document's Read tells -/
def RefRead (t : TypeId) (B : Nat) (x : Except Nat (Hd × Nat)) (e : Ending) (w' : World) : Prop := match x with
  | .error k => k ≠ 0 ∧ e = .returned (.tuple #[.agg #[strV [], strV [], .int .i64 0, .int .i64 0, .slice none 0 0], .int .i64 0, .int .i64 (k : Int)])
  | .ok (h, n) => ∃ v', e = .returned (.tuple #[.agg #[strV h.first, strV h.second, .int .i64 (h.status : Int), .int .i64 (h.minor : Int), v'], .int .i64 (n : Int), .int .i64 0]) ∧ w'.ownsRow B t 2 v' h.flds.length (fldCells h.flds)
/-- x[1:] of one-cell values, whatever room there is -/
theorem reads_low1 {P : Program} (t : TypeId) (ht : P.underlying t = some (.slice (P.elem t))) (h1 : ∀ W, (sizeOf (P.elem t)).run P W = .ok 1 W) {w : World} {g n cap : Nat} {x : Value} {l : List Value} (h : Reads w (.slice (some ⟨g, 0, none⟩) n cap) (x :: l)) (hc : n ≤ cap) :
    ∃ ao' cap', (∀ W, (Instr.slice t (.slice (some ⟨g, 0, none⟩) n cap) (some (.int .i64 1)) none none).run P W = .ok (.slice ao' (n - 1) cap') W) ∧ Reads w (.slice ao' (n - 1) cap') l := by
  have hn : n = l.length + 1 := by
    obtain ⟨_, _, hv, _⟩ := h
    cases hv; rfl
  subst hn
  refine ⟨(if cap = 1 then some ⟨g, 0, none⟩ else some ((⟨g, 0, none⟩ : Addr).add (1 * 1))), cap - 1, fun W => ?_, ?_⟩
  · rw [run_slice_l W t (some ⟨g, 0, none⟩) (l.length + 1) cap ht .i64 1 (by omega) (by omega), h1]
    simp only [Result.andThen, sliced, Int.toNat_one, Option.map_some]
  · rw [Nat.add_sub_cancel]
    by_cases hc1 : cap = 1
    · rw [if_pos hc1]
      obtain rfl : l = [] := List.length_eq_zero_iff.1 (by omega)
      exact ⟨_, _, rfl, (fun j u hj => by cases hj), fun e => by cases e⟩
    · rw [if_neg hc1, addAt]
      exact reads_tail h _
theorem reads_setRow {w : World} {g n cap G : Nat} {xs : List Value} (h : Reads w (.slice (some ⟨g, 0, none⟩) n cap) xs) (hne : g ≠ G) (cs : Array Value) : Reads (w.setRow G cs) (.slice (some ⟨g, 0, none⟩) n cap) xs := by
  obtain ⟨ao, c, hv, hc, hz⟩ := h
  cases hv
  refine ⟨_, _, rfl, fun j u hj => ?_, hz⟩
  obtain ⟨b, off, he, hcell⟩ := hc j u hj
  cases he
  exact ⟨g, 0, rfl, (World.cell?_of_block (w := w) (a := ⟨g, 0 + j, none⟩) (_root_.Go.setRow_other w G g cs (by omega))).trans hcell⟩
set_option maxRecDepth 100000 in
set_option maxHeartbeats 16000000 in
theorem refRead_any (ao : Option Addr) (cap : Nat) (l : List UInt8) (rq : Bool) (w : World) (hr : Reads w (.slice ao l.length cap) (l.map byteV)) (hl : l.length ≤ 9000) :
    Calls Tryz.prog 20 #[.slice ao l.length cap, .bool rq] w fun e w' => RefRead 109 w.heap.size (readL (if rq then reqL else resL) l) e w' ∧ Below w.heap.size w w' := by
  obtain ⟨W0, hW0⟩ : ∃ W, W = w.alloc (.cells #[.string ⟨#[]⟩, .string ⟨#[]⟩, .int .i64 0, .int .i64 0, .slice none 0 0] 47) := ⟨_, rfl⟩
  have hb0 : Below w.heap.size w W0 := by rw [hW0]; exact below_alloc _ _
  have hr0 : rowIs W0 w.heap.size #[.string ⟨#[]⟩, .string ⟨#[]⟩, .int .i64 0, .int .i64 0, .slice none 0 0] 47 := by rw [hW0]; exact rowIs_new _ _ _
  have hs0 : W0.heap.size = w.heap.size + 1 := by rw [hW0]; simp
  have cv := reads_string (P := Tryz.prog) (hr.below hb0) 27 9 5 Tryz.underlying27 Tryz.underlying5 Tryz.underlying9
  rw [hW0] at cv
  obtain ⟨R, hR⟩ : ∃ R, readL (if rq then reqL else resL) l = R := ⟨_, rfl⟩
  rw [hR]
  have hR1 : R = match findL crlf2 l with
    | none => if 4096 ≤ l.length then .error 22 else .error 20
    | some n => if 4096 < n + 4 then .error 22 else match headL (if rq then reqL else resL) (piecesL crlf n (l.take n)) with
      | .error e => .error e
      | .ok h => .ok (h, n + 4) := hR.symm
  have c0 := fun W => refFind_any l crlf2 0 W (by decide) (by omega) (by decide) (Nat.zero_le _)
  unfold crlf2 at c0
  have hfi : findI [13, 10, 13, 10] l 0 = match findL crlf2 l with | none => -1 | some n => (n : Int) := by
    unfold findI crlf2
    rw [List.drop_zero]
    cases findL [13, 10, 13, 10] l with
    | none => rfl
    | some n => simp
  clear hR hr
  cases hf : findL crlf2 l with
  | none =>
    rw [hf] at hR1 hfi
    simp only at hR1 hfi
    rw [hfi] at c0
    have C0 := hid c0
    clear c0 hf hfi
    by_cases h4 : (4096 : Int) ≤ (l.length : Int)
    · rw [if_pos (by omega)] at hR1
      subst hR1
      have d4 : decide ((4096 : Int) ≤ (l.length : Int)) = true := decide_eq_true h4
      clear h4
      go_enter Tryz.func20, Tryz.ntmps20
      go_wp2_with fail
      clear cv
      rw [← hW0]
      clear hW0
      refine (C0.out _).mono ?_
      rintro e w1 ⟨rfl, rfl⟩
      clear C0
      go_wp2_with (refine wpList_store_row rfl 47 _ _ rfl w.heap.size _ rfl rfl 47 #[.string ⟨#[]⟩, .string ⟨#[]⟩, .int .i64 0, .int .i64 0, .slice none 0 0] hr0 infoHdS rfl (one5 [] [] 0 0 none 0 0) ?_)
      refine bodyPost_ret (results_row3 Tryz.results20 _ _ w.heap.size _ rfl (hr0.setRow _) Tryz.underlying47 rfl infoHdS) rfl ?_
      exact ⟨⟨by decide, rfl⟩, below_setRow hb0 (Nat.le_refl _) _⟩
    · rw [if_neg (by omega)] at hR1
      subst hR1
      have d4 : decide ((4096 : Int) ≤ (l.length : Int)) = false := decide_eq_false h4
      clear h4
      go_enter Tryz.func20, Tryz.ntmps20
      go_wp2_with fail
      clear cv
      rw [← hW0]
      clear hW0
      refine (C0.out _).mono ?_
      rintro e w1 ⟨rfl, rfl⟩
      clear C0
      go_wp2_with (refine wpList_store_row rfl 47 _ _ rfl w.heap.size _ rfl rfl 47 #[.string ⟨#[]⟩, .string ⟨#[]⟩, .int .i64 0, .int .i64 0, .slice none 0 0] hr0 infoHdS rfl (one5 [] [] 0 0 none 0 0) ?_)
      refine bodyPost_ret (results_row3 Tryz.results20 _ _ w.heap.size _ rfl (hr0.setRow _) Tryz.underlying47 rfl infoHdS) rfl ?_
      exact ⟨⟨by decide, rfl⟩, below_setRow hb0 (Nat.le_refl _) _⟩
  | some n =>
    have hnl : n + 4 ≤ l.length := findL_lt (by decide) hf
    rw [hf] at hR1 hfi
    simp only at hR1 hfi
    rw [hfi] at c0
    have C0 := hid c0
    clear c0 hf hfi
    by_cases h4 : (4096 : Int) < (n : Int) + 4
    · rw [if_pos (by omega)] at hR1
      subst hR1
      go_enter Tryz.func20, Tryz.ntmps20
      go_wp2_with fail
      clear cv
      rw [← hW0]
      clear hW0
      refine (C0.out _).mono ?_
      rintro e w1 ⟨rfl, rfl⟩
      clear C0
      go_wp2_with (refine wpList_store_row rfl 47 _ _ rfl w.heap.size _ rfl rfl 47 #[.string ⟨#[]⟩, .string ⟨#[]⟩, .int .i64 0, .int .i64 0, .slice none 0 0] hr0 infoHdS rfl (one5 [] [] 0 0 none 0 0) ?_)
      refine bodyPost_ret (results_row3 Tryz.results20 _ _ w.heap.size _ rfl (hr0.setRow _) Tryz.underlying47 rfl infoHdS) rfl ?_
      exact ⟨⟨by decide, rfl⟩, below_setRow hb0 (Nat.le_refl _) _⟩
    · rw [if_neg (by omega)] at hR1
      have hlt : (l.take n).length = n := by rw [List.length_take]; omega
      have ex1 := extract_mid l 0 n
      rw [Nat.zero_add, List.drop_zero] at ex1
      have hps : ∀ a ∈ piecesL crlf n (l.take n), a.length ≤ 5000 := fun a ha => Nat.le_trans (pieces_size _ _ _ a ha) (by omega)
      have hpn := pieces_num (w := crlf) (by decide) n (l.take n) (by omega)
      have hpp := pieces_pos crlf n (l.take n)
      have c1 := fun W => refPieces_any (l.take n) crlf (-1) n W (by decide) (by omega) (by decide) (.inr ⟨rfl, hlt.symm⟩)
      unfold crlf at c1
      have hpc : piecesL [13, 10] n (l.take n) = piecesL crlf n (l.take n) := rfl
      rw [hpc] at c1
      generalize piecesL crlf n (l.take n) = ls at c1 hR1 hps hpn hpp
      generalize l.take n = T at c1 ex1 hpn hlt
      obtain ⟨a, r, rfl⟩ : ∃ a r, ls = a :: r := by
        cases ls with
        | nil => cases hpp
        | cons a r => exact ⟨a, r, rfl⟩
      have hal := hps a (by simp)
      have c2 := fun W => refResponse_any a W (by omega)
      have c4 := fun W v h => refFields_any v r W h (by simp at hpn; omega) (fun x hx => Nat.le_trans (hps x (by simp [hx])) (by omega))
      have hn4 : (n : Int) ≤ (l.length : Int) := by omega
      have C1 := hid c1
      have C2 := hid c2
      have C4 := hid c4
      have HR1 := hid hR1
      clear c1 c2 c4 hps hpn hpp hlt hR1 hpc
      cases rq with
      | false =>
        go_enter Tryz.func20, Tryz.ntmps20
        go_wp2_with fail
        clear cv
        rw [← hW0]
        clear hW0
        refine (C0.out _).mono ?_
        rintro e w1 ⟨rfl, rfl⟩
        clear C0
        go_wp2_with fail
        refine (C1.out _).mono ?_
        rintro e w1 ⟨v1, rfl, ho, hb1⟩
        rcases ho.2 with ⟨-, hn0⟩ | ⟨g, cap1, cur, rfl, hbg, hgg, hnc, -, -, htake⟩
        · cases hn0
        have hrd1 := ho.reads
        have q0 : w1.cell? ⟨g, 0, none⟩ = some (strV a) := by
          have := ho.cells (g := g) rfl 0 (strV a) rfl
          exact this
        have hr1 := hr0.below hb1
        have hbb := chain2 hb0 hb0.size hb1
        clear ho hgg htake hr0 hb0 hb1 C1 hbg
        go_wp2_with fail
        refine (C2.out _).mono ?_
        rintro e w2 ⟨hx, hb2⟩
        cases hY : resL a with
        | error k =>
          rw [hY] at hx
          have hx2 : e = .returned (.tuple #[.agg #[strV [], strV [], .int .i64 0, .int .i64 0, .slice none 0 0], .int .i64 (k : Int)]) := hx
          subst hx2
          clear hx
          have hR3 : R = .error k := by
            rw [HR1.out]
            unfold headL
            simp only [Bool.false_eq_true, if_false, hY]
          subst hR3
          have hk0 : k ≠ 0 := by rcases resL_err hY with h | h <;> omega
          have k1 : ((k : Int) == 0) = false := by simp; omega
          have k2 : ((k : Int) != 0) = true := by simp; omega
          have HK := hid hk0
          clear hk0 HR1
          clear hY
          have hbW : Below w2.heap.size w2 (w2.alloc (.cells #[strV [], strV [], .int .i64 0, .int .i64 0, .slice none 0 0] 47)) := below_alloc _ _
          have hr3 := (hr1.below hb2).below hbW
          have hb3 := chain2 (chain2 hbb hbb.size hb2) (chain2 hbb hbb.size hb2).size hbW
          clear hr1 hbb hb2 hbW hrd1 q0
          go_wp2_with (refine wpList_store_row rfl 47 _ _ rfl w.heap.size _ rfl rfl 47 #[.string ⟨#[]⟩, .string ⟨#[]⟩, .int .i64 0, .int .i64 0, .slice none 0 0] hr3 infoHdS rfl (one5 [] [] 0 0 none 0 0) ?_)
          refine bodyPost_ret (results_row3 Tryz.results20 _ _ w.heap.size _ rfl (hr3.setRow _) Tryz.underlying47 rfl infoHdS) rfl ?_
          exact ⟨⟨HK.out, rfl⟩, below_setRow hb3 (Nat.le_refl _) _⟩
        | ok h =>
          rw [hY] at hx
          have hx2 : e = .returned (.tuple #[.agg #[strV h.first, strV h.second, .int .i64 (h.status : Int), .int .i64 (h.minor : Int), .slice none 0 0], .int .i64 0]) := hx
          subst hx2
          clear hx
          have hR3 : R = match fldsL 0 r with | .error e => .error e | .ok f => .ok ({ h with flds := f }, n + 4) := by
            rw [HR1.out]
            unfold headL
            simp only [Bool.false_eq_true, if_false, hY]
            cases fldsL 0 r <;> rfl
          have HR3 := hid hR3
          clear hR3 HR1
          generalize fldsL 0 r = F at C4 HR3
          clear hY
          have hrl2 : h.flds.length = h.flds.length := rfl
          obtain ⟨W, hW⟩ : ∃ W, W = w2.alloc (.cells #[strV h.first, strV h.second, .int .i64 (h.status : Int), .int .i64 (h.minor : Int), .slice none 0 0] 47) := ⟨_, rfl⟩
          have hbW : Below w2.heap.size w2 W := by rw [hW]; exact below_alloc _ _
          have hg : rowIs W w2.heap.size #[strV h.first, strV h.second, .int .i64 (h.status : Int), .int .i64 (h.minor : Int), .slice none 0 0] 47 := by rw [hW]; exact rowIs_new _ _ _
          have hr2 := hr1.below hb2
          have hne : w2.heap.size ≠ w.heap.size := by have := hr2.lt; omega
          have hr3 := hr2.below hbW
          obtain ⟨aol, capl, hsl, hrt⟩ := reads_low1 (P := Tryz.prog) 92 (by kernel_rfl) (fun _ => by kernel_rfl) ((hrd1.below hb2).below hbW) hnc
          have hwg : w.heap.size ≤ w2.heap.size := (chain2 hbb hbb.size hb2).size
          have hb3 := chain2 (chain2 hbb hbb.size hb2) (chain2 hbb hbb.size hb2).size hbW
          have HSL := hid hsl
          have HRT := hid hrt
          clear hr1 hbb hrd1 hb2 hbW hr2 q0 hsl hrt hrl2
          go_wp2_with (refine wpList_slice_low rfl 92 _ _ rfl rfl rfl (by kernel_rfl) (HSL.out _) ?_)
          rw [← hW]
          clear hW HSL
          generalize w2.heap.size = G at *
          refine (C4.out _ _ HRT.out).mono ?_
          rintro e w6 ⟨hfl, hb5⟩
          have hg6 := hg.below hb5
          have hr6 := hr3.below hb5
          have hb6 := chain2 hb3 hb3.size hb5
          have hGB := hg.lt
          have hWB := hr3.lt
          clear hg hr3 hb3 hb5 HRT C4
          cases F with
          | error k =>
            obtain ⟨hk0, rfl⟩ := hfl
            have hR4 : R = .error k := HR3.out
            subst hR4
            have k1 : ((k : Int) == 0) = false := by simp; omega
            have k2 : ((k : Int) != 0) = true := by simp; omega
            have HK := hid hk0
            clear hk0
            go_wp2_with (refine wpList_store_row rfl 47 _ _ rfl w.heap.size _ rfl rfl 47 #[.string ⟨#[]⟩, .string ⟨#[]⟩, .int .i64 0, .int .i64 0, .slice none 0 0] hr6 infoHdS rfl (one5 [] [] 0 0 none 0 0) ?_)
            refine bodyPost_ret (results_row3 Tryz.results20 _ _ w.heap.size _ rfl (hr6.setRow _) Tryz.underlying47 rfl infoHdS) rfl ?_
            exact ⟨⟨HK.out, rfl⟩, below_setRow hb6 (Nat.le_refl _) _⟩
          | ok L =>
            obtain ⟨v', rfl, ho⟩ := hfl
            have hR4 : R = .ok ({ h with flds := L }, n + 4) := HR3.out
            subst hR4
            obtain ⟨aov, capv, rfl⟩ := ownsRow_form ho
            have HO := hid ho
            clear ho
            have hcl := hg6.cell 4
            have hfr := hg6.free 4
            have hg4 := hg6.setCell 4 (.slice aov L.length capv)
            have hr4 := hr6.setCell_block (g' := G) (Ne.symm hne) 4 (.slice aov L.length capv)
            have hb7 := hb6.setCell (p := ⟨G, 4, none⟩) hwg (.slice aov L.length capv)
            have d0 : (w6.setCell ⟨G, 4, none⟩ (.slice aov L.length capv)).cell? ⟨G, 0, none⟩ = some (strV h.first) := hg4.cell 0
            have d1 : (w6.setCell ⟨G, 4, none⟩ (.slice aov L.length capv)).cell? ⟨G, 1, none⟩ = some (strV h.second) := hg4.cell 1
            have d2 : (w6.setCell ⟨G, 4, none⟩ (.slice aov L.length capv)).cell? ⟨G, 2, none⟩ = some (.int .i64 (h.status : Int)) := hg4.cell 2
            have d3 : (w6.setCell ⟨G, 4, none⟩ (.slice aov L.length capv)).cell? ⟨G, 3, none⟩ = some (.int .i64 (h.minor : Int)) := hg4.cell 3
            have d4 : (w6.setCell ⟨G, 4, none⟩ (.slice aov L.length capv)).cell? ⟨G, 4, none⟩ = some (.slice aov L.length capv) := hg4.cell 4
            clear hg6 hr6 hb6 hg4
            go_wp2_with (refine wpList_store_row rfl 47 _ _ rfl w.heap.size _ rfl rfl 47 #[.string ⟨#[]⟩, .string ⟨#[]⟩, .int .i64 0, .int .i64 0, .slice none 0 0] hr4 infoHdS rfl (one5 h.first h.second (h.status : Int) (h.minor : Int) aov L.length capv) ?_)
            refine bodyPost_ret (results_row3 Tryz.results20 _ _ w.heap.size _ rfl (hr4.setRow _) Tryz.underlying47 rfl infoHdS) rfl ?_
            refine ⟨⟨_, rfl, ?_⟩, below_setRow hb7 (Nat.le_refl _) _⟩
            refine (ownsRow_far HO.out fun k hk => ?_).base (by omega)
            rw [_root_.Go.setRow_other _ _ _ _ (by omega), Below.heap_setCell _ ⟨G, 4, none⟩ _ k (by show k ≠ G; omega)]
      | true =>
        have c3 := fun W => refRequest_any a W (by omega)
        have C3 := hid c3
        clear c3
        go_enter Tryz.func20, Tryz.ntmps20
        go_wp2_with fail
        clear cv
        rw [← hW0]
        clear hW0
        refine (C0.out _).mono ?_
        rintro e w1 ⟨rfl, rfl⟩
        clear C0
        go_wp2_with fail
        refine (C1.out _).mono ?_
        rintro e w1 ⟨v1, rfl, ho, hb1⟩
        rcases ho.2 with ⟨-, hn0⟩ | ⟨g, cap1, cur, rfl, hbg, hgg, hnc, -, -, htake⟩
        · cases hn0
        have hrd1 := ho.reads
        have q0 : w1.cell? ⟨g, 0, none⟩ = some (strV a) := by
          have := ho.cells (g := g) rfl 0 (strV a) rfl
          exact this
        have hr1 := hr0.below hb1
        have hbb := chain2 hb0 hb0.size hb1
        clear ho hgg htake hr0 hb0 hb1 C1 hbg
        go_wp2_with fail
        refine (C2.out _).mono ?_
        rintro e w2 ⟨hx, hb2⟩
        have hx2 := hx
        unfold LineRead at hx2
        subst hx2
        clear hx C2
        obtain ⟨Y, hY⟩ : ∃ Y, resL a = Y := ⟨_, rfl⟩
        rw [hY]
        clear hY
        obtain ⟨W, hW⟩ : ∃ W, W = w2.alloc (.cells #[strV (hE Y).first, strV (hE Y).second, .int .i64 ((hE Y).status : Int), .int .i64 ((hE Y).minor : Int), .slice none 0 0] 47) := ⟨_, rfl⟩
        have hbW : Below w2.heap.size w2 W := by rw [hW]; exact below_alloc _ _
        have hg : rowIs W w2.heap.size #[strV (hE Y).first, strV (hE Y).second, .int .i64 ((hE Y).status : Int), .int .i64 ((hE Y).minor : Int), .slice none 0 0] 47 := by rw [hW]; exact rowIs_new _ _ _
        have hr2 := hr1.below hb2
        have hne : w2.heap.size ≠ w.heap.size := by have := hr2.lt; omega
        have hr3 := hr2.below hbW
        have hrd3 := (hrd1.below hb2).below hbW
        have q3 := kept (kept q0 hb2) hbW
        rw [hW] at q3
        have hgne : g ≠ w2.heap.size := by
          have h1 := World.block_lt_of_cell? w1 _ q0
          have h2 := hb2.size
          simp only at h1
          omega
        have hwg : w.heap.size ≤ w2.heap.size := (chain2 hbb hbb.size hb2).size
        have hb3 := chain2 (chain2 hbb hbb.size hb2) (chain2 hbb hbb.size hb2).size hbW
        clear hr1 hbb hrd1 hb2 hbW hr2 q0
        go_wp2_with fail
        rw [← hW]
        clear hW q3
        generalize w2.heap.size = G at *
        refine (C3.out _).mono ?_
        rintro e w5 ⟨hx, hb5⟩
        have hg5 := hg.below hb5
        have hr5 := hr3.below hb5
        have hrd5 := hrd3.below hb5
        have hb6 := chain2 hb3 hb3.size hb5
        have hgG : g ≠ G := hgne
        clear hg hr3 hrd3 hb3 hb5 C3
        cases hX : reqL a with
        | error k =>
          rw [hX] at hx
          have hx2 : e = .returned (.tuple #[.agg #[strV [], strV [], .int .i64 0, .int .i64 0, .slice none 0 0], .int .i64 (k : Int)]) := hx
          subst hx2
          clear hx
          have hR3 : R = .error k := by
            rw [HR1.out]
            unfold headL
            simp only [if_true, hX]
          subst hR3
          have hk0 : k ≠ 0 := by rcases reqL_err hX with h | h <;> omega
          have k1 : ((k : Int) == 0) = false := by simp; omega
          have k2 : ((k : Int) != 0) = true := by simp; omega
          have HK := hid hk0
          clear hk0 HR1
          clear hX
          have hr6 := hr5.setRow_other #[strV [], strV [], .int .i64 0, .int .i64 0, .slice none 0 0] (Ne.symm hne)
          have hb7 := below_setRow hb6 hwg #[strV [], strV [], .int .i64 0, .int .i64 0, .slice none 0 0]
          go_wp2_with (first | (refine wpList_store_row rfl 47 _ _ rfl G _ rfl rfl 47 #[strV (hE Y).first, strV (hE Y).second, .int .i64 ((hE Y).status : Int), .int .i64 ((hE Y).minor : Int), .slice none 0 0] hg5 infoHdS rfl (one5 [] [] 0 0 none 0 0) ?_) | (refine wpList_store_row rfl 47 _ _ rfl w.heap.size _ rfl rfl 47 #[.string ⟨#[]⟩, .string ⟨#[]⟩, .int .i64 0, .int .i64 0, .slice none 0 0] hr6 infoHdS rfl (one5 [] [] 0 0 none 0 0) ?_))
          refine bodyPost_ret (results_row3 Tryz.results20 _ _ w.heap.size _ rfl (hr6.setRow _) Tryz.underlying47 rfl infoHdS) rfl ?_
          exact ⟨⟨HK.out, rfl⟩, below_setRow hb7 (Nat.le_refl _) _⟩
        | ok h =>
          rw [hX] at hx
          have hx2 : e = .returned (.tuple #[.agg #[strV h.first, strV h.second, .int .i64 (h.status : Int), .int .i64 (h.minor : Int), .slice none 0 0], .int .i64 0]) := hx
          subst hx2
          clear hx
          have hR3 : R = match fldsL 0 r with | .error e => .error e | .ok f => .ok ({ h with flds := f }, n + 4) := by
            rw [HR1.out]
            unfold headL
            simp only [if_true, hX]
            cases fldsL 0 r <;> rfl
          have HR3 := hid hR3
          clear hR3 HR1
          generalize fldsL 0 r = F at C4 HR3
          clear hX
          have hr6a := hr5.setRow_other #[strV h.first, strV h.second, .int .i64 (h.status : Int), .int .i64 (h.minor : Int), .slice none 0 0] (Ne.symm hne)
          have hg6a := hg5.setRow #[strV h.first, strV h.second, .int .i64 (h.status : Int), .int .i64 (h.minor : Int), .slice none 0 0]
          have hb7 := below_setRow hb6 hwg #[strV h.first, strV h.second, .int .i64 (h.status : Int), .int .i64 (h.minor : Int), .slice none 0 0]
          have hrd6 := reads_setRow hrd5 hgG #[strV h.first, strV h.second, .int .i64 (h.status : Int), .int .i64 (h.minor : Int), .slice none 0 0]
          obtain ⟨aol, capl, hsl, hrt⟩ := reads_low1 (P := Tryz.prog) 92 (by kernel_rfl) (fun _ => by kernel_rfl) hrd6 hnc
          have HSL := hid hsl
          have HRT := hid hrt
          have HW6 := hid hb6
          clear hrd5 hrd6 hsl hrt hb6 hr5
          go_wp2_with (first | (refine wpList_store_row rfl 47 _ _ rfl G _ rfl rfl 47 #[strV (hE Y).first, strV (hE Y).second, .int .i64 ((hE Y).status : Int), .int .i64 ((hE Y).minor : Int), .slice none 0 0] hg5 infoHdS rfl (one5 h.first h.second (h.status : Int) (h.minor : Int) none 0 0) ?_) | (refine wpList_slice_low rfl 92 _ _ rfl rfl rfl (by kernel_rfl) (HSL.out _) ?_))
          clear HSL HW6 hg5
          refine (C4.out _ _ HRT.out).mono ?_
          rintro e w6 ⟨hfl, hb5⟩
          have hg6 := hg6a.below hb5
          have hr6 := hr6a.below hb5
          have hGB := hg6a.lt
          have hWB := hr6a.lt
          have hb6 := chain2 hb7 hb7.size hb5
          clear hg6a hr6a hb7 hb5 HRT C4
          cases F with
          | error k =>
            obtain ⟨hk0, rfl⟩ := hfl
            have hR4 : R = .error k := HR3.out
            subst hR4
            have k1 : ((k : Int) == 0) = false := by simp; omega
            have k2 : ((k : Int) != 0) = true := by simp; omega
            have HK := hid hk0
            clear hk0
            go_wp2_with (refine wpList_store_row rfl 47 _ _ rfl w.heap.size _ rfl rfl 47 #[.string ⟨#[]⟩, .string ⟨#[]⟩, .int .i64 0, .int .i64 0, .slice none 0 0] hr6 infoHdS rfl (one5 [] [] 0 0 none 0 0) ?_)
            refine bodyPost_ret (results_row3 Tryz.results20 _ _ w.heap.size _ rfl (hr6.setRow _) Tryz.underlying47 rfl infoHdS) rfl ?_
            exact ⟨⟨HK.out, rfl⟩, below_setRow hb6 (Nat.le_refl _) _⟩
          | ok L =>
            obtain ⟨v', rfl, ho⟩ := hfl
            have hR4 : R = .ok ({ h with flds := L }, n + 4) := HR3.out
            subst hR4
            obtain ⟨aov, capv, rfl⟩ := ownsRow_form ho
            have HO := hid ho
            clear ho
            have hcl := hg6.cell 4
            have hfr := hg6.free 4
            have hg4 := hg6.setCell 4 (.slice aov L.length capv)
            have hr4 := hr6.setCell_block (g' := G) (Ne.symm hne) 4 (.slice aov L.length capv)
            have hb7 := hb6.setCell (p := ⟨G, 4, none⟩) hwg (.slice aov L.length capv)
            have d0 : (w6.setCell ⟨G, 4, none⟩ (.slice aov L.length capv)).cell? ⟨G, 0, none⟩ = some (strV h.first) := hg4.cell 0
            have d1 : (w6.setCell ⟨G, 4, none⟩ (.slice aov L.length capv)).cell? ⟨G, 1, none⟩ = some (strV h.second) := hg4.cell 1
            have d2 : (w6.setCell ⟨G, 4, none⟩ (.slice aov L.length capv)).cell? ⟨G, 2, none⟩ = some (.int .i64 (h.status : Int)) := hg4.cell 2
            have d3 : (w6.setCell ⟨G, 4, none⟩ (.slice aov L.length capv)).cell? ⟨G, 3, none⟩ = some (.int .i64 (h.minor : Int)) := hg4.cell 3
            have d4 : (w6.setCell ⟨G, 4, none⟩ (.slice aov L.length capv)).cell? ⟨G, 4, none⟩ = some (.slice aov L.length capv) := hg4.cell 4
            clear hg6 hr6 hb6 hg4
            go_wp2_with (refine wpList_store_row rfl 47 _ _ rfl w.heap.size _ rfl rfl 47 #[.string ⟨#[]⟩, .string ⟨#[]⟩, .int .i64 0, .int .i64 0, .slice none 0 0] hr4 infoHdS rfl (one5 h.first h.second (h.status : Int) (h.minor : Int) aov L.length capv) ?_)
            refine bodyPost_ret (results_row3 Tryz.results20 _ _ w.heap.size _ rfl (hr4.setRow _) Tryz.underlying47 rfl infoHdS) rfl ?_
            refine ⟨⟨_, rfl, ?_⟩, below_setRow hb7 (Nat.le_refl _) _⟩
            refine (ownsRow_far HO.out fun k hk => ?_).base (by omega)
            rw [_root_.Go.setRow_other _ _ _ _ (by omega), Below.heap_setCell _ ⟨G, 4, none⟩ _ k (by show k ≠ G; omega)]
end Go.Proofs.YtefplhkjcclppaaGreatDoor
