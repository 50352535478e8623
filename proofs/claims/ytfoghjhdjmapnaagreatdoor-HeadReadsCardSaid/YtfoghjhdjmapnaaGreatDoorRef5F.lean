/-
  The document's answers of layer 5: a response's first line.
-/
import Derived.Test.YtfoghjhdjmapnaaGreatDoorRef5E
import Derived.Test.YtfoghjhdjmapnaaGreatDoorRefClean
import Derived.Test.YtfoghjhdjmapnaaGreatDoorRefSignN
import Derived.BigQuiet
import Derived.Deep.QuietTactic
namespace Go.Proofs.YtfoghjhdjmapnaaGreatDoor
open Go.RowKit Go.Pantry

set_option maxRecDepth 100000 in
set_option maxHeartbeats 16000000 in
theorem refResponse_any (s : List UInt8) (w : World) (hs : s.length ≤ 100000) :
    Calls Tryz.prog 19 #[strV s] w fun e w' => LineRead (resL s) e ∧ Below w.heap.size w w' := by
  have c0 := fun W => refPieces_any s [32] 2 2 W (by decide) (by omega) (by decide) (.inl ⟨rfl, by decide⟩)
  have hps : ∀ a ∈ piecesL [32] 2 s, a.length ≤ 100000 := fun a ha => Nat.le_trans (pieces_size _ _ _ a ha) hs
  have hd : resL s = match piecesL [32] 2 s with
    | [v, d, r] => if (minorL v).isSome && d.length == 3 && (numberL d).isSome && decide (100 ≤ (numberL d).getD 0) && decide ((numberL d).getD 0 ≤ 599) && r.all okV && trimL r == r then (if 64 < r.length then .error 22 else .ok ⟨r, [], (numberL d).getD 0, (minorL v).getD 0, []⟩) else .error 21
    | _ => .error 21 := rfl
  generalize resL s = x at hd ⊢
  generalize piecesL [32] 2 s = l at c0 hps hd
  have C0 := hid c0
  clear c0
  obtain ⟨W0, hW0⟩ : ∃ W, W = w.alloc (.cells #[.string ⟨#[]⟩, .string ⟨#[]⟩, .int .i64 0, .int .i64 0, .slice none 0 0] 35) := ⟨_, rfl⟩
  have hb0 : Below w.heap.size w W0 := by rw [hW0]; exact below_alloc _ _
  have hr0 : rowIs W0 w.heap.size #[.string ⟨#[]⟩, .string ⟨#[]⟩, .int .i64 0, .int .i64 0, .slice none 0 0] 35 := by rw [hW0]; exact rowIs_new _ _ _
  have hs0 : W0.heap.size = w.heap.size + 1 := by rw [hW0]; simp
  by_cases h3 : l.length = 3
  · obtain ⟨v, d, r, rfl⟩ : ∃ v d r, l = [v, d, r] := by
      match l, h3 with
      | [v, d, r], _ => exact ⟨v, d, r, rfl⟩
    simp only at hd
    have hdl := hps d (by simp)
    have hrl := hps r (by simp)
    clear hps h3
    have c1 := fun W => (refClean_any ⟨r.toArray⟩ W (by rw [szL]; unfold maxLen; omega)).mono (fun _ _ h => (⟨h.1, h.2.symm⟩ : _ ∧ _))
    have c2 := fun W => (refTrim_any ⟨r.toArray⟩ W (by rw [szL]; unfold maxLen; omega)).mono (fun _ _ h => (⟨h.1, h.2.symm⟩ : _ ∧ _))
    have c3 := fun W => refMinor_any v W
    have c4 := fun W => refNumber_any ⟨d.toArray⟩ W (by rw [szL]; omega)
    rw [dtL] at c1 c2 c4
    generalize r.all okV = q1 at c1 hd
    generalize trimL r = T at c2 hd
    generalize numberL d = nd at c4 hd
    have hz := minorI_cases v
    generalize minorI v = z at c3 hz
    have C1 := hid c1
    have C2 := hid c2
    have C3 := hid c3
    have C4 := hid c4
    have HD := hid hd
    have HZ := hid hz
    clear c1 c2 c3 c4 hd hz
    go_enter Tryz.func19, Tryz.ntmps19
    go_wp2_with fail
    rw [← hW0]
    clear hW0
    refine (C0.out _).mono ?_
    rintro e w1 ⟨v1, rfl, ho, hb1⟩
    rcases ho.2 with ⟨-, hn0⟩ | ⟨g, cap, cur, rfl, hbg, hgg, hnc, -, -, htake⟩
    · cases hn0
    have hrow : rowIs w1 g cur 9 := hgg
    obtain ⟨q0, q1', q2'⟩ := take3 htake
    have hr1 := hr0.below hb1
    have hbb := chain2 hb0 hb0.size hb1
    have hne : g ≠ w.heap.size := by omega
    have k0 := (hrow.cell 0).trans q0
    have k1 := (hrow.cell 1).trans q1'
    have k2 := (hrow.cell 2).trans q2'
    have hr1d : ∀ n, rowIs (w1.drewN n) w.heap.size #[.string ⟨#[]⟩, .string ⟨#[]⟩, .int .i64 0, .int .i64 0, .slice none 0 0] 35 := fun n => hr1
    clear ho hgg htake hr0 hb0 hb1 C0 hbg
    rcases HZ.out with ⟨n, hz1, rfl, hn1⟩ | ⟨hz1, rfl⟩
    · have hx := HD.out
      rw [hz1] at hx
      simp only [Option.isSome_some, Bool.true_and, Option.getD_some] at hx
      have HD2 := hid hx
      clear HD HZ hx
      by_cases hd3 : (d.length : Int) = 3
      · have b3 : (d.length == 3) = true := by simp; omega
        have e3 : ((d.length : Int) == 3) = true := by simp; omega
        have e4 : ((d.length : Int) != 3) = false := by simp; omega
        have hx := HD2.out
        rw [b3] at hx
        simp only [Bool.true_and] at hx
        cases nd with
        | none =>
          simp only [Option.isSome_none, Bool.false_and, Bool.false_eq_true, if_false, Option.getD_none] at hx C4
          subst hx
          clear HD2 hd3 b3
          go_wp2_with (first
            | (go_at_call 37; refine (C3.out _).mono ?_; rintro e w' ⟨rfl, rfl⟩)
            | (go_at_call 38; refine (C4.out _).mono ?_; rintro e w' ⟨rfl, rfl⟩))
          go_quiet ((first | (go_at_call 39; with_reducible exact Calls.quiet_of_same (C1.out _)) | (go_at_call 40; with_reducible exact Calls.quiet_of_same (C2.out _))))
          go_wp2_with (refine wpList_store_row rfl 35 _ _ rfl w.heap.size _ rfl rfl 35 #[.string ⟨#[]⟩, .string ⟨#[]⟩, .int .i64 0, .int .i64 0, .slice none 0 0] (hr1d _) infoHdS rfl (one5 [] [] 0 0 none 0 0) ?_)
          refine bodyPost_ret (results_row2 Tryz.results19 _ _ w.heap.size _ rfl ((hr1d _).setRow _) Tryz.underlying35 rfl infoHdS) rfl ?_
          exact ⟨rfl, below_setRow (below_drewN hbb _) (Nat.le_refl _) _⟩
        | some k =>
          simp only [Option.isSome_some, Bool.true_and, Option.getD_some] at hx C4
          have HD3 := hid hx
          clear HD2 hx hd3 b3
          by_cases h100 : (k : Int) < 100
          · have d1 : decide ((k : Int) < 100) = true := decide_eq_true h100
            have hx := HD3.out
            rw [decide_eq_false (show ¬ 100 ≤ k by omega)] at hx
            simp only [Bool.false_and, Bool.false_eq_true, if_false] at hx
            subst hx
            clear HD3
            go_wp2_with (first
              | (go_at_call 37; refine (C3.out _).mono ?_; rintro e w' ⟨rfl, rfl⟩)
              | (go_at_call 38; refine (C4.out _).mono ?_; rintro e w' ⟨rfl, rfl⟩))
            go_quiet ((first | (go_at_call 39; with_reducible exact Calls.quiet_of_same (C1.out _)) | (go_at_call 40; with_reducible exact Calls.quiet_of_same (C2.out _))))
            go_wp2_with (refine wpList_store_row rfl 35 _ _ rfl w.heap.size _ rfl rfl 35 #[.string ⟨#[]⟩, .string ⟨#[]⟩, .int .i64 0, .int .i64 0, .slice none 0 0] (hr1d _) infoHdS rfl (one5 [] [] 0 0 none 0 0) ?_)
            refine bodyPost_ret (results_row2 Tryz.results19 _ _ w.heap.size _ rfl ((hr1d _).setRow _) Tryz.underlying35 rfl infoHdS) rfl ?_
            exact ⟨rfl, below_setRow (below_drewN hbb _) (Nat.le_refl _) _⟩
          · have d1 : decide ((k : Int) < 100) = false := decide_eq_false h100
            by_cases h599 : (599 : Int) < (k : Int)
            · have d2 : decide ((599 : Int) < (k : Int)) = true := decide_eq_true h599
              have hx := HD3.out
              rw [decide_eq_false (show ¬ k ≤ 599 by omega)] at hx
              simp only [Bool.and_false, Bool.false_and, Bool.false_eq_true, if_false] at hx
              subst hx
              clear HD3 h100 h599
              go_wp2_with (first
                | (go_at_call 37; refine (C3.out _).mono ?_; rintro e w' ⟨rfl, rfl⟩)
                | (go_at_call 38; refine (C4.out _).mono ?_; rintro e w' ⟨rfl, rfl⟩))
              go_quiet ((first | (go_at_call 39; with_reducible exact Calls.quiet_of_same (C1.out _)) | (go_at_call 40; with_reducible exact Calls.quiet_of_same (C2.out _))))
              go_wp2_with (refine wpList_store_row rfl 35 _ _ rfl w.heap.size _ rfl rfl 35 #[.string ⟨#[]⟩, .string ⟨#[]⟩, .int .i64 0, .int .i64 0, .slice none 0 0] (hr1d _) infoHdS rfl (one5 [] [] 0 0 none 0 0) ?_)
              refine bodyPost_ret (results_row2 Tryz.results19 _ _ w.heap.size _ rfl ((hr1d _).setRow _) Tryz.underlying35 rfl infoHdS) rfl ?_
              exact ⟨rfl, below_setRow (below_drewN hbb _) (Nat.le_refl _) _⟩
            · have d2 : decide ((599 : Int) < (k : Int)) = false := decide_eq_false h599
              have hx := HD3.out
              rw [decide_eq_true (show 100 ≤ k by omega), decide_eq_true (show k ≤ 599 by omega)] at hx
              simp only [Bool.true_and] at hx
              have HD4 := hid hx
              clear HD3 hx h100 h599
              cases q1 with
              | false =>
                have hx := HD4.out
                simp only [Bool.false_and, Bool.false_eq_true, if_false] at hx
                subst hx
                clear HD4
                go_wp2_with (first
                  | (go_at_call 37; refine (C3.out _).mono ?_; rintro e w' ⟨rfl, rfl⟩)
                  | (go_at_call 38; refine (C4.out _).mono ?_; rintro e w' ⟨rfl, rfl⟩))
                go_quiet ((first | (go_at_call 39; with_reducible exact Calls.quiet_of_same (C1.out _)) | (go_at_call 40; with_reducible exact Calls.quiet_of_same (C2.out _))))
                go_wp2_with (refine wpList_store_row rfl 35 _ _ rfl w.heap.size _ rfl rfl 35 #[.string ⟨#[]⟩, .string ⟨#[]⟩, .int .i64 0, .int .i64 0, .slice none 0 0] (hr1d _) infoHdS rfl (one5 [] [] 0 0 none 0 0) ?_)
                refine bodyPost_ret (results_row2 Tryz.results19 _ _ w.heap.size _ rfl ((hr1d _).setRow _) Tryz.underlying35 rfl infoHdS) rfl ?_
                exact ⟨rfl, below_setRow (below_drewN hbb _) (Nat.le_refl _) _⟩
              | true =>
                have hx := HD4.out
                simp only [Bool.true_and] at hx
                have HD5 := hid hx
                clear HD4 hx
                by_cases hT : T = r
                · have t1 : (T == r) = true := by simpa using hT
                  have t2 : (T != r) = false := by simpa using hT
                  have hx := HD5.out
                  rw [t1, if_pos rfl] at hx
                  have HD6 := hid hx
                  clear HD5 hx hT
                  by_cases h64 : (64 : Int) < (r.length : Int)
                  · have hx := HD6.out
                    rw [if_pos (by omega)] at hx
                    subst hx
                    clear HD6
                    go_wp2_with (first
                      | (go_at_call 37; refine (C3.out _).mono ?_; rintro e w' ⟨rfl, rfl⟩)
                      | (go_at_call 38; refine (C4.out _).mono ?_; rintro e w' ⟨rfl, rfl⟩))
                    go_quiet ((first | (go_at_call 39; with_reducible exact Calls.quiet_of_same (C1.out _)) | (go_at_call 40; with_reducible exact Calls.quiet_of_same (C2.out _))))
                    go_wp2_with (refine wpList_store_row rfl 35 _ _ rfl w.heap.size _ rfl rfl 35 #[.string ⟨#[]⟩, .string ⟨#[]⟩, .int .i64 0, .int .i64 0, .slice none 0 0] (hr1d _) infoHdS rfl (one5 [] [] 0 0 none 0 0) ?_)
                    refine bodyPost_ret (results_row2 Tryz.results19 _ _ w.heap.size _ rfl ((hr1d _).setRow _) Tryz.underlying35 rfl infoHdS) rfl ?_
                    exact ⟨rfl, below_setRow (below_drewN hbb _) (Nat.le_refl _) _⟩
                  · have hx := HD6.out
                    rw [if_neg (by omega)] at hx
                    subst hx
                    have HN := hid hne
                    have HS : ∀ i, HeldS w w.heap.size g cur 9 w.heap.size #[.string ⟨#[]⟩, .string ⟨#[]⟩, .int .i64 0, .int .i64 0, .slice none 0 0] #[strV r, .string ⟨#[]⟩, .int .i64 (k : Int), .int .i64 (n : Int), .slice none 0 0] 35 [false] (w1.drewN i) := fun i => ⟨below_drewN hbb i, hbb.size, hrow, hr1⟩
                    clear HD6 hne hbb hrow hr1
                    go_wp2_with (first
                      | (go_at_call 37; refine (C3.out _).mono ?_; rintro e w' ⟨rfl, rfl⟩)
                      | (go_at_call 38; refine (C4.out _).mono ?_; rintro e w' ⟨rfl, rfl⟩))
                    go_quiet ((first | (go_at_call 39; with_reducible exact Calls.quiet_of_same (C1.out _)) | (go_at_call 40; with_reducible exact Calls.quiet_of_same (C2.out _))))
                    go_wp2_with fail
                    refine wp_region_U [9] (by kernel_rfl) (HeldS w w.heap.size g cur 9 w.heap.size #[.string ⟨#[]⟩, .string ⟨#[]⟩, .int .i64 0, .int .i64 0, .slice none 0 0] #[strV r, .string ⟨#[]⟩, .int .i64 (k : Int), .int .i64 (n : Int), .slice none 0 0] 35) (b := [false]) (by kernel_rfl) (HS _).drew ?_
                    refine wpAnyU_take (i := 0) (v := ?_) (by decide) rfl (by kernel_rfl) (by kernel_rfl) (by kernel_rfl) (fun _ _ _ h => h) (Steady.plain (by kernel_rfl) ?_) ?_
                    rotate_left
                    · intro b W hS
                      have h0 := (hS.2.2.1.cell 0).trans q0
                      have h2 := (hS.2.2.1.cell 2).trans q2'
                      go_simp
                      first | done | with_reducible rfl
                    simp only [Act.put, List.getElem_toArray, List.getElem_cons_succ, List.getElem_cons_zero, List.setIfInBounds_toArray, List.set_cons_zero, List.set_cons_succ]
                    refine wpAnyU_take (i := 1) (v := ?_) (by decide) rfl (by kernel_rfl) (by kernel_rfl) (by kernel_rfl) (fun _ _ _ h => h) (Steady.plain (by kernel_rfl) ?_) ?_
                    rotate_left
                    · intro b W hS
                      have h0 := (hS.2.2.1.cell 0).trans q0
                      have h2 := (hS.2.2.1.cell 2).trans q2'
                      go_simp
                      first | done | with_reducible rfl
                    simp only [Act.put, List.getElem_toArray, List.getElem_cons_succ, List.getElem_cons_zero, List.setIfInBounds_toArray, List.set_cons_zero, List.set_cons_succ]
                    refine wpAnyU_take (i := 2) (v := ?_) (by decide) rfl (by kernel_rfl) (by kernel_rfl) (by kernel_rfl) (fun _ _ _ h => h) (Steady.plain (by kernel_rfl) ?_) ?_
                    rotate_left
                    · intro b W hS
                      have h0 := (hS.2.2.1.cell 0).trans q0
                      have h2 := (hS.2.2.1.cell 2).trans q2'
                      go_simp
                      first | done | with_reducible rfl
                    simp only [Act.put, List.getElem_toArray, List.getElem_cons_succ, List.getElem_cons_zero, List.setIfInBounds_toArray, List.set_cons_zero, List.set_cons_succ]
                    refine wpAnyU_take (i := 3) (v := ?_) (by decide) rfl (by kernel_rfl) (by kernel_rfl) (by kernel_rfl) (fun _ _ _ h => h) (Steady.plain (by kernel_rfl) ?_) ?_
                    rotate_left
                    · intro b W hS
                      have h0 := (hS.2.2.1.cell 0).trans q0
                      have h2 := (hS.2.2.1.cell 2).trans q2'
                      go_simp
                      first | done | with_reducible rfl
                    simp only [Act.put, List.getElem_toArray, List.getElem_cons_succ, List.getElem_cons_zero, List.setIfInBounds_toArray, List.set_cons_zero, List.set_cons_succ]
                    refine wpAnyU_take (i := 4) (v := ?_) (by decide) rfl (by kernel_rfl) (by kernel_rfl) (by kernel_rfl) (fun _ _ _ h => h) (Steady.plain (by kernel_rfl) ?_) ?_
                    rotate_left
                    · intro b W hS
                      have h0 := (hS.2.2.1.cell 0).trans q0
                      have h2 := (hS.2.2.1.cell 2).trans q2'
                      go_simp
                      first | done | with_reducible rfl
                    simp only [Act.put, List.getElem_toArray, List.getElem_cons_succ, List.getElem_cons_zero, List.setIfInBounds_toArray, List.set_cons_zero, List.set_cons_succ]
                    refine wpAnyU_take (i := 5) (v := ?_) (by decide) rfl (by kernel_rfl) (by kernel_rfl) (by kernel_rfl) (fun _ _ _ h => h) (Steady.plain (by kernel_rfl) ?_) ?_
                    rotate_left
                    · intro b W hS
                      have h0 := (hS.2.2.1.cell 0).trans q0
                      have h2 := (hS.2.2.1.cell 2).trans q2'
                      go_simp
                      first | done | with_reducible rfl
                    simp only [Act.put, List.getElem_toArray, List.getElem_cons_succ, List.getElem_cons_zero, List.setIfInBounds_toArray, List.set_cons_zero, List.set_cons_succ]
                    refine wpAnyU_take (i := 6) (v := ?_) (by decide) rfl (by kernel_rfl) (by kernel_rfl) (by kernel_rfl) (fun _ _ _ h => h) (Steady.plain (by kernel_rfl) ?_) ?_
                    rotate_left
                    · intro b W hS
                      have h0 := (hS.2.2.1.cell 0).trans q0
                      have h2 := (hS.2.2.1.cell 2).trans q2'
                      go_simp
                      first | done | with_reducible rfl
                    simp only [Act.put, List.getElem_toArray, List.getElem_cons_succ, List.getElem_cons_zero, List.setIfInBounds_toArray, List.set_cons_zero, List.set_cons_succ]
                    refine wpAnyU_take (i := 7) (v := .int .i64 (n : Int)) (by decide) rfl (by kernel_rfl) (by kernel_rfl) (by kernel_rfl) (fun _ _ _ h => h) (Steady.call (f := 37) (args := #[strV v]) (by kernel_rfl) (fun _ => by kernel_rfl) ?_) ?_
                    · intro b W hS
                      refine (C3.out W).mono ?_
                      rintro e w' ⟨he, rfl⟩
                      exact ⟨he, hS⟩
                    simp only [Act.put, List.getElem_toArray, List.getElem_cons_succ, List.getElem_cons_zero, List.setIfInBounds_toArray, List.set_cons_zero, List.set_cons_succ]
                    refine wpAnyU_take (i := 8) (v := ?_) (by decide) rfl (by kernel_rfl) (by kernel_rfl) (by kernel_rfl) (fun _ _ _ h => h) (Steady.plain (by kernel_rfl) ?_) ?_
                    rotate_left
                    · intro b W hS
                      have h0 := (hS.2.2.1.cell 0).trans q0
                      have h2 := (hS.2.2.1.cell 2).trans q2'
                      go_simp
                      first | done | with_reducible rfl
                    simp only [Act.put, List.getElem_toArray, List.getElem_cons_succ, List.getElem_cons_zero, List.setIfInBounds_toArray, List.set_cons_zero, List.set_cons_succ]
                    refine wpAnyU_turn (i := 9) (v := undef) (b := [false]) (b' := [true]) rfl (by kernel_rfl) (by kernel_rfl) (by kernel_rfl) (by kernel_rfl) (turn_store (ty := 35) (x := .tmp 2) (y := .tmp 76) (by kernel_rfl) w.heap.size #[strV r, .string ⟨#[]⟩, .int .i64 (k : Int), .int .i64 (n : Int), .slice none 0 0] (by kernel_rfl) (by kernel_rfl) infoHdS (one5 r [] k n none 0 0) (fun W hS => ⟨_, _, hS.2.2.2, rfl, hS.stored (Nat.le_refl _) HN.out⟩)) ?_
                    simp only [Act.put, List.getElem_toArray, List.getElem_cons_succ, List.getElem_cons_zero, List.setIfInBounds_toArray, List.set_cons_zero, List.set_cons_succ]
                    refine wpAnyU_take (i := 10) (v := ?_) (by decide) rfl (by kernel_rfl) (by kernel_rfl) (by kernel_rfl) (fun _ _ _ h => h) (Steady.plain (by kernel_rfl) ?_) ?_
                    rotate_left
                    · intro b W hS
                      have h0 := (hS.2.2.1.cell 0).trans q0
                      have h2 := (hS.2.2.1.cell 2).trans q2'
                      go_simp
                      first | done | with_reducible rfl
                    simp only [Act.put, List.getElem_toArray, List.getElem_cons_succ, List.getElem_cons_zero, List.setIfInBounds_toArray, List.set_cons_zero, List.set_cons_succ]
                    refine wpAnyU_done (b := [true]) (by kernel_rfl) (by kernel_rfl) ?_ _
                    intro w' hS
                    go_wp2_with fail
                    refine bodyPost_ret (results_row2 Tryz.results19 _ _ w.heap.size _ rfl hS.2.2.2 Tryz.underlying35 rfl infoHdS) rfl ?_
                    exact ⟨rfl, hS.1⟩
                · have t1 : (T == r) = false := by simpa using hT
                  have t2 : (T != r) = true := by simpa using hT
                  have hx := HD5.out
                  rw [t1, if_neg (by simp)] at hx
                  subst hx
                  clear HD5 hT
                  go_wp2_with (first
                    | (go_at_call 37; refine (C3.out _).mono ?_; rintro e w' ⟨rfl, rfl⟩)
                    | (go_at_call 38; refine (C4.out _).mono ?_; rintro e w' ⟨rfl, rfl⟩))
                  go_quiet ((first | (go_at_call 39; with_reducible exact Calls.quiet_of_same (C1.out _)) | (go_at_call 40; with_reducible exact Calls.quiet_of_same (C2.out _))))
                  go_wp2_with (refine wpList_store_row rfl 35 _ _ rfl w.heap.size _ rfl rfl 35 #[.string ⟨#[]⟩, .string ⟨#[]⟩, .int .i64 0, .int .i64 0, .slice none 0 0] (hr1d _) infoHdS rfl (one5 [] [] 0 0 none 0 0) ?_)
                  refine bodyPost_ret (results_row2 Tryz.results19 _ _ w.heap.size _ rfl ((hr1d _).setRow _) Tryz.underlying35 rfl infoHdS) rfl ?_
                  exact ⟨rfl, below_setRow (below_drewN hbb _) (Nat.le_refl _) _⟩
      · have b3 : (d.length == 3) = false := by simp; omega
        have e3 : ((d.length : Int) == 3) = false := by simp; omega
        have e4 : ((d.length : Int) != 3) = true := by simp; omega
        have hx := HD2.out
        rw [b3] at hx
        simp only [Bool.false_and, Bool.false_eq_true, if_false] at hx
        subst hx
        clear HD2 hd3 b3
        go_wp2_with (first
          | (go_at_call 37; refine (C3.out _).mono ?_; rintro e w' ⟨rfl, rfl⟩)
          | (go_at_call 38; refine (C4.out _).mono ?_; rintro e w' ⟨rfl, rfl⟩)
          | (refine wpList_store_row rfl 35 _ _ rfl w.heap.size _ rfl rfl 35 #[.string ⟨#[]⟩, .string ⟨#[]⟩, .int .i64 0, .int .i64 0, .slice none 0 0] hr1 infoHdS rfl (one5 [] [] 0 0 none 0 0) ?_))
        refine bodyPost_ret (results_row2 Tryz.results19 _ _ w.heap.size _ rfl (hr1.setRow _) Tryz.underlying35 rfl infoHdS) rfl ?_
        exact ⟨rfl, below_setRow hbb (Nat.le_refl _) _⟩
    · have hx := HD.out
      rw [hz1] at hx
      simp only [Option.isSome_none, Bool.false_and, Bool.false_eq_true, if_false] at hx
      subst hx
      clear HD HZ
      go_wp2_with (first
        | (go_at_call 37; refine (C3.out _).mono ?_; rintro e w' ⟨rfl, rfl⟩)
        | (go_at_call 38; refine (C4.out _).mono ?_; rintro e w' ⟨rfl, rfl⟩)
        | (refine wpList_store_row rfl 35 _ _ rfl w.heap.size _ rfl rfl 35 #[.string ⟨#[]⟩, .string ⟨#[]⟩, .int .i64 0, .int .i64 0, .slice none 0 0] hr1 infoHdS rfl (one5 [] [] 0 0 none 0 0) ?_))
      refine bodyPost_ret (results_row2 Tryz.results19 _ _ w.heap.size _ rfl (hr1.setRow _) Tryz.underlying35 rfl infoHdS) rfl ?_
      exact ⟨rfl, below_setRow hbb (Nat.le_refl _) _⟩
  · have hx : x = .error 21 := by
      rw [hd]
      match l, h3 with
      | [], _ => rfl
      | [_], _ => rfl
      | [_, _], _ => rfl
      | [_, _, _], h => exact absurd rfl h
      | _ :: _ :: _ :: _ :: _, _ => rfl
    subst hx
    have e3 : ((l.length : Int) == 3) = false := by simp; omega
    have e4 : ((l.length : Int) != 3) = true := by simp; omega
    clear hd hps h3
    go_enter Tryz.func19, Tryz.ntmps19
    go_wp2_with fail
    rw [← hW0]
    clear hW0
    refine (C0.out _).mono ?_
    rintro e w1 ⟨v1, rfl, ho, hb1⟩
    obtain ⟨ao1, cap1, rfl⟩ := Reads.strs ho.reads
    have hr1 := hr0.below hb1
    have hbb := chain2 hb0 hb0.size hb1
    clear ho hr0 hb0 hb1 C0
    go_wp2_with (refine wpList_store_row rfl 35 _ _ rfl w.heap.size _ rfl rfl 35 #[.string ⟨#[]⟩, .string ⟨#[]⟩, .int .i64 0, .int .i64 0, .slice none 0 0] hr1 infoHdS rfl (one5 [] [] 0 0 none 0 0) ?_)
    refine bodyPost_ret (results_row2 Tryz.results19 _ _ w.heap.size _ rfl (hr1.setRow _) Tryz.underlying35 rfl infoHdS) rfl ?_
    exact ⟨rfl, below_setRow hbb (Nat.le_refl _) _⟩
end Go.Proofs.YtfoghjhdjmapnaaGreatDoor
