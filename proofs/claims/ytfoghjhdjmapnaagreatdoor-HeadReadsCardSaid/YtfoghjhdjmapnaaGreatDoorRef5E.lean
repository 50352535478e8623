/-
  The document's answers of layer 5: a request's first line.
-/
import Derived.Test.YtfoghjhdjmapnaaGreatDoorRef5D
import Derived.Test.YtfoghjhdjmapnaaGreatDoorRef5Seen
import Derived.Test.YtfoghjhdjmapnaaGreatDoorMade5
import Derived.Test.YtfoghjhdjmapnaaGreatDoorHeadX
import Derived.Test.YtfoghjhdjmapnaaGreatDoorRefSignA
import Derived.Test.YtfoghjhdjmapnaaGreatDoorDrawn
namespace Go.Proofs.YtfoghjhdjmapnaaGreatDoor
open Go.RowKit Go.Pantry

/-- a head's parts, or nothing; the error's number -/
def hE (x : Except Nat Hd) : Hd := match x with | .error _ => hd0 | .ok h => h
def cE (x : Except Nat Hd) : Int := match x with | .error k => (k : Int) | .ok _ => 0
/-- what the reading of a first line tells -/
def LineRead (x : Except Nat Hd) (e : Ending) : Prop := e = .returned (.tuple #[.agg #[strV (hE x).first, strV (hE x).second, .int .i64 ((hE x).status : Int), .int .i64 ((hE x).minor : Int), .slice none 0 0], .int .i64 (cE x)])
theorem take3 {cur : Array Value} {a b c : Value} (h : cur.toList.take 3 = [a, b, c]) : cur[0]? = some a ∧ cur[1]? = some b ∧ cur[2]? = some c := by
  have e : ∀ j, j < 3 → cur[j]? = ([a, b, c] : List Value)[j]? := fun j hj => by
    rw [← h, List.getElem?_take, if_pos hj, Array.getElem?_toList]
  exact ⟨e 0 (by decide), e 1 (by decide), e 2 (by decide)⟩
theorem minorI_cases (v : List UInt8) : (∃ n : Nat, minorL v = some n ∧ minorI v = (n : Int) ∧ n ≤ 1) ∨ (minorL v = none ∧ minorI v = -1) := by
  unfold minorI
  cases h : minorL v with
  | none => exact .inr ⟨rfl, rfl⟩
  | some n => exact .inl ⟨n, rfl, rfl, minorL_le h⟩
set_option maxRecDepth 100000 in
set_option maxHeartbeats 8000000 in
theorem refRequest_any (s : List UInt8) (w : World) (hs : s.length ≤ 100000) :
    Calls Tryz.prog 20 #[strV s] w fun e w' => LineRead (reqL s) e ∧ Below w.heap.size w w' := by
  have c0 := fun W => refPieces_any s [32] (-1) s.length W (by decide) (by omega) (by decide) (.inr ⟨rfl, rfl⟩)
  have hps : ∀ a ∈ piecesL [32] s.length s, a.length ≤ 100000 := fun a ha => Nat.le_trans (pieces_size _ _ _ a ha) hs
  have hd : reqL s = match piecesL [32] s.length s with
    | [m, t, v] => if tokenL m && seenL t && (minorL v).isSome then (if 16 < m.length ∨ 1024 < t.length then .error 22 else .ok ⟨m, t, 0, (minorL v).getD 0, []⟩) else .error 21
    | _ => .error 21 := rfl
  generalize reqL s = x at hd ⊢
  generalize piecesL [32] s.length s = l at c0 hps hd
  have C0 := hid c0
  clear c0
  obtain ⟨W0, hW0⟩ : ∃ W, W = w.alloc (.cells #[.string ⟨#[]⟩, .string ⟨#[]⟩, .int .i64 0, .int .i64 0, .slice none 0 0] 35) := ⟨_, rfl⟩
  have hb0 : Below w.heap.size w W0 := by rw [hW0]; exact below_alloc _ _
  have hr0 : rowIs W0 w.heap.size #[.string ⟨#[]⟩, .string ⟨#[]⟩, .int .i64 0, .int .i64 0, .slice none 0 0] 35 := by rw [hW0]; exact rowIs_new _ _ _
  have hs0 : W0.heap.size = w.heap.size + 1 := by rw [hW0]; simp
  by_cases h3 : l.length = 3
  · obtain ⟨m, t, v, rfl⟩ : ∃ m t v, l = [m, t, v] := by
      match l, h3 with
      | [m, t, v], _ => exact ⟨m, t, v, rfl⟩
    simp only at hd
    have hml := hps m (by simp)
    have htl := hps t (by simp)
    clear hps h3
    have c1 := fun W => refToken_any ⟨m.toArray⟩ W (by rw [szL]; unfold maxLen; omega)
    have c2 := fun W => refSeen_any ⟨t.toArray⟩ W (by rw [szL]; unfold maxLen; omega)
    have c3 := fun W => refMinor_any v W
    rw [dtL] at c1 c2
    generalize tokenL m = q1 at c1 hd
    generalize seenL t = q2 at c2 hd
    have hz := minorI_cases v
    generalize minorI v = z at c3 hz
    have C1 := hid c1
    have C2 := hid c2
    have C3 := hid c3
    have HD := hid hd
    have HZ := hid hz
    clear c1 c2 c3 hd hz
    go_enter Tryz.func20, Tryz.ntmps20
    go_wp2_with fail
    rw [← hW0]
    clear hW0
    refine (C0.out _).mono ?_
    rintro e w1 ⟨v1, rfl, ho, hb1⟩
    rcases ho.2 with ⟨-, hn0⟩ | ⟨g, cap, cur, rfl, hbg, hgg, hnc, -, -, htake⟩
    · cases hn0
    have hrow : rowIs w1 g cur 9 := hgg
    obtain ⟨q0, q1', q2'⟩ := take3 htake
    have hr1 := hr0.below hb1
    have hbb := chain2 hb0 hb0.size hb1
    have hne : g ≠ w.heap.size := by omega
    have k0 := (hrow.cell 0).trans q0
    have k1 := (hrow.cell 1).trans q1'
    have k2 := (hrow.cell 2).trans q2'
    clear ho hgg htake hr0 hb0 hb1 C0 hbg
    cases q1 with
    | false =>
      have hx : x = .error 21 := HD.out
      subst hx
      clear HD
      go_wp2_with (first
        | (go_at_call 41; refine (C1.out _).mono ?_; rintro e w' ⟨rfl, rfl⟩)
        | (go_at_call 42; refine (C2.out _).mono ?_; rintro e w' ⟨rfl, rfl⟩)
        | (go_at_call 37; refine (C3.out _).mono ?_; rintro e w' ⟨rfl, rfl⟩)
        | (refine wpList_store_row rfl 35 _ _ rfl w.heap.size _ rfl rfl 35 #[.string ⟨#[]⟩, .string ⟨#[]⟩, .int .i64 0, .int .i64 0, .slice none 0 0] hr1 infoHdS rfl (one5 [] [] 0 0 none 0 0) ?_))
      refine bodyPost_ret (results_row2 Tryz.results20 _ _ w.heap.size _ rfl (hr1.setRow _) Tryz.underlying35 rfl infoHdS) rfl ?_
      exact ⟨rfl, below_setRow hbb (Nat.le_refl _) _⟩
    | true =>
      cases q2 with
      | false =>
        have hx : x = .error 21 := HD.out
        subst hx
        clear HD
        go_wp2_with (first
          | (go_at_call 41; refine (C1.out _).mono ?_; rintro e w' ⟨rfl, rfl⟩)
          | (go_at_call 42; refine (C2.out _).mono ?_; rintro e w' ⟨rfl, rfl⟩)
          | (go_at_call 37; refine (C3.out _).mono ?_; rintro e w' ⟨rfl, rfl⟩)
          | (refine wpList_store_row rfl 35 _ _ rfl w.heap.size _ rfl rfl 35 #[.string ⟨#[]⟩, .string ⟨#[]⟩, .int .i64 0, .int .i64 0, .slice none 0 0] hr1 infoHdS rfl (one5 [] [] 0 0 none 0 0) ?_))
        refine bodyPost_ret (results_row2 Tryz.results20 _ _ w.heap.size _ rfl (hr1.setRow _) Tryz.underlying35 rfl infoHdS) rfl ?_
        exact ⟨rfl, below_setRow hbb (Nat.le_refl _) _⟩
      | true =>
        rcases HZ.out with ⟨n, hz1, rfl, hn1⟩ | ⟨hz1, rfl⟩
        · have hx := HD.out
          rw [hz1] at hx
          simp only [Option.isSome_some, Bool.and_self, if_true, Option.getD_some] at hx
          by_cases h16 : (16 : Int) < (m.length : Int)
          · rw [if_pos (.inl (by omega))] at hx
            subst hx
            clear HD HZ
            go_wp2_with (first
              | (go_at_call 41; refine (C1.out _).mono ?_; rintro e w' ⟨rfl, rfl⟩)
              | (go_at_call 42; refine (C2.out _).mono ?_; rintro e w' ⟨rfl, rfl⟩)
              | (go_at_call 37; refine (C3.out _).mono ?_; rintro e w' ⟨rfl, rfl⟩)
              | (refine wpList_store_row rfl 35 _ _ rfl w.heap.size _ rfl rfl 35 #[.string ⟨#[]⟩, .string ⟨#[]⟩, .int .i64 0, .int .i64 0, .slice none 0 0] hr1 infoHdS rfl (one5 [] [] 0 0 none 0 0) ?_))
            refine bodyPost_ret (results_row2 Tryz.results20 _ _ w.heap.size _ rfl (hr1.setRow _) Tryz.underlying35 rfl infoHdS) rfl ?_
            exact ⟨rfl, below_setRow hbb (Nat.le_refl _) _⟩
          · by_cases h1024 : (1024 : Int) < (t.length : Int)
            · rw [if_pos (.inr (by omega))] at hx
              subst hx
              clear HD HZ
              go_wp2_with (first
                | (go_at_call 41; refine (C1.out _).mono ?_; rintro e w' ⟨rfl, rfl⟩)
                | (go_at_call 42; refine (C2.out _).mono ?_; rintro e w' ⟨rfl, rfl⟩)
                | (go_at_call 37; refine (C3.out _).mono ?_; rintro e w' ⟨rfl, rfl⟩)
                | (refine wpList_store_row rfl 35 _ _ rfl w.heap.size _ rfl rfl 35 #[.string ⟨#[]⟩, .string ⟨#[]⟩, .int .i64 0, .int .i64 0, .slice none 0 0] hr1 infoHdS rfl (one5 [] [] 0 0 none 0 0) ?_))
              refine bodyPost_ret (results_row2 Tryz.results20 _ _ w.heap.size _ rfl (hr1.setRow _) Tryz.underlying35 rfl infoHdS) rfl ?_
              exact ⟨rfl, below_setRow hbb (Nat.le_refl _) _⟩
            · rw [if_neg (by omega)] at hx
              subst hx
              have HN := hid hne
              have HS : HeldS w w.heap.size g cur 9 w.heap.size #[.string ⟨#[]⟩, .string ⟨#[]⟩, .int .i64 0, .int .i64 0, .slice none 0 0] #[strV m, strV t, .int .i64 0, .int .i64 (n : Int), .slice none 0 0] 35 [false] w1 := ⟨hbb, hbb.size, hrow, hr1⟩
              clear HD HZ hne hbb hrow hr1
              go_wp2_with (first
                | (go_at_call 41; refine (C1.out _).mono ?_; rintro e w' ⟨rfl, rfl⟩)
                | (go_at_call 42; refine (C2.out _).mono ?_; rintro e w' ⟨rfl, rfl⟩)
                | (go_at_call 37; refine (C3.out _).mono ?_; rintro e w' ⟨rfl, rfl⟩))
              refine wp_region_U [11] (by kernel_rfl) (HeldS w w.heap.size g cur 9 w.heap.size #[.string ⟨#[]⟩, .string ⟨#[]⟩, .int .i64 0, .int .i64 0, .slice none 0 0] #[strV m, strV t, .int .i64 0, .int .i64 (n : Int), .slice none 0 0] 35) (b := [false]) (by kernel_rfl) HS.drew ?_
              refine wpAnyU_take (i := 0) (v := ?_) (by decide) rfl (by kernel_rfl) (by kernel_rfl) (by kernel_rfl) (fun _ _ _ h => h) (Steady.plain (by kernel_rfl) ?_) ?_
              rotate_left
              · intro b W hS
                have h0 := (hS.2.2.1.cell 0).trans q0
                have h1 := (hS.2.2.1.cell 1).trans q1'
                have h2 := (hS.2.2.1.cell 2).trans q2'
                go_simp
                first | done | with_reducible rfl
              simp only [Act.put, List.getElem_toArray, List.getElem_cons_succ, List.getElem_cons_zero, List.setIfInBounds_toArray, List.set_cons_zero, List.set_cons_succ]
              refine wpAnyU_take (i := 1) (v := ?_) (by decide) rfl (by kernel_rfl) (by kernel_rfl) (by kernel_rfl) (fun _ _ _ h => h) (Steady.plain (by kernel_rfl) ?_) ?_
              rotate_left
              · intro b W hS
                have h0 := (hS.2.2.1.cell 0).trans q0
                have h1 := (hS.2.2.1.cell 1).trans q1'
                have h2 := (hS.2.2.1.cell 2).trans q2'
                go_simp
                first | done | with_reducible rfl
              simp only [Act.put, List.getElem_toArray, List.getElem_cons_succ, List.getElem_cons_zero, List.setIfInBounds_toArray, List.set_cons_zero, List.set_cons_succ]
              refine wpAnyU_take (i := 2) (v := ?_) (by decide) rfl (by kernel_rfl) (by kernel_rfl) (by kernel_rfl) (fun _ _ _ h => h) (Steady.plain (by kernel_rfl) ?_) ?_
              rotate_left
              · intro b W hS
                have h0 := (hS.2.2.1.cell 0).trans q0
                have h1 := (hS.2.2.1.cell 1).trans q1'
                have h2 := (hS.2.2.1.cell 2).trans q2'
                go_simp
                first | done | with_reducible rfl
              simp only [Act.put, List.getElem_toArray, List.getElem_cons_succ, List.getElem_cons_zero, List.setIfInBounds_toArray, List.set_cons_zero, List.set_cons_succ]
              refine wpAnyU_take (i := 3) (v := ?_) (by decide) rfl (by kernel_rfl) (by kernel_rfl) (by kernel_rfl) (fun _ _ _ h => h) (Steady.plain (by kernel_rfl) ?_) ?_
              rotate_left
              · intro b W hS
                have h0 := (hS.2.2.1.cell 0).trans q0
                have h1 := (hS.2.2.1.cell 1).trans q1'
                have h2 := (hS.2.2.1.cell 2).trans q2'
                go_simp
                first | done | with_reducible rfl
              simp only [Act.put, List.getElem_toArray, List.getElem_cons_succ, List.getElem_cons_zero, List.setIfInBounds_toArray, List.set_cons_zero, List.set_cons_succ]
              refine wpAnyU_take (i := 4) (v := ?_) (by decide) rfl (by kernel_rfl) (by kernel_rfl) (by kernel_rfl) (fun _ _ _ h => h) (Steady.plain (by kernel_rfl) ?_) ?_
              rotate_left
              · intro b W hS
                have h0 := (hS.2.2.1.cell 0).trans q0
                have h1 := (hS.2.2.1.cell 1).trans q1'
                have h2 := (hS.2.2.1.cell 2).trans q2'
                go_simp
                first | done | with_reducible rfl
              simp only [Act.put, List.getElem_toArray, List.getElem_cons_succ, List.getElem_cons_zero, List.setIfInBounds_toArray, List.set_cons_zero, List.set_cons_succ]
              refine wpAnyU_take (i := 5) (v := ?_) (by decide) rfl (by kernel_rfl) (by kernel_rfl) (by kernel_rfl) (fun _ _ _ h => h) (Steady.plain (by kernel_rfl) ?_) ?_
              rotate_left
              · intro b W hS
                have h0 := (hS.2.2.1.cell 0).trans q0
                have h1 := (hS.2.2.1.cell 1).trans q1'
                have h2 := (hS.2.2.1.cell 2).trans q2'
                go_simp
                first | done | with_reducible rfl
              simp only [Act.put, List.getElem_toArray, List.getElem_cons_succ, List.getElem_cons_zero, List.setIfInBounds_toArray, List.set_cons_zero, List.set_cons_succ]
              refine wpAnyU_take (i := 6) (v := ?_) (by decide) rfl (by kernel_rfl) (by kernel_rfl) (by kernel_rfl) (fun _ _ _ h => h) (Steady.plain (by kernel_rfl) ?_) ?_
              rotate_left
              · intro b W hS
                have h0 := (hS.2.2.1.cell 0).trans q0
                have h1 := (hS.2.2.1.cell 1).trans q1'
                have h2 := (hS.2.2.1.cell 2).trans q2'
                go_simp
                first | done | with_reducible rfl
              simp only [Act.put, List.getElem_toArray, List.getElem_cons_succ, List.getElem_cons_zero, List.setIfInBounds_toArray, List.set_cons_zero, List.set_cons_succ]
              refine wpAnyU_take (i := 7) (v := ?_) (by decide) rfl (by kernel_rfl) (by kernel_rfl) (by kernel_rfl) (fun _ _ _ h => h) (Steady.plain (by kernel_rfl) ?_) ?_
              rotate_left
              · intro b W hS
                have h0 := (hS.2.2.1.cell 0).trans q0
                have h1 := (hS.2.2.1.cell 1).trans q1'
                have h2 := (hS.2.2.1.cell 2).trans q2'
                go_simp
                first | done | with_reducible rfl
              simp only [Act.put, List.getElem_toArray, List.getElem_cons_succ, List.getElem_cons_zero, List.setIfInBounds_toArray, List.set_cons_zero, List.set_cons_succ]
              refine wpAnyU_take (i := 8) (v := ?_) (by decide) rfl (by kernel_rfl) (by kernel_rfl) (by kernel_rfl) (fun _ _ _ h => h) (Steady.plain (by kernel_rfl) ?_) ?_
              rotate_left
              · intro b W hS
                have h0 := (hS.2.2.1.cell 0).trans q0
                have h1 := (hS.2.2.1.cell 1).trans q1'
                have h2 := (hS.2.2.1.cell 2).trans q2'
                go_simp
                first | done | with_reducible rfl
              simp only [Act.put, List.getElem_toArray, List.getElem_cons_succ, List.getElem_cons_zero, List.setIfInBounds_toArray, List.set_cons_zero, List.set_cons_succ]
              refine wpAnyU_take (i := 9) (v := .int .i64 (n : Int)) (by decide) rfl (by kernel_rfl) (by kernel_rfl) (by kernel_rfl) (fun _ _ _ h => h) (Steady.call (f := 37) (args := #[strV v]) (by kernel_rfl) (fun _ => by kernel_rfl) ?_) ?_
              · intro b W hS
                refine (C3.out W).mono ?_
                rintro e w' ⟨he, rfl⟩
                exact ⟨he, hS⟩
              simp only [Act.put, List.getElem_toArray, List.getElem_cons_succ, List.getElem_cons_zero, List.setIfInBounds_toArray, List.set_cons_zero, List.set_cons_succ]
              refine wpAnyU_take (i := 10) (v := ?_) (by decide) rfl (by kernel_rfl) (by kernel_rfl) (by kernel_rfl) (fun _ _ _ h => h) (Steady.plain (by kernel_rfl) ?_) ?_
              rotate_left
              · intro b W hS
                have h0 := (hS.2.2.1.cell 0).trans q0
                have h1 := (hS.2.2.1.cell 1).trans q1'
                have h2 := (hS.2.2.1.cell 2).trans q2'
                go_simp
                first | done | with_reducible rfl
              simp only [Act.put, List.getElem_toArray, List.getElem_cons_succ, List.getElem_cons_zero, List.setIfInBounds_toArray, List.set_cons_zero, List.set_cons_succ]
              refine wpAnyU_turn (i := 11) (v := undef) (b := [false]) (b' := [true]) rfl (by kernel_rfl) (by kernel_rfl) (by kernel_rfl) (by kernel_rfl) (turn_store (ty := 35) (x := .tmp 2) (y := .tmp 55) (by kernel_rfl) w.heap.size #[strV m, strV t, .int .i64 0, .int .i64 (n : Int), .slice none 0 0] (by kernel_rfl) (by kernel_rfl) infoHdS (one5 m t 0 n none 0 0) (fun W hS => ⟨_, _, hS.2.2.2, rfl, hS.stored (Nat.le_refl _) HN.out⟩)) ?_
              simp only [Act.put, List.getElem_toArray, List.getElem_cons_succ, List.getElem_cons_zero, List.setIfInBounds_toArray, List.set_cons_zero, List.set_cons_succ]
              refine wpAnyU_take (i := 12) (v := ?_) (by decide) rfl (by kernel_rfl) (by kernel_rfl) (by kernel_rfl) (fun _ _ _ h => h) (Steady.plain (by kernel_rfl) ?_) ?_
              rotate_left
              · intro b W hS
                have h0 := (hS.2.2.1.cell 0).trans q0
                have h1 := (hS.2.2.1.cell 1).trans q1'
                have h2 := (hS.2.2.1.cell 2).trans q2'
                go_simp
                first | done | with_reducible rfl
              simp only [Act.put, List.getElem_toArray, List.getElem_cons_succ, List.getElem_cons_zero, List.setIfInBounds_toArray, List.set_cons_zero, List.set_cons_succ]
              refine wpAnyU_done (b := [true]) (by kernel_rfl) (by kernel_rfl) ?_ _
              intro w' hS
              go_wp2_with fail
              refine bodyPost_ret (results_row2 Tryz.results20 _ _ w.heap.size _ rfl hS.2.2.2 Tryz.underlying35 rfl infoHdS) rfl ?_
              exact ⟨rfl, hS.1⟩
        · have hx := HD.out
          rw [hz1] at hx
          simp only [Option.isSome_none, Bool.and_false, Bool.false_eq_true, if_false] at hx
          subst hx
          clear HD HZ
          go_wp2_with (first
            | (go_at_call 41; refine (C1.out _).mono ?_; rintro e w' ⟨rfl, rfl⟩)
            | (go_at_call 42; refine (C2.out _).mono ?_; rintro e w' ⟨rfl, rfl⟩)
            | (go_at_call 37; refine (C3.out _).mono ?_; rintro e w' ⟨rfl, rfl⟩)
            | (refine wpList_store_row rfl 35 _ _ rfl w.heap.size _ rfl rfl 35 #[.string ⟨#[]⟩, .string ⟨#[]⟩, .int .i64 0, .int .i64 0, .slice none 0 0] hr1 infoHdS rfl (one5 [] [] 0 0 none 0 0) ?_))
          refine bodyPost_ret (results_row2 Tryz.results20 _ _ w.heap.size _ rfl (hr1.setRow _) Tryz.underlying35 rfl infoHdS) rfl ?_
          exact ⟨rfl, below_setRow hbb (Nat.le_refl _) _⟩
  · have hx : x = .error 21 := by
      rw [hd]
      match l, h3 with
      | [], _ => rfl
      | [_], _ => rfl
      | [_, _], _ => rfl
      | [_, _, _], h => exact absurd rfl h
      | _ :: _ :: _ :: _ :: _, _ => rfl
    subst hx
    have e3 : ((l.length : Int) == 3) = false := by simp; omega
    have e4 : ((l.length : Int) != 3) = true := by simp; omega
    clear hd hps h3
    go_enter Tryz.func20, Tryz.ntmps20
    go_wp2_with fail
    rw [← hW0]
    clear hW0
    refine (C0.out _).mono ?_
    rintro e w1 ⟨v1, rfl, ho, hb1⟩
    obtain ⟨ao1, cap1, rfl⟩ := Reads.strs ho.reads
    have hr1 := hr0.below hb1
    have hbb := chain2 hb0 hb0.size hb1
    clear ho hr0 hb0 hb1 C0
    go_wp2_with (refine wpList_store_row rfl 35 _ _ rfl w.heap.size _ rfl rfl 35 #[.string ⟨#[]⟩, .string ⟨#[]⟩, .int .i64 0, .int .i64 0, .slice none 0 0] hr1 infoHdS rfl (one5 [] [] 0 0 none 0 0) ?_)
    refine bodyPost_ret (results_row2 Tryz.results20 _ _ w.heap.size _ rfl (hr1.setRow _) Tryz.underlying35 rfl infoHdS) rfl ?_
    exact ⟨rfl, below_setRow hbb (Nat.le_refl _) _⟩
end Go.Proofs.YtfoghjhdjmapnaaGreatDoor
