/-
  Several texts in one: Law07M, Ref5E, Ref5G.
-/
import Derived.Test.YtefplhkjcclppaaGreatDoorW8f09
import Derived.Test.YtefplhkjcclppaaGreatDoorW8fRefFieldB
import Derived.Test.YtefplhkjcclppaaGreatDoorW8f03
import Derived.Test.YtefplhkjcclppaaGreatDoorW8f04
import Derived.Test.YtefplhkjcclppaaGreatDoorW8f06
import Derived.Test.YtefplhkjcclppaaGreatDoorPureAll2
import Derived.Test.YtefplhkjcclppaaGreatDoorW8f08
import Derived.Test.YtefplhkjcclppaaGreatDoorPureAll1
import Derived.Test.YtefplhkjcclppaaGreatDoorW8f02
/-
  The statements of layer 7: same.
-/
namespace Go.Proofs.YtefplhkjcclppaaGreatDoor
open Go.RowKit Go.Pantry

set_option maxHeartbeats 4000000 in
theorem same_eq (m t : List UInt8) (st z : Int) (L : List Fld) (ao1 ao2 : Option Addr) (c1 c2 : Nat) (vb vc : Value) (l : List UInt8) (w : World) (h1 : Reads2 w (.slice ao1 L.length c1) L) (h2 : Reads2 w (.slice ao2 L.length c2) L) (hn : L.length < 1000000) (hb1 : Reads w vb (l.map byteV)) (hb2 : Reads w vc (l.map byteV)) :
    Calls Tryz.prog 10 #[.agg #[strV m, strV t, .int .i64 st, .int .i64 z, .slice ao1 L.length c1], vb, .agg #[strV m, strV t, .int .i64 st, .int .i64 z, .slice ao2 L.length c2], vc] w fun e w' => e = .returned (.bool true) ∧ Below w.heap.size w w' := by
  have cs := fun W h1 h2 => refSame_any (.slice ao1 L.length c1) (.slice ao2 L.length c2) L L W h1 h2 hn
  rw [show decide (L = L) = true by simp] at cs
  have CS := hid cs
  have H1 := hid h1
  have H2 := hid h2
  have HB1 := hid hb1
  have HB2 := hid hb2
  clear cs h1 h2 hb1 hb2
  have e1 : (m == m) = true := by simp
  have e2 : (t == t) = true := by simp
  have e3 : (st == st) = true := by simp
  have e4 : (z == z) = true := by simp
  obtain ⟨W, hW⟩ : ∃ W, W = (w.alloc (.cells #[strV m, strV t, .int .i64 st, .int .i64 z, .slice ao1 L.length c1] 47)).alloc (.cells #[strV m, strV t, .int .i64 st, .int .i64 z, .slice ao2 L.length c2] 47) := ⟨_, rfl⟩
  have hbW : Below w.heap.size w W := by rw [hW]; exact (below_alloc _ _).alloc (by simp) _
  go_enter Tryz.func10, Tryz.ntmps10
  go_wp2_with fail
  rw [← hW]
  clear hW
  refine (CS.out _ (H1.out.below hbW) (H2.out.below hbW)).mono ?_
  rintro e w2 ⟨rfl, hb⟩
  have hbb := chain2 hbW hbW.size hb
  have cv1 := reads_string (P := Tryz.prog) (HB1.out.below hbb) 27 9 5 Tryz.underlying27 Tryz.underlying5 Tryz.underlying9
  have cv2 := reads_string (P := Tryz.prog) (HB2.out.below hbb) 27 9 5 Tryz.underlying27 Tryz.underlying5 Tryz.underlying9
  have HB := hid hbb
  clear hb hbb hbW
  go_wp2_with fail
  go_ret
  exact ⟨rfl, HB.out⟩
end Go.Proofs.YtefplhkjcclppaaGreatDoor
/-
  The document's answers of layer 5: a request's first line.
-/
namespace Go.Proofs.YtefplhkjcclppaaGreatDoor
open Go.RowKit Go.Pantry

/-- a head's parts, or nothing; the error's number -/
def hE (x : Except Nat Hd) : Hd := match x with | .error _ => hd0 | .ok h => h
def cE (x : Except Nat Hd) : Int := match x with | .error k => (k : Int) | .ok _ => 0
/-- what the reading of a first line tells -/
def LineRead (x : Except Nat Hd) (e : Ending) : Prop := e = .returned (.tuple #[.agg #[strV (hE x).first, strV (hE x).second, .int .i64 ((hE x).status : Int), .int .i64 ((hE x).minor : Int), .slice none 0 0], .int .i64 (cE x)])
theorem take3 {cur : Array Value} {a b c : Value} (h : cur.toList.take 3 = [a, b, c]) : cur[0]? = some a ∧ cur[1]? = some b ∧ cur[2]? = some c := by
  have e : ∀ j, j < 3 → cur[j]? = ([a, b, c] : List Value)[j]? := fun j hj => by
    rw [← h, List.getElem?_take, if_pos hj, Array.getElem?_toList]
  exact ⟨e 0 (by decide), e 1 (by decide), e 2 (by decide)⟩
theorem minorI_cases (v : List UInt8) : (∃ n : Nat, minorL v = some n ∧ minorI v = (n : Int) ∧ n ≤ 1) ∨ (minorL v = none ∧ minorI v = -1) := by
  unfold minorI
  cases h : minorL v with
  | none => exact .inr ⟨rfl, rfl⟩
  | some n => exact .inl ⟨n, rfl, rfl, minorL_le h⟩
set_option maxRecDepth 100000 in
set_option maxHeartbeats 8000000 in
theorem refRequest_any (s : List UInt8) (w : World) (hs : s.length ≤ 100000) :
    Calls Tryz.prog 42 #[strV s] w fun e w' => LineRead (reqL s) e ∧ Below w.heap.size w w' := by
  have c0 := fun W => refPieces_any s [32] (-1) s.length W (by decide) (by omega) (by decide) (.inr ⟨rfl, rfl⟩)
  have hps : ∀ a ∈ piecesL [32] s.length s, a.length ≤ 100000 := fun a ha => Nat.le_trans (pieces_size _ _ _ a ha) hs
  have hd : reqL s = match piecesL [32] s.length s with
    | [m, t, v] => if tokenL m && seenL t && (minorL v).isSome then (if 16 < m.length ∨ 1024 < t.length then .error 22 else .ok ⟨m, t, 0, (minorL v).getD 0, []⟩) else .error 21
    | _ => .error 21 := rfl
  generalize reqL s = x at hd ⊢
  generalize piecesL [32] s.length s = l at c0 hps hd
  have C0 := hid c0
  clear c0
  obtain ⟨W0, hW0⟩ : ∃ W, W = w.alloc (.cells #[.string ⟨#[]⟩, .string ⟨#[]⟩, .int .i64 0, .int .i64 0, .slice none 0 0] 47) := ⟨_, rfl⟩
  have hb0 : Below w.heap.size w W0 := by rw [hW0]; exact below_alloc _ _
  have hr0 : rowIs W0 w.heap.size #[.string ⟨#[]⟩, .string ⟨#[]⟩, .int .i64 0, .int .i64 0, .slice none 0 0] 47 := by rw [hW0]; exact rowIs_new _ _ _
  have hs0 : W0.heap.size = w.heap.size + 1 := by rw [hW0]; simp
  by_cases h3 : l.length = 3
  · obtain ⟨m, t, v, rfl⟩ : ∃ m t v, l = [m, t, v] := by
      match l, h3 with
      | [m, t, v], _ => exact ⟨m, t, v, rfl⟩
    simp only at hd
    have hml := hps m (by simp)
    have htl := hps t (by simp)
    clear hps h3
    have c1 := fun W => refToken_any ⟨m.toArray⟩ W (by rw [szL]; unfold maxLen; omega)
    have c2 := fun W => refSeen_any ⟨t.toArray⟩ W (by rw [szL]; unfold maxLen; omega)
    have c3 := fun W => refMinor_any v W
    rw [dtL] at c1 c2
    generalize tokenL m = q1 at c1 hd
    generalize seenL t = q2 at c2 hd
    have hz := minorI_cases v
    generalize minorI v = z at c3 hz
    have C1 := hid c1
    have C2 := hid c2
    have C3 := hid c3
    have HD := hid hd
    have HZ := hid hz
    clear c1 c2 c3 hd hz
    go_enter Tryz.func42, Tryz.ntmps42
    go_wp2_with fail
    rw [← hW0]
    clear hW0
    refine (C0.out _).mono ?_
    rintro e w1 ⟨v1, rfl, ho, hb1⟩
    rcases ho.2 with ⟨-, hn0⟩ | ⟨g, cap, cur, rfl, hbg, hgg, hnc, -, -, htake⟩
    · cases hn0
    have hrow : rowIs w1 g cur 9 := hgg
    obtain ⟨q0, q1', q2'⟩ := take3 htake
    have hr1 := hr0.below hb1
    have hbb := chain2 hb0 hb0.size hb1
    have hne : g ≠ w.heap.size := by omega
    have k0 := (hrow.cell 0).trans q0
    have k1 := (hrow.cell 1).trans q1'
    have k2 := (hrow.cell 2).trans q2'
    clear ho hgg htake hr0 hb0 hb1 C0 hbg
    cases q1 with
    | false =>
      have hx : x = .error 21 := HD.out
      subst hx
      clear HD
      go_wp2_with (first
        | (go_at_call 66; refine (C1.out _).mono ?_; rintro e w' ⟨rfl, rfl⟩)
        | (go_at_call 67; refine (C2.out _).mono ?_; rintro e w' ⟨rfl, rfl⟩)
        | (go_at_call 62; refine (C3.out _).mono ?_; rintro e w' ⟨rfl, rfl⟩)
        | (refine wpList_store_row rfl 47 _ _ rfl w.heap.size _ rfl rfl 47 #[.string ⟨#[]⟩, .string ⟨#[]⟩, .int .i64 0, .int .i64 0, .slice none 0 0] hr1 infoHdS rfl (one5 [] [] 0 0 none 0 0) ?_))
      refine bodyPost_ret (results_row2 Tryz.results42 _ _ w.heap.size _ rfl (hr1.setRow _) Tryz.underlying47 rfl infoHdS) rfl ?_
      exact ⟨rfl, below_setRow hbb (Nat.le_refl _) _⟩
    | true =>
      cases q2 with
      | false =>
        have hx : x = .error 21 := HD.out
        subst hx
        clear HD
        go_wp2_with (first
          | (go_at_call 66; refine (C1.out _).mono ?_; rintro e w' ⟨rfl, rfl⟩)
          | (go_at_call 67; refine (C2.out _).mono ?_; rintro e w' ⟨rfl, rfl⟩)
          | (go_at_call 62; refine (C3.out _).mono ?_; rintro e w' ⟨rfl, rfl⟩)
          | (refine wpList_store_row rfl 47 _ _ rfl w.heap.size _ rfl rfl 47 #[.string ⟨#[]⟩, .string ⟨#[]⟩, .int .i64 0, .int .i64 0, .slice none 0 0] hr1 infoHdS rfl (one5 [] [] 0 0 none 0 0) ?_))
        refine bodyPost_ret (results_row2 Tryz.results42 _ _ w.heap.size _ rfl (hr1.setRow _) Tryz.underlying47 rfl infoHdS) rfl ?_
        exact ⟨rfl, below_setRow hbb (Nat.le_refl _) _⟩
      | true =>
        rcases HZ.out with ⟨n, hz1, rfl, hn1⟩ | ⟨hz1, rfl⟩
        · have hx := HD.out
          rw [hz1] at hx
          simp only [Option.isSome_some, Bool.and_self, if_true, Option.getD_some] at hx
          by_cases h16 : (16 : Int) < (m.length : Int)
          · rw [if_pos (.inl (by omega))] at hx
            subst hx
            clear HD HZ
            go_wp2_with (first
              | (go_at_call 66; refine (C1.out _).mono ?_; rintro e w' ⟨rfl, rfl⟩)
              | (go_at_call 67; refine (C2.out _).mono ?_; rintro e w' ⟨rfl, rfl⟩)
              | (go_at_call 62; refine (C3.out _).mono ?_; rintro e w' ⟨rfl, rfl⟩)
              | (refine wpList_store_row rfl 47 _ _ rfl w.heap.size _ rfl rfl 47 #[.string ⟨#[]⟩, .string ⟨#[]⟩, .int .i64 0, .int .i64 0, .slice none 0 0] hr1 infoHdS rfl (one5 [] [] 0 0 none 0 0) ?_))
            refine bodyPost_ret (results_row2 Tryz.results42 _ _ w.heap.size _ rfl (hr1.setRow _) Tryz.underlying47 rfl infoHdS) rfl ?_
            exact ⟨rfl, below_setRow hbb (Nat.le_refl _) _⟩
          · by_cases h1024 : (1024 : Int) < (t.length : Int)
            · rw [if_pos (.inr (by omega))] at hx
              subst hx
              clear HD HZ
              go_wp2_with (first
                | (go_at_call 66; refine (C1.out _).mono ?_; rintro e w' ⟨rfl, rfl⟩)
                | (go_at_call 67; refine (C2.out _).mono ?_; rintro e w' ⟨rfl, rfl⟩)
                | (go_at_call 62; refine (C3.out _).mono ?_; rintro e w' ⟨rfl, rfl⟩)
                | (refine wpList_store_row rfl 47 _ _ rfl w.heap.size _ rfl rfl 47 #[.string ⟨#[]⟩, .string ⟨#[]⟩, .int .i64 0, .int .i64 0, .slice none 0 0] hr1 infoHdS rfl (one5 [] [] 0 0 none 0 0) ?_))
              refine bodyPost_ret (results_row2 Tryz.results42 _ _ w.heap.size _ rfl (hr1.setRow _) Tryz.underlying47 rfl infoHdS) rfl ?_
              exact ⟨rfl, below_setRow hbb (Nat.le_refl _) _⟩
            · rw [if_neg (by omega)] at hx
              subst hx
              have HN := hid hne
              have HS : HeldS w w.heap.size g cur 9 w.heap.size #[.string ⟨#[]⟩, .string ⟨#[]⟩, .int .i64 0, .int .i64 0, .slice none 0 0] #[strV m, strV t, .int .i64 0, .int .i64 (n : Int), .slice none 0 0] 47 [false] w1 := ⟨hbb, hbb.size, hrow, hr1⟩
              clear HD HZ hne hbb hrow hr1
              go_wp2_with (first
                | (go_at_call 66; refine (C1.out _).mono ?_; rintro e w' ⟨rfl, rfl⟩)
                | (go_at_call 67; refine (C2.out _).mono ?_; rintro e w' ⟨rfl, rfl⟩)
                | (go_at_call 62; refine (C3.out _).mono ?_; rintro e w' ⟨rfl, rfl⟩))
              refine wp_region_U [11] (by kernel_rfl) (HeldS w w.heap.size g cur 9 w.heap.size #[.string ⟨#[]⟩, .string ⟨#[]⟩, .int .i64 0, .int .i64 0, .slice none 0 0] #[strV m, strV t, .int .i64 0, .int .i64 (n : Int), .slice none 0 0] 47) (b := [false]) (by kernel_rfl) HS.drew ?_
              refine wpAnyU_take (i := 0) (v := ?_) (by decide) rfl (by kernel_rfl) (by kernel_rfl) (by kernel_rfl) (fun _ _ _ h => h) (Steady.plain (by kernel_rfl) ?_) ?_
              rotate_left
              · intro b W hS
                have h0 := (hS.2.2.1.cell 0).trans q0
                have h1 := (hS.2.2.1.cell 1).trans q1'
                have h2 := (hS.2.2.1.cell 2).trans q2'
                go_simp
                first | done | with_reducible rfl
              simp only [Act.put, List.getElem_toArray, List.getElem_cons_succ, List.getElem_cons_zero, List.setIfInBounds_toArray, List.set_cons_zero, List.set_cons_succ]
              refine wpAnyU_take (i := 1) (v := ?_) (by decide) rfl (by kernel_rfl) (by kernel_rfl) (by kernel_rfl) (fun _ _ _ h => h) (Steady.plain (by kernel_rfl) ?_) ?_
              rotate_left
              · intro b W hS
                have h0 := (hS.2.2.1.cell 0).trans q0
                have h1 := (hS.2.2.1.cell 1).trans q1'
                have h2 := (hS.2.2.1.cell 2).trans q2'
                go_simp
                first | done | with_reducible rfl
              simp only [Act.put, List.getElem_toArray, List.getElem_cons_succ, List.getElem_cons_zero, List.setIfInBounds_toArray, List.set_cons_zero, List.set_cons_succ]
              refine wpAnyU_take (i := 2) (v := ?_) (by decide) rfl (by kernel_rfl) (by kernel_rfl) (by kernel_rfl) (fun _ _ _ h => h) (Steady.plain (by kernel_rfl) ?_) ?_
              rotate_left
              · intro b W hS
                have h0 := (hS.2.2.1.cell 0).trans q0
                have h1 := (hS.2.2.1.cell 1).trans q1'
                have h2 := (hS.2.2.1.cell 2).trans q2'
                go_simp
                first | done | with_reducible rfl
              simp only [Act.put, List.getElem_toArray, List.getElem_cons_succ, List.getElem_cons_zero, List.setIfInBounds_toArray, List.set_cons_zero, List.set_cons_succ]
              refine wpAnyU_take (i := 3) (v := ?_) (by decide) rfl (by kernel_rfl) (by kernel_rfl) (by kernel_rfl) (fun _ _ _ h => h) (Steady.plain (by kernel_rfl) ?_) ?_
              rotate_left
              · intro b W hS
                have h0 := (hS.2.2.1.cell 0).trans q0
                have h1 := (hS.2.2.1.cell 1).trans q1'
                have h2 := (hS.2.2.1.cell 2).trans q2'
                go_simp
                first | done | with_reducible rfl
              simp only [Act.put, List.getElem_toArray, List.getElem_cons_succ, List.getElem_cons_zero, List.setIfInBounds_toArray, List.set_cons_zero, List.set_cons_succ]
              refine wpAnyU_take (i := 4) (v := ?_) (by decide) rfl (by kernel_rfl) (by kernel_rfl) (by kernel_rfl) (fun _ _ _ h => h) (Steady.plain (by kernel_rfl) ?_) ?_
              rotate_left
              · intro b W hS
                have h0 := (hS.2.2.1.cell 0).trans q0
                have h1 := (hS.2.2.1.cell 1).trans q1'
                have h2 := (hS.2.2.1.cell 2).trans q2'
                go_simp
                first | done | with_reducible rfl
              simp only [Act.put, List.getElem_toArray, List.getElem_cons_succ, List.getElem_cons_zero, List.setIfInBounds_toArray, List.set_cons_zero, List.set_cons_succ]
              refine wpAnyU_take (i := 5) (v := ?_) (by decide) rfl (by kernel_rfl) (by kernel_rfl) (by kernel_rfl) (fun _ _ _ h => h) (Steady.plain (by kernel_rfl) ?_) ?_
              rotate_left
              · intro b W hS
                have h0 := (hS.2.2.1.cell 0).trans q0
                have h1 := (hS.2.2.1.cell 1).trans q1'
                have h2 := (hS.2.2.1.cell 2).trans q2'
                go_simp
                first | done | with_reducible rfl
              simp only [Act.put, List.getElem_toArray, List.getElem_cons_succ, List.getElem_cons_zero, List.setIfInBounds_toArray, List.set_cons_zero, List.set_cons_succ]
              refine wpAnyU_take (i := 6) (v := ?_) (by decide) rfl (by kernel_rfl) (by kernel_rfl) (by kernel_rfl) (fun _ _ _ h => h) (Steady.plain (by kernel_rfl) ?_) ?_
              rotate_left
              · intro b W hS
                have h0 := (hS.2.2.1.cell 0).trans q0
                have h1 := (hS.2.2.1.cell 1).trans q1'
                have h2 := (hS.2.2.1.cell 2).trans q2'
                go_simp
                first | done | with_reducible rfl
              simp only [Act.put, List.getElem_toArray, List.getElem_cons_succ, List.getElem_cons_zero, List.setIfInBounds_toArray, List.set_cons_zero, List.set_cons_succ]
              refine wpAnyU_take (i := 7) (v := ?_) (by decide) rfl (by kernel_rfl) (by kernel_rfl) (by kernel_rfl) (fun _ _ _ h => h) (Steady.plain (by kernel_rfl) ?_) ?_
              rotate_left
              · intro b W hS
                have h0 := (hS.2.2.1.cell 0).trans q0
                have h1 := (hS.2.2.1.cell 1).trans q1'
                have h2 := (hS.2.2.1.cell 2).trans q2'
                go_simp
                first | done | with_reducible rfl
              simp only [Act.put, List.getElem_toArray, List.getElem_cons_succ, List.getElem_cons_zero, List.setIfInBounds_toArray, List.set_cons_zero, List.set_cons_succ]
              refine wpAnyU_take (i := 8) (v := ?_) (by decide) rfl (by kernel_rfl) (by kernel_rfl) (by kernel_rfl) (fun _ _ _ h => h) (Steady.plain (by kernel_rfl) ?_) ?_
              rotate_left
              · intro b W hS
                have h0 := (hS.2.2.1.cell 0).trans q0
                have h1 := (hS.2.2.1.cell 1).trans q1'
                have h2 := (hS.2.2.1.cell 2).trans q2'
                go_simp
                first | done | with_reducible rfl
              simp only [Act.put, List.getElem_toArray, List.getElem_cons_succ, List.getElem_cons_zero, List.setIfInBounds_toArray, List.set_cons_zero, List.set_cons_succ]
              refine wpAnyU_take (i := 9) (v := .int .i64 (n : Int)) (by decide) rfl (by kernel_rfl) (by kernel_rfl) (by kernel_rfl) (fun _ _ _ h => h) (Steady.call (f := 62) (args := #[strV v]) (by kernel_rfl) (fun _ => by kernel_rfl) ?_) ?_
              · intro b W hS
                refine (C3.out W).mono ?_
                rintro e w' ⟨he, rfl⟩
                exact ⟨he, hS⟩
              simp only [Act.put, List.getElem_toArray, List.getElem_cons_succ, List.getElem_cons_zero, List.setIfInBounds_toArray, List.set_cons_zero, List.set_cons_succ]
              refine wpAnyU_take (i := 10) (v := ?_) (by decide) rfl (by kernel_rfl) (by kernel_rfl) (by kernel_rfl) (fun _ _ _ h => h) (Steady.plain (by kernel_rfl) ?_) ?_
              rotate_left
              · intro b W hS
                have h0 := (hS.2.2.1.cell 0).trans q0
                have h1 := (hS.2.2.1.cell 1).trans q1'
                have h2 := (hS.2.2.1.cell 2).trans q2'
                go_simp
                first | done | with_reducible rfl
              simp only [Act.put, List.getElem_toArray, List.getElem_cons_succ, List.getElem_cons_zero, List.setIfInBounds_toArray, List.set_cons_zero, List.set_cons_succ]
              refine wpAnyU_turn (i := 11) (v := undef) (b := [false]) (b' := [true]) rfl (by kernel_rfl) (by kernel_rfl) (by kernel_rfl) (by kernel_rfl) (turn_store (ty := 47) (x := .tmp 2) (y := .tmp 55) (by kernel_rfl) w.heap.size #[strV m, strV t, .int .i64 0, .int .i64 (n : Int), .slice none 0 0] (by kernel_rfl) (by kernel_rfl) infoHdS (one5 m t 0 n none 0 0) (fun W hS => ⟨_, _, hS.2.2.2, rfl, hS.stored (Nat.le_refl _) HN.out⟩)) ?_
              simp only [Act.put, List.getElem_toArray, List.getElem_cons_succ, List.getElem_cons_zero, List.setIfInBounds_toArray, List.set_cons_zero, List.set_cons_succ]
              refine wpAnyU_take (i := 12) (v := ?_) (by decide) rfl (by kernel_rfl) (by kernel_rfl) (by kernel_rfl) (fun _ _ _ h => h) (Steady.plain (by kernel_rfl) ?_) ?_
              rotate_left
              · intro b W hS
                have h0 := (hS.2.2.1.cell 0).trans q0
                have h1 := (hS.2.2.1.cell 1).trans q1'
                have h2 := (hS.2.2.1.cell 2).trans q2'
                go_simp
                first | done | with_reducible rfl
              simp only [Act.put, List.getElem_toArray, List.getElem_cons_succ, List.getElem_cons_zero, List.setIfInBounds_toArray, List.set_cons_zero, List.set_cons_succ]
              refine wpAnyU_done (b := [true]) (by kernel_rfl) (by kernel_rfl) ?_ _
              intro w' hS
              go_wp2_with fail
              refine bodyPost_ret (results_row2 Tryz.results42 _ _ w.heap.size _ rfl hS.2.2.2 Tryz.underlying47 rfl infoHdS) rfl ?_
              exact ⟨rfl, hS.1⟩
        · have hx := HD.out
          rw [hz1] at hx
          simp only [Option.isSome_none, Bool.and_false, Bool.false_eq_true, if_false] at hx
          subst hx
          clear HD HZ
          go_wp2_with (first
            | (go_at_call 66; refine (C1.out _).mono ?_; rintro e w' ⟨rfl, rfl⟩)
            | (go_at_call 67; refine (C2.out _).mono ?_; rintro e w' ⟨rfl, rfl⟩)
            | (go_at_call 62; refine (C3.out _).mono ?_; rintro e w' ⟨rfl, rfl⟩)
            | (refine wpList_store_row rfl 47 _ _ rfl w.heap.size _ rfl rfl 47 #[.string ⟨#[]⟩, .string ⟨#[]⟩, .int .i64 0, .int .i64 0, .slice none 0 0] hr1 infoHdS rfl (one5 [] [] 0 0 none 0 0) ?_))
          refine bodyPost_ret (results_row2 Tryz.results42 _ _ w.heap.size _ rfl (hr1.setRow _) Tryz.underlying47 rfl infoHdS) rfl ?_
          exact ⟨rfl, below_setRow hbb (Nat.le_refl _) _⟩
  · have hx : x = .error 21 := by
      rw [hd]
      match l, h3 with
      | [], _ => rfl
      | [_], _ => rfl
      | [_, _], _ => rfl
      | [_, _, _], h => exact absurd rfl h
      | _ :: _ :: _ :: _ :: _, _ => rfl
    subst hx
    have e3 : ((l.length : Int) == 3) = false := by simp; omega
    have e4 : ((l.length : Int) != 3) = true := by simp; omega
    clear hd hps h3
    go_enter Tryz.func42, Tryz.ntmps42
    go_wp2_with fail
    rw [← hW0]
    clear hW0
    refine (C0.out _).mono ?_
    rintro e w1 ⟨v1, rfl, ho, hb1⟩
    obtain ⟨ao1, cap1, rfl⟩ := Reads.strs ho.reads
    have hr1 := hr0.below hb1
    have hbb := chain2 hb0 hb0.size hb1
    clear ho hr0 hb0 hb1 C0
    go_wp2_with (refine wpList_store_row rfl 47 _ _ rfl w.heap.size _ rfl rfl 47 #[.string ⟨#[]⟩, .string ⟨#[]⟩, .int .i64 0, .int .i64 0, .slice none 0 0] hr1 infoHdS rfl (one5 [] [] 0 0 none 0 0) ?_)
    refine bodyPost_ret (results_row2 Tryz.results42 _ _ w.heap.size _ rfl (hr1.setRow _) Tryz.underlying47 rfl infoHdS) rfl ?_
    exact ⟨rfl, below_setRow hbb (Nat.le_refl _) _⟩
end Go.Proofs.YtefplhkjcclppaaGreatDoor
/-
  The document's answers of layer 5: fields.
-/
namespace Go.Proofs.YtefplhkjcclppaaGreatDoor
open Go.RowKit Go.Pantry

set_option maxRecDepth 100000 in
set_option maxHeartbeats 16000000 in
theorem refFields_any (v : Value) (l : List (List UInt8)) (w : World) (hr : Reads w v (l.map strV)) (hl : l.length < 4294967296) (ha : ∀ a ∈ l, a.length ≤ 100000) :
    Calls Tryz.prog 43 #[v] w fun e w' => FldsRead 109 w.heap.size (fldsL 0 l) e w' ∧ Below w.heap.size w w' := by
  obtain ⟨ao, cap, rfl⟩ := Reads.strs hr
  have HR := hid hr
  have HL := hid ha
  obtain ⟨R, hR⟩ : ∃ R, fldsL 0 l = R := ⟨_, rfl⟩
  rw [hR]
  have HRR := hid hR
  clear hr ha hR
  go_enter Tryz.func43, Tryz.ntmps43
  go_wp2
  go_loopw [4, 5] (fun v' i wr => ∃ (k : Nat) (acc : List Fld), k ≤ l.length ∧ k ≤ 64 ∧ acc.length = k ∧ i = .int .i64 k ∧ R = addL acc (fldsL k (l.drop k)) ∧ wr.ownsRow w.heap.size 109 2 v' k (fldCells acc) ∧ Below w.heap.size w wr) (fun _ i _ => l.length - (intOf i).toNat)
  case atStart =>
    refine ⟨0, [], Nat.zero_le _, by omega, rfl, rfl, ?_, World.ownsRow_nil _ _ _ _, Below.refl _ _⟩
    rw [← HRR.out, List.drop_zero]
    unfold addL
    cases fldsL 0 l <;> rfl
  case round =>
    obtain ⟨k, acc, hk, hk64, hacc, rfl, hRk, ho, hb⟩ := hrel
    have HRK := hid hRk
    have HA := hid hacc
    clear hRk hacc
    have hs := hb.size
    by_cases hlt : k < l.length
    · obtain ⟨a, hx⟩ : ∃ a, l[k]? = some a := ⟨_, List.getElem?_eq_getElem hlt⟩
      have hdr : l.drop k = a :: l.drop (k + 1) := by
        rw [List.drop_eq_getElem_cons hlt]
        obtain ⟨_, e⟩ := List.getElem?_eq_some_iff.1 hx
        rw [e]
      have hal := HL.out a (List.mem_of_getElem? hx)
      obtain ⟨b, off, cap', hv, hc⟩ := (HR.out.below hb).at_some (by rw [List.length_map]; omega)
      have hcell := hc k (strV a) (by rw [List.getElem?_map, hx]; rfl)
      rw [List.length_map] at hv
      cases hv
      have HD := hid hdr
      clear hx hdr hc
      obtain ⟨aov, capv, rfl⟩ := ownsRow_form ho
      have c1 := fun W => refFind_any a [58] 0 W (by decide) (by omega) (by decide) (Nat.zero_le _)
      have hfl : fldL k a = match findL [58] a with
        | none => .error 21
        | some j => if tokenL (a.take j) && (trimL (a.drop (j + 1))).all okV then (if 64 < j ∨ 1024 < (trimL (a.drop (j + 1))).length ∨ 64 ≤ k then .error 22 else .ok (a.take j, trimL (a.drop (j + 1)))) else .error 21 := rfl
      cases hf : findL [58] a with
      | none =>
        have e1 : findI [58] a 0 = -1 := by unfold findI; rw [List.drop_zero, hf]
        rw [hf] at hfl
        have hRe : R = .error 21 := by rw [HRK.out, HD.out]; exact addL_err acc k a _ 21 hfl
        rw [e1] at c1
        have C1 := hid c1
        subst hRe
        clear hf hfl c1 e1
        go_wp2_with fail
        refine (C1.out _).mono ?_
        rintro e w' ⟨rfl, rfl⟩
        go_wp2_with fail
        go_ret2
        exact ⟨⟨by decide, rfl⟩, hb⟩
      | some j =>
        have e1 : findI [58] a 0 = (j : Int) := by unfold findI; rw [List.drop_zero, hf]; simp
        have hjl : j + 1 ≤ a.length := findL_lt (by decide) hf
        rw [hf] at hfl
        simp only at hfl
        rw [e1] at c1
        have tl := trim_len (a.drop (j + 1))
        rw [List.length_drop] at tl
        have htk : (a.take j).length = j := by rw [List.length_take]; omega
        have ex1 := extract_mid a 0 j
        rw [Nat.zero_add, List.drop_zero] at ex1
        have ex2 := extract_mid a (j + 1) (a.length - (j + 1))
        rw [show j + 1 + (a.length - (j + 1)) = a.length by omega, List.take_of_length_le (by rw [List.length_drop]; omega)] at ex2
        have c2 := fun W => refToken_any ⟨(a.take j).toArray⟩ W (by rw [szL]; unfold maxLen; omega)
        have c3 := fun W => refTrim_any ⟨(a.drop (j + 1)).toArray⟩ W (by rw [szL, List.length_drop]; unfold maxLen; omega)
        have c4 := fun W => refClean_any ⟨(trimL (a.drop (j + 1))).toArray⟩ W (by rw [szL]; unfold maxLen; omega)
        rw [dtL] at c2 c3 c4
        generalize a.take j = nm at c2 hfl ex1 htk
        generalize trimL (a.drop (j + 1)) = vl at c3 c4 hfl tl
        generalize a.drop (j + 1) = dd at c3 ex2
        generalize tokenL nm = q1 at c2 hfl
        generalize vl.all okV = q2 at c4 hfl
        have C1 := hid c1
        have C2 := hid c2
        have C3 := hid c3
        have C4 := hid c4
        have HF := hid hfl
        have hja : (j : Int) ≤ (a.length : Int) := by omega
        have hjb : ((j : Int) + 1) ≤ (a.length : Int) := by omega
        have hw1 : IntKind.i64.wrap ((j : Int) + 1) = ((j + 1 : Nat) : Int) := IntWalk.i64_in _ (by omega)
        clear c1 c2 c3 c4 hf hfl e1 htk
        cases q1 with
        | false =>
          have hRe : R = .error 21 := by rw [HRK.out, HD.out]; exact addL_err acc k a _ 21 HF.out
          subst hRe
          clear HF
          go_wp2_with (first | (go_at_call 39; refine (C1.out _).mono ?_; rintro e w' ⟨rfl, rfl⟩) | (go_at_call 66; refine (C2.out _).mono ?_; rintro e w' ⟨rfl, rfl⟩))
          go_ret2
          exact ⟨⟨by decide, rfl⟩, hb⟩
        | true =>
          cases q2 with
          | false =>
            have hRe : R = .error 21 := by rw [HRK.out, HD.out]; exact addL_err acc k a _ 21 HF.out
            subst hRe
            clear HF
            go_wp2_with (first | (go_at_call 39; refine (C1.out _).mono ?_; rintro e w' ⟨rfl, rfl⟩) | (go_at_call 66; refine (C2.out _).mono ?_; rintro e w' ⟨rfl, rfl⟩) | (go_at_call 65; refine (C3.out _).mono ?_; rintro e w' ⟨rfl, rfl⟩) | (go_at_call 64; refine (C4.out _).mono ?_; rintro e w' ⟨rfl, rfl⟩))
            go_ret2
            exact ⟨⟨by decide, rfl⟩, hb⟩
          | true =>
            have hf2 := HF.out
            rw [if_pos (show (true && true) = true from rfl)] at hf2
            have HF2 := hid hf2
            clear HF hf2
            by_cases h64 : (64 : Int) < (j : Int)
            · have hRe : R = .error 22 := by rw [HRK.out, HD.out]; exact addL_err acc k a _ 22 (by rw [HF2.out, if_pos (.inl (by omega))])
              subst hRe
              clear HF2
              have d1 : decide ((64 : Int) < (j : Int)) = true := decide_eq_true h64
              go_wp2_with (first | (go_at_call 39; refine (C1.out _).mono ?_; rintro e w' ⟨rfl, rfl⟩) | (go_at_call 66; refine (C2.out _).mono ?_; rintro e w' ⟨rfl, rfl⟩) | (go_at_call 65; refine (C3.out _).mono ?_; rintro e w' ⟨rfl, rfl⟩) | (go_at_call 64; refine (C4.out _).mono ?_; rintro e w' ⟨rfl, rfl⟩))
              go_ret2
              exact ⟨⟨by decide, rfl⟩, hb⟩
            · have d1 : decide ((64 : Int) < (j : Int)) = false := decide_eq_false h64
              by_cases h1024 : (1024 : Int) < (vl.length : Int)
              · have hRe : R = .error 22 := by rw [HRK.out, HD.out]; exact addL_err acc k a _ 22 (by rw [HF2.out, if_pos (.inr (.inl (by omega)))])
                subst hRe
                clear HF2
                have d2 : decide ((1024 : Int) < (vl.length : Int)) = true := decide_eq_true h1024
                go_wp2_with (first | (go_at_call 39; refine (C1.out _).mono ?_; rintro e w' ⟨rfl, rfl⟩) | (go_at_call 66; refine (C2.out _).mono ?_; rintro e w' ⟨rfl, rfl⟩) | (go_at_call 65; refine (C3.out _).mono ?_; rintro e w' ⟨rfl, rfl⟩) | (go_at_call 64; refine (C4.out _).mono ?_; rintro e w' ⟨rfl, rfl⟩))
                go_ret2
                exact ⟨⟨by decide, rfl⟩, hb⟩
              · have d2 : decide ((1024 : Int) < (vl.length : Int)) = false := decide_eq_false h1024
                by_cases hk65 : (64 : Int) ≤ (k : Int)
                · have hRe : R = .error 22 := by rw [HRK.out, HD.out]; exact addL_err acc k a _ 22 (by rw [HF2.out, if_pos (.inr (.inr (by omega)))])
                  subst hRe
                  clear HF2
                  have d3 : decide ((64 : Int) ≤ (k : Int)) = true := decide_eq_true hk65
                  go_wp2_with (first | (go_at_call 39; refine (C1.out _).mono ?_; rintro e w' ⟨rfl, rfl⟩) | (go_at_call 66; refine (C2.out _).mono ?_; rintro e w' ⟨rfl, rfl⟩) | (go_at_call 65; refine (C3.out _).mono ?_; rintro e w' ⟨rfl, rfl⟩) | (go_at_call 64; refine (C4.out _).mono ?_; rintro e w' ⟨rfl, rfl⟩))
                  go_ret2
                  exact ⟨⟨by decide, rfl⟩, hb⟩
                · have d3 : decide ((64 : Int) ≤ (k : Int)) = false := decide_eq_false hk65
                  have hRs : R = addL (acc ++ [(nm, vl)]) (fldsL (k + 1) (l.drop (k + 1))) := by rw [HRK.out, HD.out]; exact addL_step acc k a _ (nm, vl) (by rw [HF2.out, if_neg (by omega)])
                  have HRS := hid hRs
                  clear hRs HF2 h64 h1024
                  go_wp2_with (first | (go_at_call 39; refine (C1.out _).mono ?_; rintro e w' ⟨rfl, rfl⟩) | (go_at_call 66; refine (C2.out _).mono ?_; rintro e w' ⟨rfl, rfl⟩) | (go_at_call 65; refine (C3.out _).mono ?_; rintro e w' ⟨rfl, rfl⟩) | (go_at_call 64; refine (C4.out _).mono ?_; rintro e w' ⟨rfl, rfl⟩) | (at_builtin; go_must (refine wpList_append_fld _ rfl _ _ 45 rfl w.heap.size 109 Tryz.underlying45 infoFld3 rfl (by decide) rfl ho (nm, vl) rfl (by first | rfl | simp) (by omega) hs ?_); intro v2 w3 hown3 hb3))
                  go_roundw
                  case rel => exact ⟨k + 1, acc ++ [(nm, vl)], hlt, by omega, by rw [List.length_append, HA.out]; rfl, by go_num, HRS.out, hown3, hb.trans hb3⟩
                  case measure => simp [intOf]; omega
    · have hke : k = l.length := by omega
      have hRe : R = .ok acc := by
        rw [HRK.out, hke, List.drop_length]
        unfold addL fldsL
        simp
      subst hRe
      rw [← HA.out] at ho
      go_wp2_with fail
      go_ret2
      exact ⟨⟨_, rfl, ho⟩, hb⟩
end Go.Proofs.YtefplhkjcclppaaGreatDoor
