/-
  Contract of package place: Host.
-/
import Derived.Test.YtenijpcjemdhfaaGreatDoorPlaceQ0
import Derived.Test.YtenijpcjemdhfaaGreatDoorMaxC
import Derived.Test.YtenijpcjemdhfaaGreatDoorP10d01
import Derived.Test.YtenijpcjemdhfaaGreatDoorWireI

namespace Go.Pantry
open Go.RowKit
theorem cutT_one (x : UInt8) (e : List UInt8) : (match findL [x] e with | none => (e, [], false) | some i => (e.take i, e.drop (i + [x].length), true)) = (bef x e, beh x e, hasB x e) := by
  rcases bef_cases x e with ⟨h, h1, h2, h3⟩ | ⟨a, b, h, he, h1, h2, h3⟩
  · rw [findL_no x [] e h, h1, h2, h3]
  · have hf := findL_at x [] a b h
    rw [List.append_assoc, List.singleton_append, ← he] at hf
    rw [hf, h1, h2, h3]
    simp only
    rw [he, List.take_left, show a.length + [x].length = a.length + 1 from rfl, ← List.drop_drop, List.drop_left]
    rfl
theorem bef_len (x : UInt8) (e : List UInt8) : (bef x e).length ≤ e.length ∧ (beh x e).length ≤ e.length := by
  rcases bef_cases x e with ⟨h, h1, h2, h3⟩ | ⟨a, b, h, he, h1, h2, h3⟩
  · rw [h1, h2]; simp
  · rw [h1, h2, he]; simp; omega
theorem number_no {d : List UInt8} (h : d.all isDig = false) : numberL d = none := by unfold numberL; rw [h]; rfl
theorem number_yes {d : List UInt8} (h0 : d ≠ []) (h : d.all isDig = true) : numberL d = some (min (valL d) 2147483648) := by
  unfold numberL
  rw [h]
  cases d with
  | nil => exact absurd rfl h0
  | cons c d => rfl
end Go.Pantry
namespace Go.Proofs.YtenijpcjemdhfaaGreatDoor
open Go.RowKit Go.Pantry

theorem cut_any (x : UInt8) (e : List UInt8) (w : World) (hm : MaxOk w) (hs : e.length < 4294967281) :
    Calls Tryz.prog 71 #[strV e, .string ⟨#[x]⟩] w fun r w' => r = .returned (.tuple #[strV (bef x e), strV (beh x e), .bool (hasB x e)]) ∧ Below w.heap.size w w' := by
  have c := Cut2_any e [x] w hm hs
  have h : cutT [x] e = (bef x e, beh x e, hasB x e) := cutT_one x e
  rw [h] at c
  exact c
theorem only_any (n : List UInt8) (W : World) (hn : n.length < 4294967296) :
    Calls Tryz.prog 107 #[strV n, .slice (some ⟨W.heap.size, 0, none⟩) 2 2] (W.alloc (.cells #[byteV 45, byteV 46] 5)) fun e w' => e = .returned (.bool (n.all isHC)) ∧ (W.alloc (.cells #[byteV 45, byteV 46] 5)) = w' := by
  have c := onlySigns_any ⟨n.toArray⟩ (.slice (some ⟨W.heap.size, 0, none⟩) 2 2) [45, 46] (W.alloc (.cells (([45, 46] : List UInt8).map byteV).toArray 5)) (reads_new W _ _ 2) (by simp) (by rw [szL]; exact hn)
  rw [dtL, show (fun c => isAl c || ([45, 46] : List UInt8).contains c) = isHC from funext isHC_of] at c
  exact c
/-- what a host's reading tells -/
def errZ (b : Bool) : Value := .int .i64 (if b then 0 else 25)
set_option maxRecDepth 100000 in
theorem Host_any (e : List UInt8) (w : World) (hs : e.length ≤ 100000) (hm : MaxOk w) (ht : Tab10 w) :
    Calls Tryz.prog 85 #[strV e] w fun r w' => r = .returned (.tuple #[strV ((hostL e).getD []), errZ (hostL e).isSome]) ∧ Below w.heap.size w w' := by
  have cc := cut_any 58 e w hm (by omega)
  rw [hostL_eq]
  obtain ⟨bl1, bl2⟩ := bef_len 58 e
  obtain ⟨n, hn⟩ : ∃ n, bef 58 e = n := ⟨_, rfl⟩
  obtain ⟨d, hd⟩ : ∃ d, beh 58 e = d := ⟨_, rfl⟩
  obtain ⟨hh, hhh⟩ : ∃ hh, hasB 58 e = hh := ⟨_, rfl⟩
  rw [hn] at bl1
  rw [hd] at bl2
  rw [hn, hd, hhh] at cc
  rw [hn, hd]
  have hnl : n.length ≤ 100000 := by omega
  have hdl : d.length ≤ 100000 := by omega
  have co := fun W => only_any n W (by omega)
  have CC := hid cc
  have HT := hid ht
  clear hn hd hhh cc hm ht bl1 bl2
  by_cases h0 : n = []
  · have hnone : hostN n d = none := by unfold hostN; rw [if_pos (.inl h0)]
    rw [hnone]
    subst h0
    clear co hnone
    go_enter Tryz.func85, Tryz.ntmps85
    go_wp2_with (go_at_call 71; refine CC.out.mono ?_; rintro e w1 ⟨rfl, hb1⟩)
    go_ret2
    exact ⟨rfl, hb1⟩
  · by_cases h40 : 40 < n.length
    · have hnone : hostN n d = none := by unfold hostN; rw [if_pos (.inr (.inl h40))]
      rw [hnone]
      clear co hnone
      have t1 : (n == ([] : List UInt8)) = false := by simpa using h0
      have t2 : decide (40 < (n.length : Int)) = true := by rw [decide_eq_true_eq]; omega
      go_enter Tryz.func85, Tryz.ntmps85
      go_wp2_with (go_at_call 71; refine CC.out.mono ?_; rintro e w1 ⟨rfl, hb1⟩)
      go_ret2
      exact ⟨rfl, hb1⟩
    · have t1 : (n == ([] : List UInt8)) = false := by simpa using h0
      have t2 : decide (40 < (n.length : Int)) = false := by rw [decide_eq_false_iff_not]; omega
      obtain ⟨q, hq⟩ : ∃ q, n.all isHC = q := ⟨_, rfl⟩
      rw [hq] at co
      have CO := hid co
      clear co
      cases q
      · have hnone : hostN n d = none := by unfold hostN; rw [if_pos (.inr (.inr hq))]
        rw [hnone]
        clear hnone hq h0 h40
        go_enter Tryz.func85, Tryz.ntmps85
        go_wp2_with (first
          | (go_at_call 71; refine CC.out.mono ?_; rintro e w1 ⟨rfl, hb1⟩)
          | (go_at_call 107; refine (CO.out _).mono ?_; rintro e w2 ⟨rfl, rfl⟩))
        go_ret2
        exact ⟨rfl, chainP hb1 (below_alloc _ _)⟩
      · have cl := fun W => Lower_any ⟨n.toArray⟩ W (by rw [szL]; unfold maxLen; omega)
        rw [dtL] at cl
        have CL := hid cl
        have hll : (lowerL n).length = n.length := by unfold lowerL; simp
        have hg : ¬ (n = [] ∨ 40 < n.length ∨ n.all isHC = false) := by
          rintro (h | h | h)
          · exact h0 h
          · exact h40 h
          · rw [hq] at h; cases h
        have hN : hostN n d = if d = [] then some (lowerL n) else if 5 < d.length ∨ d.all isDig = false then none else some (lowerL n ++ portL d) := by
          unfold hostN; rw [if_neg hg]
        rw [hN]
        clear cl hN hg hq h0
        by_cases hd0 : d = []
        · rw [if_pos hd0]
          subst hd0
          clear hll
          go_enter Tryz.func85, Tryz.ntmps85
          go_wp2_with (first
            | (go_at_call 71; refine CC.out.mono ?_; rintro e w1 ⟨rfl, hb1⟩)
            | (go_at_call 107; refine (CO.out _).mono ?_; rintro e w2 ⟨rfl, rfl⟩)
            | (go_at_call 108; refine (CL.out _).mono ?_; rintro e w3 ⟨rfl, hb3⟩))
          go_ret2
          exact ⟨rfl, chainP (chainP hb1 (below_alloc _ _)) hb3⟩
        · rw [if_neg hd0]
          have t3 : (d == ([] : List UInt8)) = false := by simpa using hd0
          have cn := fun W => Number_any ⟨d.toArray⟩ W (by rw [szL]; omega)
          rw [dtL] at cn
          by_cases hdig : d.all isDig = true
          · rw [number_yes hd0 hdig] at cn
            by_cases h5 : 5 < d.length
            · rw [if_pos (.inl h5)]
              have t5 : decide (5 < (d.length : Int)) = true := by rw [decide_eq_true_eq]; omega
              obtain ⟨v, hv⟩ : ∃ v, min (valL d) 2147483648 = v := ⟨_, rfl⟩
              rw [hv] at cn
              have CN : Hid (∀ W, Calls Tryz.prog 109 #[strV d] W fun e w' => e = .returned (.tuple #[.int .i64 (v : Int), .bool true]) ∧ W = w') := hid cn
              clear cn hv hdig hd0 h5 hll
              go_enter Tryz.func85, Tryz.ntmps85
              go_wp2_with (first
                | (go_at_call 71; refine CC.out.mono ?_; rintro e w1 ⟨rfl, hb1⟩)
                | (go_at_call 107; refine (CO.out _).mono ?_; rintro e w2 ⟨rfl, rfl⟩)
                | (go_at_call 108; refine (CL.out _).mono ?_; rintro e w3 ⟨rfl, hb3⟩)
                | (go_at_call 109; refine (CN.out _).mono ?_; rintro e w4 ⟨rfl, rfl⟩))
              go_ret2
              exact ⟨rfl, chainP (chainP hb1 (below_alloc _ _)) hb3⟩
            · rw [if_neg (by rintro (h | h); exact h5 h; rw [hdig] at h; cases h)]
              have hvl := val_lt (l := d) (by omega) hdig
              have t5 : decide (5 < (d.length : Int)) = false := by rw [decide_eq_false_iff_not]; omega
              have hp : portL d = if valL d = 80 then [] else 58 :: digF 5 (valL d) := rfl
              rw [hp]
              obtain ⟨v, hv⟩ : ∃ v, valL d = v := ⟨_, rfl⟩
              rw [hv, show min v 2147483648 = v by omega] at cn
              rw [hv] at hvl ⊢
              have CN : Hid (∀ W, Calls Tryz.prog 109 #[strV d] W fun e w' => e = .returned (.tuple #[.int .i64 (v : Int), .bool true]) ∧ W = w') := hid cn
              by_cases h80 : v = 80
              · rw [if_pos h80, List.append_nil]
                subst h80
                have CN2 : Hid (∀ W, Calls Tryz.prog 109 #[strV d] W fun e w' => e = .returned (.tuple #[.int .i64 80, .bool true]) ∧ W = w') := CN
                clear cn CN hp hv hvl hdig hd0 h5 hll
                go_enter Tryz.func85, Tryz.ntmps85
                go_wp2_with (first
                  | (go_at_call 71; refine CC.out.mono ?_; rintro e w1 ⟨rfl, hb1⟩)
                  | (go_at_call 107; refine (CO.out _).mono ?_; rintro e w2 ⟨rfl, rfl⟩)
                  | (go_at_call 108; refine (CL.out _).mono ?_; rintro e w3 ⟨rfl, hb3⟩)
                  | (go_at_call 109; refine (CN2.out _).mono ?_; rintro e w4 ⟨rfl, rfl⟩))
                go_ret2
                exact ⟨rfl, chainP (chainP hb1 (below_alloc _ _)) hb3⟩
              · rw [if_neg h80]
                have t6 : ((v : Int) == 80) = false := by rw [beq_eq_false_iff_ne]; omega
                have ci := fun W hW => itoa_any v (by omega) W hW
                rw [decL_digF 4 v (by omega)] at ci
                have hdf := digF_len 5 v
                have s1 := fun W => run_string_add_lists (P := Tryz.prog) W (lowerL n) [58] (by omega) (by simp)
                have s2 := fun W => run_string_add_lists (P := Tryz.prog) W (lowerL n ++ [58]) (digF 5 v) (by simp; omega) (by omega)
                obtain ⟨ln, hln⟩ : ∃ ln, lowerL n = ln := ⟨_, rfl⟩
                obtain ⟨dg, hdg⟩ : ∃ dg, digF 5 v = dg := ⟨_, rfl⟩
                rw [hln] at s1 s2 CL ⊢
                rw [hdg] at s2 ci ⊢
                have CI := hid ci
                clear cn hp hv hvl hdig hd0 h5 hll ci hdf hln hdg h80
                go_enter Tryz.func85, Tryz.ntmps85
                go_wp2_with (first
                  | (go_at_call 71; refine CC.out.mono ?_; rintro e w1 ⟨rfl, hb1⟩)
                  | (go_at_call 107; refine (CO.out _).mono ?_; rintro e w2 ⟨rfl, rfl⟩)
                  | (go_at_call 108; refine (CL.out _).mono ?_; rintro e w3 ⟨rfl, hb3⟩; have HT2 := hid (HT.out.below (chainP (chainP hb1 (below_alloc _ _)) hb3)))
                  | (go_at_call 109; refine (CN.out _).mono ?_; rintro e w4 ⟨rfl, rfl⟩)
                  | (go_at_call 110; refine (CI.out _ HT2.out).mono ?_; rintro e w5 ⟨rfl, hb5⟩))
                go_ret2
                exact ⟨rfl, chainP (chainP (chainP hb1 (below_alloc _ _)) hb3) hb5⟩
          · have hdig' : d.all isDig = false := by simpa using hdig
            rw [number_no hdig'] at cn
            rw [if_pos (.inr hdig')]
            have CN : Hid (∀ W, Calls Tryz.prog 109 #[strV d] W fun e w' => e = .returned (.tuple #[.int .i64 0, .bool false]) ∧ W = w') := hid cn
            clear cn hdig hdig' hd0 hll
            go_enter Tryz.func85, Tryz.ntmps85
            go_wp2_with (first
              | (go_at_call 71; refine CC.out.mono ?_; rintro e w1 ⟨rfl, hb1⟩)
              | (go_at_call 107; refine (CO.out _).mono ?_; rintro e w2 ⟨rfl, rfl⟩)
              | (go_at_call 108; refine (CL.out _).mono ?_; rintro e w3 ⟨rfl, hb3⟩)
              | (go_at_call 109; refine (CN.out _).mono ?_; rintro e w4 ⟨rfl, rfl⟩))
            go_ret2
            exact ⟨rfl, chainP (chainP hb1 (below_alloc _ _)) hb3⟩
end Go.Proofs.YtenijpcjemdhfaaGreatDoor
