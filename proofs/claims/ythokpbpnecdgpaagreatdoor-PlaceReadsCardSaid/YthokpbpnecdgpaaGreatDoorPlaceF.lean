/-
  Contract of package place: ownHost.
-/
import Derived.Test.YthokpbpnecdgpaaGreatDoorPlaceC
import Derived.Test.YthokpbpnecdgpaaGreatDoorSignLow
import Derived.Test.YthokpbpnecdgpaaGreatDoorPlaceQ
namespace Go.Pantry
open Go.RowKit
theorem hasPrefix_slash (l : List UInt8) : Lib.hasPrefix l [47] = (l.head? == some 47) := by
  cases l with
  | nil => rfl
  | cons c l =>
    show ((47 : UInt8) == c && List.isPrefixOf [] l) = ((c :: l).head? == some 47)
    rw [List.head?_cons]
    show ((47 : UInt8) == c && true) = (some c == some 47)
    rw [Bool.and_true]
    by_cases h : c = 47
    · subst h; rfl
    · rw [beq_eq_false_iff_ne.2 (Ne.symm h), beq_eq_false_iff_ne.2 (fun e => h (Option.some.inj e))]
theorem apart_len (l : List UInt8) : (apartH l).length ≤ l.length ∧ apartH l = l.take (apartH l).length ∧ apartB l = l.drop (apartH l).length := by
  unfold apartH apartB
  induction l with
  | nil => simp
  | cons c l ih =>
    cases hc : isSQ c with
    | true => simp [hc]
    | false =>
      obtain ⟨h1, h2, h3⟩ := ih
      simp only [List.takeWhile_cons, List.dropWhile_cons, hc, Bool.not_false, if_true]
      refine ⟨by simpa using h1, ?_, ?_⟩
      · simp only [List.length_cons, List.take_succ_cons]; rw [← h2]
      · simp only [List.length_cons, List.drop_succ_cons]; exact h3
theorem apart_none {l : List UInt8} (h : sqZ l = -1) : apartH l = l ∧ apartB l = [] := by
  unfold sqZ at h
  split at h
  · omega
  · rename_i h1
    have := apart_at (a := l) (r := []) (fun c hc => by
      cases hq : isSQ c with
      | false => rfl
      | true => exact absurd (List.any_eq_true.2 ⟨c, hc, hq⟩) h1) (fun c hc => by cases hc)
    rwa [List.append_nil] at this
/-- what ownHost tells of a target -/
def ownO (t : List UInt8) : List UInt8 × List UInt8 × Bool := if ownL t then (apartH (t.drop 7), apartR (t.drop 7), true) else ([], [], false)
end Go.Pantry
namespace Go.Proofs.YthokpbpnecdgpaaGreatDoor
open Go.RowKit Go.Pantry

set_option maxRecDepth 100000 in
set_option maxHeartbeats 4000000 in
theorem ownHost_any (t : ByteArray) (w : World) (hs : t.size ≤ 100000) :
    Calls Tryz.prog 9 #[.string t] w fun e w' => e = .returned (.tuple #[strV (ownO t.data.toList).1, strV (ownO t.data.toList).2.1, .bool (ownO t.data.toList).2.2]) ∧ Below w.heap.size w w' := by
  by_cases h7 : t.size < 7
  · have hn : ownO t.data.toList = ([], [], false) := by
      unfold ownO ownL
      rw [if_neg]
      intro h
      have h1 : (lowerL (t.data.toList.take 7)).length = leadL.length := by rw [beq_iff_eq.1 h]
      unfold lowerL leadL at h1
      rw [List.length_map, List.length_take, size_list] at h1
      simp at h1; omega
    rw [hn]
    clear hn
    go_enter Tryz.func9, Tryz.ntmps9
    go_wp2
    go_ret3
    exact ⟨rfl, Below.refl _ _⟩
  · have h7' : 7 ≤ t.size := by omega
    obtain ⟨A, hA⟩ : ∃ A, t.extract 0 7 = A := ⟨_, rfl⟩
    obtain ⟨D, hD⟩ : ∃ D, t.extract 7 t.size = D := ⟨_, rfl⟩
    have hAl : A.data.toList = t.data.toList.take 7 := by
      rw [← hA, Lib.extract_eq]; simp
    have hDl : D.data.toList = t.data.toList.drop 7 := by
      rw [← hD, Lib.extract_eq, ← size_list]
      exact List.take_of_length_le (by rw [List.length_drop]; exact Nat.le_refl _)
    have hAs : A.size ≤ maxLen := by rw [← size_list, hAl, List.length_take]; unfold maxLen; omega
    have hDs : D.size ≤ 100000 := by rw [← size_list, hDl, List.length_drop, size_list]; omega
    have ca := fun W => Same_any A ⟨#[104, 116, 116, 112, 58, 47, 47]⟩ W hAs (by unfold maxLen; decide)
    have hq : (lowerL A.data.toList == lowerL (⟨#[104, 116, 116, 112, 58, 47, 47]⟩ : ByteArray).data.toList) = ownL t.data.toList := by
      rw [hAl]; rfl
    rw [hq] at ca
    have ci := fun W => indexAny_any D W (by omega)
    have hO : ownO t.data.toList = if ownL t.data.toList then (apartH D.data.toList, apartR D.data.toList, true) else ([], [], false) := by
      rw [hDl]; rfl
    rw [hO]
    obtain ⟨q, hqq⟩ : ∃ q, ownL t.data.toList = q := ⟨_, rfl⟩
    rw [hqq] at ca ⊢
    have CA := hid ca
    have CI := hid ci
    clear ca ci hO hq hqq hAl hDl hAs h7
    cases q
    · go_enter Tryz.func9, Tryz.ntmps9
      go_wp2_with (go_at_call 26; refine (CA.out _).mono ?_; rintro e w1 ⟨rfl, hb1⟩)
      go_ret3
      exact ⟨rfl, hb1⟩
    · show Calls Tryz.prog 9 #[.string t] w fun e w' => e = .returned (.tuple #[strV (apartH D.data.toList), strV (apartR D.data.toList), .bool true]) ∧ Below w.heap.size w w'
      obtain ⟨k, hk⟩ : ∃ k, (apartH D.data.toList).length = k := ⟨_, rfl⟩
      obtain ⟨a1, a2, a3⟩ := apart_len D.data.toList
      rw [hk] at a1 a2 a3
      rw [size_list] at a1
      obtain ⟨HB, hHB⟩ : ∃ HB, D.extract 0 k = HB := ⟨_, rfl⟩
      obtain ⟨RB, hRB⟩ : ∃ RB, D.extract k D.size = RB := ⟨_, rfl⟩
      have hHl : HB = ⟨(apartH D.data.toList).toArray⟩ := by
        rw [← hHB, Lib.extract_eq, a2]; simp
      have hRl : RB = ⟨(apartB D.data.toList).toArray⟩ := by
        rw [← hRB, Lib.extract_eq, a3, ← size_list]
        congr 2
        exact List.take_of_length_le (by rw [List.length_drop]; exact Nat.le_refl _)
      have hBl : (apartB D.data.toList).length ≤ 100000 := by rw [a3, List.length_drop, size_list]; omega
      have cp := fun W => Tryz.strings_HasPrefix RB ⟨#[47]⟩ W
      rw [show Lib.hasPrefix RB.data.toList (⟨#[47]⟩ : ByteArray).data.toList = ((apartB D.data.toList).head? == some 47) from by rw [hRl]; exact hasPrefix_slash _] at cp
      have hadd := fun W => run_string_add_lists (P := Tryz.prog) W [47] (apartB D.data.toList) (by simp) (by omega)
      have hRR : apartR D.data.toList = if ((apartB D.data.toList).head? == some 47) = true then apartB D.data.toList else 47 :: apartB D.data.toList := by
        unfold apartR
        by_cases h : (apartB D.data.toList).head? = some 47
        · rw [if_pos h, if_pos (by rw [h]; rfl)]
        · rw [if_neg h, if_neg (by simpa using h)]
      rw [hRR]
      have hz : (sqZ D.data.toList = -1 ∧ D.size = k) ∨ (sqZ D.data.toList = (k : Int)) := by
        unfold sqZ
        by_cases h : D.data.toList.any isSQ = true
        · right; rw [if_pos h, hk]
        · left
          rw [if_neg h]
          refine ⟨rfl, ?_⟩
          have := (apart_none (l := D.data.toList) (by unfold sqZ; rw [if_neg h])).1
          rw [← hk, this, size_list]
      obtain ⟨B, hB⟩ : ∃ B, apartB D.data.toList = B := ⟨_, rfl⟩
      obtain ⟨H, hH⟩ : ∃ H, apartH D.data.toList = H := ⟨_, rfl⟩
      obtain ⟨p, hp⟩ : ∃ p, (B.head? == some 47) = p := ⟨_, rfl⟩
      rw [hB, hp] at cp
      rw [hB] at hadd hRl hBl
      rw [hH] at hHl
      rw [hB, hH, hp]
      rw [← hRl] at hadd
      have hHv : (strV H : Value) = .string HB := by rw [hHl]
      have hRv : (strV B : Value) = .string RB := by rw [hRl]
      have CP := hid cp
      have HHV := hid hHv
      have HRV := hid hRv
      obtain ⟨z, hzz⟩ : ∃ z, sqZ D.data.toList = z := ⟨_, rfl⟩
      rw [hzz] at CI hz
      have hk1 : (k : Int) ≤ (D.size : Int) := by omega
      clear a2 a3 hk hRR cp hB hH hp hHl hRl hHv hRv hzz
      rcases hz with ⟨rfl, hz⟩ | rfl
      · subst hz
        obtain rfl : D = HB := by rw [← hHB]; simp
        obtain rfl : ByteArray.empty = RB := by rw [← hRB]; simp
        clear hHB hRB
        cases p
        all_goals
          go_enter Tryz.func9, Tryz.ntmps9
          go_wp2_with (first
            | (go_at_call 26; refine (CA.out _).mono ?_; rintro e w1 ⟨rfl, hb1⟩)
            | (go_at_call 27; refine (CI.out _).mono ?_; rintro e w2 ⟨rfl, hb2⟩))
          go_quiet (fail)
          have hb3 := below_drewN (Below.refl w2.heap.size w2) nq
          generalize w2.drewN nq = w3 at hb3 ⊢
          go_wp2_with (go_at_call 12; refine (CP.out _).mono ?_; rintro e w4 ⟨rfl, rfl⟩)
          go_ret3
          refine ⟨?_, chainP (chainP hb1 hb2) hb3⟩
          rw [HHV.out]
          first | rfl | (show _ = Ending.returned (.tuple #[_, strV B, _]); rw [HRV.out]; rfl)
      · cases p
        all_goals
          go_enter Tryz.func9, Tryz.ntmps9
          go_wp2_with (first
            | (go_at_call 26; refine (CA.out _).mono ?_; rintro e w1 ⟨rfl, hb1⟩)
            | (go_at_call 27; refine (CI.out _).mono ?_; rintro e w2 ⟨rfl, hb2⟩))
          go_quiet (fail)
          have hb3 := below_drewN (Below.refl w2.heap.size w2) nq
          generalize w2.drewN nq = w3 at hb3 ⊢
          go_wp2_with (go_at_call 12; refine (CP.out _).mono ?_; rintro e w4 ⟨rfl, rfl⟩)
          go_ret3
          refine ⟨?_, chainP (chainP hb1 hb2) hb3⟩
          rw [HHV.out]
          first | rfl | (show _ = Ending.returned (.tuple #[_, strV B, _]); rw [HRV.out]; rfl)
end Go.Proofs.YthokpbpnecdgpaaGreatDoor
