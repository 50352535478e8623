/-
  Several texts in one: RefSignA, RefSignTok, SignGr, SignA, SignTok, SignTr, FieldRF, FieldR, SignLw.
-/
import Derived.Test.YtdkhkeffheleeaaDoorProg
import Derived.Test.YtdkhkeffheleeaaDoorShelf
import Derived.Test.YtdkhkeffheleeaaDoorPureAll1
import Derived.Test.YtdkhkeffheleeaaDoorF1402
set_option linter.unusedVariables false
set_option linter.unusedSimpArgs false
/-
  Contracts of the document's answers of layer 1: Letter, Sign, Token, blank, Trim.
-/
namespace Go.Proofs.YtdkhkeffheleeaaDoor
open Go.RowKit Go.Pantry

theorem refblank_any (c : UInt8) (w : World) :
    Calls Tryd.prog 78 #[.int .u8 (c.toNat : Int)] w fun e w' => e = .returned (.bool (isBl c)) ∧ w = w' := by
  go_enter Tryd.func78, Tryd.ntmps78
  go_wp2
  all_goals go_ret
  all_goals exact ⟨ret_bool (by rw [Bool.eq_iff_iff]; simp [isBl]; omega), rfl⟩

theorem refTrim_any (s : ByteArray) (w : World) (hs : s.size ≤ maxLen) :
    Calls Tryd.prog 70 #[.string s] w fun e w' => e = .returned (.string ⟨(trimL s.data.toList).toArray⟩) ∧ w = w' := by
  unfold maxLen at hs
  go_enter Tryd.func70, Tryd.ntmps70
  go_wp2
  go_loop [3] (fun i => ∃ k : Nat, k ≤ s.size ∧ i = .int .i64 k ∧ ∀ (j : Nat) x, j < k → s.data.toList[j]? = some x → isBl x = true) (fun i => s.size - (intOf i).toNat)
  case atStart => exact ⟨0, Nat.zero_le _, rfl, fun j x hj => absurd hj (Nat.not_lt_zero _)⟩
  case round =>
    obtain ⟨k, hk, rfl, hall⟩ := hrel
    have HA := hid hall
    clear hall
    go_wp2_with (go_at_call 78; refine (refblank_any _ _).mono ?_; rintro e w' ⟨rfl, rfl⟩)
    · have h : isBl s[k] = true := by assumption
      go_round
      case rel => exact ⟨k + 1, by omega, by go_num, by
        intro j x hj hx
        by_cases e : j < k
        · exact HA.out j x e hx
        · obtain ⟨_, rfl⟩ := some_list s j x hx
          obtain rfl : j = k := by omega
          exact h⟩
      case measure => simp [intOf]; omega
    all_goals
      have HS : Hid (∀ x, s.data.toList[k]? = some x → isBl x = false) := by
        intro x hx
        obtain ⟨_, rfl⟩ := some_list s k x hx
        first | assumption | omega
      (try (rename isBl s[k] = false => h0; clear h0))
      go_loop [4] (fun i => ∃ m : Nat, k ≤ m ∧ m ≤ s.size ∧ i = .int .i64 m ∧ ∀ (j : Nat) x, m ≤ j → s.data.toList[j]? = some x → isBl x = true) (fun i => (intOf i).toNat - k)
      case atStart => exact ⟨s.size, by omega, Nat.le_refl _, rfl, fun j x hj hx => by obtain ⟨_, _⟩ := some_list s j x hx; omega⟩
      case round =>
        obtain ⟨m, hm1, hm2, rfl, hall⟩ := hrel
        have HB := hid hall
        clear hall
        go_wp2_with (go_at_call 78; refine (refblank_any _ _).mono ?_; rintro e w' ⟨rfl, rfl⟩)
        all_goals first
          | (have h : isBl s[m - 1] = true := by assumption
             go_round
             case rel => exact ⟨m - 1, by omega, by omega, by go_num, fun j x hj hx => by
               by_cases e : m ≤ j
               · exact HB.out j x e hx
               · obtain ⟨_, rfl⟩ := some_list s j x hx
                 obtain rfl : j = m - 1 := by omega
                 exact h⟩
             case measure => simp [intOf]; omega)
          | (go_ret
             refine ⟨ret_str ?_, rfl⟩
             rw [Lib.extract_eq, trim_of _ k m hm1 (by rw [size_list]; exact hm2) HA.out HB.out (fun _ => HS.out) (fun _ x hx => by
               obtain ⟨_, rfl⟩ := some_list s (m - 1) x hx
               first | assumption | omega)])
end Go.Proofs.YtdkhkeffheleeaaDoor
/-
  The document's answers of layer 1: Letter, Sign, Token.
-/
namespace Go.Proofs.YtdkhkeffheleeaaDoor
open Go.RowKit Go.Pantry

theorem refLetter_any (c : UInt8) (w : World) :
    Calls Tryd.prog 77 #[.int .u8 (c.toNat : Int)] w fun e w' => e = .returned (.bool (isLow c || isUp c || isDig c)) ∧ w = w' := by
  go_enter Tryd.func77, Tryd.ntmps77
  go_wp2
  all_goals go_ret
  all_goals exact ⟨ret_bool (by rw [Bool.eq_iff_iff]; simp [isLow, isUp, isDig]; omega), rfl⟩

theorem refSign_any (c : UInt8) (w : World) :
    Calls Tryd.prog 69 #[.int .u8 (c.toNat : Int)] w fun e w' => e = .returned (.bool (isTok c)) ∧ w = w' := by
  go_enter Tryd.func69, Tryd.ntmps69
  go_wp2_with (go_at_call 77; refine (refLetter_any _ _).mono ?_; rintro e w' ⟨rfl, rfl⟩)
  all_goals go_ret
  all_goals exact ⟨ret_bool (by simp only [beq_iff_eq, beq_eq_false_iff_ne] at *; rw [Bool.eq_iff_iff, isTok_of, marks_int]; simp [isLow, isUp, isDig]; omega), rfl⟩

theorem refToken_any (s : ByteArray) (w : World) (hs : s.size ≤ maxLen) :
    Calls Tryd.prog 55 #[.string s] w fun e w' => e = .returned (.bool (tokenL s.data.toList)) ∧ w = w' := by
  unfold maxLen at hs
  go_enter Tryd.func55, Tryd.ntmps55
  go_wp2
  go_loop [3] (fun i => ∃ k : Nat, k ≤ s.size ∧ i = .int .i64 k ∧ (s.data.toList.take k).all isTok = true) (fun i => s.size - (intOf i).toNat)
  case atStart => exact ⟨0, Nat.zero_le _, rfl, rfl⟩
  case round =>
    obtain ⟨k, hk, rfl, hall⟩ := hrel
    have HA := hid hall
    clear hall
    by_cases hlt : k < s.size
    · go_wp2_with (go_at_call 69; refine (refSign_any _ _).mono ?_; rintro e w' ⟨rfl, rfl⟩)
      · go_ret
        have h : isTok s[k] = false := by simpa using (by assumption : (!isTok s[k]) = true)
        exact ⟨ret_bool (tokenL_no s k hlt h).symm, rfl⟩
      · have h : isTok s[k] = true := by simpa using (by assumption : (!isTok s[k]) = false)
        go_round
        case rel => exact ⟨k + 1, by omega, by go_num, by rw [take_succ_list s k hlt, List.all_append, HA.out]; simp [h]⟩
        case measure => simp [intOf]; omega
    · go_wp2
      go_ret
      refine ⟨ret_bool ?_, rfl⟩
      have e : s.data.toList.all isTok = true := by rw [← take_all s k hlt]; exact HA.out
      rw [tokenL, e, Bool.true_and, not_isEmpty_int]; simp
end Go.Proofs.YtdkhkeffheleeaaDoor
/-
  Contracts of the leaves of package sign: great.
-/
namespace Go.Proofs.YtdkhkeffheleeaaDoor
open Go.RowKit Go.Pantry

theorem great_any (c : UInt8) (w : World) :
    Calls Tryd.prog 74 #[.int .u8 (c.toNat : Int)] w fun e w' => e = .returned (.bool (isUp c)) ∧ w = w' := by
  rw [← isUp_int]
  go_enter Tryd.func74, Tryd.ntmps74
  go_wp2
  all_goals go_ret
  all_goals exact ⟨ret_bool (by simp; try omega), rfl⟩

end Go.Proofs.YtdkhkeffheleeaaDoor
/-
  Contracts of the leaves of package sign: digit.
-/
namespace Go.Proofs.YtdkhkeffheleeaaDoor
open Go.RowKit Go.Pantry

theorem digit_any (c : UInt8) (w : World) :
    Calls Tryd.prog 79 #[.int .u8 (c.toNat : Int)] w fun e w' => e = .returned (.bool (isDig c)) ∧ w = w' := by
  rw [← isDig_int]
  go_enter Tryd.func79, Tryd.ntmps79
  go_wp2
  all_goals go_ret
  all_goals exact ⟨ret_bool (by simp; try omega), rfl⟩

end Go.Proofs.YtdkhkeffheleeaaDoor
/-
  Contracts of package sign: tokenSign, Token.
-/
namespace Go.Proofs.YtdkhkeffheleeaaDoor
open Go.RowKit Go.Pantry

theorem marks_any (c : UInt8) (w : World) :
    Calls Tryd.prog 80 #[.string ⟨#[33, 35, 36, 37, 38, 39, 42, 43, 45, 46, 94, 95, 124, 96, 126]⟩, .int .u8 (c.toNat : Int)] w fun e w' => ∃ n : Int, e = .returned (.int .i64 n) ∧ Hid (decide (0 ≤ n) = marks.contains c) ∧ w = w' := by
  refine (Tryd.strings_IndexByte _ _ _).mono ?_
  rintro e w' ⟨rfl, rfl⟩
  refine ⟨_, rfl, ?_, rfl⟩
  have e : (c.toNat : Int).toNat.toUInt8 = c := by simp
  rw [e]
  exact indexByte_nonneg marks c

theorem tokenSign_any (c : UInt8) (w : World) :
    Calls Tryd.prog 73 #[.int .u8 (c.toNat : Int)] w fun e w' => e = .returned (.bool (isTok c)) ∧ w = w' := by
  go_enter Tryd.func73, Tryd.ntmps73
  go_wp2_with (first
    | (go_at_call 74; refine (great_any _ _).mono ?_; rintro e w' ⟨rfl, rfl⟩)
    | (go_at_call 79; refine (digit_any _ _).mono ?_; rintro e w' ⟨rfl, rfl⟩)
    | (go_at_call 80; refine (marks_any _ _).mono ?_; rintro e w' ⟨n, rfl, hn, rfl⟩))
  all_goals go_ret
  all_goals refine ⟨ret_bool ?_, rfl⟩
  all_goals rw [isTok_of]
  · rw [isLow_yes (by assumption) (by assumption)]; rfl
  · simp_all
  · simp_all
  · simp_all
  · rw [isLow_no2 (by assumption), hn.out]; simp_all
  · simp_all
  · simp_all
  · simp_all
  · rw [isLow_no1 (by assumption), hn.out]; simp_all

theorem Token_any (s : ByteArray) (w : World) (hs : s.size ≤ maxLen) :
    Calls Tryd.prog 66 #[.string s] w fun e w' => e = .returned (.bool (tokenL s.data.toList)) ∧ w = w' := by
  unfold maxLen at hs
  go_enter Tryd.func66, Tryd.ntmps66
  go_wp2
  go_loop [3] (fun i => ∃ k : Nat, k ≤ s.size ∧ i = .int .i64 k ∧ (s.data.toList.take k).all isTok = true) (fun i => s.size - (intOf i).toNat)
  case atStart => exact ⟨0, Nat.zero_le _, rfl, rfl⟩
  case round =>
    obtain ⟨k, hk, rfl, hall⟩ := hrel
    have HA := hid hall
    clear hall
    by_cases hlt : k < s.size
    · go_wp2_with (go_at_call 73; refine (tokenSign_any _ _).mono ?_; rintro e w' ⟨rfl, rfl⟩)
      · go_ret
        have h : isTok s[k] = false := by simpa using (by assumption : (!isTok s[k]) = true)
        exact ⟨ret_bool (tokenL_no s k hlt h).symm, rfl⟩
      · have h : isTok s[k] = true := by simpa using (by assumption : (!isTok s[k]) = false)
        go_round
        case rel => exact ⟨k + 1, by omega, by go_num, by rw [take_succ_list s k hlt, List.all_append, HA.out]; simp [h]⟩
        case measure => simp [intOf]; omega
    · go_wp2
      go_ret
      exact ⟨ret_bool (by rw [tokenL, Lib.toList_data, ← take_all s k hlt, HA.out]; simp), rfl⟩
end Go.Proofs.YtdkhkeffheleeaaDoor
/-
  Contracts of package sign: Trim.
-/
namespace Go.Proofs.YtdkhkeffheleeaaDoor
open Go.RowKit Go.Pantry


theorem Trim_any (s : ByteArray) (w : World) (hs : s.size ≤ maxLen) :
    Calls Tryd.prog 75 #[.string s] w fun e w' => e = .returned (.string ⟨(trimL s.data.toList).toArray⟩) ∧ Below w.heap.size w w' := by
  unfold maxLen at hs
  go_enter Tryd.func75, Tryd.ntmps75
  go_wp2_with (go_at_call 81; refine (Tryd.strings_Trim s ⟨#[32, 9]⟩ _ (by omega) (by decide) (ascii_of_all (by decide))).mono ?_; rintro e w' ⟨rfl, hb⟩)
  go_ret
  exact ⟨rfl, hb⟩

end Go.Proofs.YtdkhkeffheleeaaDoor
/-
  Contracts of package field: valueByte, rightValue, Right of a field and of fields.
-/
namespace Go.Proofs.YtdkhkeffheleeaaDoor
open Go.RowKit Go.Pantry

theorem valueByte_any (c : UInt8) (w : World) :
    Calls Tryd.prog 76 #[.int .u8 (c.toNat : Int)] w fun e w' => e = .returned (.bool (okV c)) ∧ w = w' := by
  rw [okV_int]
  go_enter Tryd.func76, Tryd.ntmps76
  go_wp2
  all_goals go_ret
  all_goals exact ⟨ret_bool (by rw [Bool.eq_iff_iff]; simp_all; try omega), rfl⟩

theorem rightValue_any (s : ByteArray) (w : World) (hs : s.size ≤ maxLen) :
    Calls Tryd.prog 68 #[.string s] w fun e w' => e = .returned (.bool (decide (s.size ≤ 1024) && (trimL s.data.toList == s.data.toList) && s.data.toList.all okV)) ∧ Below w.heap.size w w' := by
  have c2 := fun W => Trim_any s W hs
  have C2 := hid c2
  clear c2
  unfold maxLen at hs
  by_cases h1 : (1024 : Int) < (s.size : Int)
  · have hno : decide (s.size ≤ 1024) = false := decide_eq_false (by omega)
    rw [hno]
    clear hno
    go_enter Tryd.func68, Tryd.ntmps68
    go_wp2_with fail
    go_ret
    exact ⟨rfl, Below.refl _ _⟩
  · have hyes : decide (s.size ≤ 1024) = true := decide_eq_true (by omega)
    rw [hyes]
    have h1' : (s.size : Int) ≤ 1024 := by omega
    clear hyes h1
    obtain ⟨T, hT⟩ : ∃ T, trimL s.data.toList = T := ⟨_, rfl⟩
    rw [hT] at C2 ⊢
    clear hT
    cases hq : (T == s.data.toList)
    · have e1 : (T == s.toList) = false := by rw [Lib.toList_data]; exact hq
      have e2 : (T != s.toList) = true := by rw [bne, e1]; rfl
      clear hq
      go_enter Tryd.func68, Tryd.ntmps68
      go_wp2_with fail
      refine (C2.out _).mono ?_
      rintro e w1 ⟨rfl, hb1⟩
      go_wp2_with fail
      go_ret
      exact ⟨rfl, hb1⟩
    · have e1 : (T == s.toList) = true := by rw [Lib.toList_data]; exact hq
      have e2 : (T != s.toList) = false := by rw [bne, e1]; rfl
      obtain ⟨r, hr⟩ : ∃ r, s.data.toList.all okV = r := ⟨_, rfl⟩
      rw [hr]
      have HRR := hid hr
      clear hq hr
      simp only [Bool.true_and]
      go_enter Tryd.func68, Tryd.ntmps68
      go_wp2_with fail
      refine (C2.out _).mono ?_
      rintro e w1 ⟨rfl, hb1⟩
      go_wp2_with fail
      clear e1 e2
      go_loop [3] (fun i => ∃ k : Nat, k ≤ s.size ∧ i = .int .i64 k ∧ (s.data.toList.take k).all okV = true) (fun i => s.size - (intOf i).toNat)
      case atStart => exact ⟨0, Nat.zero_le _, rfl, rfl⟩
      case round =>
        obtain ⟨k, hk, rfl, hall⟩ := hrel
        have HA := hid hall
        clear hall
        by_cases hlt : k < s.size
        · have cv := fun W => valueByte_any s[k] W
          obtain ⟨q, hq⟩ : ∃ q, okV s[k] = q := ⟨_, rfl⟩
          rw [hq] at cv
          have CV := hid cv
          have HQ := hid hq
          clear cv hq
          cases q
          · have hno : r = false := by
              rw [← HRR.out]
              exact List.all_eq_false.2 ⟨s[k], by have := List.getElem_mem (l := s.data.toList) (n := k) (by rw [size_list]; exact hlt); exact this, by rw [HQ.out]; simp⟩
            subst hno
            go_wp2_with (go_at_call 76; refine (CV.out _).mono ?_; rintro e w' ⟨rfl, rfl⟩)
            go_ret
            exact ⟨rfl, hb1⟩
          · go_wp2_with (go_at_call 76; refine (CV.out _).mono ?_; rintro e w' ⟨rfl, rfl⟩)
            go_round
            case rel => exact ⟨k + 1, hlt, by go_num, by rw [take_succ_list s k hlt, List.all_append, HA.out]; simp [HQ.out]⟩
            case measure => simp [intOf]; omega
        · have hke := take_all s k hlt
          have hyes : r = true := by rw [← HRR.out, ← hke]; exact HA.out
          subst hyes
          clear hke
          go_wp2_with fail
          go_ret
          exact ⟨rfl, hb1⟩
theorem fRight_any (f : Fld) (w : World) (h : f.1.length ≤ 100000 ∧ f.2.length ≤ 100000) :
    Calls Tryd.prog 54 #[fldV f] w fun e w' => e = .returned (.bool (rightF f)) ∧ Below w.heap.size w w' := by
  obtain ⟨a, b⟩ := f
  obtain ⟨h1, h2⟩ := h
  simp only at h1 h2
  have hrf : rightF (a, b) = (tokenL a && decide (a.length ≤ 64) && (decide (b.length ≤ 1024) && (trimL b == b) && b.all okV)) := by
    unfold rightF
    simp only [Bool.and_assoc]
  obtain ⟨r, hr⟩ : ∃ r, rightF (a, b) = r := ⟨_, rfl⟩
  rw [hr] at hrf ⊢
  have c1 := fun W => Token_any ⟨a.toArray⟩ W (by rw [szL]; unfold maxLen; omega)
  have c2 := fun W => rightValue_any ⟨b.toArray⟩ W (by rw [szL]; unfold maxLen; omega)
  rw [dtL] at c1 c2
  rw [szL] at c2
  generalize (decide (b.length ≤ 1024) && (trimL b == b) && b.all okV) = v at hrf c2
  have C1 := hid c1
  have C2 := hid c2
  have hsz : (⟨a.toArray⟩ : ByteArray).size = a.length := szL a
  have HF := hid hrf
  clear c1 c2 hr hrf
  have hsI : (((⟨a.toArray⟩ : ByteArray).size : Nat) : Int) = (a.length : Int) := by rw [hsz]
  by_cases h64 : (a.length : Int) ≤ 64
  · obtain ⟨t, ht⟩ : ∃ t, tokenL a = t := ⟨_, rfl⟩
    rw [ht] at C1 HF
    have HF' : Hid (r = (t && v)) := by have h := HF.out; rw [decide_eq_true (by omega)] at h; simpa using hid h
    clear HF ht
    cases t
    · obtain rfl : r = false := HF'.out
      go_enter Tryd.func54, Tryd.ntmps54
      go_wp2_with fail
      refine (C1.out _).mono ?_
      rintro e w1 ⟨rfl, rfl⟩
      go_wp2_with fail
      go_ret
      exact ⟨rfl, below_alloc _ _⟩
    · obtain rfl : r = v := HF'.out
      go_enter Tryd.func54, Tryd.ntmps54
      go_wp2_with fail
      refine (C1.out _).mono ?_
      rintro e w1 ⟨rfl, rfl⟩
      go_wp2_with fail
      refine (C2.out _).mono ?_
      rintro e w2 ⟨rfl, hb⟩
      go_wp2_with fail
      go_ret
      exact ⟨rfl, (below_alloc _ _).trans (hb.mono (by simp))⟩
  · obtain rfl : r = false := by have h := HF.out; rw [decide_eq_false (by omega)] at h; simpa using h
    clear HF
    go_enter Tryd.func54, Tryd.ntmps54
    go_wp2_with fail
    go_ret
    exact ⟨rfl, below_alloc _ _⟩
end Go.Proofs.YtdkhkeffheleeaaDoor
/-
  Contract of package field: Right of fields.
-/
namespace Go.Proofs.YtdkhkeffheleeaaDoor
open Go.RowKit Go.Pantry

theorem lRight_wide (v : Value) (L : List Fld) (w : World) (hr : Reads2 w v L) (hv : ∀ f ∈ L, f.1.length ≤ 100000 ∧ f.2.length ≤ 100000) :
    Calls Tryd.prog 30 #[v] w fun e w' => e = .returned (.bool (rightFs L)) ∧ Below w.heap.size w w' := by
  obtain ⟨ao, cap, rfl⟩ := hr.form
  have HR := hid hr
  have HV := hid hv
  have hrf : rightFs L = (decide (L.length ≤ 64) && L.all rightF) := rfl
  obtain ⟨r, hrr⟩ : ∃ r, rightFs L = r := ⟨_, rfl⟩
  rw [hrr] at hrf ⊢
  have HF := hid hrf
  clear hr hv hrr hrf
  by_cases h64 : (64 : Int) < (L.length : Int)
  · have hno : r = false := by rw [HF.out, decide_eq_false (by omega)]; rfl
    subst hno
    go_enter Tryd.func30, Tryd.ntmps30
    go_wp2
    go_ret
    exact ⟨rfl, Below.refl _ _⟩
  · have h64' : (L.length : Int) ≤ 64 := by omega
    have hall : r = L.all rightF := by rw [HF.out, decide_eq_true (by omega)]; rfl
    have HA := hid hall
    clear h64 hall
    go_enter Tryd.func30, Tryd.ntmps30
    go_wp2
    go_loopw [10] (fun i wr => ∃ (k : Nat), k ≤ L.length ∧ i = .int .i64 k ∧ (L.take k).all rightF = true ∧ Below w.heap.size w wr) (fun i _ => L.length - (intOf i).toNat)
    case atStart => exact ⟨0, Nat.zero_le _, rfl, rfl, Below.refl _ _⟩
    case round =>
      obtain ⟨k, hk, rfl, hak, hb⟩ := hrel
      have HK := hid hak
      clear hak
      by_cases hlt : k < L.length
      · obtain ⟨f, hf⟩ : ∃ f, L[k]? = some f := ⟨_, List.getElem?_eq_getElem hlt⟩
        obtain ⟨b, off, rfl, hc1, hc2⟩ := (HR.out.below hb).fld hf
        have hfv := HV.out f (List.mem_of_getElem? hf)
        have HM := hid (List.mem_of_getElem? hf)
        have HT := hid (take_fld hf)
        clear hf
        have cI := fun W => fRight_any f W hfv
        obtain ⟨q, hq⟩ : ∃ q, rightF f = q := ⟨_, rfl⟩
        rw [hq] at cI
        have CI := hid cI
        have HQ := hid hq
        clear cI hq hfv
        obtain ⟨W, hW, hbW, -, -, -⟩ := box2 wr f 53
        replace hb := chain2 hb hb.size hbW
        clear hbW
        cases q
        · have hno : r = false := by rw [HA.out]; exact List.all_eq_false.2 ⟨f, HM.out, by rw [HQ.out]; simp⟩
          subst hno
          go_wp2_with fail
          rw [← hW]
          clear hW
          refine (CI.out _).mono ?_
          rintro e w2 ⟨rfl, hb2⟩
          go_wp2_with fail
          go_ret
          exact ⟨rfl, chain2 hb hb.size hb2⟩
        · go_wp2_with fail
          rw [← hW]
          clear hW
          refine (CI.out _).mono ?_
          rintro e w2 ⟨rfl, hb2⟩
          go_wp2_with fail
          go_roundw
          case rel => exact ⟨k + 1, hlt, by go_num, by rw [HT.out, List.all_append, HK.out]; simp [HQ.out], chain2 hb hb.size hb2⟩
          case measure => simp [intOf]; omega
      · have hyes : r = true := by rw [HA.out, ← List.take_of_length_le (show L.length ≤ k by omega)]; exact HK.out
        subst hyes
        go_wp2
        go_ret
        exact ⟨rfl, hb⟩
theorem lRight_any (v : Value) (L : List Fld) (w : World) (hr : Reads2 w v L) (hk : okFs L) :
    Calls Tryd.prog 30 #[v] w fun e w' => e = .returned (.bool (rightFs L)) ∧ Below w.heap.size w w' := lRight_wide v L w hr hk.2
end Go.Proofs.YtdkhkeffheleeaaDoor
/-
  Contract of package sign: Lower.
-/
namespace Go.Proofs.YtdkhkeffheleeaaDoor
open Go.RowKit Go.Pantry

theorem Lower_any (s : ByteArray) (w : World) (hs : s.size ≤ maxLen) :
    Calls Tryd.prog 67 #[.string s] w fun e w' => e = .returned (.string ⟨(lowerL s.data.toList).toArray⟩) ∧ Below w.heap.size w w' := by
  unfold maxLen at hs
  have hcv := fun w' => run_bytes_of_string (P := Tryd.prog) w' 9 25 5 s Tryd.underlying9 Tryd.underlying25 Tryd.underlying5
  go_enter Tryd.func67, Tryd.ntmps67
  go_wp2
  clear hcv
  go_loopw [10] (fun i wr => ∃ k : Nat, k ≤ s.size ∧ i = .int .i64 k ∧ bytesAt wr w.heap.size (lowerL (s.data.toList.take k) ++ s.data.toList.drop k) ∧ Below w.heap.size w wr ∧ w.heap.size < wr.heap.size) (fun i _ => s.size - (intOf i).toNat)
  case atStart => exact ⟨0, Nat.zero_le _, rfl, bytesAt_row w s _ _, ((Below.refl _ _).alloc (Nat.le_refl _) _).drew, by simp⟩
  case round =>
    obtain ⟨k, hk, rfl, hby, hb, hsz⟩ := hrel
    have HY := hid hby
    clear hby
    by_cases hlt : k < s.size
    · have hcell : wr.cell? ⟨w.heap.size, k, none⟩ = some (.int .u8 (s[k].toNat : Int)) := HY.out.cell k _ (lower_mid s k hlt)
      have hfree : wr.frozen? ⟨w.heap.size, k, none⟩ = false := HY.out.free k (lower_len s k hlt)
      go_wp2_with (go_at_call 74; refine (great_any _ _).mono ?_; rintro e w' ⟨rfl, rfl⟩)
      · have hu : isUp s[k] = true := by assumption
        go_roundw
        case rel =>
          refine ⟨k + 1, by omega, by go_num, ?_, hb.setCell (by simp) _, by simpa [World.setCell] using hsz⟩
          rw [low_int hu, ← lower_step s k hlt]
          exact HY.out.set k (lower_len s k hlt) _
        case measure => simp [intOf]; omega
      · have hu : isUp s[k] = false := by assumption
        go_roundw
        case rel => exact ⟨k + 1, by omega, by go_num, by rw [← lower_same s k hlt hu]; exact HY.out, hb, hsz⟩
        case measure => simp [intOf]; omega
    · have hback := HY.out.back 25 9 5 s.size (grownCap w s.size 0 5) (by simp [lowerL]; omega) Tryd.underlying25 Tryd.underlying5 Tryd.underlying9
      go_wp2
      go_ret
      refine ⟨ret_str ?_, hb⟩
      rw [take_all s k hlt, drop_nil s k hlt, List.append_nil]
end Go.Proofs.YtdkhkeffheleeaaDoor
