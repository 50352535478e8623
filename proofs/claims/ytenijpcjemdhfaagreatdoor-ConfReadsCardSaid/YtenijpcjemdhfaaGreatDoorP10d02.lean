/-
  Several texts in one: ConfA, ConfB, ConfC, ConfD.
-/
import Derived.Test.YtenijpcjemdhfaaGreatDoorPureAll3
import Derived.Test.YtenijpcjemdhfaaGreatDoorP10dPlaceG
import Derived.Lib.SlTrimSet
import Derived.Deep.QuietTactic
import Derived.BigQuiet
/-
  Contracts of package conf: behindGap, firstWord.
-/
namespace Go.Pantry
open Go.RowKit
theorem gaps_contains (c : UInt8) : ([32, 9, 10] : List UInt8).contains c = isGap c := by
  have h := byte_all (p := fun c => ([32, 9, 10] : List UInt8).contains c == isGap c) (by decide +kernel) c
  exact beq_iff_eq.1 h
theorem ends_contains (c : UInt8) : ([32, 9, 10, 123, 125, 59] : List UInt8).contains c = (isGap c || isMark c) := by
  have h := byte_all (p := fun c => ([32, 9, 10, 123, 125, 59] : List UInt8).contains c == (isGap c || isMark c)) (by decide +kernel) c
  exact beq_iff_eq.1 h
theorem marks_contains (c : UInt8) : ([123, 125, 59] : List UInt8).contains c = isMark c := by
  have h := byte_all (p := fun c => ([123, 125, 59] : List UInt8).contains c == isMark c) (by decide +kernel) c
  exact beq_iff_eq.1 h
theorem skip_drop : ∀ s : List UInt8, skipL false (s.dropWhile isGap) = skipL false s
  | [] => rfl
  | c :: r => by
    by_cases h : isGap c = true
    · rw [List.dropWhile_cons_of_pos h, skip_drop r]
      show _ = skipL false (c :: r)
      rw [skipL, if_pos h]
    · rw [List.dropWhile_cons_of_neg h]
theorem skip_beh : ∀ s : List UInt8, skipL true s = skipL false (beh 10 s)
  | [] => rfl
  | c :: r => by
    by_cases h : c = 10
    · subst h
      rw [skipL, if_pos (by decide)]
      unfold beh
      rw [List.dropWhile_cons_of_neg (by simp)]; rfl
    · rw [skipL, if_neg (by simpa using h), skip_beh r]
      unfold beh
      rw [List.dropWhile_cons_of_pos (by simpa using h)]
theorem drop_gap (s : List UInt8) : (s.dropWhile isGap).dropWhile isGap = s.dropWhile isGap := by
  induction s with
  | nil => rfl
  | cons c r ih =>
    by_cases h : isGap c = true
    · rw [List.dropWhile_cons_of_pos h]; exact ih
    · rw [List.dropWhile_cons_of_neg h, List.dropWhile_cons_of_neg h]
theorem drop_gap_len (s : List UInt8) : (s.dropWhile isGap).length ≤ s.length := (List.dropWhile_sublist _).length_le
theorem rem_yes {s : List UInt8} (h : remB s = true) : ∃ r, s = 47 :: 47 :: r := by
  unfold remB at h
  match s with
  | [] => simp [List.isPrefixOf] at h
  | [c] => simp [List.isPrefixOf] at h
  | c :: d :: r =>
    simp [List.isPrefixOf] at h
    exact ⟨r, by rw [← h.1, ← h.2]⟩
theorem skip_rem {s : List UInt8} (h : remB s = true) : skipL false s = skipL false ((beh 10 s).dropWhile isGap) := by
  rw [skip_drop]
  obtain ⟨r, rfl⟩ := rem_yes h
  rw [skipL, if_neg (by decide), if_pos h, ← skip_beh]
  rfl
theorem skip_stay {s : List UInt8} (h : s.dropWhile isGap = s) (h2 : remB s = false) : skipL false s = s := by
  cases s with
  | nil => rfl
  | cons c r =>
    have hc : ¬ isGap c = true := by
      intro hg
      rw [List.dropWhile_cons_of_pos hg] at h
      have := drop_gap_len r
      rw [h, List.length_cons] at this; omega
    rw [skipL, if_neg hc, if_neg (by rw [h2]; decide)]
theorem beh_less {s : List UInt8} (h : remB s = true) : (beh 10 s).length < s.length := by
  obtain ⟨r, rfl⟩ := rem_yes h
  unfold beh
  have : (((47 :: 47 :: r : List UInt8).dropWhile (· != 10))).length ≤ (47 :: 47 :: r : List UInt8).length := (List.dropWhile_sublist _).length_le
  rw [List.length_tail]
  simp only [List.length_cons] at this ⊢
  omega
/-- a text's length -/
def lenV : Value → Nat
  | .string b => b.size
  | _ => 0
theorem lenV_str (l : List UInt8) : lenV (strV l) = l.length := by show (⟨l.toArray⟩ : ByteArray).size = _; rw [Lib.size_eq]
/-- where a word ends: at the text's end, or at what parts words -/
def endsL (s : List UInt8) (i : Nat) : Bool := match s.drop i with
  | [] => true
  | c :: r => isGap c || isMark c || remB (c :: r)
theorem run_at : ∀ (s : List UInt8) (i : Nat), (∀ j, j < i → endsL s j = false) → endsL s i = true → i ≤ s.length → runL s = s.take i
  | [], i, _, _, hi => by
    have : i = 0 := by simpa using hi
    subst this; rfl
  | c :: r, 0, _, h, _ => by
    unfold endsL at h
    simp only [List.drop_zero] at h
    rw [runL, if_pos h]; rfl
  | c :: r, i + 1, hj, h, hi => by
    have h0 := hj 0 (by omega)
    unfold endsL at h0
    simp only [List.drop_zero] at h0
    rw [runL, if_neg (by rw [h0]; decide), run_at r i (fun j hji => hj (j + 1) (by omega)) h (by simpa using hi)]
    rfl
end Go.Pantry
namespace Go.Proofs.YtenijpcjemdhfaaGreatDoor
open Go.RowKit Go.Pantry

theorem trimGap_any (l : List UInt8) (w : World) :
    Calls Tryz.prog 69 #[strV l, .string ⟨#[32, 9, 10]⟩] w fun e w' => e = .returned (strV (l.dropWhile isGap)) ∧ Below w.heap.size w w' := by
  have c := Tryz.strings_TrimLeft ⟨l.toArray⟩ ⟨#[32, 9, 10]⟩ w (by decide) (by
    intro j b h
    match j with
    | 0 => cases h; decide
    | 1 => cases h; decide
    | 2 => cases h; decide
    | j + 3 => cases h)
  unfold Lib.trimLeftS at c
  rw [dtL, show (fun x => ((⟨#[32, 9, 10]⟩ : ByteArray).data.toList).contains x) = isGap from funext gaps_contains] at c
  exact c
theorem remark_any (l : List UInt8) (w : World) :
    Calls Tryz.prog 70 #[strV l, .string ⟨#[47, 47]⟩] w fun e w' => e = .returned (.bool (remB l)) ∧ w = w' := by
  have c := Tryz.strings_HasPrefix ⟨l.toArray⟩ ⟨#[47, 47]⟩ w
  rw [dtL] at c
  exact c.mono fun e w' h => ⟨h.1, h.2.symm⟩
set_option maxRecDepth 4000 in
theorem behindGap_any (s : List UInt8) (w : World) (hs : s.length ≤ 100000) (hm : MaxOk w) :
    Calls Tryz.prog 50 #[strV s] w fun e w' => e = .returned (strV (skipL false s)) ∧ Below w.heap.size w w' := by
  have HM := hid hm
  clear hm
  go_enter Tryz.func50, Tryz.ntmps50
  go_wp2_with (go_at_call 69; refine (trimGap_any s _).mono ?_; rintro e w1 ⟨rfl, hb1⟩)
  go_loopw [0] (fun v wr => ∃ l, v = strV l ∧ l.length ≤ 100000 ∧ l.dropWhile isGap = l ∧ skipL false l = skipL false s ∧ Below w.heap.size w wr) (fun v _ => lenV v)
  case atStart => exact ⟨_, rfl, Nat.le_trans (drop_gap_len s) hs, drop_gap s, skip_drop s, hb1⟩
  case round =>
    obtain ⟨l, rfl, hl, hd, hsk, hb⟩ := hrel
    have HF := hid (And.intro hl (And.intro hd (And.intro hsk hb)))
    have cr := remark_any l wr
    obtain ⟨q, hq⟩ : ∃ q, remB l = q := ⟨_, rfl⟩
    rw [hq] at cr
    have CR := hid cr
    have HQ := hid hq
    have cc := cut_any 10 l wr (HM.out.below hb) (by omega)
    obtain ⟨r, hr⟩ : ∃ r, beh 10 l = r := ⟨_, rfl⟩
    obtain ⟨a, ha⟩ : ∃ a, bef 10 l = a := ⟨_, rfl⟩
    obtain ⟨x, hx⟩ : ∃ x, hasB 10 l = x := ⟨_, rfl⟩
    rw [hr, ha, hx] at cc
    have CC := hid cc
    have HR := hid hr
    clear hl hd hsk hb cr hq cc hr ha hx
    cases q
    · go_wp2_with (first | (go_at_call 70; refine CR.out.mono ?_; rintro e w2 ⟨rfl, rfl⟩))
      go_ret
      obtain ⟨hl, hd, hsk, hb⟩ := HF.out
      rw [← hsk, skip_stay hd HQ.out]
      exact ⟨rfl, hb⟩
    · go_wp2_with (first | (go_at_call 70; refine CR.out.mono ?_; rintro e w2 ⟨rfl, rfl⟩) | (go_at_call 71; refine CC.out.mono ?_; rintro e w3 ⟨rfl, hb3⟩) | (go_at_call 69; refine (trimGap_any r _).mono ?_; rintro e w4 ⟨rfl, hb4⟩))
      obtain ⟨hl, hd, hsk, hb⟩ := HF.out
      have hlt := beh_less HQ.out
      rw [HR.out] at hlt
      have hle := drop_gap_len r
      go_roundw
      case rel =>
        refine ⟨_, rfl, by omega, drop_gap _, ?_, chainP hb (chainP hb3 hb4)⟩
        rw [← hsk, skip_rem HQ.out, HR.out]
      case measure =>
        rw [lenV_str, lenV_str]; omega
end Go.Proofs.YtenijpcjemdhfaaGreatDoor
/-
  Contracts of package conf: firstWord and its closure.
-/
namespace Go.Proofs.YtenijpcjemdhfaaGreatDoor
open Go.RowKit Go.Pantry

theorem indexIn_any (p : List UInt8) (c : UInt8) (w : World) :
    Calls Tryz.prog 73 #[strV p, byteV c] w fun e w' => e = .returned (.int .i64 (Lib.indexByte p c)) ∧ w = w' := by
  have h := Tryz.strings_IndexByte ⟨p.toArray⟩ (c.toNat : Int) w
  rw [dtL, show ((c.toNat : Int)).toNat.toUInt8 = c by simp] at h
  exact h.mono fun e w' h => ⟨h.1, h.2.symm⟩
set_option maxRecDepth 4000 in
theorem ends_any (s : ByteArray) (i g : Nat) (w : World) (hs : s.size ≤ 100000) (hi : i ≤ s.size) (hg : w.cell? ⟨g, 0, none⟩ = some (.string s)) :
    Calls Tryz.prog 72 #[.int .i64 (i : Int), .pointer (some ⟨g, 0, none⟩)] w fun e w' => e = .returned (.bool (endsL s.data.toList i)) ∧ w = w' := by
  by_cases h : i = s.size
  · have e : endsL s.data.toList i = true := by
      unfold endsL
      rw [drop_nil s i (by omega)]
    rw [e]
    clear e
    subst h
    go_enter Tryz.func72, Tryz.ntmps72
    go_wp2
    go_ret
    exact ⟨rfl, rfl⟩
  · have hlt : i < s.size := by omega
    have e : endsL s.data.toList i = (isGap s[i] || isMark s[i] || remB (s.data.toList.drop i)) := by
      unfold endsL
      rw [drop_cons s i hlt]
    rw [e]
    have ci := indexIn_any [32, 9, 10, 123, 125, 59] s[i] w
    have hI := indexByte_nonneg [32, 9, 10, 123, 125, 59] s[i]
    rw [ends_contains] at hI
    obtain ⟨I, hIe⟩ : ∃ I, Lib.indexByte [32, 9, 10, 123, 125, 59] s[i] = I := ⟨_, rfl⟩
    rw [hIe] at ci hI
    obtain ⟨b, hb⟩ : ∃ b, (isGap s[i] || isMark s[i]) = b := ⟨_, rfl⟩
    rw [hb] at hI ⊢
    obtain ⟨D, hD⟩ : ∃ D, s.extract i s.size = D := ⟨_, rfl⟩
    have hDl : s.data.toList.drop i = D.data.toList := by
      rw [← hD, Lib.extract_eq, ← size_list]
      exact (List.take_of_length_le (by rw [List.length_drop]; exact Nat.le_refl _)).symm
    have cr := remark_any D.data.toList w
    rw [← hDl] at cr
    rw [show (strV (s.data.toList.drop i) : Value) = .string D by rw [hDl]] at cr
    obtain ⟨q, hq⟩ : ∃ q, remB (s.data.toList.drop i) = q := ⟨_, rfl⟩
    rw [hq] at cr ⊢
    have hne : ((i : Int) == (s.size : Int)) = false := by simp; omega
    have CI := hid ci
    have CR := hid cr
    clear ci cr hDl hIe e hb hq h
    cases b
    · have hI' : ¬ (0 : Int) ≤ I := by simpa using hI
      clear hI
      go_enter Tryz.func72, Tryz.ntmps72
      go_wp2_with (first | (go_at_call 73; refine CI.out.mono ?_; rintro e w2 ⟨rfl, rfl⟩) | (go_at_call 70; refine CR.out.mono ?_; rintro e w2 ⟨rfl, rfl⟩))
      go_ret
      exact ⟨ret_bool (by rw [decide_eq_false (by omega)]), rfl⟩
    · have hI' : (0 : Int) ≤ I := by simpa using hI
      clear hI
      go_enter Tryz.func72, Tryz.ntmps72
      go_wp2_with (first | (go_at_call 73; refine CI.out.mono ?_; rintro e w2 ⟨rfl, rfl⟩) | (go_at_call 70; refine CR.out.mono ?_; rintro e w2 ⟨rfl, rfl⟩))
      go_ret
      exact ⟨ret_bool (by simp), rfl⟩
/-- a variable of one cell that lies by itself -/
theorem cell_below {w w' : World} {g : Nat} {v : Value} (h : w.cell? ⟨g, 0, none⟩ = some v) (hb : Below w.heap.size w w') : w'.cell? ⟨g, 0, none⟩ = some v := kept h hb
theorem toList_full {s : ByteArray} (h : 0 < s.size) : s.toList.isEmpty = false := by
  rw [Lib.toList_data]
  cases e : s.data.toList with
  | nil => rw [← size_list, e] at h; simp at h
  | cons a r => rfl
theorem toList_none {s : ByteArray} (h : s.size = 0) : s.toList.isEmpty = true := by
  rw [Lib.toList_data, List.eq_nil_of_length_eq_zero (l := s.data.toList) (by rw [size_list]; exact h)]; rfl
theorem word_mark {s : ByteArray} (h : 0 < s.size) (hm : isMark s[0] = true) : wordL s.data.toList = [s[0]] := by
  have e := drop_cons s 0 h
  rw [List.drop_zero] at e
  rw [e]
  unfold wordL
  simp only
  rw [if_pos hm]
theorem word_run {s : ByteArray} (h : s.size = 0 ∨ ∃ h : 0 < s.size, isMark s[0] = false) : wordL s.data.toList = runL s.data.toList := by
  rcases h with h | ⟨h, hm⟩
  · rw [List.eq_nil_of_length_eq_zero (l := s.data.toList) (by rw [size_list]; exact h)]; rfl
  · have e := drop_cons s 0 h
    rw [List.drop_zero] at e
    rw [e]
    unfold wordL
    simp only
    rw [if_neg (by rw [hm]; decide)]
set_option maxRecDepth 4000 in
theorem firstWord_any (s : ByteArray) (w : World) (hs : s.size ≤ 100000) :
    Calls Tryz.prog 51 #[.string s] w fun e w' => e = .returned (strV (wordL s.data.toList)) ∧ Below w.heap.size w w' := by
  have hmf : ∀ (fn : Fn) (first cap : Array Value) (w : World), (Instr.makeFunc fn first cap).run Tryz.prog w = .ok (.func fn first cap) w := fun _ _ _ _ => rfl
  have hc0 : (w.alloc (.cells #[.string s] 9)).cell? ⟨w.heap.size, 0, none⟩ = some (.string s) := World.cell?_alloc_at _ _ _ _ rfl
  have hbl := below_alloc w (.cells #[.string s] 9)
  by_cases hk : ∃ h : 0 < s.size, isMark s[0] = true
  · obtain ⟨h0, hk⟩ := hk
    rw [word_mark h0 hk]
    have ci := fun W => indexIn_any [123, 125, 59] s[0] W
    have hI := indexByte_nonneg [123, 125, 59] s[0]
    rw [marks_contains, hk, decide_eq_true_eq] at hI
    obtain ⟨I, hIe⟩ : ∃ I, Lib.indexByte [123, 125, 59] s[0] = I := ⟨_, rfl⟩
    rw [hIe] at ci hI
    obtain ⟨D, hD⟩ : ∃ D, s.extract 0 1 = D := ⟨_, rfl⟩
    have hDl : (strV [s[0]] : Value) = .string D := by
      have e := drop_cons s 0 h0
      rw [List.drop_zero] at e
      have : D.data.toList = [s[0]] := by rw [← hD, Lib.extract_eq, e]; rfl
      rw [← this]
    rw [hDl]
    have CI := hid ci
    have HB := hid hbl
    have hne : s.toList.isEmpty = false := toList_full h0
    clear ci hIe hDl hk hbl
    go_enter Tryz.func51, Tryz.ntmps51
    go_wp2_with (first | (go_at_call 73; refine (CI.out _).mono ?_; rintro e w2 ⟨rfl, rfl⟩))
    go_ret
    exact ⟨rfl, HB.out⟩
  · have hor : s.size = 0 ∨ ∃ h : 0 < s.size, isMark s[0] = false := by
      by_cases h0 : s.size = 0
      · exact .inl h0
      · have h1 : 0 < s.size := by omega
        refine .inr ⟨h1, ?_⟩
        by_cases h2 : isMark s[0] = true
        · exact absurd ⟨h1, h2⟩ hk
        · exact Bool.eq_false_iff.2 h2
    rw [word_run hor]
    have ce := fun i W hi hg => ends_any s i w.heap.size W hs hi hg
    have CE := hid ce
    have HB := hid hbl
    have HC := hid hc0
    clear ce hk hbl
    rcases hor with h0 | ⟨h0, hk⟩
    focus
      have hne : s.toList.isEmpty = true := toList_none h0
      go_enter Tryz.func51, Tryz.ntmps51
      go_wp2
    rotate_left
    focus
      have ci := fun W => indexIn_any [123, 125, 59] s[0] W
      have hI := indexByte_nonneg [123, 125, 59] s[0]
      rw [marks_contains, hk, decide_eq_false_iff_not] at hI
      obtain ⟨I, hIe⟩ : ∃ I, Lib.indexByte [123, 125, 59] s[0] = I := ⟨_, rfl⟩
      rw [hIe] at ci hI
      have CI := hid ci
      have hne : s.toList.isEmpty = false := toList_full h0
      clear ci hIe hk
      go_enter Tryz.func51, Tryz.ntmps51
      go_wp2_with (first | (go_at_call 73; refine (CI.out _).mono ?_; rintro e w2 ⟨rfl, rfl⟩))
    all_goals clear hne
    all_goals
      go_loopw [4] (fun v wr => ∃ i : Nat, v = .int .i64 (i : Int) ∧ i ≤ s.size ∧ (∀ j, j < i → endsL s.data.toList j = false) ∧ wr.cell? ⟨w.heap.size, 0, none⟩ = some (.string s) ∧ Below w.heap.size w wr) (fun v _ => s.size - (intOf v).toNat)
      case atStart => exact ⟨0, rfl, Nat.zero_le _, (fun j hj => absurd hj (Nat.not_lt_zero _)), HC.out, HB.out⟩
      case round =>
        obtain ⟨i, rfl, hi, hj, hc, hb⟩ := hrel
        have ce := CE.out i wr hi hc
        obtain ⟨q, hq⟩ : ∃ q, endsL s.data.toList i = q := ⟨_, rfl⟩
        rw [hq] at ce
        have CX := hid ce
        have HF := hid (And.intro hj (And.intro hq hb))
        clear ce hj hq hb
        cases q
        · go_wp2_with (first | (go_at_call 72; refine CX.out.mono ?_; rintro e w3 ⟨rfl, rfl⟩))
          obtain ⟨hj, hq, hb⟩ := HF.out
          have hi' : i < s.size := by
            rcases Nat.lt_or_ge i s.size with h | h
            · exact h
            · unfold endsL at hq
              rw [drop_nil s i (by omega)] at hq
              cases hq
          go_roundw
          case rel =>
            refine ⟨i + 1, by go_num, hi', fun j hji => ?_, hc, hb⟩
            by_cases e : j = i
            · rw [e]; exact hq
            · exact hj j (by omega)
          case measure => simp [intOf]; omega
        · obtain ⟨D, hD⟩ : ∃ D, s.extract 0 i = D := ⟨_, rfl⟩
          have hDl : (strV (runL s.data.toList) : Value) = .string D := by
            obtain ⟨hj, hq, hb⟩ := HF.out
            rw [run_at s.data.toList i hj hq (by rw [size_list]; exact hi)]
            have : D.data.toList = s.data.toList.take i := by rw [← hD, Lib.extract_eq]; simp
            rw [← this]
          have HDL := hid hDl
          clear hDl
          go_wp2_with (first | (go_at_call 72; refine CX.out.mono ?_; rintro e w3 ⟨rfl, rfl⟩))
          go_ret
          exact ⟨congrArg Ending.returned HDL.out.symm, HF.out.2.2⟩
end Go.Proofs.YtenijpcjemdhfaaGreatDoor
/-
  Contracts of package conf: the reader's faultless, check, step, expect.
-/
namespace Go.Proofs.YtenijpcjemdhfaaGreatDoor
open Go.RowKit Go.Pantry

/-- a fault's line, as it is kept -/
def lineP (T : List UInt8) (p : Ps) : Nat := if p.code = 0 then 0 else lineK T p.pos
abbrev rcRow (T : List UInt8) (p : Ps) (s : List UInt8) : Array Value := #[.int .i64 (p.code : Int), .int .i64 (lineP T p : Int), strV T, .int .i64 ((T.length - s.length : Nat) : Int), strV (wordL s)]
/-- a reader's box -/
structure RcAt (w : World) (g : Nat) (T : List UInt8) (p : Ps) (s : List UInt8) : Prop where
  place : Spot T s
  words : p.ws = wordsL s
  row : rowIs w g (rcRow T p s) 86
theorem RcAt.below {w w' : World} {g : Nat} {T : List UInt8} {p : Ps} {s : List UInt8} (h : RcAt w g T p s) (hb : Below w.heap.size w w') : RcAt w' g T p s := ⟨h.place, h.words, h.row.below hb⟩
theorem RcAt.kept {X : Nat → Prop} {w w' : World} {g : Nat} {T : List UInt8} {p : Ps} {s : List UInt8} (h : RcAt w g T p s) (hk : Kept X w w') (hx : ¬ X g) : RcAt w' g T p s := ⟨h.place, h.words, h.row.kept hk hx⟩
/-- what the library's calls ask of the world, below a block -/
def Env (g : Nat) (w : World) : Prop := ∃ w0 : World, MaxOk w0 ∧ Tab10 w0 ∧ w0.heap.size ≤ g ∧ Below w0.heap.size w0 w
theorem Env.kept {X : Nat → Prop} {w w' : World} {g : Nat} (h : Env g w) (hk : Kept X w w') (hx : ∀ k, X k → g ≤ k) : Env g w' := by
  obtain ⟨w0, h1, h2, h3, h4⟩ := h
  exact ⟨w0, h1, h2, h3, h4.trans (hk.below (fun k hX _ => Nat.le_trans h3 (hx k hX)) h4.size)⟩
theorem Env.below {w w' : World} {g : Nat} (h : Env g w) (hb : Below w.heap.size w w') : Env g w' := h.kept (Kept.of_below (X := fun _ => False) hb) (fun _ h => h.elim)
theorem Env.max {w : World} {g : Nat} (h : Env g w) : MaxOk w := let ⟨_, h1, _, _, h4⟩ := h; h1.below h4
theorem Env.tab {w : World} {g : Nat} (h : Env g w) : Tab10 w := let ⟨_, _, h2, _, h4⟩ := h; h2.below h4
theorem Env.mono {w : World} {g g' : Nat} (h : Env g w) (hg : g ≤ g') : Env g' w := let ⟨w0, h1, h2, h3, h4⟩ := h; ⟨w0, h1, h2, Nat.le_trans h3 hg, h4⟩
/-- a reader of a text, as far as it is -/
structure RcOk (w : World) (g : Nat) (T : List UInt8) (p : Ps) : Prop where
  at_ : ∃ s, RcAt w g T p s
  len : T.length ≤ 4096
  env : Env g w
theorem RcOk.kept {X : Nat → Prop} {w w' : World} {g : Nat} {T : List UInt8} {p : Ps} (h : RcOk w g T p) (hk : Kept X w w') (hx : ∀ k, X k → g < k) : RcOk w' g T p := by
  obtain ⟨s, hs⟩ := h.at_
  exact ⟨⟨s, hs.kept hk (fun e => Nat.lt_irrefl _ (hx g e))⟩, h.len, h.env.kept hk (fun k hX => Nat.le_of_lt (hx k hX))⟩
theorem RcOk.below {w w' : World} {g : Nat} {T : List UInt8} {p : Ps} (h : RcOk w g T p) (hb : Below w.heap.size w w') : RcOk w' g T p := h.kept (Kept.of_below (X := fun _ => False) hb) (fun _ h => h.elim)
theorem RcOk.move {w w' : World} {g : Nat} {T : List UInt8} {p q : Ps} (h : RcOk w g T p) (hk : Kept (fun k => k = g) w w') (ha : ∃ s, RcAt w' g T q s) : RcOk w' g T q :=
  ⟨ha, h.len, h.env.kept hk (fun k hX => Nat.le_of_eq hX.symm)⟩
theorem RcOk.lt {w : World} {g : Nat} {T : List UInt8} {p : Ps} (h : RcOk w g T p) : g < w.heap.size := by
  obtain ⟨s, hs⟩ := h.at_
  exact hs.row.lt
theorem RcAt.word {w : World} {g : Nat} {T : List UInt8} {p : Ps} {s : List UInt8} (h : RcAt w g T p s) : wordL s = hdW p := by
  unfold hdW; rw [h.words, wordsL_head h.place.norm]
/-- the word at hand -/
theorem RcOk.word {w : World} {g : Nat} {T : List UInt8} {p : Ps} (h : RcOk w g T p) : w.cell? ⟨g, 4, none⟩ = some (strV (hdW p)) := by
  obtain ⟨s, hs⟩ := h.at_
  rw [← hs.word]; exact hs.row.cell 4
theorem RcOk.hd_len {w : World} {g : Nat} {T : List UInt8} {p : Ps} (h : RcOk w g T p) : (hdW p).length ≤ 4096 := by
  obtain ⟨s, hs⟩ := h.at_
  rw [← hs.word]
  exact Nat.le_trans (wordL_len s) (Nat.le_trans hs.place.suffix.length_le h.len)

theorem faultless_any (g : Nat) (T : List UInt8) (p : Ps) (w : World) (h : RcOk w g T p) :
    Calls Tryz.prog 39 #[.pointer (some ⟨g, 0, none⟩)] w fun e w' => e = .returned (.bool (p.code == 0)) ∧ w = w' := by
  obtain ⟨s, hs⟩ := h.at_
  have h0 := hs.row.cell 0
  have h1 := hs.row.cell 1
  have hz : p.code = 0 → lineP T p = 0 := by
    intro e; unfold lineP; rw [if_pos e]
  clear hs h
  obtain ⟨L, hL⟩ : ∃ L, lineP T p = L := ⟨_, rfl⟩
  obtain ⟨c, hc⟩ : ∃ c, p.code = c := ⟨_, rfl⟩
  simp only [rcRow, hL, hc] at h0 h1 hz ⊢
  clear hL hc
  by_cases e : c = 0
  · subst e
    rw [hz rfl] at h1
    clear hz
    go_enter Tryz.func39, Tryz.ntmps39
    go_wp2
    go_ret
    exact ⟨rfl, rfl⟩
  · have e1 : ((c : Int) == 0) = false := by simp; omega
    have e2 : (c == 0) = false := by simp [e]
    rw [e2]
    clear hz e e2
    go_enter Tryz.func39, Tryz.ntmps39
    go_wp2
    all_goals
      go_ret
      exact ⟨rfl, rfl⟩
theorem countNl_any (l : List UInt8) (w : World) :
    Calls Tryz.prog 74 #[strV l, .string ⟨#[10]⟩] w fun e w' => e = .returned (.int .i64 (nlL l : Int)) ∧ w = w' := by
  have c := Tryz.strings_Count_one ⟨l.toArray⟩ 10 w
  rw [dtL] at c
  exact c.mono fun e w' h => ⟨h.1, h.2.symm⟩
/-- what a method of a reader leaves -/
def RcPost (w : World) (g : Nat) (T : List UInt8) (q : Ps) (e : Ending) (w' : World) : Prop := (∃ u, e = .returned u) ∧ RcOk w' g T q ∧ Kept (fun k => k = g) w w'
set_option maxRecDepth 4000 in
theorem check_any (g : Nat) (T : List UInt8) (p : Ps) (b : Bool) (c : Nat) (w : World) (h : RcOk w g T p) (hc : 0 < c) :
    Calls Tryz.prog 52 #[.pointer (some ⟨g, 0, none⟩), .bool b, .int .i64 (c : Int)] w (RcPost w g T (chk b c p)) := by
  have cf := faultless_any g T p w h
  cases b
  · by_cases e : p.code = 0
    · rw [chk_no e]
      rw [e] at cf
      obtain ⟨s, hs⟩ := h.at_
      have hsu := hs.place.suffix
      have hl := h.len
      have hsl := hsu.length_le
      have hT : (T.take (T.length - s.length)) = (⟨(T.take (T.length - s.length)).toArray⟩ : ByteArray).data.toList := (dtL _).symm
      have cn := fun W => countNl_any (T.take (T.length - s.length)) W
      rw [nl_take hsu] at cn
      obtain ⟨N, hN⟩ : ∃ N, nlL T - nlL s = N := ⟨_, rfl⟩
      have hNl : N ≤ 4096 := by
        rw [← hN]
        have := List.count_le_length (a := (10 : UInt8)) (l := T)
        unfold nlL; omega
      rw [hN] at cn
      obtain ⟨n, hn⟩ : ∃ n, T.length - s.length = n := ⟨_, rfl⟩
      have hrow := hs.row
      simp only [rcRow, hn] at hrow cn
      have hnl : n ≤ T.length := by omega
      have hline : lineP T ⟨c, p.ws.length, p.ws⟩ = 1 + N := by
        unfold lineP
        rw [if_neg (by simpa using (Nat.pos_iff_ne_zero.1 hc))]
        simp only
        rw [hs.words, hs.place.line, hN]
      have hr1 := hrow.setCell 0 (.int .i64 (c : Int))
      have hr2 := hr1.setCell 1 (.int .i64 (1 + (N : Int)))
      have hkk := ((Kept.refl (fun k => k = g) w).setCell (i := 0) (.inl rfl) (.int .i64 (c : Int))).setCell (i := 1) (.inl rfl) (.int .i64 (1 + (N : Int)))
      have HF : Hid (RcOk ((w.setCell ⟨g, 0, none⟩ (.int .i64 (c : Int))).setCell ⟨g, 1, none⟩ (.int .i64 (1 + (N : Int)))) g T ⟨c, p.ws.length, p.ws⟩ ∧ Kept (fun k => k = g) w ((w.setCell ⟨g, 0, none⟩ (.int .i64 (c : Int))).setCell ⟨g, 1, none⟩ (.int .i64 (1 + (N : Int))))) := by
        refine ⟨h.move hkk ⟨s, hs.place, hs.words, ?_⟩, hkk⟩
        rw [rcRow, hline, hn]
        exact hr2
      obtain ⟨t, ht⟩ : ∃ t : ByteArray, (⟨T.toArray⟩ : ByteArray) = t := ⟨_, rfl⟩
      have htl : t.data.toList = T := by rw [← ht]
      have hts : t.size = T.length := by rw [← size_list, htl]
      obtain ⟨D, hD⟩ : ∃ D, t.extract 0 n = D := ⟨_, rfl⟩
      have hDl : (strV (T.take n) : Value) = .string D := by
        have : D.data.toList = T.take n := by rw [← hD, Lib.extract_eq, htl]; simp
        rw [← this]
      rw [hDl] at cn
      have hc2 : (w.setCell ⟨g, 0, none⟩ (.int .i64 (c : Int))).cell? ⟨g, 2, none⟩ = some (.string t) := by rw [← ht]; exact hr1.cell 2
      have hc3 : (w.setCell ⟨g, 0, none⟩ (.int .i64 (c : Int))).cell? ⟨g, 3, none⟩ = some (.int .i64 (n : Int)) := hr1.cell 3
      have hf1 := hr1.free 1
      have hc1 : (w.setCell ⟨g, 0, none⟩ (.int .i64 (c : Int))).cell? ⟨g, 1, none⟩ = some (.int .i64 (lineP T p : Int)) := hr1.cell 1
      have hc0 := hrow.cell 0
      have hf0 := hrow.free 0
      obtain ⟨W, hW⟩ : ∃ W, w.setCell ⟨g, 0, none⟩ (.int .i64 (c : Int)) = W := ⟨_, rfl⟩
      have CF := hid cf
      have CN := hid cn
      rw [hW] at hc1 hc2 hc3 hf1 HF
      have hn2 : n ≤ t.size := by omega
      have hz1 : IntKind.i64.wrap (1 + (N : Int)) = 1 + (N : Int) := IntWalk.i64_in _ (by omega)
      have hnat : ((n : Int)).toNat = n := by simp
      have HW := hid hW
      clear cf cn hs hsu hl hsl hT hN hn hrow hline hr1 hr2 hkk htl hDl ht h e hW hnl hts hNl
      go_enter Tryz.func52, Tryz.ntmps52
      go_wp2_with (go_at_call 39; refine CF.out.mono ?_; rintro e w1 ⟨rfl, rfl⟩)
      rw [HW.out]
      have hc2' : W.drew.cell? ⟨g, 2, none⟩ = some (.string t) := hc2
      have hc3' : W.drew.cell? ⟨g, 3, none⟩ = some (.int .i64 (n : Int)) := hc3
      have hc1' : W.drew.cell? ⟨g, 1, none⟩ = some (.int .i64 (lineP T p : Int)) := hc1
      have hf1' : W.drew.frozen? ⟨g, 1, none⟩ = false := hf1
      go_region_with (go_at_call 74; refine (CN.out _).mono ?_; rintro e w2 ⟨rfl, rfl⟩)
      all_goals
        clear hc1' hc2' hc3' hf1' hc1 hc2 hc3 hf1 hc0 hf0
        go_wp2
        go_end0
        exact ⟨⟨_, rfl⟩, HF.out.1.below ((Below.refl _ _).drew), HF.out.2.drew⟩
    · rw [chk_off e]
      have e2 : (p.code == 0) = false := by simp [e]
      rw [e2] at cf
      have CF := hid cf
      have H := hid h
      clear cf h e e2
      go_enter Tryz.func52, Tryz.ntmps52
      go_wp2_with (go_at_call 39; refine CF.out.mono ?_; rintro e w1 ⟨rfl, rfl⟩)
      go_end0
      exact ⟨⟨_, rfl⟩, H.out, Kept.refl _ _⟩
  · rw [chk_true]
    have H := hid h
    clear cf h
    go_enter Tryz.func52, Tryz.ntmps52
    go_wp2
    go_end0
    exact ⟨⟨_, rfl⟩, H.out, Kept.refl _ _⟩
end Go.Proofs.YtenijpcjemdhfaaGreatDoor
/-
  Contracts of package conf: the reader's step, expect.
-/
namespace Go.Proofs.YtenijpcjemdhfaaGreatDoor
open Go.RowKit Go.Pantry

theorem RcPost.form {w : World} {g : Nat} {T : List UInt8} {q : Ps} {e : Ending} {w' : World} (h : RcPost w g T q e w') : ∃ u, e = .returned u ∧ RcOk w' g T q ∧ Kept (fun k => k = g) w w' :=
  let ⟨⟨u, hu⟩, h1, h2⟩ := h; ⟨u, hu, h1, h2⟩
/-- a callee that makes memory, in the middle of a region that reads a box -/
theorem behind_keep (g n : Nat) (t : Value) (L : Int) (wd : Value) (l : List UInt8) (w0 W : World) (hl : l.length ≤ 100000) (hm : MaxOk w0)
    (hS : W.cell? ⟨g, 2, none⟩ = some t ∧ W.cell? ⟨g, 3, none⟩ = some (.int .i64 L) ∧ W.cell? ⟨g, 4, none⟩ = some wd ∧ Below w0.heap.size w0 W) :
    Calls Tryz.prog 50 #[strV l] W fun e w' => e = .returned (strV (skipL false l)) ∧ (w'.cell? ⟨g, 2, none⟩ = some t ∧ w'.cell? ⟨g, 3, none⟩ = some (.int .i64 L) ∧ w'.cell? ⟨g, 4, none⟩ = some wd ∧ Below w0.heap.size w0 w') :=
  (behindGap_any l W hl (hm.below hS.2.2.2)).mono fun e w' h => ⟨h.1, kept hS.1 h.2, kept hS.2.1 h.2, kept hS.2.2.1 h.2, chainP hS.2.2.2 h.2⟩
/-- what step leaves of a box -/
def StepPost (w : World) (g : Nat) (T Z : List UInt8) (c0 c1 : Value) (e : Ending) (w' : World) : Prop :=
  (∃ u, e = .returned u) ∧ rowIs w' g #[c0, c1, strV T, .int .i64 ((T.length - Z.length : Nat) : Int), strV (wordL Z)] 86 ∧ Kept (fun k => k = g) w w'
set_option maxRecDepth 4000 in
theorem step_core (g n : Nat) (T u : List UInt8) (c0 c1 : Value) (w : World) (hrow : rowIs w g #[c0, c1, strV T, .int .i64 (n : Int), strV u] 86) (hl : T.length ≤ 4096) (hnu : n + u.length ≤ T.length) (hm : MaxOk w) :
    Calls Tryz.prog 37 #[.pointer (some ⟨g, 0, none⟩)] w (StepPost w g T (skipL false (T.drop (n + u.length))) c0 c1) := by
  obtain ⟨k, hk⟩ : ∃ k, u.length = k := ⟨_, rfl⟩
  obtain ⟨m, hmm⟩ : ∃ m, n + k = m := ⟨_, rfl⟩
  rw [hk, hmm] at hnu
  rw [hk, hmm]
  obtain ⟨Z, hZ⟩ : ∃ Z, skipL false (T.drop m) = Z := ⟨_, rfl⟩
  have hst : Z.length ≤ T.length := by
    rw [← hZ]
    have := skipL_le (T.drop m) false
    rw [List.length_drop] at this; omega
  obtain ⟨t, ht⟩ : ∃ t : ByteArray, (⟨T.toArray⟩ : ByteArray) = t := ⟨_, rfl⟩
  have htl : t.data.toList = T := by rw [← ht]
  have hts : t.size = T.length := by rw [← size_list, htl]
  obtain ⟨wd, hwd⟩ : ∃ wd : ByteArray, (⟨u.toArray⟩ : ByteArray) = wd := ⟨_, rfl⟩
  have hws : wd.size = k := by rw [← hwd, szL, hk]
  obtain ⟨D, hD⟩ : ∃ D, t.extract m t.size = D := ⟨_, rfl⟩
  have hDl : (strV (T.drop m) : Value) = .string D := by
    have : D.data.toList = T.drop m := by
      rw [← hD, Lib.extract_eq, htl, hts]
      exact List.take_of_length_le (by rw [List.length_drop]; exact Nat.le_refl _)
    rw [← this]
  obtain ⟨z, hz⟩ : ∃ z, Z.length = z := ⟨_, rfl⟩
  have hc2 : w.cell? ⟨g, 2, none⟩ = some (.string t) := by rw [← ht]; exact hrow.cell 2
  have hc3 : w.cell? ⟨g, 3, none⟩ = some (.int .i64 (n : Int)) := hrow.cell 3
  have hc4 : w.cell? ⟨g, 4, none⟩ = some (.string wd) := by rw [← hwd]; exact hrow.cell 4
  have cb := fun W hS => behind_keep g n (.string t) (n : Int) (.string wd) (T.drop m) w W (by rw [List.length_drop]; omega) hm hS
  rw [hDl, hZ] at cb
  rw [hZ]
  obtain ⟨R, hR⟩ : ∃ R : ByteArray, (⟨Z.toArray⟩ : ByteArray) = R := ⟨_, rfl⟩
  have hRl : R.data.toList = Z := by rw [← hR]
  have hRs : R.size = z := by rw [← size_list, hRl, hz]
  have cf := fun W => firstWord_any R W (by omega)
  rw [hRl] at cf
  have hRv : (strV Z : Value) = .string R := by rw [← hRl]
  rw [hRv] at cb
  have HF : Hid (∀ w1 w2, Below w.heap.size w w1 → Below (w1.setCell ⟨g, 3, none⟩ (.int .i64 ((T.length - z : Nat) : Int))).heap.size (w1.setCell ⟨g, 3, none⟩ (.int .i64 ((T.length - z : Nat) : Int))) w2 →
      (rowIs (w2.setCell ⟨g, 4, none⟩ (strV (wordL Z))) g #[c0, c1, strV T, .int .i64 ((T.length - z : Nat) : Int), strV (wordL Z)] 86 ∧ Kept (fun k => k = g) w (w2.setCell ⟨g, 4, none⟩ (strV (wordL Z))) ∧ w2.cell? ⟨g, 4, none⟩ = some (.string wd) ∧ w2.frozen? ⟨g, 4, none⟩ = false)) := by
    intro w1 w2 hb1 hb2
    have r1 := (hrow.below hb1).setCell 3 (.int .i64 ((T.length - z : Nat) : Int))
    have r2 := r1.below hb2
    have r3 := r2.setCell 4 (strV (wordL Z))
    have k3 := ((((Kept.of_below (X := fun k => k = g) hb1).setCell (i := 3) (.inl rfl) (.int .i64 ((T.length - z : Nat) : Int))).then hb2).setCell (i := 4) (.inl rfl) (strV (wordL Z)))
    refine ⟨r3, k3, ?_, r2.free 4⟩
    rw [← hwd]; exact r2.cell 4
  have HG : Hid (∀ w1, Below w.heap.size w w1 → w1.cell? ⟨g, 2, none⟩ = some (.string t) ∧ w1.cell? ⟨g, 3, none⟩ = some (.int .i64 (n : Int)) ∧ w1.frozen? ⟨g, 3, none⟩ = false) := by
    intro w1 hb1
    have r1 := hrow.below hb1
    refine ⟨?_, r1.cell 3, r1.free 3⟩
    rw [← ht]; exact r1.cell 2
  have CB := hid cb
  have CF := hid cf
  have HZZ := hid hz
  have hnk : (m : Int) ≤ (t.size : Int) := by omega
  have hnk0 : (0 : Int) ≤ (m : Int) := by omega
  have hnk1 : ((m : Int)).toNat = m := by simp
  have hw1 : IntKind.i64.wrap ((n : Int) + (k : Int)) = (m : Int) := by rw [IntWalk.i64_in _ (by omega)]; omega
  have hw2 : IntKind.i64.wrap ((t.size : Int) - (z : Int)) = ((T.length - z : Nat) : Int) := by rw [IntWalk.i64_in _ (by omega)]; omega
  clear cb cf hl hnu hst hk hts hmm hrow ht htl hwd hDl hz hZ hR hRl hRv
  go_enter Tryz.func37, Tryz.ntmps37
  go_wp2_with fail
  refine wp_region_held_drew (S := (fun w' => w'.cell? ⟨g, 2, none⟩ = some (.string t) ∧ w'.cell? ⟨g, 3, none⟩ = some (.int .i64 (n : Int)) ∧ w'.cell? ⟨g, 4, none⟩ = some (.string wd) ∧ Below w.heap.size w w')) (by kernel_rfl) ⟨hc2, hc3, hc4, (Below.refl _ _).drew⟩ (fun hH => ?_)
  refine wpAnyH_take (i := 0) (v := ?_) rfl (by kernel_rfl) (by kernel_rfl) (by kernel_rfl) (fun _ _ _ h => h) (Or.inl ⟨by kernel_rfl, ?_⟩) hH ?_
  rotate_left
  · intro W hS
    obtain ⟨q2, q3, q4, _⟩ := hS
    go_simp
    first | done | with_reducible rfl
  simp only [Act.put, List.getElem_toArray, List.getElem_cons_succ, List.getElem_cons_zero, List.setIfInBounds_toArray, List.set_cons_zero, List.set_cons_succ]
  refine wpAnyH_take (i := 1) (v := ?_) rfl (by kernel_rfl) (by kernel_rfl) (by kernel_rfl) (fun _ _ _ h => h) (Or.inl ⟨by kernel_rfl, ?_⟩) hH ?_
  rotate_left
  · intro W hS
    obtain ⟨q2, q3, q4, _⟩ := hS
    go_simp
    first | done | with_reducible rfl
  simp only [Act.put, List.getElem_toArray, List.getElem_cons_succ, List.getElem_cons_zero, List.setIfInBounds_toArray, List.set_cons_zero, List.set_cons_succ]
  refine wpAnyH_take (i := 2) (v := ?_) rfl (by kernel_rfl) (by kernel_rfl) (by kernel_rfl) (fun _ _ _ h => h) (Or.inl ⟨by kernel_rfl, ?_⟩) hH ?_
  rotate_left
  · intro W hS
    obtain ⟨q2, q3, q4, _⟩ := hS
    go_simp
    first | done | with_reducible rfl
  simp only [Act.put, List.getElem_toArray, List.getElem_cons_succ, List.getElem_cons_zero, List.setIfInBounds_toArray, List.set_cons_zero, List.set_cons_succ]
  refine wpAnyH_take (i := 3) (v := ?_) rfl (by kernel_rfl) (by kernel_rfl) (by kernel_rfl) (fun _ _ _ h => h) (Or.inl ⟨by kernel_rfl, ?_⟩) hH ?_
  rotate_left
  · intro W hS
    obtain ⟨q2, q3, q4, _⟩ := hS
    go_simp
    first | done | with_reducible rfl
  simp only [Act.put, List.getElem_toArray, List.getElem_cons_succ, List.getElem_cons_zero, List.setIfInBounds_toArray, List.set_cons_zero, List.set_cons_succ]
  refine wpAnyH_take (i := 4) (v := ?_) rfl (by kernel_rfl) (by kernel_rfl) (by kernel_rfl) (fun _ _ _ h => h) (Or.inl ⟨by kernel_rfl, ?_⟩) hH ?_
  rotate_left
  · intro W hS
    obtain ⟨q2, q3, q4, _⟩ := hS
    go_simp
    first | done | with_reducible rfl
  simp only [Act.put, List.getElem_toArray, List.getElem_cons_succ, List.getElem_cons_zero, List.setIfInBounds_toArray, List.set_cons_zero, List.set_cons_succ]
  refine wpAnyH_take (i := 5) (v := ?_) rfl (by kernel_rfl) (by kernel_rfl) (by kernel_rfl) (fun _ _ _ h => h) (Or.inl ⟨by kernel_rfl, ?_⟩) hH ?_
  rotate_left
  · intro W hS
    obtain ⟨q2, q3, q4, _⟩ := hS
    go_simp
    first | done | with_reducible rfl
  simp only [Act.put, List.getElem_toArray, List.getElem_cons_succ, List.getElem_cons_zero, List.setIfInBounds_toArray, List.set_cons_zero, List.set_cons_succ]
  refine wpAnyH_take (i := 6) (v := ?_) rfl (by kernel_rfl) (by kernel_rfl) (by kernel_rfl) (fun _ _ _ h => h) (Or.inl ⟨by kernel_rfl, ?_⟩) hH ?_
  rotate_left
  · intro W hS
    obtain ⟨q2, q3, q4, _⟩ := hS
    go_simp
    first | done | with_reducible rfl
  simp only [Act.put, List.getElem_toArray, List.getElem_cons_succ, List.getElem_cons_zero, List.setIfInBounds_toArray, List.set_cons_zero, List.set_cons_succ]
  refine wpAnyH_take (i := 7) (v := ?_) rfl (by kernel_rfl) (by kernel_rfl) (by kernel_rfl) (fun _ _ _ h => h) (Or.inl ⟨by kernel_rfl, ?_⟩) hH ?_
  rotate_left
  · intro W hS
    obtain ⟨q2, q3, q4, _⟩ := hS
    go_simp
    first | done | with_reducible rfl
  simp only [Act.put, List.getElem_toArray, List.getElem_cons_succ, List.getElem_cons_zero, List.setIfInBounds_toArray, List.set_cons_zero, List.set_cons_succ]
  refine wpAnyH_take (i := 8) (v := ?_) rfl (by kernel_rfl) (by kernel_rfl) (by kernel_rfl) (fun _ _ _ h => h) (Or.inl ⟨by kernel_rfl, ?_⟩) hH ?_
  rotate_left
  · intro W hS
    obtain ⟨q2, q3, q4, _⟩ := hS
    go_simp
    first | done | with_reducible rfl
  simp only [Act.put, List.getElem_toArray, List.getElem_cons_succ, List.getElem_cons_zero, List.setIfInBounds_toArray, List.set_cons_zero, List.set_cons_succ]
  refine wpAnyH_take (i := 9) (v := ?_) rfl (by kernel_rfl) (by kernel_rfl) (by kernel_rfl) (fun _ _ _ h => h) (Or.inl ⟨by kernel_rfl, ?_⟩) hH ?_
  rotate_left
  · intro W hS
    obtain ⟨q2, q3, q4, _⟩ := hS
    go_simp
    first | done | with_reducible rfl
  simp only [Act.put, List.getElem_toArray, List.getElem_cons_succ, List.getElem_cons_zero, List.setIfInBounds_toArray, List.set_cons_zero, List.set_cons_succ]
  refine wpAnyH_take (i := 10) (v := ?_) rfl (by kernel_rfl) (by kernel_rfl) (by kernel_rfl) (fun _ _ _ h => h) (Or.inl ⟨by kernel_rfl, ?_⟩) hH ?_
  rotate_left
  · intro W hS
    obtain ⟨q2, q3, q4, _⟩ := hS
    go_simp
    first | done | with_reducible rfl
  simp only [Act.put, List.getElem_toArray, List.getElem_cons_succ, List.getElem_cons_zero, List.setIfInBounds_toArray, List.set_cons_zero, List.set_cons_succ]
  refine wpAnyH_take (i := 11) (v := ?_) rfl (by kernel_rfl) (by kernel_rfl) (by kernel_rfl) (fun _ _ _ h => h) (Or.inl ⟨by kernel_rfl, ?_⟩) hH ?_
  rotate_left
  · intro W hS
    obtain ⟨q2, q3, q4, _⟩ := hS
    go_simp
    first | done | with_reducible rfl
  simp only [Act.put, List.getElem_toArray, List.getElem_cons_succ, List.getElem_cons_zero, List.setIfInBounds_toArray, List.set_cons_zero, List.set_cons_succ]
  refine wpAnyH_take (i := 12) (v := ?_) rfl (by kernel_rfl) (by kernel_rfl) (by kernel_rfl) (fun _ _ _ h => h) (Or.inl ⟨by kernel_rfl, ?_⟩) hH ?_
  rotate_left
  · intro W hS
    obtain ⟨q2, q3, q4, _⟩ := hS
    go_simp
    first | done | with_reducible rfl
  simp only [Act.put, List.getElem_toArray, List.getElem_cons_succ, List.getElem_cons_zero, List.setIfInBounds_toArray, List.set_cons_zero, List.set_cons_succ]
  refine wpAnyH_take (i := 13) (v := ?_) rfl (by kernel_rfl) (by kernel_rfl) (by kernel_rfl) (fun _ _ _ h => h) (Or.inl ⟨by kernel_rfl, ?_⟩) hH ?_
  rotate_left
  · intro W hS
    obtain ⟨q2, q3, q4, _⟩ := hS
    go_simp
    first | done | with_reducible rfl
  simp only [Act.put, List.getElem_toArray, List.getElem_cons_succ, List.getElem_cons_zero, List.setIfInBounds_toArray, List.set_cons_zero, List.set_cons_succ]
  refine wpAnyH_take (i := 14) (v := ?_) rfl (by kernel_rfl) (by kernel_rfl) (by kernel_rfl) (fun _ _ _ h => h) (Or.inl ⟨by kernel_rfl, ?_⟩) hH ?_
  rotate_left
  · intro W hS
    obtain ⟨q2, q3, q4, _⟩ := hS
    go_simp
    first | done | with_reducible rfl
  simp only [Act.put, List.getElem_toArray, List.getElem_cons_succ, List.getElem_cons_zero, List.setIfInBounds_toArray, List.set_cons_zero, List.set_cons_succ]
  refine wpAnyH_ready (rs := [15]) (by kernel_rfl) (by simp) ?_
  refine AllReadyH.cons rfl (fun K hK => ?_) AllReadyH.nil
  go_simp
  refine (CB.out _ hH).mono ?_
  rintro e w' ⟨rfl, hS1⟩
  refine hK.out _ _ hS1 (fun hH => ?_)
  clear hK K
  try simp only [Act.put, List.getElem_toArray, List.getElem_cons_succ, List.getElem_cons_zero, List.setIfInBounds_toArray, List.set_cons_zero, List.set_cons_succ]
  refine wpAnyH_take (i := 16) (v := ?_) rfl (by kernel_rfl) (by kernel_rfl) (by kernel_rfl) (fun _ _ _ h => h) (Or.inl ⟨by kernel_rfl, ?_⟩) hH ?_
  rotate_left
  · intro W hS
    obtain ⟨q2, q3, q4, _⟩ := hS
    go_simp
    first | done | with_reducible rfl
  simp only [Act.put, List.getElem_toArray, List.getElem_cons_succ, List.getElem_cons_zero, List.setIfInBounds_toArray, List.set_cons_zero, List.set_cons_succ]
  refine wpAnyH_done (by kernel_rfl) ?_ _
  obtain ⟨-, -, -, hb1⟩ := hH
  obtain ⟨g2, g3, g4⟩ := HG.out _ hb1
  have HB1 := hid hb1
  clear hb1 hc2 hc3 hc4 hnk hnk0 hnk1 hw1
  go_wp2_with (go_at_call 51; refine (CF.out _).mono ?_; rintro e w2 ⟨rfl, hb2⟩; obtain ⟨F1, F2, F3, F4⟩ := HF.out _ _ HB1.out hb2)
  go_end0
  rw [← HZZ.out] at F1
  exact ⟨⟨_, rfl⟩, F1, F2⟩
theorem step_any (g : Nat) (T : List UInt8) (p : Ps) (w : World) (h : RcOk w g T p) :
    Calls Tryz.prog 37 #[.pointer (some ⟨g, 0, none⟩)] w (RcPost w g T (stp p)) := by
  obtain ⟨s, hs⟩ := h.at_
  have hsu := hs.place.suffix
  have hsl := hsu.length_le
  have hwl := wordL_len s
  have hdr := (suffix_take hsu).2
  refine (step_core g (T.length - s.length) T (wordL s) _ _ w hs.row h.len (by omega) h.env.max).mono ?_
  rintro e w' ⟨hu, hr, hk⟩
  rw [← List.drop_drop, hdr] at hr
  refine ⟨hu, h.move hk ⟨stepL s, hs.place.step, ?_, hr⟩, hk⟩
  show p.ws.tail = _
  rw [wordsL_step hs.place.norm, hs.words]
theorem step_first (g : Nat) (T : List UInt8) (w : World) (hrow : rowIs w g #[.int .i64 0, .int .i64 0, strV T, .int .i64 0, strV []] 86) (hl : T.length ≤ 4096) (he : Env g w) :
    Calls Tryz.prog 37 #[.pointer (some ⟨g, 0, none⟩)] w (RcPost w g T (ps0 T)) := by
  refine (step_core g 0 T [] _ _ w hrow hl (by simp) he.max).mono ?_
  rintro e w' ⟨hu, hr, hk⟩
  rw [show T.drop (0 + ([] : List UInt8).length) = T from rfl] at hr
  exact ⟨hu, ⟨⟨skipL false T, place_start T, rfl, hr⟩, hl, he.kept hk (fun k hX => Nat.le_of_eq hX.symm)⟩, hk⟩
/-- two calls of a reader's methods, one behind the other -/
theorem RcPost.then {w w1 w2 : World} {g : Nat} {T : List UInt8} {p q : Ps} {e f : Ending} (h : RcPost w g T p e w1) (k : RcPost w1 g T q f w2) : RcPost w g T q f w2 :=
  ⟨k.1, k.2.1, h.2.2.trans k.2.2 (fun _ hY _ => hY)⟩
theorem expect_any (g : Nat) (T : List UInt8) (p : Ps) (u : List UInt8) (w : World) (h : RcOk w g T p) :
    Calls Tryz.prog 76 #[.pointer (some ⟨g, 0, none⟩), strV u] w (RcPost w g T (expM u p)) := by
  have h4 := h.word
  have cc := check_any g T p (hdW p == u) 30 w h (by decide)
  have CC := hid cc
  obtain ⟨x, hx⟩ : ∃ x, hdW p = x := ⟨_, rfl⟩
  rw [hx] at h4 CC
  have HE : Hid (stp (chk (x == u) 30 p) = expM u p) := by rw [← hx]; exact rfl
  clear h cc hx
  go_enter Tryz.func76, Tryz.ntmps76
  go_wp2_with fail
  refine CC.out.mono ?_
  intro e w1 hp1
  obtain ⟨v, rfl, ho1, hk1⟩ := hp1.form
  have HP1 := hid hp1
  clear hp1 hk1 h4
  go_wp2_with fail
  refine (step_any g T _ w1 ho1).mono ?_
  intro e w2 hp2
  obtain ⟨v2, rfl, ho2, hk2⟩ := hp2.form
  have HP2 := hid hp2
  clear hp2 ho2 hk2 ho1
  go_wp2_with fail
  go_end0
  have := HP1.out.then HP2.out
  rw [HE.out] at this
  exact ⟨⟨_, rfl⟩, this.2⟩
end Go.Proofs.YtenijpcjemdhfaaGreatDoor
