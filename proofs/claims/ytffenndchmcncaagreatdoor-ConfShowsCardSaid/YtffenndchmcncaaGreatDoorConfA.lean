/-
  Contracts of package conf: behindGap, firstWord.
-/
import Derived.Test.YtffenndchmcncaaGreatDoorPureAll3
import Derived.Test.YtffenndchmcncaaGreatDoorPlaceG
import Derived.Lib.SlTrimSet
import Derived.Deep.QuietTactic
import Derived.BigQuiet
namespace Go.Pantry
open Go.RowKit
theorem gaps_contains (c : UInt8) : ([32, 9, 10] : List UInt8).contains c = isGap c := by
  have h := byte_all (p := fun c => ([32, 9, 10] : List UInt8).contains c == isGap c) (by decide +kernel) c
  exact beq_iff_eq.1 h
theorem ends_contains (c : UInt8) : ([32, 9, 10, 123, 125, 59] : List UInt8).contains c = (isGap c || isMark c) := by
  have h := byte_all (p := fun c => ([32, 9, 10, 123, 125, 59] : List UInt8).contains c == (isGap c || isMark c)) (by decide +kernel) c
  exact beq_iff_eq.1 h
theorem marks_contains (c : UInt8) : ([123, 125, 59] : List UInt8).contains c = isMark c := by
  have h := byte_all (p := fun c => ([123, 125, 59] : List UInt8).contains c == isMark c) (by decide +kernel) c
  exact beq_iff_eq.1 h
theorem skip_drop : ∀ s : List UInt8, skipL false (s.dropWhile isGap) = skipL false s
  | [] => rfl
  | c :: r => by
    by_cases h : isGap c = true
    · rw [List.dropWhile_cons_of_pos h, skip_drop r]
      show _ = skipL false (c :: r)
      rw [skipL, if_pos h]
    · rw [List.dropWhile_cons_of_neg h]
theorem skip_beh : ∀ s : List UInt8, skipL true s = skipL false (beh 10 s)
  | [] => rfl
  | c :: r => by
    by_cases h : c = 10
    · subst h
      rw [skipL, if_pos (by decide)]
      unfold beh
      rw [List.dropWhile_cons_of_neg (by simp)]; rfl
    · rw [skipL, if_neg (by simpa using h), skip_beh r]
      unfold beh
      rw [List.dropWhile_cons_of_pos (by simpa using h)]
theorem drop_gap (s : List UInt8) : (s.dropWhile isGap).dropWhile isGap = s.dropWhile isGap := by
  induction s with
  | nil => rfl
  | cons c r ih =>
    by_cases h : isGap c = true
    · rw [List.dropWhile_cons_of_pos h]; exact ih
    · rw [List.dropWhile_cons_of_neg h, List.dropWhile_cons_of_neg h]
theorem drop_gap_len (s : List UInt8) : (s.dropWhile isGap).length ≤ s.length := (List.dropWhile_sublist _).length_le
theorem rem_yes {s : List UInt8} (h : remB s = true) : ∃ r, s = 47 :: 47 :: r := by
  unfold remB at h
  match s with
  | [] => simp [List.isPrefixOf] at h
  | [c] => simp [List.isPrefixOf] at h
  | c :: d :: r =>
    simp [List.isPrefixOf] at h
    exact ⟨r, by rw [← h.1, ← h.2]⟩
theorem skip_rem {s : List UInt8} (h : remB s = true) : skipL false s = skipL false ((beh 10 s).dropWhile isGap) := by
  rw [skip_drop]
  obtain ⟨r, rfl⟩ := rem_yes h
  rw [skipL, if_neg (by decide), if_pos h, ← skip_beh]
  rfl
theorem skip_stay {s : List UInt8} (h : s.dropWhile isGap = s) (h2 : remB s = false) : skipL false s = s := by
  cases s with
  | nil => rfl
  | cons c r =>
    have hc : ¬ isGap c = true := by
      intro hg
      rw [List.dropWhile_cons_of_pos hg] at h
      have := drop_gap_len r
      rw [h, List.length_cons] at this; omega
    rw [skipL, if_neg hc, if_neg (by rw [h2]; decide)]
theorem beh_less {s : List UInt8} (h : remB s = true) : (beh 10 s).length < s.length := by
  obtain ⟨r, rfl⟩ := rem_yes h
  unfold beh
  have : (((47 :: 47 :: r : List UInt8).dropWhile (· != 10))).length ≤ (47 :: 47 :: r : List UInt8).length := (List.dropWhile_sublist _).length_le
  rw [List.length_tail]
  simp only [List.length_cons] at this ⊢
  omega
/-- a text's length -/
def lenV : Value → Nat
  | .string b => b.size
  | _ => 0
theorem lenV_str (l : List UInt8) : lenV (strV l) = l.length := by show (⟨l.toArray⟩ : ByteArray).size = _; rw [Lib.size_eq]
/-- where a word ends: at the text's end, or at what parts words -/
def endsL (s : List UInt8) (i : Nat) : Bool := match s.drop i with
  | [] => true
  | c :: r => isGap c || isMark c || remB (c :: r)
theorem run_at : ∀ (s : List UInt8) (i : Nat), (∀ j, j < i → endsL s j = false) → endsL s i = true → i ≤ s.length → runL s = s.take i
  | [], i, _, _, hi => by
    have : i = 0 := by simpa using hi
    subst this; rfl
  | c :: r, 0, _, h, _ => by
    unfold endsL at h
    simp only [List.drop_zero] at h
    rw [runL, if_pos h]; rfl
  | c :: r, i + 1, hj, h, hi => by
    have h0 := hj 0 (by omega)
    unfold endsL at h0
    simp only [List.drop_zero] at h0
    rw [runL, if_neg (by rw [h0]; decide), run_at r i (fun j hji => hj (j + 1) (by omega)) h (by simpa using hi)]
    rfl
end Go.Pantry
namespace Go.Proofs.YtffenndchmcncaaGreatDoor
open Go.RowKit Go.Pantry

theorem trimGap_any (l : List UInt8) (w : World) :
    Calls Tryz.prog 83 #[strV l, .string ⟨#[32, 9, 10]⟩] w fun e w' => e = .returned (strV (l.dropWhile isGap)) ∧ Below w.heap.size w w' := by
  have c := Tryz.strings_TrimLeft ⟨l.toArray⟩ ⟨#[32, 9, 10]⟩ w (by decide) (by
    intro j b h
    match j with
    | 0 => cases h; decide
    | 1 => cases h; decide
    | 2 => cases h; decide
    | j + 3 => cases h)
  unfold Lib.trimLeftS at c
  rw [dtL, show (fun x => ((⟨#[32, 9, 10]⟩ : ByteArray).data.toList).contains x) = isGap from funext gaps_contains] at c
  exact c
theorem remark_any (l : List UInt8) (w : World) :
    Calls Tryz.prog 84 #[strV l, .string ⟨#[47, 47]⟩] w fun e w' => e = .returned (.bool (remB l)) ∧ w = w' := by
  have c := Tryz.strings_HasPrefix ⟨l.toArray⟩ ⟨#[47, 47]⟩ w
  rw [dtL] at c
  exact c.mono fun e w' h => ⟨h.1, h.2.symm⟩
set_option maxRecDepth 4000 in
theorem behindGap_any (s : List UInt8) (w : World) (hs : s.length ≤ 100000) (hm : MaxOk w) :
    Calls Tryz.prog 60 #[strV s] w fun e w' => e = .returned (strV (skipL false s)) ∧ Below w.heap.size w w' := by
  have HM := hid hm
  clear hm
  go_enter Tryz.func60, Tryz.ntmps60
  go_wp2_with (go_at_call 83; refine (trimGap_any s _).mono ?_; rintro e w1 ⟨rfl, hb1⟩)
  go_loopw [0] (fun v wr => ∃ l, v = strV l ∧ l.length ≤ 100000 ∧ l.dropWhile isGap = l ∧ skipL false l = skipL false s ∧ Below w.heap.size w wr) (fun v _ => lenV v)
  case atStart => exact ⟨_, rfl, Nat.le_trans (drop_gap_len s) hs, drop_gap s, skip_drop s, hb1⟩
  case round =>
    obtain ⟨l, rfl, hl, hd, hsk, hb⟩ := hrel
    have HF := hid (And.intro hl (And.intro hd (And.intro hsk hb)))
    have cr := remark_any l wr
    obtain ⟨q, hq⟩ : ∃ q, remB l = q := ⟨_, rfl⟩
    rw [hq] at cr
    have CR := hid cr
    have HQ := hid hq
    have cc := cut_any 10 l wr (HM.out.below hb) (by omega)
    obtain ⟨r, hr⟩ : ∃ r, beh 10 l = r := ⟨_, rfl⟩
    obtain ⟨a, ha⟩ : ∃ a, bef 10 l = a := ⟨_, rfl⟩
    obtain ⟨x, hx⟩ : ∃ x, hasB 10 l = x := ⟨_, rfl⟩
    rw [hr, ha, hx] at cc
    have CC := hid cc
    have HR := hid hr
    clear hl hd hsk hb cr hq cc hr ha hx
    cases q
    · go_wp2_with (first | (go_at_call 84; refine CR.out.mono ?_; rintro e w2 ⟨rfl, rfl⟩))
      go_ret
      obtain ⟨hl, hd, hsk, hb⟩ := HF.out
      rw [← hsk, skip_stay hd HQ.out]
      exact ⟨rfl, hb⟩
    · go_wp2_with (first | (go_at_call 84; refine CR.out.mono ?_; rintro e w2 ⟨rfl, rfl⟩) | (go_at_call 85; refine CC.out.mono ?_; rintro e w3 ⟨rfl, hb3⟩) | (go_at_call 83; refine (trimGap_any r _).mono ?_; rintro e w4 ⟨rfl, hb4⟩))
      obtain ⟨hl, hd, hsk, hb⟩ := HF.out
      have hlt := beh_less HQ.out
      rw [HR.out] at hlt
      have hle := drop_gap_len r
      go_roundw
      case rel =>
        refine ⟨_, rfl, by omega, drop_gap _, ?_, chainP hb (chainP hb3 hb4)⟩
        rw [← hsk, skip_rem HQ.out, HR.out]
      case measure =>
        rw [lenV_str, lenV_str]; omega
end Go.Proofs.YtffenndchmcncaaGreatDoor
