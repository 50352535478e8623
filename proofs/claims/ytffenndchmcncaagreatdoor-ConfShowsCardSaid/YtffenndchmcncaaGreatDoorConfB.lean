/-
  Contracts of package conf: firstWord and its closure.
-/
import Derived.Test.YtffenndchmcncaaGreatDoorConfA
namespace Go.Proofs.YtffenndchmcncaaGreatDoor
open Go.RowKit Go.Pantry

theorem indexIn_any (p : List UInt8) (c : UInt8) (w : World) :
    Calls Tryz.prog 87 #[strV p, byteV c] w fun e w' => e = .returned (.int .i64 (Lib.indexByte p c)) ∧ w = w' := by
  have h := Tryz.strings_IndexByte ⟨p.toArray⟩ (c.toNat : Int) w
  rw [dtL, show ((c.toNat : Int)).toNat.toUInt8 = c by simp] at h
  exact h.mono fun e w' h => ⟨h.1, h.2.symm⟩
set_option maxRecDepth 4000 in
theorem ends_any (s : ByteArray) (i g : Nat) (w : World) (hs : s.size ≤ 100000) (hi : i ≤ s.size) (hg : w.cell? ⟨g, 0, none⟩ = some (.string s)) :
    Calls Tryz.prog 86 #[.int .i64 (i : Int), .pointer (some ⟨g, 0, none⟩)] w fun e w' => e = .returned (.bool (endsL s.data.toList i)) ∧ w = w' := by
  by_cases h : i = s.size
  · have e : endsL s.data.toList i = true := by
      unfold endsL
      rw [drop_nil s i (by omega)]
    rw [e]
    clear e
    subst h
    go_enter Tryz.func86, Tryz.ntmps86
    go_wp2
    go_ret
    exact ⟨rfl, rfl⟩
  · have hlt : i < s.size := by omega
    have e : endsL s.data.toList i = (isGap s[i] || isMark s[i] || remB (s.data.toList.drop i)) := by
      unfold endsL
      rw [drop_cons s i hlt]
    rw [e]
    have ci := indexIn_any [32, 9, 10, 123, 125, 59] s[i] w
    have hI := indexByte_nonneg [32, 9, 10, 123, 125, 59] s[i]
    rw [ends_contains] at hI
    obtain ⟨I, hIe⟩ : ∃ I, Lib.indexByte [32, 9, 10, 123, 125, 59] s[i] = I := ⟨_, rfl⟩
    rw [hIe] at ci hI
    obtain ⟨b, hb⟩ : ∃ b, (isGap s[i] || isMark s[i]) = b := ⟨_, rfl⟩
    rw [hb] at hI ⊢
    obtain ⟨D, hD⟩ : ∃ D, s.extract i s.size = D := ⟨_, rfl⟩
    have hDl : s.data.toList.drop i = D.data.toList := by
      rw [← hD, Lib.extract_eq, ← size_list]
      exact (List.take_of_length_le (by rw [List.length_drop]; exact Nat.le_refl _)).symm
    have cr := remark_any D.data.toList w
    rw [← hDl] at cr
    rw [show (strV (s.data.toList.drop i) : Value) = .string D by rw [hDl]] at cr
    obtain ⟨q, hq⟩ : ∃ q, remB (s.data.toList.drop i) = q := ⟨_, rfl⟩
    rw [hq] at cr ⊢
    have hne : ((i : Int) == (s.size : Int)) = false := by simp; omega
    have CI := hid ci
    have CR := hid cr
    clear ci cr hDl hIe e hb hq h
    cases b
    · have hI' : ¬ (0 : Int) ≤ I := by simpa using hI
      clear hI
      go_enter Tryz.func86, Tryz.ntmps86
      go_wp2_with (first | (go_at_call 87; refine CI.out.mono ?_; rintro e w2 ⟨rfl, rfl⟩) | (go_at_call 84; refine CR.out.mono ?_; rintro e w2 ⟨rfl, rfl⟩))
      go_ret
      exact ⟨ret_bool (by rw [decide_eq_false (by omega)]), rfl⟩
    · have hI' : (0 : Int) ≤ I := by simpa using hI
      clear hI
      go_enter Tryz.func86, Tryz.ntmps86
      go_wp2_with (first | (go_at_call 87; refine CI.out.mono ?_; rintro e w2 ⟨rfl, rfl⟩) | (go_at_call 84; refine CR.out.mono ?_; rintro e w2 ⟨rfl, rfl⟩))
      go_ret
      exact ⟨ret_bool (by simp), rfl⟩
/-- a variable of one cell that lies by itself -/
theorem cell_below {w w' : World} {g : Nat} {v : Value} (h : w.cell? ⟨g, 0, none⟩ = some v) (hb : Below w.heap.size w w') : w'.cell? ⟨g, 0, none⟩ = some v := kept h hb
theorem toList_full {s : ByteArray} (h : 0 < s.size) : s.toList.isEmpty = false := by
  rw [Lib.toList_data]
  cases e : s.data.toList with
  | nil => rw [← size_list, e] at h; simp at h
  | cons a r => rfl
theorem toList_none {s : ByteArray} (h : s.size = 0) : s.toList.isEmpty = true := by
  rw [Lib.toList_data, List.eq_nil_of_length_eq_zero (l := s.data.toList) (by rw [size_list]; exact h)]; rfl
theorem word_mark {s : ByteArray} (h : 0 < s.size) (hm : isMark s[0] = true) : wordL s.data.toList = [s[0]] := by
  have e := drop_cons s 0 h
  rw [List.drop_zero] at e
  rw [e]
  unfold wordL
  simp only
  rw [if_pos hm]
theorem word_run {s : ByteArray} (h : s.size = 0 ∨ ∃ h : 0 < s.size, isMark s[0] = false) : wordL s.data.toList = runL s.data.toList := by
  rcases h with h | ⟨h, hm⟩
  · rw [List.eq_nil_of_length_eq_zero (l := s.data.toList) (by rw [size_list]; exact h)]; rfl
  · have e := drop_cons s 0 h
    rw [List.drop_zero] at e
    rw [e]
    unfold wordL
    simp only
    rw [if_neg (by rw [hm]; decide)]
set_option maxRecDepth 4000 in
theorem firstWord_any (s : ByteArray) (w : World) (hs : s.size ≤ 100000) :
    Calls Tryz.prog 61 #[.string s] w fun e w' => e = .returned (strV (wordL s.data.toList)) ∧ Below w.heap.size w w' := by
  have hmf : ∀ (fn : Fn) (first cap : Array Value) (w : World), (Instr.makeFunc fn first cap).run Tryz.prog w = .ok (.func fn first cap) w := fun _ _ _ _ => rfl
  have hc0 : (w.alloc (.cells #[.string s] 9)).cell? ⟨w.heap.size, 0, none⟩ = some (.string s) := World.cell?_alloc_at _ _ _ _ rfl
  have hbl := below_alloc w (.cells #[.string s] 9)
  by_cases hk : ∃ h : 0 < s.size, isMark s[0] = true
  · obtain ⟨h0, hk⟩ := hk
    rw [word_mark h0 hk]
    have ci := fun W => indexIn_any [123, 125, 59] s[0] W
    have hI := indexByte_nonneg [123, 125, 59] s[0]
    rw [marks_contains, hk, decide_eq_true_eq] at hI
    obtain ⟨I, hIe⟩ : ∃ I, Lib.indexByte [123, 125, 59] s[0] = I := ⟨_, rfl⟩
    rw [hIe] at ci hI
    obtain ⟨D, hD⟩ : ∃ D, s.extract 0 1 = D := ⟨_, rfl⟩
    have hDl : (strV [s[0]] : Value) = .string D := by
      have e := drop_cons s 0 h0
      rw [List.drop_zero] at e
      have : D.data.toList = [s[0]] := by rw [← hD, Lib.extract_eq, e]; rfl
      rw [← this]
    rw [hDl]
    have CI := hid ci
    have HB := hid hbl
    have hne : s.toList.isEmpty = false := toList_full h0
    clear ci hIe hDl hk hbl
    go_enter Tryz.func61, Tryz.ntmps61
    go_wp2_with (first | (go_at_call 87; refine (CI.out _).mono ?_; rintro e w2 ⟨rfl, rfl⟩))
    go_ret
    exact ⟨rfl, HB.out⟩
  · have hor : s.size = 0 ∨ ∃ h : 0 < s.size, isMark s[0] = false := by
      by_cases h0 : s.size = 0
      · exact .inl h0
      · have h1 : 0 < s.size := by omega
        refine .inr ⟨h1, ?_⟩
        by_cases h2 : isMark s[0] = true
        · exact absurd ⟨h1, h2⟩ hk
        · exact Bool.eq_false_iff.2 h2
    rw [word_run hor]
    have ce := fun i W hi hg => ends_any s i w.heap.size W hs hi hg
    have CE := hid ce
    have HB := hid hbl
    have HC := hid hc0
    clear ce hk hbl
    rcases hor with h0 | ⟨h0, hk⟩
    focus
      have hne : s.toList.isEmpty = true := toList_none h0
      go_enter Tryz.func61, Tryz.ntmps61
      go_wp2
    rotate_left
    focus
      have ci := fun W => indexIn_any [123, 125, 59] s[0] W
      have hI := indexByte_nonneg [123, 125, 59] s[0]
      rw [marks_contains, hk, decide_eq_false_iff_not] at hI
      obtain ⟨I, hIe⟩ : ∃ I, Lib.indexByte [123, 125, 59] s[0] = I := ⟨_, rfl⟩
      rw [hIe] at ci hI
      have CI := hid ci
      have hne : s.toList.isEmpty = false := toList_full h0
      clear ci hIe hk
      go_enter Tryz.func61, Tryz.ntmps61
      go_wp2_with (first | (go_at_call 87; refine (CI.out _).mono ?_; rintro e w2 ⟨rfl, rfl⟩))
    all_goals clear hne
    all_goals
      go_loopw [4] (fun v wr => ∃ i : Nat, v = .int .i64 (i : Int) ∧ i ≤ s.size ∧ (∀ j, j < i → endsL s.data.toList j = false) ∧ wr.cell? ⟨w.heap.size, 0, none⟩ = some (.string s) ∧ Below w.heap.size w wr) (fun v _ => s.size - (intOf v).toNat)
      case atStart => exact ⟨0, rfl, Nat.zero_le _, (fun j hj => absurd hj (Nat.not_lt_zero _)), HC.out, HB.out⟩
      case round =>
        obtain ⟨i, rfl, hi, hj, hc, hb⟩ := hrel
        have ce := CE.out i wr hi hc
        obtain ⟨q, hq⟩ : ∃ q, endsL s.data.toList i = q := ⟨_, rfl⟩
        rw [hq] at ce
        have CX := hid ce
        have HF := hid (And.intro hj (And.intro hq hb))
        clear ce hj hq hb
        cases q
        · go_wp2_with (first | (go_at_call 86; refine CX.out.mono ?_; rintro e w3 ⟨rfl, rfl⟩))
          obtain ⟨hj, hq, hb⟩ := HF.out
          have hi' : i < s.size := by
            rcases Nat.lt_or_ge i s.size with h | h
            · exact h
            · unfold endsL at hq
              rw [drop_nil s i (by omega)] at hq
              cases hq
          go_roundw
          case rel =>
            refine ⟨i + 1, by go_num, hi', fun j hji => ?_, hc, hb⟩
            by_cases e : j = i
            · rw [e]; exact hq
            · exact hj j (by omega)
          case measure => simp [intOf]; omega
        · obtain ⟨D, hD⟩ : ∃ D, s.extract 0 i = D := ⟨_, rfl⟩
          have hDl : (strV (runL s.data.toList) : Value) = .string D := by
            obtain ⟨hj, hq, hb⟩ := HF.out
            rw [run_at s.data.toList i hj hq (by rw [size_list]; exact hi)]
            have : D.data.toList = s.data.toList.take i := by rw [← hD, Lib.extract_eq]; simp
            rw [← this]
          have HDL := hid hDl
          clear hDl
          go_wp2_with (first | (go_at_call 86; refine CX.out.mono ?_; rintro e w3 ⟨rfl, rfl⟩))
          go_ret
          exact ⟨congrArg Ending.returned HDL.out.symm, HF.out.2.2⟩
end Go.Proofs.YtffenndchmcncaaGreatDoor
