/-
  The document's Words.
-/
import Derived.Test.YtenijpcjemdhfaaGreatDoorP10dRef9W
namespace Go.Proofs.YtenijpcjemdhfaaGreatDoor
open Go.RowKit Go.Pantry

/-- at the head of the loop over a text -/
structure WordsL (w0 wr : World) (g : Nat) (T : List UInt8) (i j line : Nat) (wv lv : Value) : Prop where
  at_ : WordsJ T i j line
  box : PAt wr g wv lv ((textW T).take j) ((List.range j).map (lineN T)) 0 0 0
  below : Below w0.heap.size w0 wr
/-- what Words makes -/
def WordsPost (w : World) (T : List UInt8) (e : Ending) (w' : World) : Prop :=
  ∃ g wv lv, e = .returned (.pointer (some ⟨g, 0, none⟩)) ∧ w.heap.size ≤ g ∧ PAt w' g wv lv (textW T ++ [[]]) ((List.range ((textW T).length + 1)).map (lineN T)) 0 0 0 ∧ Below w.heap.size w w'
theorem below_ge {w w1 w2 : World} {g : Nat} (h : Below w.heap.size w w1) (hg : w.heap.size ≤ g) (k : Kept (fun k => g ≤ k) w1 w2) : Below w.heap.size w w2 :=
  ((Kept.of_below (X := fun k => w.heap.size ≤ k) h).trans k (fun k e _ => Nat.le_trans hg e)).below (fun k h _ => h) (Nat.le_refl _)
theorem gap_mark {c : UInt8} (h : isGap c = true) : isMark c = false := by
  have := byte_all (p := fun c => !(isGap c) || !(isMark c)) (by decide +kernel) c
  rw [h] at this; simpa using this
theorem mark_ten {c : UInt8} (h : isMark c = true) : (c == 10) = false := by
  have := byte_all (p := fun c => !(isMark c) || !(c == 10)) (by decide +kernel) c
  rw [h] at this; simpa using this
theorem mark_no {c : UInt8} (h : isMark c = false) : (c == 123) = false ∧ (c == 125) = false ∧ (c == 59) = false := by
  unfold isMark at h
  rw [Bool.or_eq_false_iff, Bool.or_eq_false_iff] at h
  exact ⟨h.1.1, h.1.2, h.2⟩
theorem mark_is {c : UInt8} (h : isMark c = true) : c = 123 ∨ c = 125 ∨ c = 59 := by
  unfold isMark at h
  simpa [or_assoc] using h
theorem words_end {t : List UInt8} {i j line : Nat} (h : WordsJ t i j line) (hi : i = t.length) : j = (textW t).length := by
  have hr := h.rest
  rw [hi, List.drop_eq_nil_of_le (Nat.le_refl _)] at hr
  have h1 := stepN_words j (skipL false t) (norm_skip t false)
  rw [← hr] at h1
  have h2 : (textW t).drop j = [] := h1.symm
  have h3 := h.words
  have := List.drop_eq_nil_iff.1 h2
  omega
theorem line_end {t : List UInt8} {i j line : Nat} (h : WordsJ t i j line) (hi : i = t.length) : lineN t j = line := by
  have hj := words_end h hi
  have hr := h.rest
  rw [hi, List.drop_eq_nil_of_le (Nat.le_refl _)] at hr
  unfold lineN lineK
  rw [show (textW t).length - ((textW t).length - j) = j by omega, ← hr, h.line, hi, List.take_length]
  rfl
set_option maxRecDepth 100000 in
set_option maxHeartbeats 2000000 in
theorem words_any (s : ByteArray) (w : World) (hs : s.size ≤ 100000) :
    Calls Tryz.prog 40 #[.string s] w (WordsPost w s.data.toList) := by
  obtain ⟨T, hT⟩ : ∃ T, s.data.toList = T := ⟨_, rfl⟩
  have hTl : T.length = s.size := by rw [← hT, size_list]
  rw [hT]
  have J0 : Hid (WordsL w (w.alloc (.cells (pRow (.slice none 0 0) (.slice none 0 0) 0 0 0) 90)) w.heap.size T 0 0 1 (.slice none 0 0) (.slice none 0 0)) :=
    ⟨wordsJ_start T, ⟨rowIs_new _ _ _, World.ownsRow_nil _ _ _ _, World.ownsRow_nil _ _ _ _, In.nil _ _, In.nil _ _, fun k h => by cases h⟩, below_alloc _ _⟩
  have HT := hid hT
  have HTL := hid hTl
  have HWL := hid (Nat.le_trans (wordsL_all T) (Nat.le_of_eq hTl))
  clear hT hTl
  go_enter Tryz.func40, Tryz.ntmps40
  go_wp2_with fail
  go_loopw [4, 5] (fun l z wr => ∃ (i j line : Nat) (wv lv : Value), l = .int .i64 (line : Int) ∧ z = .int .i64 (i : Int) ∧ WordsL w wr w.heap.size T i j line wv lv) (fun _ z _ => s.size - (intOf z).toNat)
  case atStart => exact ⟨0, 0, 1, _, _, rfl, rfl, J0.out⟩
  case round =>
    clear J0
    obtain ⟨i, j, line, wv, lv, rfl, rfl, hJ⟩ := hrel
    obtain ⟨aow, cw, hfw⟩ := hJ.box.ow.reads.form
    obtain ⟨aol, cl, hfl⟩ := hJ.box.ol.reads.form
    obtain ⟨nw, hnw⟩ : ∃ n, (((textW T).take j).map strV).length = n := ⟨_, rfl⟩
    obtain ⟨nl, hnl⟩ : ∃ n, (((List.range j).map (lineN T)).map (fun n : Nat => Value.int .i64 (n : Int))).length = n := ⟨_, rfl⟩
    rw [hnw] at hfw
    rw [hnl] at hfl
    subst hfw hfl
    have HJ := hid hJ
    have HP := hid hJ.box
    have cw0 := hJ.box.row.cell 0
    have hile : i ≤ s.size := by have := hJ.at_.le; have := HTL.out; omega
    have hlb : line ≤ 100001 := by
      have h1 := hJ.at_.line
      have h2 := List.count_le_length (a := (10 : UInt8)) (l := T.take i)
      have h3 : (T.take i).length ≤ i := List.length_take_le _ _
      unfold nlL at h1; omega
    have HJN := hid (show ((textW T).take j).length + 1 < 4294967296 ∧ ((List.range j).map (lineN T)).length + 1 < 4294967296 from by
      have h1 := hJ.at_.words
      have h2 := HWL.out
      rw [List.length_take, List.length_map, List.length_range]
      omega)
    clear hJ hnw hnl
    have hwl1 : IntKind.i64.wrap ((line : Int) + 1) = ((line + 1 : Nat) : Int) := by rw [IntWalk.i64_in _ (by omega)]; omega
    have hwi1 : IntKind.i64.wrap ((i : Int) + 1) = ((i + 1 : Nat) : Int) := by rw [IntWalk.i64_in _ (by omega)]; omega
    by_cases hlt : i < s.size
    rotate_left
    · have hk0 : ¬ (i : Int) < (s.size : Int) := by omega
      have HOW := hid HP.out.ow
      go_wp2_with (first | (at_builtin; refine wpList_append_more _ rfl _ _ 62 rfl 0 9 Tryz.underlying62 infoStr rfl (by decide) rfl (HOW.out.alloc _) (reads_new wr [strV []] 9 1) (fun u hu => by rw [List.mem_singleton] at hu; subst hu; rfl) rfl (by have := HJN.out; simp only [List.length_singleton]; omega) (Nat.zero_le _) ?_; intro v5 w5 ho5 hg5 hi5; obtain ⟨ao5, n5, c5, rfl⟩ : ∃ ao n c, v5 = .slice ao n c := (let ⟨ao, c, e⟩ := ho5.reads.form; ⟨ao, _, c, e⟩); obtain ⟨R5, P5, K5⟩ := HP.out.pushW (below_alloc wr _) ho5 hg5 hi5; have cc5 := R5.cell 0; have ff5 := R5.free 0; have H5 := hid (And.intro P5 K5); have l0 := P5.row.cell 1; clear R5 P5 K5 ho5 hg5 hi5) | (at_builtin; go_must (refine wpList_append_more _ rfl _ _ 49 rfl 0 3 Tryz.underlying49 infoI rfl (by decide) rfl (H5.out.1.ol.alloc _) (reads_new_at _ [.int .i64 (line : Int)] 3 1 _ (by simp)) (fun u hu => by rw [List.mem_singleton] at hu; subst hu; rfl) rfl (by have := HJN.out; simp only [List.length_singleton]; omega) (Nat.zero_le _) ?_); intro v6 w6 ho6 hg6 hi6; obtain ⟨ao6, n6, c6, rfl⟩ : ∃ ao n c, v6 = .slice ao n c := (let ⟨ao, c, e⟩ := ho6.reads.form; ⟨ao, _, c, e⟩); obtain ⟨R6, P6, K6⟩ := H5.out.1.pushL (below_alloc _ _) ho6 hg6 hi6; have cc6 := R6.cell 1; have ff6 := R6.free 1; have H6 := hid (And.intro P6 K6); clear R6 P6 K6 ho6 hg6 hi6))
      go_ret
      have hi : i = T.length := by have := HTL.out; omega
      have hat := HJ.out.at_
      have hrest := hat.rest
      rw [hi, List.drop_eq_nil_of_le (Nat.le_refl _)] at hrest
      have hjn : j = (textW T).length := words_end hat hi
      refine ⟨w.heap.size, .slice ao5 n5 c5, .slice ao6 n6 c6, rfl, Nat.le_refl _, ?_, below_ge (below_ge HJ.out.below (Nat.le_refl _) H5.out.2) (Nat.le_refl _) H6.out.2⟩
      have hW : (textW T).take j ++ [[]] = textW T ++ [[]] := by rw [List.take_of_length_le (by omega)]
      have hL : (List.range j).map (lineN T) ++ [line] = (List.range ((textW T).length + 1)).map (lineN T) := by
        rw [List.range_succ, List.map_append, ← hjn]
        congr 1
        rw [List.map_singleton, line_end hat hi]
      rw [← hW, ← hL]
      exact H6.out.1
    have hcI : T[i]? = some s[i] := by rw [← HT.out, List.getElem?_eq_getElem (by rw [size_list]; exact hlt)]; rfl
    have HCI := hid hcI
    have cc := comment_any s i wr hile hs
    rw [HT.out] at cc
    have hk0 : (i : Int) < (s.size : Int) := by omega
    by_cases hr : remB (T.drop i) = true
    · rw [hr] at cc
      have CC := hid cc
      have HRJ := hid (HJ.out.at_.rem hr)
      have HR47 := hid hr
      clear cc hr hcI
      go_wp2_with (go_at_call 54; refine CC.out.mono ?_; rintro e w2 ⟨rfl, rfl⟩)
      have h47 : s[i] = 47 := by
        have h1 := HR47.out
        rw [rem_two, HCI.out] at h1
        simp at h1
        exact h1.1
      have HR0 := hid h47
      clear h47 hk0
      go_loop [5] (fun z => ∃ i2 : Nat, z = .int .i64 (i2 : Int) ∧ i ≤ i2 ∧ RemJ T i2 j line) (fun z => s.size - (intOf z).toNat)
      case atStart => exact ⟨i, rfl, Nat.le_refl _, HRJ.out⟩
      case round =>
        obtain ⟨i2, rfl, hi2, hR⟩ := hrel
        have HRR := hid hR
        have hle2 : i2 ≤ s.size := by have := hR.le; have := HTL.out; omega
        clear hR
        have hwi2 : IntKind.i64.wrap ((i2 : Int) + 1) = ((i2 + 1 : Nat) : Int) := by rw [IntWalk.i64_in _ (by omega)]; omega
        by_cases hl2 : i2 < s.size
        · have hc2 : T[i2]? = some s[i2] := by rw [← HT.out, List.getElem?_eq_getElem (by rw [size_list]; exact hl2)]; rfl
          have HC2 := hid hc2
          have hk2 : (i2 : Int) < (s.size : Int) := by omega
          clear hc2
          by_cases h10 : s[i2] = 10
          · have e10 : ((s[i2].toNat : Int) == 10) = true := by rw [h10]; decide
            have H10 := hid h10
            clear h10
            go_wp2_with fail
            have hlt2 : i < i2 := by
              rcases Nat.lt_or_ge i i2 with h | h
              · exact h
              · have : i = i2 := by omega
                subst this
                have h1 := HR0.out
                rw [H10.out] at h1; cases h1
            go_roundw
            case rel =>
              exact ⟨i2, j, line, _, _, rfl, rfl, ⟨HRR.out.done (.inr (by rw [HC2.out, H10.out])), HP.out, HJ.out.below⟩⟩
            case measure => simp [intOf]; omega
          · have e10 : ((s[i2].toNat : Int) == 10) = false := by rw [← byte_beq s[i2] 10 (z := 10) (by decide)]; simpa using h10
            have H10 := hid h10
            clear h10
            go_wp2_with fail
            go_round
            case rel => exact ⟨i2 + 1, rfl, by omega, HRR.out.next HC2.out H10.out⟩
            case measure => simp [intOf]; omega
        · have hk2 : ¬ (i2 : Int) < (s.size : Int) := by omega
          go_wp2_with fail
          go_roundw
          case rel =>
            exact ⟨i2, j, line, _, _, rfl, rfl, ⟨HRR.out.done (.inl (by rw [List.getElem?_eq_none]; have := HTL.out; omega)), HP.out, HJ.out.below⟩⟩
          case measure => simp [intOf]; omega
    have hr0 : remB (T.drop i) = false := Bool.eq_false_iff.2 hr
    rw [hr0] at cc
    have CC := hid cc
    have HR0 := hid hr0
    clear cc hr hcI hr0
    by_cases hg : isGap s[i] = true
    · have cp := plain_any s[i] wr
      rw [hg, Bool.true_or, Bool.not_true] at cp
      have CP := hid cp
      have hm : isMark s[i] = false := gap_mark hg
      have m1 : ((s[i].toNat : Int) == 123) = false := by rw [← byte_beq s[i] 123 (z := 123) (by decide)]; exact (mark_no hm).1
      have m2 : ((s[i].toNat : Int) == 125) = false := by rw [← byte_beq s[i] 125 (z := 125) (by decide)]; exact (mark_no hm).2.1
      have m3 : ((s[i].toNat : Int) == 59) = false := by rw [← byte_beq s[i] 59 (z := 59) (by decide)]; exact (mark_no hm).2.2
      have HGJ := hid (HJ.out.at_.gap HCI.out hg)
      by_cases h10 : s[i] = 10
      · have e10 : ((s[i].toNat : Int) == 10) = true := by rw [h10]; decide
        rw [if_pos h10] at HGJ
        clear cp hg hm h10
        go_wp2_with (first | (go_at_call 54; refine CC.out.mono ?_; rintro e w2 ⟨rfl, rfl⟩) | (go_at_call 55; refine CP.out.mono ?_; rintro e w2 ⟨rfl, rfl⟩))
        go_roundw
        case rel => exact ⟨i + 1, j, line + 1, _, _, rfl, rfl, ⟨HGJ.out, HP.out, HJ.out.below⟩⟩
        case measure => simp [intOf]; omega
      · have e10 : ((s[i].toNat : Int) == 10) = false := by rw [← byte_beq s[i] 10 (z := 10) (by decide)]; simpa using h10
        rw [if_neg h10] at HGJ
        clear cp hg hm h10
        go_wp2_with (first | (go_at_call 54; refine CC.out.mono ?_; rintro e w2 ⟨rfl, rfl⟩) | (go_at_call 55; refine CP.out.mono ?_; rintro e w2 ⟨rfl, rfl⟩))
        go_roundw
        case rel => exact ⟨i + 1, j, line, _, _, rfl, rfl, ⟨HGJ.out, HP.out, HJ.out.below⟩⟩
        case measure => simp [intOf]; omega
    have hg0 : isGap s[i] = false := Bool.eq_false_iff.2 hg
    by_cases hm : isMark s[i] = true
    · have cp := plain_any s[i] wr
      rw [hm, Bool.or_true, Bool.not_true] at cp
      have CP := hid cp
      have h10 : ((s[i].toNat : Int) == 10) = false := by rw [← byte_beq s[i] 10 (z := 10) (by decide)]; have h := hg0; exact mark_ten hm
      obtain ⟨hw1, hw2, hw3⟩ := HJ.out.at_.mark HCI.out hm HR0.out
      have HMJ := hid (And.intro hw1 (And.intro hw2 hw3))
      obtain ⟨D, hD⟩ : ∃ D, s.extract i (i + 1) = D := ⟨_, rfl⟩
      have HD : Hid ((strV [s[i]] : Value) = .string D) := by
        have : D.data.toList = [s[i]] := by
          rw [← hD, Lib.extract_eq, HT.out, drop_at HCI.out]
          simp
        show (strV [s[i]] : Value) = .string D
        rw [← this]
      obtain ⟨i2, hi2⟩ : ∃ k, i + 1 = k := ⟨_, rfl⟩
      rw [hi2] at hwi1 HMJ hD
      have HI2 := hid hi2
      have hb1 : (i2 : Int) ≤ (s.size : Int) := by omega
      have hb2 : (i : Int) ≤ (i2 : Int) := by omega
      have hb3 : (0 : Int) ≤ (i : Int) := by omega
      have hb5 : (0 : Int) ≤ (i2 : Int) := by omega
      have hb4 : ((i2 : Int)).toNat = i2 := by simp
      have hm3 := mark_is hm
      clear cp hm hw1 hw2 hw3 hg0 hi2
      rcases hm3 with hc | hc | hc
      · have n1 : ((s[i].toNat : Int) == 123) = true := by rw [← byte_beq s[i] 123 (z := 123) (by decide), hc]; decide
        have n2 : ((s[i].toNat : Int) == 125) = false := by rw [← byte_beq s[i] 125 (z := 125) (by decide), hc]; decide
        have n3 : ((s[i].toNat : Int) == 59) = false := by rw [← byte_beq s[i] 59 (z := 59) (by decide), hc]; decide
        clear hc
        go_wp2_with (first | (go_at_call 54; refine CC.out.mono ?_; rintro e w2 ⟨rfl, rfl⟩) | (go_at_call 55; refine CP.out.mono ?_; rintro e w2 ⟨rfl, rfl⟩))
        refine wp_region_K 14 (by kernel_rfl) (fun w' => w'.cell? ⟨w.heap.size, 0, none⟩ = some (.slice aow nw cw)) (by exact cw0) (fun hH => ?_)
        refine wpAnyK_take (i := 0) (v := ?_) rfl (by kernel_rfl) (by kernel_rfl) (by kernel_rfl) (by decide) (by kernel_rfl) (fun _ _ _ h => h) (Or.inl ⟨by kernel_rfl, ?_⟩) hH ?_
        rotate_left
        · intro W hS
          go_simp
          first | done | with_reducible rfl
        simp only [Act.put, List.getElem_toArray, List.getElem_cons_succ, List.getElem_cons_zero, List.setIfInBounds_toArray, List.set_cons_zero, List.set_cons_succ]
        refine wpAnyK_take (i := 1) (v := ?_) rfl (by kernel_rfl) (by kernel_rfl) (by kernel_rfl) (by decide) (by kernel_rfl) (fun _ _ _ h => h) (Or.inl ⟨by kernel_rfl, ?_⟩) hH ?_
        rotate_left
        · intro W hS
          go_simp
          first | done | with_reducible rfl
        simp only [Act.put, List.getElem_toArray, List.getElem_cons_succ, List.getElem_cons_zero, List.setIfInBounds_toArray, List.set_cons_zero, List.set_cons_succ]
        refine wpAnyK_take (i := 2) (v := ?_) rfl (by kernel_rfl) (by kernel_rfl) (by kernel_rfl) (by decide) (by kernel_rfl) (fun _ _ _ h => h) (Or.inl ⟨by kernel_rfl, ?_⟩) hH ?_
        rotate_left
        · intro W hS
          go_simp
          first | done | with_reducible rfl
        simp only [Act.put, List.getElem_toArray, List.getElem_cons_succ, List.getElem_cons_zero, List.setIfInBounds_toArray, List.set_cons_zero, List.set_cons_succ]
        refine wpAnyK_take (i := 3) (v := ?_) rfl (by kernel_rfl) (by kernel_rfl) (by kernel_rfl) (by decide) (by kernel_rfl) (fun _ _ _ h => h) (Or.inl ⟨by kernel_rfl, ?_⟩) hH ?_
        rotate_left
        · intro W hS
          go_simp
          first | done | with_reducible rfl
        simp only [Act.put, List.getElem_toArray, List.getElem_cons_succ, List.getElem_cons_zero, List.setIfInBounds_toArray, List.set_cons_zero, List.set_cons_succ]
        refine wpAnyK_take (i := 4) (v := ?_) rfl (by kernel_rfl) (by kernel_rfl) (by kernel_rfl) (by decide) (by kernel_rfl) (fun _ _ _ h => h) (Or.inl ⟨by kernel_rfl, ?_⟩) hH ?_
        rotate_left
        · intro W hS
          go_simp
          first | done | with_reducible rfl
        simp only [Act.put, List.getElem_toArray, List.getElem_cons_succ, List.getElem_cons_zero, List.setIfInBounds_toArray, List.set_cons_zero, List.set_cons_succ]
        refine wpAnyK_take (i := 5) (v := ?_) rfl (by kernel_rfl) (by kernel_rfl) (by kernel_rfl) (by decide) (by kernel_rfl) (fun _ _ _ h => h) (Or.inl ⟨by kernel_rfl, ?_⟩) hH ?_
        rotate_left
        · intro W hS
          go_simp
          first | done | with_reducible rfl
        simp only [Act.put, List.getElem_toArray, List.getElem_cons_succ, List.getElem_cons_zero, List.setIfInBounds_toArray, List.set_cons_zero, List.set_cons_succ]
        refine wpAnyK_take (i := 6) (v := ?_) rfl (by kernel_rfl) (by kernel_rfl) (by kernel_rfl) (by decide) (by kernel_rfl) (fun _ _ _ h => h) (Or.inl ⟨by kernel_rfl, ?_⟩) hH ?_
        rotate_left
        · intro W hS
          go_simp
          first | done | with_reducible rfl
        simp only [Act.put, List.getElem_toArray, List.getElem_cons_succ, List.getElem_cons_zero, List.setIfInBounds_toArray, List.set_cons_zero, List.set_cons_succ]
        refine wpAnyK_take (i := 7) (v := ?_) rfl (by kernel_rfl) (by kernel_rfl) (by kernel_rfl) (by decide) (by kernel_rfl) (fun _ _ _ h => h) (Or.inl ⟨by kernel_rfl, ?_⟩) hH ?_
        rotate_left
        · intro W hS
          go_simp
          first | done | with_reducible rfl
        simp only [Act.put, List.getElem_toArray, List.getElem_cons_succ, List.getElem_cons_zero, List.setIfInBounds_toArray, List.set_cons_zero, List.set_cons_succ]
        refine wpAnyK_take (i := 8) (v := ?_) rfl (by kernel_rfl) (by kernel_rfl) (by kernel_rfl) (by decide) (by kernel_rfl) (fun _ _ _ h => h) (Or.inl ⟨by kernel_rfl, ?_⟩) hH ?_
        rotate_left
        · intro W hS
          go_simp
          first | done | with_reducible rfl
        simp only [Act.put, List.getElem_toArray, List.getElem_cons_succ, List.getElem_cons_zero, List.setIfInBounds_toArray, List.set_cons_zero, List.set_cons_succ]
        refine wpAnyK_take (i := 9) (v := ?_) rfl (by kernel_rfl) (by kernel_rfl) (by kernel_rfl) (by decide) (by kernel_rfl) (fun _ _ _ h => h) (Or.inl ⟨by kernel_rfl, ?_⟩) hH ?_
        rotate_left
        · intro W hS
          go_simp
          first | done | with_reducible rfl
        simp only [Act.put, List.getElem_toArray, List.getElem_cons_succ, List.getElem_cons_zero, List.setIfInBounds_toArray, List.set_cons_zero, List.set_cons_succ]
        refine wpAnyK_next (i := 10) (by kernel_rfl) rfl (by decide) (fun K hK => ?_)
        obtain ⟨w4, hW4⟩ : ∃ W, W = (wr.alloc (.cells #[.string D] 9)).drew := ⟨_, rfl⟩
        have hb4 : Below wr.heap.size wr w4 := by rw [hW4]; exact (below_alloc _ _).drew
        have HC4 : Hid (w4.cell? ⟨wr.heap.size, 0, none⟩ = some (.string D)) := by rw [hW4]; exact World.cell?_alloc_at _ _ _ _ rfl
        have cc4 := (HP.out.row.below hb4).cell 0
        have HB4 := hid hb4
        go_simp
        rw [← hW4]
        clear hW4 hb4
        refine hK.out _ _ cc4 (fun hH => ?_)
        clear hK K
        try simp only [Act.put, List.getElem_toArray, List.getElem_cons_succ, List.getElem_cons_zero, List.setIfInBounds_toArray, List.set_cons_zero, List.set_cons_succ]
        refine wpAnyK_next (i := 11) (by kernel_rfl) rfl (by decide) (fun K hK => ?_)
        rw [if_pos (by kernel_rfl)]
        refine wp_append_gen w4 (.tmp 100) (.tmp 106) 62 rfl 0 9 Tryz.underlying62 infoStr rfl (by decide) (by decide) (v := .slice aow nw cw) rfl (HP.out.below HB4.out).ow ⟨wr.heap.size, 0, none⟩ 1 1 [strV [s[i]]] rfl (fun j u hj => ?_) (fun u hu => ?_) rfl (by have := HJN.out; omega) (Nat.zero_le _) (fun v5 w5 ho5 hg5 hi5 => ?_)
        · cases j with
          | zero => cases hj; rw [addAt2]; rw [HD.out]; exact HC4.out
          | succ j => cases hj
        · rw [List.mem_singleton] at hu; subst hu; rfl
        obtain ⟨ao5, n5, c5, rfl⟩ : ∃ ao n c, v5 = .slice ao n c := by obtain ⟨ao, c, e⟩ := ho5.reads.form; exact ⟨ao, _, c, e⟩
        obtain ⟨R5, P5, K5⟩ := HP.out.pushW HB4.out ho5 hg5 hi5
        have cc5 := R5.cell 0
        have ff5 := R5.free 0
        have H5 := hid (And.intro P5 K5)
        clear R5 P5 K5 ho5 hg5 hi5
        refine hK.out _ _ cc5 (fun hH => ?_)
        clear hK K
        try simp only [Act.put, List.getElem_toArray, List.getElem_cons_succ, List.getElem_cons_zero, List.setIfInBounds_toArray, List.set_cons_zero, List.set_cons_succ]
        refine wpAnyK_next (i := 12) (by kernel_rfl) rfl (by decide) (fun K hK => ?_)
        go_simp
        refine hK.out _ _ hH (fun hH => ?_)
        clear hK K
        try simp only [Act.put, List.getElem_toArray, List.getElem_cons_succ, List.getElem_cons_zero, List.setIfInBounds_toArray, List.set_cons_zero, List.set_cons_succ]
        refine wpAnyK_take (i := 13) (v := ?_) rfl (by kernel_rfl) (by kernel_rfl) (by kernel_rfl) (by decide) (by kernel_rfl) (fun _ _ _ h => h) (Or.inl ⟨by kernel_rfl, ?_⟩) hH ?_
        rotate_left
        · intro W hS
          go_simp
          first | done | with_reducible rfl
        simp only [Act.put, List.getElem_toArray, List.getElem_cons_succ, List.getElem_cons_zero, List.setIfInBounds_toArray, List.set_cons_zero, List.set_cons_succ]
        refine wpAnyK_last (by kernel_rfl) rfl (fun K hK => ?_)
        go_simp
        refine hK.out _ _ ?_
        clear hK K
        try simp only [Act.put, List.getElem_toArray, List.getElem_cons_succ, List.getElem_cons_zero, List.setIfInBounds_toArray, List.set_cons_zero, List.set_cons_succ]
        refine wpAnyK_done (by kernel_rfl) ?_ _
        obtain ⟨wq, hwq⟩ : ∃ W, w5.setCell ⟨w.heap.size, 0, none⟩ (.slice ao5 n5 c5) = W := ⟨_, rfl⟩
        rw [hwq] at H5
        rw [hwq]
        have l0 := H5.out.1.row.cell 1
        have HPQ := hid H5.out.1
        have HOL := hid H5.out.1.ol
        clear cc4 cc5 ff5 cw0 hH hwq
        go_wp2_with (at_builtin; go_must (refine wpList_append_more _ rfl _ _ 49 rfl 0 3 Tryz.underlying49 infoI rfl (by decide) rfl (HOL.out.alloc _) (reads_new_at wq [.int .i64 (line : Int)] 3 1 _ (by simp)) (fun u hu => by rw [List.mem_singleton] at hu; subst hu; rfl) rfl (by have := HJN.out; simp only [List.length_singleton]; omega) (Nat.zero_le _) ?_); intro v6 w6 ho6 hg6 hi6; obtain ⟨ao6, n6, c6, rfl⟩ : ∃ ao n c, v6 = .slice ao n c := (let ⟨ao, c, e⟩ := ho6.reads.form; ⟨ao, _, c, e⟩); obtain ⟨R6, P6, K6⟩ := HPQ.out.pushL (below_alloc wq _) ho6 hg6 hi6; have cc6 := R6.cell 1; have ff6 := R6.free 1; have H6 := hid (And.intro P6 K6); clear R6 P6 K6 ho6 hg6 hi6)
        go_roundw
        case rel =>
          refine ⟨i2, j + 1, line, .slice ao5 n5 c5, .slice ao6 n6 c6, rfl, rfl, ⟨HMJ.out.2.2, ?_, below_ge (below_ge HJ.out.below (Nat.le_refl _) H5.out.2) (Nat.le_refl _) H6.out.2⟩⟩
          rw [take_words HMJ.out.1, List.range_succ, List.map_append, List.map_singleton, HMJ.out.2.1]
          exact H6.out.1
        case measure => have := HI2.out; simp [intOf]; omega
      · have n1 : ((s[i].toNat : Int) == 123) = false := by rw [← byte_beq s[i] 123 (z := 123) (by decide), hc]; decide
        have n2 : ((s[i].toNat : Int) == 125) = true := by rw [← byte_beq s[i] 125 (z := 125) (by decide), hc]; decide
        have n3 : ((s[i].toNat : Int) == 59) = false := by rw [← byte_beq s[i] 59 (z := 59) (by decide), hc]; decide
        clear hc
        go_wp2_with (first | (go_at_call 54; refine CC.out.mono ?_; rintro e w2 ⟨rfl, rfl⟩) | (go_at_call 55; refine CP.out.mono ?_; rintro e w2 ⟨rfl, rfl⟩))
        refine wp_region_K 14 (by kernel_rfl) (fun w' => w'.cell? ⟨w.heap.size, 0, none⟩ = some (.slice aow nw cw)) (by exact cw0) (fun hH => ?_)
        refine wpAnyK_take (i := 0) (v := ?_) rfl (by kernel_rfl) (by kernel_rfl) (by kernel_rfl) (by decide) (by kernel_rfl) (fun _ _ _ h => h) (Or.inl ⟨by kernel_rfl, ?_⟩) hH ?_
        rotate_left
        · intro W hS
          go_simp
          first | done | with_reducible rfl
        simp only [Act.put, List.getElem_toArray, List.getElem_cons_succ, List.getElem_cons_zero, List.setIfInBounds_toArray, List.set_cons_zero, List.set_cons_succ]
        refine wpAnyK_take (i := 1) (v := ?_) rfl (by kernel_rfl) (by kernel_rfl) (by kernel_rfl) (by decide) (by kernel_rfl) (fun _ _ _ h => h) (Or.inl ⟨by kernel_rfl, ?_⟩) hH ?_
        rotate_left
        · intro W hS
          go_simp
          first | done | with_reducible rfl
        simp only [Act.put, List.getElem_toArray, List.getElem_cons_succ, List.getElem_cons_zero, List.setIfInBounds_toArray, List.set_cons_zero, List.set_cons_succ]
        refine wpAnyK_take (i := 2) (v := ?_) rfl (by kernel_rfl) (by kernel_rfl) (by kernel_rfl) (by decide) (by kernel_rfl) (fun _ _ _ h => h) (Or.inl ⟨by kernel_rfl, ?_⟩) hH ?_
        rotate_left
        · intro W hS
          go_simp
          first | done | with_reducible rfl
        simp only [Act.put, List.getElem_toArray, List.getElem_cons_succ, List.getElem_cons_zero, List.setIfInBounds_toArray, List.set_cons_zero, List.set_cons_succ]
        refine wpAnyK_take (i := 3) (v := ?_) rfl (by kernel_rfl) (by kernel_rfl) (by kernel_rfl) (by decide) (by kernel_rfl) (fun _ _ _ h => h) (Or.inl ⟨by kernel_rfl, ?_⟩) hH ?_
        rotate_left
        · intro W hS
          go_simp
          first | done | with_reducible rfl
        simp only [Act.put, List.getElem_toArray, List.getElem_cons_succ, List.getElem_cons_zero, List.setIfInBounds_toArray, List.set_cons_zero, List.set_cons_succ]
        refine wpAnyK_take (i := 4) (v := ?_) rfl (by kernel_rfl) (by kernel_rfl) (by kernel_rfl) (by decide) (by kernel_rfl) (fun _ _ _ h => h) (Or.inl ⟨by kernel_rfl, ?_⟩) hH ?_
        rotate_left
        · intro W hS
          go_simp
          first | done | with_reducible rfl
        simp only [Act.put, List.getElem_toArray, List.getElem_cons_succ, List.getElem_cons_zero, List.setIfInBounds_toArray, List.set_cons_zero, List.set_cons_succ]
        refine wpAnyK_take (i := 5) (v := ?_) rfl (by kernel_rfl) (by kernel_rfl) (by kernel_rfl) (by decide) (by kernel_rfl) (fun _ _ _ h => h) (Or.inl ⟨by kernel_rfl, ?_⟩) hH ?_
        rotate_left
        · intro W hS
          go_simp
          first | done | with_reducible rfl
        simp only [Act.put, List.getElem_toArray, List.getElem_cons_succ, List.getElem_cons_zero, List.setIfInBounds_toArray, List.set_cons_zero, List.set_cons_succ]
        refine wpAnyK_take (i := 6) (v := ?_) rfl (by kernel_rfl) (by kernel_rfl) (by kernel_rfl) (by decide) (by kernel_rfl) (fun _ _ _ h => h) (Or.inl ⟨by kernel_rfl, ?_⟩) hH ?_
        rotate_left
        · intro W hS
          go_simp
          first | done | with_reducible rfl
        simp only [Act.put, List.getElem_toArray, List.getElem_cons_succ, List.getElem_cons_zero, List.setIfInBounds_toArray, List.set_cons_zero, List.set_cons_succ]
        refine wpAnyK_take (i := 7) (v := ?_) rfl (by kernel_rfl) (by kernel_rfl) (by kernel_rfl) (by decide) (by kernel_rfl) (fun _ _ _ h => h) (Or.inl ⟨by kernel_rfl, ?_⟩) hH ?_
        rotate_left
        · intro W hS
          go_simp
          first | done | with_reducible rfl
        simp only [Act.put, List.getElem_toArray, List.getElem_cons_succ, List.getElem_cons_zero, List.setIfInBounds_toArray, List.set_cons_zero, List.set_cons_succ]
        refine wpAnyK_take (i := 8) (v := ?_) rfl (by kernel_rfl) (by kernel_rfl) (by kernel_rfl) (by decide) (by kernel_rfl) (fun _ _ _ h => h) (Or.inl ⟨by kernel_rfl, ?_⟩) hH ?_
        rotate_left
        · intro W hS
          go_simp
          first | done | with_reducible rfl
        simp only [Act.put, List.getElem_toArray, List.getElem_cons_succ, List.getElem_cons_zero, List.setIfInBounds_toArray, List.set_cons_zero, List.set_cons_succ]
        refine wpAnyK_take (i := 9) (v := ?_) rfl (by kernel_rfl) (by kernel_rfl) (by kernel_rfl) (by decide) (by kernel_rfl) (fun _ _ _ h => h) (Or.inl ⟨by kernel_rfl, ?_⟩) hH ?_
        rotate_left
        · intro W hS
          go_simp
          first | done | with_reducible rfl
        simp only [Act.put, List.getElem_toArray, List.getElem_cons_succ, List.getElem_cons_zero, List.setIfInBounds_toArray, List.set_cons_zero, List.set_cons_succ]
        refine wpAnyK_next (i := 10) (by kernel_rfl) rfl (by decide) (fun K hK => ?_)
        obtain ⟨w4, hW4⟩ : ∃ W, W = (wr.alloc (.cells #[.string D] 9)).drew := ⟨_, rfl⟩
        have hb4 : Below wr.heap.size wr w4 := by rw [hW4]; exact (below_alloc _ _).drew
        have HC4 : Hid (w4.cell? ⟨wr.heap.size, 0, none⟩ = some (.string D)) := by rw [hW4]; exact World.cell?_alloc_at _ _ _ _ rfl
        have cc4 := (HP.out.row.below hb4).cell 0
        have HB4 := hid hb4
        go_simp
        rw [← hW4]
        clear hW4 hb4
        refine hK.out _ _ cc4 (fun hH => ?_)
        clear hK K
        try simp only [Act.put, List.getElem_toArray, List.getElem_cons_succ, List.getElem_cons_zero, List.setIfInBounds_toArray, List.set_cons_zero, List.set_cons_succ]
        refine wpAnyK_next (i := 11) (by kernel_rfl) rfl (by decide) (fun K hK => ?_)
        rw [if_pos (by kernel_rfl)]
        refine wp_append_gen w4 (.tmp 100) (.tmp 106) 62 rfl 0 9 Tryz.underlying62 infoStr rfl (by decide) (by decide) (v := .slice aow nw cw) rfl (HP.out.below HB4.out).ow ⟨wr.heap.size, 0, none⟩ 1 1 [strV [s[i]]] rfl (fun j u hj => ?_) (fun u hu => ?_) rfl (by have := HJN.out; omega) (Nat.zero_le _) (fun v5 w5 ho5 hg5 hi5 => ?_)
        · cases j with
          | zero => cases hj; rw [addAt2]; rw [HD.out]; exact HC4.out
          | succ j => cases hj
        · rw [List.mem_singleton] at hu; subst hu; rfl
        obtain ⟨ao5, n5, c5, rfl⟩ : ∃ ao n c, v5 = .slice ao n c := by obtain ⟨ao, c, e⟩ := ho5.reads.form; exact ⟨ao, _, c, e⟩
        obtain ⟨R5, P5, K5⟩ := HP.out.pushW HB4.out ho5 hg5 hi5
        have cc5 := R5.cell 0
        have ff5 := R5.free 0
        have H5 := hid (And.intro P5 K5)
        clear R5 P5 K5 ho5 hg5 hi5
        refine hK.out _ _ cc5 (fun hH => ?_)
        clear hK K
        try simp only [Act.put, List.getElem_toArray, List.getElem_cons_succ, List.getElem_cons_zero, List.setIfInBounds_toArray, List.set_cons_zero, List.set_cons_succ]
        refine wpAnyK_next (i := 12) (by kernel_rfl) rfl (by decide) (fun K hK => ?_)
        go_simp
        refine hK.out _ _ hH (fun hH => ?_)
        clear hK K
        try simp only [Act.put, List.getElem_toArray, List.getElem_cons_succ, List.getElem_cons_zero, List.setIfInBounds_toArray, List.set_cons_zero, List.set_cons_succ]
        refine wpAnyK_take (i := 13) (v := ?_) rfl (by kernel_rfl) (by kernel_rfl) (by kernel_rfl) (by decide) (by kernel_rfl) (fun _ _ _ h => h) (Or.inl ⟨by kernel_rfl, ?_⟩) hH ?_
        rotate_left
        · intro W hS
          go_simp
          first | done | with_reducible rfl
        simp only [Act.put, List.getElem_toArray, List.getElem_cons_succ, List.getElem_cons_zero, List.setIfInBounds_toArray, List.set_cons_zero, List.set_cons_succ]
        refine wpAnyK_last (by kernel_rfl) rfl (fun K hK => ?_)
        go_simp
        refine hK.out _ _ ?_
        clear hK K
        try simp only [Act.put, List.getElem_toArray, List.getElem_cons_succ, List.getElem_cons_zero, List.setIfInBounds_toArray, List.set_cons_zero, List.set_cons_succ]
        refine wpAnyK_done (by kernel_rfl) ?_ _
        obtain ⟨wq, hwq⟩ : ∃ W, w5.setCell ⟨w.heap.size, 0, none⟩ (.slice ao5 n5 c5) = W := ⟨_, rfl⟩
        rw [hwq] at H5
        rw [hwq]
        have l0 := H5.out.1.row.cell 1
        have HPQ := hid H5.out.1
        have HOL := hid H5.out.1.ol
        clear cc4 cc5 ff5 cw0 hH hwq
        go_wp2_with (at_builtin; go_must (refine wpList_append_more _ rfl _ _ 49 rfl 0 3 Tryz.underlying49 infoI rfl (by decide) rfl (HOL.out.alloc _) (reads_new_at wq [.int .i64 (line : Int)] 3 1 _ (by simp)) (fun u hu => by rw [List.mem_singleton] at hu; subst hu; rfl) rfl (by have := HJN.out; simp only [List.length_singleton]; omega) (Nat.zero_le _) ?_); intro v6 w6 ho6 hg6 hi6; obtain ⟨ao6, n6, c6, rfl⟩ : ∃ ao n c, v6 = .slice ao n c := (let ⟨ao, c, e⟩ := ho6.reads.form; ⟨ao, _, c, e⟩); obtain ⟨R6, P6, K6⟩ := HPQ.out.pushL (below_alloc wq _) ho6 hg6 hi6; have cc6 := R6.cell 1; have ff6 := R6.free 1; have H6 := hid (And.intro P6 K6); clear R6 P6 K6 ho6 hg6 hi6)
        go_roundw
        case rel =>
          refine ⟨i2, j + 1, line, .slice ao5 n5 c5, .slice ao6 n6 c6, rfl, rfl, ⟨HMJ.out.2.2, ?_, below_ge (below_ge HJ.out.below (Nat.le_refl _) H5.out.2) (Nat.le_refl _) H6.out.2⟩⟩
          rw [take_words HMJ.out.1, List.range_succ, List.map_append, List.map_singleton, HMJ.out.2.1]
          exact H6.out.1
        case measure => have := HI2.out; simp [intOf]; omega
      · have n1 : ((s[i].toNat : Int) == 123) = false := by rw [← byte_beq s[i] 123 (z := 123) (by decide), hc]; decide
        have n2 : ((s[i].toNat : Int) == 125) = false := by rw [← byte_beq s[i] 125 (z := 125) (by decide), hc]; decide
        have n3 : ((s[i].toNat : Int) == 59) = true := by rw [← byte_beq s[i] 59 (z := 59) (by decide), hc]; decide
        clear hc
        go_wp2_with (first | (go_at_call 54; refine CC.out.mono ?_; rintro e w2 ⟨rfl, rfl⟩) | (go_at_call 55; refine CP.out.mono ?_; rintro e w2 ⟨rfl, rfl⟩))
        refine wp_region_K 14 (by kernel_rfl) (fun w' => w'.cell? ⟨w.heap.size, 0, none⟩ = some (.slice aow nw cw)) (by exact cw0) (fun hH => ?_)
        refine wpAnyK_take (i := 0) (v := ?_) rfl (by kernel_rfl) (by kernel_rfl) (by kernel_rfl) (by decide) (by kernel_rfl) (fun _ _ _ h => h) (Or.inl ⟨by kernel_rfl, ?_⟩) hH ?_
        rotate_left
        · intro W hS
          go_simp
          first | done | with_reducible rfl
        simp only [Act.put, List.getElem_toArray, List.getElem_cons_succ, List.getElem_cons_zero, List.setIfInBounds_toArray, List.set_cons_zero, List.set_cons_succ]
        refine wpAnyK_take (i := 1) (v := ?_) rfl (by kernel_rfl) (by kernel_rfl) (by kernel_rfl) (by decide) (by kernel_rfl) (fun _ _ _ h => h) (Or.inl ⟨by kernel_rfl, ?_⟩) hH ?_
        rotate_left
        · intro W hS
          go_simp
          first | done | with_reducible rfl
        simp only [Act.put, List.getElem_toArray, List.getElem_cons_succ, List.getElem_cons_zero, List.setIfInBounds_toArray, List.set_cons_zero, List.set_cons_succ]
        refine wpAnyK_take (i := 2) (v := ?_) rfl (by kernel_rfl) (by kernel_rfl) (by kernel_rfl) (by decide) (by kernel_rfl) (fun _ _ _ h => h) (Or.inl ⟨by kernel_rfl, ?_⟩) hH ?_
        rotate_left
        · intro W hS
          go_simp
          first | done | with_reducible rfl
        simp only [Act.put, List.getElem_toArray, List.getElem_cons_succ, List.getElem_cons_zero, List.setIfInBounds_toArray, List.set_cons_zero, List.set_cons_succ]
        refine wpAnyK_take (i := 3) (v := ?_) rfl (by kernel_rfl) (by kernel_rfl) (by kernel_rfl) (by decide) (by kernel_rfl) (fun _ _ _ h => h) (Or.inl ⟨by kernel_rfl, ?_⟩) hH ?_
        rotate_left
        · intro W hS
          go_simp
          first | done | with_reducible rfl
        simp only [Act.put, List.getElem_toArray, List.getElem_cons_succ, List.getElem_cons_zero, List.setIfInBounds_toArray, List.set_cons_zero, List.set_cons_succ]
        refine wpAnyK_take (i := 4) (v := ?_) rfl (by kernel_rfl) (by kernel_rfl) (by kernel_rfl) (by decide) (by kernel_rfl) (fun _ _ _ h => h) (Or.inl ⟨by kernel_rfl, ?_⟩) hH ?_
        rotate_left
        · intro W hS
          go_simp
          first | done | with_reducible rfl
        simp only [Act.put, List.getElem_toArray, List.getElem_cons_succ, List.getElem_cons_zero, List.setIfInBounds_toArray, List.set_cons_zero, List.set_cons_succ]
        refine wpAnyK_take (i := 5) (v := ?_) rfl (by kernel_rfl) (by kernel_rfl) (by kernel_rfl) (by decide) (by kernel_rfl) (fun _ _ _ h => h) (Or.inl ⟨by kernel_rfl, ?_⟩) hH ?_
        rotate_left
        · intro W hS
          go_simp
          first | done | with_reducible rfl
        simp only [Act.put, List.getElem_toArray, List.getElem_cons_succ, List.getElem_cons_zero, List.setIfInBounds_toArray, List.set_cons_zero, List.set_cons_succ]
        refine wpAnyK_take (i := 6) (v := ?_) rfl (by kernel_rfl) (by kernel_rfl) (by kernel_rfl) (by decide) (by kernel_rfl) (fun _ _ _ h => h) (Or.inl ⟨by kernel_rfl, ?_⟩) hH ?_
        rotate_left
        · intro W hS
          go_simp
          first | done | with_reducible rfl
        simp only [Act.put, List.getElem_toArray, List.getElem_cons_succ, List.getElem_cons_zero, List.setIfInBounds_toArray, List.set_cons_zero, List.set_cons_succ]
        refine wpAnyK_take (i := 7) (v := ?_) rfl (by kernel_rfl) (by kernel_rfl) (by kernel_rfl) (by decide) (by kernel_rfl) (fun _ _ _ h => h) (Or.inl ⟨by kernel_rfl, ?_⟩) hH ?_
        rotate_left
        · intro W hS
          go_simp
          first | done | with_reducible rfl
        simp only [Act.put, List.getElem_toArray, List.getElem_cons_succ, List.getElem_cons_zero, List.setIfInBounds_toArray, List.set_cons_zero, List.set_cons_succ]
        refine wpAnyK_take (i := 8) (v := ?_) rfl (by kernel_rfl) (by kernel_rfl) (by kernel_rfl) (by decide) (by kernel_rfl) (fun _ _ _ h => h) (Or.inl ⟨by kernel_rfl, ?_⟩) hH ?_
        rotate_left
        · intro W hS
          go_simp
          first | done | with_reducible rfl
        simp only [Act.put, List.getElem_toArray, List.getElem_cons_succ, List.getElem_cons_zero, List.setIfInBounds_toArray, List.set_cons_zero, List.set_cons_succ]
        refine wpAnyK_take (i := 9) (v := ?_) rfl (by kernel_rfl) (by kernel_rfl) (by kernel_rfl) (by decide) (by kernel_rfl) (fun _ _ _ h => h) (Or.inl ⟨by kernel_rfl, ?_⟩) hH ?_
        rotate_left
        · intro W hS
          go_simp
          first | done | with_reducible rfl
        simp only [Act.put, List.getElem_toArray, List.getElem_cons_succ, List.getElem_cons_zero, List.setIfInBounds_toArray, List.set_cons_zero, List.set_cons_succ]
        refine wpAnyK_next (i := 10) (by kernel_rfl) rfl (by decide) (fun K hK => ?_)
        obtain ⟨w4, hW4⟩ : ∃ W, W = (wr.alloc (.cells #[.string D] 9)).drew := ⟨_, rfl⟩
        have hb4 : Below wr.heap.size wr w4 := by rw [hW4]; exact (below_alloc _ _).drew
        have HC4 : Hid (w4.cell? ⟨wr.heap.size, 0, none⟩ = some (.string D)) := by rw [hW4]; exact World.cell?_alloc_at _ _ _ _ rfl
        have cc4 := (HP.out.row.below hb4).cell 0
        have HB4 := hid hb4
        go_simp
        rw [← hW4]
        clear hW4 hb4
        refine hK.out _ _ cc4 (fun hH => ?_)
        clear hK K
        try simp only [Act.put, List.getElem_toArray, List.getElem_cons_succ, List.getElem_cons_zero, List.setIfInBounds_toArray, List.set_cons_zero, List.set_cons_succ]
        refine wpAnyK_next (i := 11) (by kernel_rfl) rfl (by decide) (fun K hK => ?_)
        rw [if_pos (by kernel_rfl)]
        refine wp_append_gen w4 (.tmp 100) (.tmp 106) 62 rfl 0 9 Tryz.underlying62 infoStr rfl (by decide) (by decide) (v := .slice aow nw cw) rfl (HP.out.below HB4.out).ow ⟨wr.heap.size, 0, none⟩ 1 1 [strV [s[i]]] rfl (fun j u hj => ?_) (fun u hu => ?_) rfl (by have := HJN.out; omega) (Nat.zero_le _) (fun v5 w5 ho5 hg5 hi5 => ?_)
        · cases j with
          | zero => cases hj; rw [addAt2]; rw [HD.out]; exact HC4.out
          | succ j => cases hj
        · rw [List.mem_singleton] at hu; subst hu; rfl
        obtain ⟨ao5, n5, c5, rfl⟩ : ∃ ao n c, v5 = .slice ao n c := by obtain ⟨ao, c, e⟩ := ho5.reads.form; exact ⟨ao, _, c, e⟩
        obtain ⟨R5, P5, K5⟩ := HP.out.pushW HB4.out ho5 hg5 hi5
        have cc5 := R5.cell 0
        have ff5 := R5.free 0
        have H5 := hid (And.intro P5 K5)
        clear R5 P5 K5 ho5 hg5 hi5
        refine hK.out _ _ cc5 (fun hH => ?_)
        clear hK K
        try simp only [Act.put, List.getElem_toArray, List.getElem_cons_succ, List.getElem_cons_zero, List.setIfInBounds_toArray, List.set_cons_zero, List.set_cons_succ]
        refine wpAnyK_next (i := 12) (by kernel_rfl) rfl (by decide) (fun K hK => ?_)
        go_simp
        refine hK.out _ _ hH (fun hH => ?_)
        clear hK K
        try simp only [Act.put, List.getElem_toArray, List.getElem_cons_succ, List.getElem_cons_zero, List.setIfInBounds_toArray, List.set_cons_zero, List.set_cons_succ]
        refine wpAnyK_take (i := 13) (v := ?_) rfl (by kernel_rfl) (by kernel_rfl) (by kernel_rfl) (by decide) (by kernel_rfl) (fun _ _ _ h => h) (Or.inl ⟨by kernel_rfl, ?_⟩) hH ?_
        rotate_left
        · intro W hS
          go_simp
          first | done | with_reducible rfl
        simp only [Act.put, List.getElem_toArray, List.getElem_cons_succ, List.getElem_cons_zero, List.setIfInBounds_toArray, List.set_cons_zero, List.set_cons_succ]
        refine wpAnyK_last (by kernel_rfl) rfl (fun K hK => ?_)
        go_simp
        refine hK.out _ _ ?_
        clear hK K
        try simp only [Act.put, List.getElem_toArray, List.getElem_cons_succ, List.getElem_cons_zero, List.setIfInBounds_toArray, List.set_cons_zero, List.set_cons_succ]
        refine wpAnyK_done (by kernel_rfl) ?_ _
        obtain ⟨wq, hwq⟩ : ∃ W, w5.setCell ⟨w.heap.size, 0, none⟩ (.slice ao5 n5 c5) = W := ⟨_, rfl⟩
        rw [hwq] at H5
        rw [hwq]
        have l0 := H5.out.1.row.cell 1
        have HPQ := hid H5.out.1
        have HOL := hid H5.out.1.ol
        clear cc4 cc5 ff5 cw0 hH hwq
        go_wp2_with (at_builtin; go_must (refine wpList_append_more _ rfl _ _ 49 rfl 0 3 Tryz.underlying49 infoI rfl (by decide) rfl (HOL.out.alloc _) (reads_new_at wq [.int .i64 (line : Int)] 3 1 _ (by simp)) (fun u hu => by rw [List.mem_singleton] at hu; subst hu; rfl) rfl (by have := HJN.out; simp only [List.length_singleton]; omega) (Nat.zero_le _) ?_); intro v6 w6 ho6 hg6 hi6; obtain ⟨ao6, n6, c6, rfl⟩ : ∃ ao n c, v6 = .slice ao n c := (let ⟨ao, c, e⟩ := ho6.reads.form; ⟨ao, _, c, e⟩); obtain ⟨R6, P6, K6⟩ := HPQ.out.pushL (below_alloc wq _) ho6 hg6 hi6; have cc6 := R6.cell 1; have ff6 := R6.free 1; have H6 := hid (And.intro P6 K6); clear R6 P6 K6 ho6 hg6 hi6)
        go_roundw
        case rel =>
          refine ⟨i2, j + 1, line, .slice ao5 n5 c5, .slice ao6 n6 c6, rfl, rfl, ⟨HMJ.out.2.2, ?_, below_ge (below_ge HJ.out.below (Nat.le_refl _) H5.out.2) (Nat.le_refl _) H6.out.2⟩⟩
          rw [take_words HMJ.out.1, List.range_succ, List.map_append, List.map_singleton, HMJ.out.2.1]
          exact H6.out.1
        case measure => have := HI2.out; simp [intOf]; omega
    have hm0 : isMark s[i] = false := Bool.eq_false_iff.2 hm
    have cp := plain_any s[i] wr
    rw [hg0, hm0, Bool.false_or, Bool.not_false] at cp
    have CP := hid cp
    have e10 : ((s[i].toNat : Int) == 10) = false := by
      rw [← byte_beq s[i] 10 (z := 10) (by decide), beq_eq_false_iff_ne]
      intro e
      rw [e] at hg0
      revert hg0; decide
    have HX := hid (And.intro hg0 hm0)
    clear cp hg hm hg0 hm0
    go_wp2_with (first | (go_at_call 54; refine CC.out.mono ?_; rintro e w2 ⟨rfl, rfl⟩) | (go_at_call 55; refine CP.out.mono ?_; rintro e w2 ⟨rfl, rfl⟩))
    clear e10 CP CC
    go_loop [5] (fun z => ∃ i2 : Nat, z = .int .i64 (i2 : Int) ∧ RunJ T i i2) (fun z => s.size - (intOf z).toNat)
    case atStart => exact ⟨i, rfl, RunJ.start (by have := HTL.out; omega)⟩
    case round =>
      obtain ⟨i2, rfl, hR⟩ := hrel
      have HRR := hid hR
      have hle2 : i2 ≤ s.size := by have := hR.le; have := HTL.out; omega
      clear hR
      have hwi2 : IntKind.i64.wrap ((i2 : Int) + 1) = ((i2 + 1 : Nat) : Int) := by rw [IntWalk.i64_in _ (by omega)]; omega
      have cc := comment_any s i2 wr hle2 hs
      rw [HT.out] at cc
      have hways : i2 = s.size ∨ (∃ h : i2 < s.size, (isGap s[i2] = true ∨ isMark s[i2] = true)) ∨ (∃ h : i2 < s.size, isGap s[i2] = false ∧ isMark s[i2] = false ∧ remB (T.drop i2) = true) ∨ (∃ h : i2 < s.size, isGap s[i2] = false ∧ isMark s[i2] = false ∧ remB (T.drop i2) = false) := by
        by_cases h : i2 < s.size
        · right
          by_cases h1 : isGap s[i2] = true
          · exact .inl ⟨h, .inl h1⟩
          · by_cases h2 : isMark s[i2] = true
            · exact .inl ⟨h, .inr h2⟩
            · right
              by_cases h3 : remB (T.drop i2) = true
              · exact .inl ⟨h, Bool.eq_false_iff.2 h1, Bool.eq_false_iff.2 h2, h3⟩
              · exact .inr ⟨h, Bool.eq_false_iff.2 h1, Bool.eq_false_iff.2 h2, Bool.eq_false_iff.2 h3⟩
        · left; omega
      have hat : ∀ h : i2 < s.size, T[i2]? = some s[i2] := fun h => by rw [← HT.out, List.getElem?_eq_getElem (by rw [size_list]; exact h)]; rfl
      have HAT := hid hat
      have hno : i2 = s.size → T[i2]? = none := fun h => by rw [List.getElem?_eq_none]; have := HTL.out; omega
      have HNO := hid hno
      clear hat hno
      rcases hways with h1 | ⟨h1, h2⟩ | ⟨h1, h2, h3, h4⟩ | ⟨h1, h2, h3, h4⟩
      rotate_left 3
      · have hc2 := HAT.out h1
        have cp := plain_any s[i2] wr
        rw [h2, h3, Bool.false_or, Bool.not_false] at cp
        rw [h4] at cc
        have CP := hid cp
        have CC := hid cc
        have HN := hid (HRR.out.next hc2 h2 h3 h4)
        have hk2 : (i2 : Int) < (s.size : Int) := by omega
        clear cp cc h2 h3 h4 hc2
        go_wp2_with (first | (go_at_call 54; refine CC.out.mono ?_; rintro e w2 ⟨rfl, rfl⟩) | (go_at_call 55; refine CP.out.mono ?_; rintro e w2 ⟨rfl, rfl⟩))
        go_round
        case rel => exact ⟨i2 + 1, rfl, HN.out⟩
        case measure => simp [intOf]; omega
      focus
        have HEX : Hid (i < i2 ∧ (T[i2]? = none ∨ ∃ c, T[i2]? = some c ∧ (isGap c = true ∨ isMark c = true ∨ remB (T.drop i2) = true))) := ⟨by have := hlt; omega, .inl (HNO.out h1)⟩
        have hk2 : ¬ (i2 : Int) < (s.size : Int) := by omega
        clear cc h1
        go_wp2_with fail
      rotate_left
      focus
        have HEX : Hid (i < i2 ∧ (T[i2]? = none ∨ ∃ c, T[i2]? = some c ∧ (isGap c = true ∨ isMark c = true ∨ remB (T.drop i2) = true))) := by
          refine ⟨?_, .inr ⟨_, HAT.out h1, h2.elim .inl (fun h => .inr (.inl h))⟩⟩
          rcases Nat.lt_or_ge i i2 with h | h
          · exact h
          · have e : i2 = i := by have := HRR.out.ge; omega
            subst e
            rcases h2 with h2 | h2
            · rw [HX.out.1] at h2; cases h2
            · rw [HX.out.2] at h2; cases h2
        have cp := plain_any s[i2] wr
        have hpl : (!(isGap s[i2] || isMark s[i2])) = false := by rcases h2 with h2 | h2 <;> simp [h2]
        rw [hpl] at cp
        have CP := hid cp
        have hk2 : (i2 : Int) < (s.size : Int) := by omega
        clear cc cp h2 hpl
        go_wp2_with (first | (go_at_call 55; refine CP.out.mono ?_; rintro e w2 ⟨rfl, rfl⟩))
      rotate_left
      focus
        have HEX : Hid (i < i2 ∧ (T[i2]? = none ∨ ∃ c, T[i2]? = some c ∧ (isGap c = true ∨ isMark c = true ∨ remB (T.drop i2) = true))) := by
          refine ⟨?_, .inr ⟨_, HAT.out h1, .inr (.inr h4)⟩⟩
          rcases Nat.lt_or_ge i i2 with h | h
          · exact h
          · have e : i2 = i := by have := HRR.out.ge; omega
            subst e
            rw [HR0.out] at h4; cases h4
        have cp := plain_any s[i2] wr
        rw [h2, h3, Bool.false_or, Bool.not_false] at cp
        rw [h4] at cc
        have CP := hid cp
        have CC := hid cc
        have hk2 : (i2 : Int) < (s.size : Int) := by omega
        clear cc cp h2 h3 h4
        go_wp2_with (first | (go_at_call 54; refine CC.out.mono ?_; rintro e w2 ⟨rfl, rfl⟩) | (go_at_call 55; refine CP.out.mono ?_; rintro e w2 ⟨rfl, rfl⟩))
      all_goals
        have HWD := hid (HRR.out.done HCI.out HX.out.2 HEX.out.2)
        obtain ⟨hw1, hw2, hw3⟩ := HJ.out.at_.word HCI.out HX.out.1 HR0.out
        rw [show i + (wordL (T.drop i)).length = i2 by have := HWD.out.2; have := HEX.out.1; omega, RunJ.nl (i2 - i) HRR.out (by have := HEX.out.1; omega), ← HJ.out.at_.line] at hw3
        have HMJ := hid (And.intro hw1 (And.intro hw2 hw3))
        obtain ⟨D, hD⟩ : ∃ D, s.extract i i2 = D := ⟨_, rfl⟩
        have HD : Hid ((strV (wordL (T.drop i)) : Value) = .string D) := by
          have : D.data.toList = wordL (T.drop i) := by
            rw [← hD, Lib.extract_eq, HT.out, HWD.out.1, List.drop_take]
          show (strV (wordL (T.drop i)) : Value) = .string D
          rw [← this]
        have hb1 : (i2 : Int) ≤ (s.size : Int) := by omega
        have hb2 : (i : Int) ≤ (i2 : Int) := by have := HEX.out.1; omega
        have hb3 : (0 : Int) ≤ (i : Int) := by omega
        have hb5 : (0 : Int) ≤ (i2 : Int) := by omega
        have hb4 : ((i2 : Int)).toNat = i2 := by simp
        clear hw1 hw2 hw3
        refine wp_region_K 13 (by kernel_rfl) (fun w' => w'.cell? ⟨w.heap.size, 0, none⟩ = some (.slice aow nw cw)) (by exact cw0) (fun hH => ?_)
        refine wpAnyK_take (i := 0) (v := ?_) rfl (by kernel_rfl) (by kernel_rfl) (by kernel_rfl) (by decide) (by kernel_rfl) (fun _ _ _ h => h) (Or.inl ⟨by kernel_rfl, ?_⟩) hH ?_
        rotate_left
        · intro W hS
          go_simp
          first | done | with_reducible rfl
        simp only [Act.put, List.getElem_toArray, List.getElem_cons_succ, List.getElem_cons_zero, List.setIfInBounds_toArray, List.set_cons_zero, List.set_cons_succ]
        refine wpAnyK_take (i := 1) (v := ?_) rfl (by kernel_rfl) (by kernel_rfl) (by kernel_rfl) (by decide) (by kernel_rfl) (fun _ _ _ h => h) (Or.inl ⟨by kernel_rfl, ?_⟩) hH ?_
        rotate_left
        · intro W hS
          go_simp
          first | done | with_reducible rfl
        simp only [Act.put, List.getElem_toArray, List.getElem_cons_succ, List.getElem_cons_zero, List.setIfInBounds_toArray, List.set_cons_zero, List.set_cons_succ]
        refine wpAnyK_take (i := 2) (v := ?_) rfl (by kernel_rfl) (by kernel_rfl) (by kernel_rfl) (by decide) (by kernel_rfl) (fun _ _ _ h => h) (Or.inl ⟨by kernel_rfl, ?_⟩) hH ?_
        rotate_left
        · intro W hS
          go_simp
          first | done | with_reducible rfl
        simp only [Act.put, List.getElem_toArray, List.getElem_cons_succ, List.getElem_cons_zero, List.setIfInBounds_toArray, List.set_cons_zero, List.set_cons_succ]
        refine wpAnyK_take (i := 3) (v := ?_) rfl (by kernel_rfl) (by kernel_rfl) (by kernel_rfl) (by decide) (by kernel_rfl) (fun _ _ _ h => h) (Or.inl ⟨by kernel_rfl, ?_⟩) hH ?_
        rotate_left
        · intro W hS
          go_simp
          first | done | with_reducible rfl
        simp only [Act.put, List.getElem_toArray, List.getElem_cons_succ, List.getElem_cons_zero, List.setIfInBounds_toArray, List.set_cons_zero, List.set_cons_succ]
        refine wpAnyK_take (i := 4) (v := ?_) rfl (by kernel_rfl) (by kernel_rfl) (by kernel_rfl) (by decide) (by kernel_rfl) (fun _ _ _ h => h) (Or.inl ⟨by kernel_rfl, ?_⟩) hH ?_
        rotate_left
        · intro W hS
          go_simp
          first | done | with_reducible rfl
        simp only [Act.put, List.getElem_toArray, List.getElem_cons_succ, List.getElem_cons_zero, List.setIfInBounds_toArray, List.set_cons_zero, List.set_cons_succ]
        refine wpAnyK_take (i := 5) (v := ?_) rfl (by kernel_rfl) (by kernel_rfl) (by kernel_rfl) (by decide) (by kernel_rfl) (fun _ _ _ h => h) (Or.inl ⟨by kernel_rfl, ?_⟩) hH ?_
        rotate_left
        · intro W hS
          go_simp
          first | done | with_reducible rfl
        simp only [Act.put, List.getElem_toArray, List.getElem_cons_succ, List.getElem_cons_zero, List.setIfInBounds_toArray, List.set_cons_zero, List.set_cons_succ]
        refine wpAnyK_take (i := 6) (v := ?_) rfl (by kernel_rfl) (by kernel_rfl) (by kernel_rfl) (by decide) (by kernel_rfl) (fun _ _ _ h => h) (Or.inl ⟨by kernel_rfl, ?_⟩) hH ?_
        rotate_left
        · intro W hS
          go_simp
          first | done | with_reducible rfl
        simp only [Act.put, List.getElem_toArray, List.getElem_cons_succ, List.getElem_cons_zero, List.setIfInBounds_toArray, List.set_cons_zero, List.set_cons_succ]
        refine wpAnyK_take (i := 7) (v := ?_) rfl (by kernel_rfl) (by kernel_rfl) (by kernel_rfl) (by decide) (by kernel_rfl) (fun _ _ _ h => h) (Or.inl ⟨by kernel_rfl, ?_⟩) hH ?_
        rotate_left
        · intro W hS
          go_simp
          first | done | with_reducible rfl
        simp only [Act.put, List.getElem_toArray, List.getElem_cons_succ, List.getElem_cons_zero, List.setIfInBounds_toArray, List.set_cons_zero, List.set_cons_succ]
        refine wpAnyK_take (i := 8) (v := ?_) rfl (by kernel_rfl) (by kernel_rfl) (by kernel_rfl) (by decide) (by kernel_rfl) (fun _ _ _ h => h) (Or.inl ⟨by kernel_rfl, ?_⟩) hH ?_
        rotate_left
        · intro W hS
          go_simp
          first | done | with_reducible rfl
        simp only [Act.put, List.getElem_toArray, List.getElem_cons_succ, List.getElem_cons_zero, List.setIfInBounds_toArray, List.set_cons_zero, List.set_cons_succ]
        refine wpAnyK_next (i := 9) (by kernel_rfl) rfl (by decide) (fun K hK => ?_)
        obtain ⟨w4, hW4⟩ : ∃ W, W = (wr.alloc (.cells #[.string D] 9)).drew := ⟨_, rfl⟩
        have hb4 : Below wr.heap.size wr w4 := by rw [hW4]; exact (below_alloc _ _).drew
        have HC4 : Hid (w4.cell? ⟨wr.heap.size, 0, none⟩ = some (.string D)) := by rw [hW4]; exact World.cell?_alloc_at _ _ _ _ rfl
        have cc4 := (HP.out.row.below hb4).cell 0
        have HB4 := hid hb4
        go_simp
        rw [← hW4]
        clear hW4 hb4
        refine hK.out _ _ cc4 (fun hH => ?_)
        clear hK K
        try simp only [Act.put, List.getElem_toArray, List.getElem_cons_succ, List.getElem_cons_zero, List.setIfInBounds_toArray, List.set_cons_zero, List.set_cons_succ]
        refine wpAnyK_next (i := 10) (by kernel_rfl) rfl (by decide) (fun K hK => ?_)
        rw [if_pos (by kernel_rfl)]
        refine wp_append_gen w4 (.tmp 61) (.tmp 66) 62 rfl 0 9 Tryz.underlying62 infoStr rfl (by decide) (by decide) (v := .slice aow nw cw) rfl (HP.out.below HB4.out).ow ⟨wr.heap.size, 0, none⟩ 1 1 [strV (wordL (T.drop i))] rfl (fun j u hj => ?_) (fun u hu => ?_) rfl (by have := HJN.out; omega) (Nat.zero_le _) (fun v5 w5 ho5 hg5 hi5 => ?_)
        · cases j with
          | zero => cases hj; rw [addAt2]; rw [HD.out]; exact HC4.out
          | succ j => cases hj
        · rw [List.mem_singleton] at hu; subst hu; rfl
        obtain ⟨ao5, n5, c5, rfl⟩ : ∃ ao n c, v5 = .slice ao n c := by obtain ⟨ao, c, e⟩ := ho5.reads.form; exact ⟨ao, _, c, e⟩
        obtain ⟨R5, P5, K5⟩ := HP.out.pushW HB4.out ho5 hg5 hi5
        have cc5 := R5.cell 0
        have ff5 := R5.free 0
        have H5 := hid (And.intro P5 K5)
        clear R5 P5 K5 ho5 hg5 hi5
        refine hK.out _ _ cc5 (fun hH => ?_)
        clear hK K
        try simp only [Act.put, List.getElem_toArray, List.getElem_cons_succ, List.getElem_cons_zero, List.setIfInBounds_toArray, List.set_cons_zero, List.set_cons_succ]
        refine wpAnyK_next (i := 11) (by kernel_rfl) rfl (by decide) (fun K hK => ?_)
        go_simp
        refine hK.out _ _ hH (fun hH => ?_)
        clear hK K
        try simp only [Act.put, List.getElem_toArray, List.getElem_cons_succ, List.getElem_cons_zero, List.setIfInBounds_toArray, List.set_cons_zero, List.set_cons_succ]
        refine wpAnyK_take (i := 12) (v := ?_) rfl (by kernel_rfl) (by kernel_rfl) (by kernel_rfl) (by decide) (by kernel_rfl) (fun _ _ _ h => h) (Or.inl ⟨by kernel_rfl, ?_⟩) hH ?_
        rotate_left
        · intro W hS
          go_simp
          first | done | with_reducible rfl
        simp only [Act.put, List.getElem_toArray, List.getElem_cons_succ, List.getElem_cons_zero, List.setIfInBounds_toArray, List.set_cons_zero, List.set_cons_succ]
        refine wpAnyK_last (by kernel_rfl) rfl (fun K hK => ?_)
        go_simp
        refine hK.out _ _ ?_
        clear hK K
        try simp only [Act.put, List.getElem_toArray, List.getElem_cons_succ, List.getElem_cons_zero, List.setIfInBounds_toArray, List.set_cons_zero, List.set_cons_succ]
        refine wpAnyK_done (by kernel_rfl) ?_ _
        obtain ⟨wq, hwq⟩ : ∃ W, w5.setCell ⟨w.heap.size, 0, none⟩ (.slice ao5 n5 c5) = W := ⟨_, rfl⟩
        rw [hwq] at H5
        rw [hwq]
        have l0 := H5.out.1.row.cell 1
        have HPQ := hid H5.out.1
        have HOL := hid H5.out.1.ol
        clear cc4 cc5 ff5 cw0 hH hwq
        go_wp2_with (at_builtin; go_must (refine wpList_append_more _ rfl _ _ 49 rfl 0 3 Tryz.underlying49 infoI rfl (by decide) rfl (HOL.out.alloc _) (reads_new_at wq [.int .i64 (line : Int)] 3 1 _ (by simp)) (fun u hu => by rw [List.mem_singleton] at hu; subst hu; rfl) rfl (by have := HJN.out; simp only [List.length_singleton]; omega) (Nat.zero_le _) ?_); intro v6 w6 ho6 hg6 hi6; obtain ⟨ao6, n6, c6, rfl⟩ : ∃ ao n c, v6 = .slice ao n c := (let ⟨ao, c, e⟩ := ho6.reads.form; ⟨ao, _, c, e⟩); obtain ⟨R6, P6, K6⟩ := HPQ.out.pushL (below_alloc wq _) ho6 hg6 hi6; have cc6 := R6.cell 1; have ff6 := R6.free 1; have H6 := hid (And.intro P6 K6); clear R6 P6 K6 ho6 hg6 hi6)
        have hlt2 := HEX.out.1
        go_roundw
        case rel =>
          refine ⟨i2, j + 1, line, .slice ao5 n5 c5, .slice ao6 n6 c6, rfl, rfl, ⟨HMJ.out.2.2, ?_, below_ge (below_ge HJ.out.below (Nat.le_refl _) H5.out.2) (Nat.le_refl _) H6.out.2⟩⟩
          rw [take_words HMJ.out.1, List.range_succ, List.map_append, List.map_singleton, HMJ.out.2.1]
          exact H6.out.1
        case measure => simp [intOf]; omega
end Go.Proofs.YtenijpcjemdhfaaGreatDoor
