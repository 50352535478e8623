/-
  Several texts in one: Law13M, Law13YMerges.
-/
import Derived.Test.YtoolboafbkikjaaDoorF13Law13V
import Derived.Test.YtoolboafbkikjaaDoorF1306
import Derived.Test.YtoolboafbkikjaaDoorF1310
import Derived.Test.YtoolboafbkikjaaDoorF13Ref13G
set_option linter.unusedVariables false
set_option linter.unusedSimpArgs false
/-
  The walk of PassMerges.
-/
namespace Go.Proofs.YtoolboafbkikjaaDoor
open Go.RowKit Go.Pantry

theorem onceF_val (l : List Fld) : ∀ k, ∀ f ∈ onceF l k, ∃ n, f.2 = getF l n
  | 0 => by simp [onceF]
  | k + 1 => by
    intro f hf
    have ih := onceF_val l k
    rw [onceF] at hf
    split at hf
    · exact ih f hf
    · split at hf
      · exact ih f hf
      · rcases List.mem_append.1 hf with h | h
        · exact ih f h
        · rw [List.mem_singleton.1 h]; exact ⟨_, rfl⟩
theorem merge_wide {came said : List Fld} (hc : SmallF came) (hs : SmallF said) : WideF (mergeF came said) ∧ (mergeF came said).length ≤ 120 := by
  obtain ⟨h1, h2⟩ := withsF_bd came (onceF (answerF said) (answerF said).length)
  have h3 := onceF_len (answerF said) (answerF said).length
  have h4 := hc.len
  have ha := answer_small hs
  have h5 := ha.len
  have hl : (mergeF came said).length ≤ 120 := by show (withsF came (onceF (answerF said) (answerF said).length)).length ≤ 120; omega
  refine ⟨⟨Nat.le_trans hl (by decide), fun f hf => ?_, fun f hf => ?_⟩, hl⟩
  · rcases h2 f hf with h | h
    · exact Nat.le_trans (hc.name f h) (by decide)
    · obtain ⟨g, g1, g2⟩ := onceF_name _ _ f h
      rw [← g2]
      exact Nat.le_trans (ha.name g (List.mem_of_mem_take g1)) (by decide)
  · rcases h2 f hf with h | h
    · exact Nat.le_trans (hc.val f h) (by decide)
    · obtain ⟨n, e⟩ := onceF_val _ _ f h
      rw [e]
      exact Nat.le_trans (ha.get n) (by decide)
theorem allF_own {l : List Fld} {f : Fld} (h : f ∈ l) : allF l (lowerL f.1) ≠ [] := by
  intro e
  simp only [allF, List.map_eq_nil_iff, List.filter_eq_nil_iff] at e
  refine e f h ?_
  unfold isF
  rw [lowerL_idem]
  simp
theorem names_small {l : List Fld} (h : SmallF l) {n : List UInt8} (hn : n ∈ namesP l l.length) : n.length ≤ 100 ∧ allF l n ≠ [] := by
  obtain ⟨f, hf, rfl⟩ := (namesP_bd l l.length).2 n hn
  exact ⟨by unfold lowerL; rw [List.length_map]; exact h.name f hf, allF_own hf⟩
theorem same_len (v : Value) (ls : List (List UInt8)) (w : World) (B : Nat) (e : TypeId) (h : w.ownsRow B e 1 v ls.length (ls.map strV)) : ∃ ao cap, v = .slice ao ls.length cap := h.reads.strs
set_option maxRecDepth 8000 in
set_option maxHeartbeats 4000000 in
theorem passMerges_over {Ok : World → Prop} (K : Moves Ok) (cv : Value) (came : List Fld) (sv : Value) (said : List Fld) (w : World) (ok : Ok w) (hcame : Reads2 w cv came ∧ came.length ≤ maxLen) (hsaid : Reads2 w sv said ∧ said.length ≤ maxLen) :
    Calls Tryd.prog 5 #[cv, sv] w fun e w' => e = .returned (.bool true) ∧ Below w.heap.size w w' := by
  have cA := hid (anchor13_any K w ok)
  have cScame := hid (fun (w' : World) (h : Below w.heap.size w w') => smallK_any cv came w' (hcame.1.below h) (by have := hcame.2; unfold maxLen at this; omega))
  have HRcame := hid hcame.1
  have cSsaid := hid (fun (w' : World) (h : Below w.heap.size w w') => smallK_any sv said w' (hsaid.1.below h) (by have := hsaid.2; unfold maxLen at this; omega))
  have HRsaid := hid hsaid.1
  have OK := hid ok
  clear ok hcame hsaid
  go_enter Tryd.func5, Tryd.ntmps5
  go_wp2_with fail
  refine cA.out.mono ?_
  rintro e w1 ⟨rfl, hb1⟩
  have HB1 := hid hb1
  clear hb1 cA
  go_wp2_with fail
  refine (cScame.out _ HB1.out).mono ?_
  rintro e w2 ⟨rfl, hb2⟩
  have HB2 := hid (chain2 HB1.out HB1.out.size hb2)
  clear hb2 HB1 cScame
  cases hscame : smallK came with
  | false =>
    go_wp2_with fail
    go_ret
    exact ⟨rfl, HB2.out⟩
  | true =>
  have Scame := hid (smallK_ok hscame)
  have Ncame := hid (smallK_len hscame)
  clear hscame
  go_wp2_with fail
  refine (cSsaid.out _ HB2.out).mono ?_
  rintro e w3 ⟨rfl, hb3⟩
  have HB3 := hid (chain2 HB2.out HB2.out.size hb3)
  clear hb3 HB2 cSsaid
  cases hssaid : smallK said with
  | false =>
    go_wp2_with fail
    go_ret
    exact ⟨rfl, HB3.out⟩
  | true =>
  have Ssaid := hid (smallK_ok hssaid)
  have Nsaid := hid (smallK_len hssaid)
  clear hssaid
  obtain ⟨hMW, hML⟩ := merge_wide Scame.out Ssaid.out
  have hMA := fun n (h : allF said n = []) => merge_other (came := came) h
  have hMM := merge_again came said
  have c1 := hid (fun (W : World) (h : Below w.heap.size w W) => Fields_any cv came W (HRcame.out.below h) (Nat.lt_of_le_of_lt Scame.out.len (by decide)))
  have c2 := hid (fun (W : World) (h : Below w.heap.size w W) => Fields_any sv said W (HRsaid.out.below h) (Nat.lt_of_le_of_lt Ssaid.out.len (by decide)))
  have c3 := hid (fun (W : World) (h : Below w.heap.size w W) => K.merge cv sv came said W (K.keep _ _ OK.out h) (HRcame.out.below h) (HRsaid.out.below h) Scame.out.wide (Nat.le_trans Ncame.out (by decide)) Ssaid.out)
  have c4 := hid (fun (W : World) (x y : Value) (h1 : Reads2 W x came) (h2 : Reads2 W y said) => r13Merge_any x y came said W h1 h2 Scame.out Ssaid.out)
  have c5 := hid (fun (W : World) (x : Value) (h : Below w.heap.size w W) (h1 : Reads2 W x (mergeF came said)) => by
    have h5 := K.merge x sv (mergeF came said) said W (K.keep _ _ OK.out h) h1 (HRsaid.out.below h) hMW (Nat.le_trans hML (by decide)) Ssaid.out
    rw [hMM] at h5
    exact h5)
  have c6 := hid (fun (W : World) (x y : Value) (h1 : Reads2 W x (mergeF came said)) (h2 : Reads2 W y (mergeF came said)) => same13_self x y (mergeF came said) W h1 h2 (Nat.lt_of_le_of_lt hML (by decide)))
  have c7 := hid (fun (W : World) (x : Value) (h : Reads2 W x came) => r13Names_any x came W h Scame.out)
  generalize mergeF came said = M at hMW hML hMA c3 c4 c5 c6
  have HMW := hid hMW
  have HMA := hid hMA
  clear hMW hML hMA hMM
  go_wp2_with fail
  refine (c1.out _ HB3.out).mono ?_
  rintro e w4 ⟨vb, rfl, ho, hb⟩
  have HB4 := hid (chain2 HB3.out HB3.out.size hb)
  have X4 := hid (ho.reads2.2)
  clear ho
  clear hb HB3
  go_wp2_with fail
  refine (c2.out _ HB4.out).mono ?_
  rintro e w5 ⟨vc, rfl, ho, hb⟩
  have HB5 := hid (chain2 HB4.out HB4.out.size hb)
  have X5 := hid (X4.out.below hb)
  have Y5 := hid (ho.reads2.2)
  clear ho
  clear hb HB4 X4
  go_wp2_with fail
  refine (c3.out _ HB5.out).mono ?_
  rintro e w6 ⟨⟨vm, rfl, hr⟩, hb⟩
  have HB6 := hid (chain2 HB5.out HB5.out.size hb)
  have X6 := hid (X5.out.below hb)
  have Y6 := hid (Y5.out.below hb)
  have M6 := hid (hr)
  clear hr
  clear hb HB5 X5 Y5
  go_wp2_with fail
  refine (c4.out _ _ _ X6.out Y6.out).mono ?_
  rintro e w7 ⟨⟨vu, rfl, hr⟩, hb⟩
  have HB7 := hid (chain2 HB6.out HB6.out.size hb)
  have X7 := hid (X6.out.below hb)
  have Y7 := hid (Y6.out.below hb)
  have M7 := hid (M6.out.below hb)
  have U7 := hid (hr)
  clear hr
  clear hb HB6 X6 Y6 M6
  go_wp2_with fail
  refine (c6.out _ _ _ M7.out U7.out).mono ?_
  rintro e w8 ⟨rfl, hb⟩
  have HB8 := hid (chain2 HB7.out HB7.out.size hb)
  have X8 := hid (X7.out.below hb)
  have Y8 := hid (Y7.out.below hb)
  have M8 := hid (M7.out.below hb)
  have U8 := hid (U7.out.below hb)
  clear hb HB7 X7 Y7 M7 U7
  clear U8
  go_wp2_with fail
  refine (c5.out _ _ HB8.out M8.out).mono ?_
  rintro e w9 ⟨⟨vn, rfl, hr⟩, hb⟩
  have HB9 := hid (chain2 HB8.out HB8.out.size hb)
  have X9 := hid (X8.out.below hb)
  have Y9 := hid (Y8.out.below hb)
  have M9 := hid (M8.out.below hb)
  have A9 := hid (hr)
  clear hr
  clear hb HB8 X8 Y8 M8
  go_wp2_with fail
  refine (c4.out _ _ _ X9.out Y9.out).mono ?_
  rintro e w10 ⟨⟨vo, rfl, hr⟩, hb⟩
  have HB10 := hid (chain2 HB9.out HB9.out.size hb)
  have X10 := hid (X9.out.below hb)
  have Y10 := hid (Y9.out.below hb)
  have M10 := hid (M9.out.below hb)
  have A10 := hid (A9.out.below hb)
  have B10 := hid (hr)
  clear hr
  clear hb HB9 X9 Y9 M9 A9
  go_wp2_with fail
  refine (c6.out _ _ _ A10.out B10.out).mono ?_
  rintro e w11 ⟨rfl, hb⟩
  have HB11 := hid (chain2 HB10.out HB10.out.size hb)
  have X11 := hid (X10.out.below hb)
  have Y11 := hid (Y10.out.below hb)
  have M11 := hid (M10.out.below hb)
  have A11 := hid (A10.out.below hb)
  have B11 := hid (B10.out.below hb)
  clear hb HB10 X10 Y10 M10 A10 B10
  clear A11
  clear B11
  clear Y11
  go_wp2_with fail
  refine (c7.out _ _ X11.out).mono ?_
  rintro e w12 ⟨⟨vz, rfl, hr⟩, hb⟩
  have HB12 := hid (chain2 HB11.out HB11.out.size hb)
  have X12 := hid (X11.out.below hb)
  have M12 := hid (M11.out.below hb)
  have N12 := hid (hr)
  clear hr
  clear hb HB11 X11 M11
  clear X12
  clear c1 c2 c3 c4 c5 c6 c7
  have hnn := fun n (h : n ∈ namesP came came.length) => names_small Scame.out h
  have hlb := (namesP_bd came came.length).1
  have hcl := Scame.out.len
  have hr5 := N12.out
  generalize namesP came came.length = N at hnn hlb hr5
  obtain ⟨no, nc, rfl⟩ := hr5.strs
  obtain ⟨n, hn⟩ : ∃ n, N.length = n := ⟨_, rfl⟩
  rw [hn] at hr5 hlb ⊢
  have HNN := hid hnn
  have HN := hid hn
  have R5 := hid hr5
  have M5 := M12
  have HB5 := HB12
  clear N12 M12 HB12 hnn hn hr5
  go_wp2_with fail
  go_loopw [52] (fun i wr => ∃ k : Nat, k ≤ n ∧ i = .int .i64 (k : Int) ∧ Below w12.heap.size w12 wr) (fun i _ => n - (intOf i).toNat)
  case atStart => exact ⟨0, Nat.zero_le _, rfl, Below.refl _ _⟩
  case round =>
    obtain ⟨k, hk, rfl, hbr⟩ := hrel
    by_cases hlt : k < n
    · obtain ⟨y, hy⟩ : ∃ y, N[k]? = some y := ⟨_, List.getElem?_eq_getElem (by rw [HN.out]; exact hlt)⟩
      obtain ⟨bb, off, hao, d0⟩ := (R5.out.below hbr).str hy
      subst hao
      have hkI : (k : Int) < (n : Int) := by omega
      have hk0 : (0 : Int) ≤ (k : Int) := by omega
      have hkw : IntKind.i64.wrap ((k : Int) + 1) = (k : Int) + 1 := IntWalk.i64_in _ (by omega)
      obtain ⟨hyl, hya⟩ := HNN.out y (List.mem_of_getElem? hy)
      have hbw := chain2 HB5.out HB5.out.size hbr
      have g1 := hid (lGetW_any sv said y wr (HRsaid.out.below hbw) Ssaid.out.wide (Nat.le_trans hyl (by decide)))
      have g2 := hid (fun (W : World) (h : Below w.heap.size w W) => lGetW_any cv came y W (HRcame.out.below h) Scame.out.wide (Nat.le_trans hyl (by decide)))
      have g3 := hid (fun (W : World) (h : Below w12.heap.size w12 W) => lGetW_any vm M y W (M5.out.below h) HMW.out (Nat.le_trans hyl (by decide)))
      have g4 := hid (fun (W : World) (h : Below w.heap.size w W) => lAll_any cv came ⟨y.toArray⟩ W (HRcame.out.below h) Scame.out.wide.okFs (by rw [szL]; omega))
      have g5 := hid (fun (W : World) (h : Below w12.heap.size w12 W) => lAll_any vm M ⟨y.toArray⟩ W (M5.out.below h) HMW.out.okFs (by rw [szL]; omega))
      simp only [dtL] at g4 g5
      have hma := HMA.out y
      have HBR := hid hbr
      have HBW := hid hbw
      clear hy hbr hbw
      by_cases hs : allF said y = []
      · have ha := hma hs
        have hg : getF M y = getF came y := by unfold getF; rw [ha]
        rw [hs] at g1
        rw [ha, hg] at g3
        rw [ha] at g5
        generalize getF came y = A at g2 g3
        generalize getF said y = A0 at g1
        generalize allF came y = L at g2 g3 g4 g5 hya
        have hLe : (!L.isEmpty) = true := by cases L <;> simp_all
        rw [hLe] at g3 g2
        have qa : (A == A) = true := beq_self_eq_true A
        have qn : (A != A) = false := by simp
        obtain ⟨q, hq⟩ : ∃ q, L.length = q := ⟨_, rfl⟩
        have HQ := hid hq
        have qq : ((q : Int) == (q : Int)) = true := beq_self_eq_true _
        have qqn : ((q : Int) != (q : Int)) = false := by simp
        clear hma hs ha hg hya hLe hq
        go_wp2_with fail
        refine g1.out.mono ?_
        rintro e x1 ⟨rfl, hb⟩
        have HBR1 := hid (chain2 HBR.out HBR.out.size hb)
        have HBW1 := hid (chain2 HBW.out HBW.out.size hb)
        clear hb g1
        go_wp2_with fail
        refine (g2.out _ HBW1.out).mono ?_
        rintro e x2 ⟨rfl, hb⟩
        have HBR2 := hid (chain2 HBR1.out HBR1.out.size hb)
        have HBW2 := hid (chain2 HBW1.out HBW1.out.size hb)
        clear hb HBR1 HBW1 g2
        go_wp2_with fail
        refine (g3.out _ HBR2.out).mono ?_
        rintro e x3 ⟨rfl, hb⟩
        have HBR3 := hid (chain2 HBR2.out HBR2.out.size hb)
        have HBW3 := hid (chain2 HBW2.out HBW2.out.size hb)
        clear hb HBR2 HBW2 g3
        go_wp2_with fail
        refine (g5.out _ HBR3.out).mono ?_
        rintro e x4 ⟨⟨va, rfl, hoa⟩, hb⟩
        have HBR4 := hid (chain2 HBR3.out HBR3.out.size hb)
        have HBW4 := hid (chain2 HBW3.out HBW3.out.size hb)
        obtain ⟨a1, p1, rfl⟩ := hoa.reads.strs
        rw [HQ.out]
        clear hb HBR3 HBW3 g5 hoa
        go_wp2_with fail
        refine (g4.out _ HBW4.out).mono ?_
        rintro e x5 ⟨⟨va, rfl, hoa⟩, hb⟩
        have HBR5 := hid (chain2 HBR4.out HBR4.out.size hb)
        obtain ⟨a2, p2, rfl⟩ := hoa.reads.strs
        rw [HQ.out]
        clear hb HBR4 HBW4 g4 hoa
        go_wp2_with fail
        go_roundw
        case rel => exact ⟨k + 1, hlt, by go_num, HBR5.out⟩
        case measure => simp [intOf]; omega
      · have hLe : (!(allF said y).isEmpty) = true := by cases h : allF said y <;> simp_all
        rw [hLe] at g1
        clear hs hLe hma g2 g3 g4 g5
        go_wp2_with fail
        refine g1.out.mono ?_
        rintro e x1 ⟨rfl, hb⟩
        have HBR1 := hid (chain2 HBR.out HBR.out.size hb)
        clear hb g1
        go_wp2_with fail
        go_roundw
        case rel => exact ⟨k + 1, hlt, by go_num, HBR1.out⟩
        case measure => simp [intOf]; omega
    · have hkn : k = n := by omega
      subst hkn
      have hdk : decide ((k : Int) < (k : Int)) = false := decide_eq_false (by omega)
      have HBA := hid (chain2 HB5.out HB5.out.size hbr)
      clear hbr R5 HN HNN
      go_wp2_with fail
      go_ret
      exact ⟨rfl, HBA.out⟩
end Go.Proofs.YtoolboafbkikjaaDoor
/-
  PassMerges over package pass as it is.
-/
namespace Go.Proofs.YtoolboafbkikjaaDoor
open Go.RowKit Go.Pantry

theorem passMerges_walk (cv : Value) (came : List Fld) (sv : Value) (said : List Fld) (w : World) (hc : FieldsAt13 w cv came) (hs : FieldsAt13 w sv said) :
    Calls Tryd.prog 5 #[cv, sv] w fun e w' => e = .returned (.bool true) ∧ Below w.heap.size w w' := by
  exact passMerges_over (moves_ok (Ok := fun _ => True) (fun _ _ _ _ => trivial)) cv came sv said w trivial ⟨hc.1, hc.2.2⟩ ⟨hs.1, hs.2.2⟩
end Go.Proofs.YtoolboafbkikjaaDoor
