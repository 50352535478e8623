/-
  The walk of the statement FieldParts.
-/
import Derived.Test.YtcipfbjneeafaaaDoorLaw03B
namespace Go.Proofs.YtcipfbjneeafaaaDoor
open Go.RowKit Go.Pantry

set_option maxHeartbeats 8000000 in
theorem fieldParts_main (aoa aob : Option Addr) (capa capb : Nat) (La Lb : List Fld) (N : List UInt8) (w : World) (hra : Reads2 w (.slice aoa La.length capa) La) (hrb : Reads2 w (.slice aob Lb.length capb) Lb) (ha : smallF La = true) (hb : smallF Lb = true) (hN : N.length ≤ 100) :
    Calls Tryd.prog 9 #[.slice aoa La.length capa, .slice aob Lb.length capb, strV N] w fun e w' => e = .returned (.bool true) ∧ Below w.heap.size w w' := by
  obtain ⟨hka, hla, -⟩ := small_ok ha
  obtain ⟨hkb, hlb, -⟩ := small_ok hb
  have hkc : okFs (La ++ Lb) := ⟨by rw [List.length_append]; omega, fun f hf => by
    rcases List.mem_append.1 hf with hf | hf
    · exact hka.2 f hf
    · exact hkb.2 f hf⟩
  have csa := fun W h => small_any (.slice aoa La.length capa) La W h (by omega)
  have csb := fun W h => small_any (.slice aob Lb.length capb) Lb W h (by omega)
  rw [ha] at csa
  rw [hb] at csb
  have ga := fun W h => lGet_any (.slice aoa La.length capa) La ⟨N.toArray⟩ W h hka (by rw [szL]; omega)
  have gb := fun W h => lGet_any (.slice aob Lb.length capb) Lb ⟨N.toArray⟩ W h hkb (by rw [szL]; omega)
  have gc := fun W v h => lGet_any v (La ++ Lb) ⟨N.toArray⟩ W h hkc (by rw [szL]; omega)
  have aa := fun W h => lAll_any (.slice aoa La.length capa) La ⟨N.toArray⟩ W h hka (by rw [szL]; omega)
  have ab := fun W h => lAll_any (.slice aob Lb.length capb) Lb ⟨N.toArray⟩ W h hkb (by rw [szL]; omega)
  have ac := fun W v h => lAll_any v (La ++ Lb) ⟨N.toArray⟩ W h hkc (by rw [szL]; omega)
  rw [dtL] at ga gb gc aa ab ac
  have hxl := getF_len (L := La) (n := N) (fun f hf => (hka.2 f hf).2) hka.1
  have hyl := getF_len (L := Lb) (n := N) (fun f hf => (hkb.2 f hf).2) hkb.1
  have hta := allF_len La N
  have htb := allF_len Lb N
  have hG := getF_append La Lb N
  have hX0 : allF La N = [] → getF La N = [] := by intro h; unfold getF; rw [h]; rfl
  have hY0 : allF Lb N = [] → getF Lb N = [] := by intro h; unfold getF; rw [h]; rfl
  rw [allF_append] at gc ac
  generalize getF (La ++ Lb) N = G at gc hG
  generalize getF La N = X at ga hxl hG hX0
  generalize getF Lb N = Y at gb hyl hG hY0
  generalize allF La N = Ta at ga gc aa ac hG hX0 hta
  generalize allF Lb N = Tb at gb gc ab ac hG hY0 htb
  have hor : (!(Ta ++ Tb).isEmpty) = ((!Ta.isEmpty) || (!Tb.isEmpty)) := by cases Ta <;> cases Tb <;> rfl
  rw [hor] at gc
  obtain ⟨S0, hS0, hl0, s0⟩ := sum_lists (P := Tryd.prog) X Y (by omega) (by omega)
  obtain ⟨S1, hS1, hl1, s1⟩ := sum_lists (P := Tryd.prog) X [44, 32] (by omega) (by decide)
  obtain ⟨S2, hS2, -, s2⟩ := sum_lists (P := Tryd.prog) S1 Y (by rw [hl1]; simp; omega) (by omega)
  have hgs : G = if (!Ta.isEmpty && !Tb.isEmpty) = true then S2 else S0 := by
    rw [hG, hS2, hS1, hS0]
    cases Ta with
    | nil => rw [hX0 rfl]; simp
    | cons t ts =>
      cases Tb with
      | nil => rw [hY0 rfl]; simp
      | cons u us => simp
  obtain ⟨za, hza⟩ : ∃ z, (!Ta.isEmpty) = z := ⟨_, rfl⟩
  obtain ⟨zb, hzb⟩ : ∃ z, (!Tb.isEmpty) = z := ⟨_, rfl⟩
  rw [hza] at ga gc hgs
  rw [hzb] at gb gc hgs
  have pN : (N.length : Int) ≤ 100 := by omega
  have CSA := hid csa
  have CSB := hid csb
  have GA := hid ga
  have GB := hid gb
  have GC := hid gc
  have AA := hid aa
  have AB := hid ab
  have AC := hid ac
  have HRA := hid hra
  have HRB := hid hrb
  have HGS := hid hgs
  clear csa csb ga gb gc aa ab ac hra hrb hgs hS0 hS1 hS2 hG hX0 hY0 hza hzb hor hka hkb hkc ha hb hl0 hl1
  have hlI : La.length + Lb.length ≤ 140 := by omega
  cases za <;> cases zb
  all_goals
    have hG' := HGS.out
    simp only [Bool.and_true, Bool.and_false, Bool.false_and, Bool.true_and, Bool.false_eq_true, if_false, if_true] at hG'
    subst hG'
    clear HGS
    go_enter Tryd.func9, Tryd.ntmps9
    go_wp2_with fail
    refine (anchor_any _).mono ?_
    rintro e w1 ⟨rfl, hb⟩
    go_wp2_with fail
    refine (CSA.out _ (HRA.out.below hb)).mono ?_
    rintro e w2 ⟨rfl, hb2⟩
    replace hb := chain2 hb hb.size hb2
    clear hb2
    go_wp2_with fail
    refine (CSB.out _ (HRB.out.below hb)).mono ?_
    rintro e w3 ⟨rfl, hb2⟩
    replace hb := chain2 hb hb.size hb2
    clear hb2
    have hbE : Below w3.heap.size w3 (w3.alloc (.cells #[] 29)) := below_alloc _ _
    have hoE : (w3.alloc (.cells #[] 29)).ownsRow w3.heap.size 29 2 (.slice (some ⟨w3.heap.size, 0, none⟩) 0 0) 0 (fldCells []) := World.ownsRow_made w3 #[] 0 (Nat.le_refl _) (by decide) rfl
    have hra0 := HRA.out.below (chain2 hb hb.size hbE)
    go_wp2_with (first
      | (at_builtin; (refine wpList_append_flds _ rfl _ _ 23 rfl w3.heap.size 29 Tryd.underlying23 infoFld rfl (by decide) rfl hoE hra0 rfl (by omega) hbE.size ?_); intro v1 w4 ho4 hb4; have hbw4 := chain2 hb hb.size (hbE.trans hb4); have hrb4 := HRB.out.below hbw4)
      | (at_builtin; (refine wpList_append_flds _ rfl _ _ 23 rfl w3.heap.size 29 Tryd.underlying23 infoFld rfl (by decide) rfl ho4 hrb4 rfl (by simp; omega) (hbE.trans hb4).size ?_); intro v2 w5 ho5 hb5; replace hb := hbw4.trans (hb5.mono hb.size)))
    have hrc : Reads2 w5 v2 (La ++ Lb) := by have h := ho5.reads2.2; simpa using h
    refine (GC.out _ _ hrc).mono ?_
    rintro e w6 ⟨rfl, hb2⟩
    replace hb := chain2 hb hb.size hb2
    have HRC := hid (hrc.below hb2)
    clear hb2 hrc ho5 ho4 hrb4 hra0 hoE hbE hb4 hb5 hbw4
    go_wp2_with fail
    refine (GA.out _ (HRA.out.below hb)).mono ?_
    rintro e w7 ⟨rfl, hb2⟩
    have HRC7 := hid (HRC.out.below hb2)
    replace hb := chain2 hb hb.size hb2
    clear hb2 HRC
    go_wp2_with fail
    refine (GB.out _ (HRB.out.below hb)).mono ?_
    rintro e w8 ⟨rfl, hb2⟩
    have HRC8 := hid (HRC7.out.below hb2)
    replace hb := chain2 hb hb.size hb2
    clear hb2 HRC7
    go_wp2_with fail
    refine (AC.out _ _ HRC8.out).mono ?_
    rintro e w9 ⟨⟨v3, rfl, ho3⟩, hb2⟩
    replace hb := chain2 hb hb.size hb2
    have hr3 := ho3.reads
    clear hb2 ho3
    go_wp2_with fail
    refine (AA.out _ (HRA.out.below hb)).mono ?_
    rintro e w10 ⟨⟨v4, rfl, ho4⟩, hbc⟩
    go_wp2_with fail
    refine (AB.out _ (HRB.out.below (chain2 hb hb.size hbc))).mono ?_
    rintro e w11 ⟨⟨v5, rfl, ho5⟩, hb2⟩
    replace ho4 := ho4.below hb2
    replace hbc := chain2 hbc hbc.size hb2
    have hr5 := ho5.reads
    clear hb2 ho5
    have hB5 := hbc.size
    go_wp2_with (at_builtin; go_must (refine wpList_append_all _ rfl _ _ 36 rfl w9.heap.size 9 Tryd.underlying36 infoStr rfl (by decide) rfl ho4 hr5 (strs_oneCell _) rfl (by rw [List.length_map]; omega) hB5 ?_); intro v6 w12 ho6 hg6 hb6)
    replace hbc := hbc.trans hb6
    replace hr3 := hr3.below hbc
    replace hb := chain2 hb hb.size hbc
    have hr6 := ho6.reads
    rw [← List.map_append] at hr6
    clear hb6 hg6 ho6 hr5 ho4 hbc
    have cw := fun W h1 h2 => words_any v3 v6 (Ta ++ Tb) (Ta ++ Tb) W h1 h2 (by rw [List.length_append]; omega)
    rw [decide_eq_true rfl] at cw
    refine (cw _ hr3 hr6).mono ?_
    rintro e w13 ⟨rfl, rfl⟩
    clear cw hr3 hr6
    go_wp2_with fail
    go_ret
    exact ⟨ret_bool (by simp), hb⟩

theorem fieldParts_walk (v1 : Value) (La : List Fld) (v2 : Value) (Lb : List Fld) (n : ByteArray) (w : World) (hl1 : Reads2 w v1 La ∧ (∀ f ∈ La, f.1.length ≤ maxLen ∧ f.2.length ≤ maxLen) ∧ La.length ≤ maxLen) (hl2 : Reads2 w v2 Lb ∧ (∀ f ∈ Lb, f.1.length ≤ maxLen ∧ f.2.length ≤ maxLen) ∧ Lb.length ≤ maxLen) (hn : n.size ≤ maxLen) :
    Calls Tryd.prog 9 #[v1, v2, .string n] w fun e w' => e = .returned (.bool true) ∧ Below w.heap.size w w' := by
  obtain ⟨hra, -, hla⟩ := hl1
  obtain ⟨hrb, -, hlb⟩ := hl2
  obtain ⟨aoa, capa, rfl⟩ := hra.form
  obtain ⟨aob, capb, rfl⟩ := hrb.form
  unfold maxLen at hn hla hlb
  have csa := fun W h => small_any (.slice aoa La.length capa) La W h (by omega)
  have csb := fun W h => small_any (.slice aob Lb.length capb) Lb W h (by omega)
  obtain ⟨qa, hqa⟩ : ∃ q, smallF La = q := ⟨_, rfl⟩
  obtain ⟨qb, hqb⟩ : ∃ q, smallF Lb = q := ⟨_, rfl⟩
  by_cases hall : qa = true ∧ qb = true ∧ (n.size : Int) ≤ 100
  · obtain ⟨rfl, rfl, hn2⟩ := hall
    obtain ⟨N, rfl⟩ := as_list n
    exact fieldParts_main aoa aob capa capb La Lb N w hra hrb hqa hqb (by rw [szL] at hn2; omega)
  · have hcase : qa = false ∨ (qa = true ∧ qb = false) ∨ (qa = true ∧ qb = true ∧ (100 : Int) < (n.size : Int)) := by
      cases qa
      · exact .inl rfl
      · cases qb
        · exact .inr (.inl ⟨rfl, rfl⟩)
        · exact .inr (.inr ⟨rfl, rfl, by simp at hall; omega⟩)
    rw [hqa] at csa
    rw [hqb] at csb
    have CSA := hid csa
    have CSB := hid csb
    have HRA := hid hra
    have HRB := hid hrb
    clear csa csb hra hrb hqa hqb hall
    rcases hcase with rfl | ⟨rfl, rfl⟩ | ⟨rfl, rfl, hn2⟩
    · go_enter Tryd.func9, Tryd.ntmps9
      go_wp2_with fail
      refine (anchor_any _).mono ?_
      rintro e w1 ⟨rfl, hb⟩
      go_wp2_with fail
      refine (CSA.out _ (HRA.out.below hb)).mono ?_
      rintro e w2 ⟨rfl, hb2⟩
      replace hb := chain2 hb hb.size hb2
      clear hb2
      go_wp2_with fail
      go_ret
      exact ⟨rfl, hb⟩
    all_goals
      go_enter Tryd.func9, Tryd.ntmps9
      go_wp2_with fail
      refine (anchor_any _).mono ?_
      rintro e w1 ⟨rfl, hb⟩
      go_wp2_with fail
      refine (CSA.out _ (HRA.out.below hb)).mono ?_
      rintro e w2 ⟨rfl, hb2⟩
      replace hb := chain2 hb hb.size hb2
      clear hb2
      go_wp2_with fail
      refine (CSB.out _ (HRB.out.below hb)).mono ?_
      rintro e w3 ⟨rfl, hb2⟩
      replace hb := chain2 hb hb.size hb2
      clear hb2
      go_wp2_with fail
      go_ret
      exact ⟨rfl, hb⟩
end Go.Proofs.YtcipfbjneeafaaaDoor
