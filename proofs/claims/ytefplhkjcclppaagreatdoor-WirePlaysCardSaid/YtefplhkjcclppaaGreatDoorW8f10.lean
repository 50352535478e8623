/-
  Several texts in one: BodyA, BodyB, BodyC, BodyD, Ref6F, Ref6G.
-/
import Derived.Test.YtefplhkjcclppaaGreatDoorPureAll2
import Derived.Test.YtefplhkjcclppaaGreatDoorW8f02
import Derived.IntWalk
import Derived.BigQuiet
import Derived.Deep.QuietTactic
import Derived.Test.YtefplhkjcclppaaGreatDoorW8f13
import Derived.Test.YtefplhkjcclppaaGreatDoorPureWire
/-
  Contracts of package body: digit, lacking, line, number.
-/
namespace Go.Proofs.YtefplhkjcclppaaGreatDoor
open Go.RowKit Go.Pantry

theorem hexV_dig {c : UInt8} (h1 : 48 ≤ c.toNat) (h2 : c.toNat ≤ 57) : hexV c = some (c.toNat - 48) := by unfold hexV; rw [if_pos ⟨h1, h2⟩]
theorem hexV_low {c : UInt8} (h1 : 97 ≤ c.toNat) (h2 : c.toNat ≤ 102) : hexV c = some (c.toNat - 87) := by unfold hexV; rw [if_neg (by omega), if_pos ⟨h1, h2⟩]
theorem hexV_up {c : UInt8} (h1 : 65 ≤ c.toNat) (h2 : c.toNat ≤ 70) : hexV c = some (c.toNat - 55) := by unfold hexV; rw [if_neg (by omega), if_neg (by omega), if_pos ⟨h1, h2⟩]
theorem hexV_no {c : UInt8} (h1 : ¬ (48 ≤ c.toNat ∧ c.toNat ≤ 57)) (h2 : ¬ (97 ≤ c.toNat ∧ c.toNat ≤ 102)) (h3 : ¬ (65 ≤ c.toNat ∧ c.toNat ≤ 70)) : hexV c = none := by unfold hexV; rw [if_neg h1, if_neg h2, if_neg h3]
set_option maxHeartbeats 2000000 in
theorem bdigit_any (c : UInt8) (w : World) :
    Calls Tryz.prog 118 #[.int .u8 (c.toNat : Int)] w fun e w' => e = .returned (.tuple #[.int .i64 (((hexV c).getD 0 : Nat) : Int), .bool (hexV c).isSome]) ∧ w = w' := by
  have hc := c.toNat_lt
  by_cases a1 : 48 ≤ c.toNat ∧ c.toNat ≤ 57
  · have hv := hexV_dig a1.1 a1.2
    generalize hexV c = r at hv ⊢
    subst hv
    obtain ⟨h1, h2⟩ := a1
    go_enter Tryz.func118, Tryz.ntmps118
    go_wp2
    go_ret2
    refine ⟨?_, rfl⟩
    simp
    omega
  · by_cases a2 : 97 ≤ c.toNat ∧ c.toNat ≤ 102
    · have hv := hexV_low a2.1 a2.2
      generalize hexV c = r at hv ⊢
      subst hv
      obtain ⟨h1, h2⟩ := a2
      go_enter Tryz.func118, Tryz.ntmps118
      go_wp2
      go_ret2
      refine ⟨?_, rfl⟩
      simp
      omega
    · by_cases a3 : 65 ≤ c.toNat ∧ c.toNat ≤ 70
      · have hv := hexV_up a3.1 a3.2
        generalize hexV c = r at hv ⊢
        subst hv
        obtain ⟨h1, h2⟩ := a3
        go_enter Tryz.func118, Tryz.ntmps118
        go_wp2
        go_ret2
        refine ⟨?_, rfl⟩
        simp
        omega
      · have hv := hexV_no a1 a2 a3
        generalize hexV c = r at hv ⊢
        subst hv
        go_enter Tryz.func118, Tryz.ntmps118
        go_wp2
        all_goals first | omega | skip
        all_goals go_ret2
        all_goals exact ⟨rfl, rfl⟩
theorem lacking_any (b : Bool) (w : World) :
    Calls Tryz.prog 76 #[.bool b] w fun e w' => e = .returned (.int .i64 (if b then 21 else 20)) ∧ w = w' := by
  cases b
  all_goals
    go_enter Tryz.func76, Tryz.ntmps76
    go_wp2
    go_ret
    exact ⟨rfl, rfl⟩

/-- what 'number' leaves -/
def NumPost (g lack : Nat) (l : List UInt8) (w0 w : World) (e : Ending) (w' : World) : Prop :=
  (numE l = 21 ∧ e = .returned (.tuple #[.int .i64 0, .int .i64 21]) ∧ w = w') ∨
  (numE l = 0 ∧ ∃ v', e = .returned (.tuple #[.int .i64 ((hexRun 8 0 l).1 : Int), .int .i64 0]) ∧ Bytes w0 v' (l.drop (hexRun 8 0 l).2) ∧ rowIs w' g #[v', .int .i64 (lack : Int)] 140 ∧ w.grownBy w' (some g))
set_option maxRecDepth 100000 in
set_option maxHeartbeats 8000000 in
theorem number_any (g lack : Nat) (v : Value) (l : List UInt8) (w0 w : World) (hb : Below w0.heap.size w0 w) (hg : rowIs w g #[v, .int .i64 (lack : Int)] 140) (hr : Bytes w0 v l) (hl : l.length ≤ 1000000) :
    Calls Tryz.prog 99 #[.pointer (some ⟨g, 0, none⟩)] w fun e w' => NumPost g lack l w0 w e w' := by
  have hle := hexRun_le 8 0 l
  have hnum : numE l = if (hexRun 8 0 l).2 = 0 ∧ l ≠ [] then 21 else 0 := rfl
  obtain ⟨N, hN⟩ : ∃ N, (hexRun 8 0 l).1 = N := ⟨_, rfl⟩
  obtain ⟨D, hD⟩ : ∃ D, (hexRun 8 0 l).2 = D := ⟨_, rfl⟩
  rw [hD] at hnum
  rw [hN, hD] at hle
  have hpost : ∀ e w', NumPost g lack l w0 w e w' = ((numE l = 21 ∧ e = .returned (.tuple #[.int .i64 0, .int .i64 21]) ∧ w = w') ∨ (numE l = 0 ∧ ∃ v', e = .returned (.tuple #[.int .i64 (N : Int), .int .i64 0]) ∧ Bytes w0 v' (l.drop D) ∧ rowIs w' g #[v', .int .i64 (lack : Int)] 140 ∧ w.grownBy w' (some g))) := fun e w' => by unfold NumPost; rw [hN, hD]
  have HPO := hid hpost
  have hDl := hle.1
  clear hle
  obtain ⟨aot, ct, htail, hv'⟩ := bytes_low (P := Tryz.prog) 27 (by kernel_rfl) (fun _ => by kernel_rfl) hr D hDl
  obtain ⟨ao, cap, rfl, hc⟩ := bytes_form hr
  have hrd := (bytesRead hr).below hb
  have HR := hid hrd
  have HV := hid hv'
  have HG := hid hg
  have g0 := hg.cell 0
  have f0 := hg.free 0
  have HN := hid hN
  have HD := hid hD
  have HE := hid hnum
  have HT := hid htail
  have HB := hid hb
  clear hpost hrd hv' hr hN hD hnum htail hg hb hDl
  go_enter Tryz.func99, Tryz.ntmps99
  go_wp2
  go_loop [4, 5] (fun n d => ∃ x k : Nat, n = .int .i64 (x : Int) ∧ d = .int .i64 (k : Int) ∧ k ≤ 8 ∧ k ≤ l.length ∧ x < 16 ^ k ∧ (hexRun (8 - k) x (l.drop k)).1 = N ∧ (hexRun (8 - k) x (l.drop k)).2 + k = D) (fun _ d => 8 - (intOf d).toNat)
  case atStart => exact ⟨0, 0, rfl, rfl, by omega, by omega, by decide, HN.out, HD.out⟩
  case round =>
    obtain ⟨x, k, rfl, rfl, hk8, hkl, hx, h1, h2⟩ := hrel
    have hx8 : x < 4294967296 := Nat.lt_of_lt_of_le hx (Nat.pow_le_pow_right (by decide) hk8)
    have H1 := hid h1
    have H2 := hid h2
    have HX := hid hx
    clear h1 h2 hx
    by_cases hlt : k < 8 ∧ k < l.length
    · obtain ⟨hlt1, hlt2⟩ := hlt
      have hmin : (k : Int) < if (l.length : Int) < 8 then (l.length : Int) else 8 := by split <;> omega
      have hmd : decide ((k : Int) < if (l.length : Int) < 8 then (l.length : Int) else 8) = true := decide_eq_true hmin
      obtain ⟨c, hcx⟩ : ∃ c, l[k]? = some c := ⟨_, List.getElem?_eq_getElem hlt2⟩
      have hdr : l.drop k = c :: l.drop (k + 1) := by
        rw [List.drop_eq_getElem_cons hlt2]
        obtain ⟨_, e⟩ := List.getElem?_eq_some_iff.1 hcx
        rw [e]
      obtain ⟨b, off, cap', hv, hcell⟩ := HR.out.at_some (by rw [List.length_map]; omega)
      have hce := hcell k (byteV c) (by rw [List.getElem?_map, hcx]; rfl)
      rw [List.length_map] at hv
      cases hv
      have HDR := hid hdr
      clear hdr hcx hcell hmin
      obtain ⟨M, hM⟩ : ∃ M : Int, (if (l.length : Int) < 8 then (l.length : Int) else 8) = M := ⟨_, rfl⟩
      rw [hM] at hmd
      all_goals
        cases hcv : hexV c with
        | some dv =>
          have hdv := hexV_le hcv
          have HCV := hid hcv
          have cd := bdigit_any c w
          rw [hcv] at cd
          simp only [Option.getD_some, Option.isSome_some] at cd
          have CD := hid cd
          clear hcv cd hmd
          go_wp2_with fail
          refine CD.out.mono ?_
          rintro e w1 ⟨rfl, rfl⟩
          go_wp2_with fail
          go_round
          case rel =>
            have e8 : 8 - k = (8 - (k + 1)) + 1 := by omega
            have q1 := H1.out
            have q2 := H2.out
            rw [HDR.out, e8, hexRun_some HCV.out] at q1 q2
            refine ⟨16 * x + dv, k + 1, by go_num, by go_num, by omega, by omega, ?_, q1, by simp only at q2; omega⟩
            have q3 := HX.out
            rw [Nat.pow_succ]
            omega
          case measure => simp [intOf]; omega
        | none =>
          have HCV := hid hcv
          have cd := bdigit_any c w
          rw [hcv] at cd
          simp only [Option.getD_none, Option.isSome_none] at cd
          have CD := hid cd
          have e0 : hexRun (8 - k) x (l.drop k) = (x, 0) := by rw [HDR.out, hexRun_none hcv]
          have HE0 := hid e0
          clear hcv cd hmd e0
          go_wp2_with fail
          refine CD.out.mono ?_
          rintro e w1 ⟨rfl, rfl⟩
          have hDk : D = k := by have := H2.out; rw [HE0.out] at this; simp only at this; omega
          have hNx : N = x := by have := H1.out; rw [HE0.out] at this; exact this.symm
          clear H1 H2 HX
          subst hDk hNx
          by_cases hz : D = 0 ∧ l ≠ []
          · have hen : numE l = 21 := by rw [HE.out, if_pos hz]
            have hpos : (0 : Int) < (l.length : Int) := by
              have := List.length_pos_iff.2 hz.2
              omega
            have hd0 : (((D : Nat) : Int) == 0) = true := by rw [hz.1]; rfl
            have HEN := hid hen
            clear hz hen HE HT HV hkl hk8
            go_wp2_with fail
            go_ret2
            rw [HPO.out]
            exact .inl ⟨HEN.out, rfl, rfl⟩
          · have hen : numE l = 0 := by rw [HE.out, if_neg hz]
            have HEN := hid hen
            have hor : D ≠ 0 ∨ (l.length : Int) = 0 := by
              by_cases hd : D = 0
              · exact .inr (by
                  have : ¬ l ≠ [] := fun h => hz ⟨hd, h⟩
                  rw [Decidable.not_not.1 this]; rfl)
              · exact .inl hd
            have HKL := hid hkl
            clear hz hen HE hkl hk8
            rcases hor with hd | hd
            · have hd0 : (((D : Nat) : Int) == 0) = false := by simp; exact hd
              go_wp2_with (refine wpList_slice_low rfl 27 _ _ rfl rfl rfl (by kernel_rfl) (HT.out _) ?_)
              go_ret2
              rw [HPO.out]
              exact .inr ⟨HEN.out, _, rfl, HV.out, HG.out.setCell 0 _, grown_set (grown_refl _ _) _ _⟩
            · first
              | (exfalso; omega)
              | (have hk0 := HKL.out
                 clear hc
                 generalize l.length = n at *
                 obtain rfl : n = 0 := by omega
                 obtain rfl : D = 0 := by omega
                 go_wp2_with (refine wpList_slice_low rfl 27 _ _ rfl rfl rfl (by kernel_rfl) (HT.out _) ?_)
                 go_ret2
                 rw [HPO.out]
                 exact .inr ⟨HEN.out, _, rfl, HV.out, HG.out.setCell 0 _, grown_set (grown_refl _ _) _ _⟩)
    · have e0 : hexRun (8 - k) x (l.drop k) = (x, 0) := by
        by_cases hk : k = 8
        · subst hk; rfl
        · rw [List.drop_of_length_le (by omega), hexRun_nil]
      have HE0 := hid e0
      clear e0
      have hmin : ¬ (k : Int) < if (l.length : Int) < 8 then (l.length : Int) else 8 := by split <;> omega
      have hmin2 : ((l.length : Int) < 8 ∧ ¬ (k : Int) < (l.length : Int)) ∨ (¬ (l.length : Int) < 8 ∧ ¬ (k : Int) < 8) := by omega
      clear hmin
      rcases hmin2 with ⟨h8, h9⟩ | ⟨h8, h9⟩
      all_goals
        have hDk : D = k := by have := H2.out; rw [HE0.out] at this; simp only at this; omega
        have hNx : N = x := by have := H1.out; rw [HE0.out] at this; exact this.symm
        clear H1 H2 HX
        subst hDk hNx
        by_cases hz : D = 0 ∧ l ≠ []
        · have hen : numE l = 21 := by rw [HE.out, if_pos hz]
          have hpos : (0 : Int) < (l.length : Int) := by
            have := List.length_pos_iff.2 hz.2
            omega
          have hd0 : (((D : Nat) : Int) == 0) = true := by rw [hz.1]; rfl
          have HEN := hid hen
          clear hz hen HE HT HV hkl hk8
          go_wp2_with fail
          go_ret2
          rw [HPO.out]
          exact .inl ⟨HEN.out, rfl, rfl⟩
        · have hen : numE l = 0 := by rw [HE.out, if_neg hz]
          have HEN := hid hen
          have hor : D ≠ 0 ∨ (l.length : Int) = 0 := by
            by_cases hd : D = 0
            · exact .inr (by
                have : ¬ l ≠ [] := fun h => hz ⟨hd, h⟩
                rw [Decidable.not_not.1 this]; rfl)
            · exact .inl hd
          have HKL := hid hkl
          clear hz hen HE hkl hk8
          rcases hor with hd | hd
          · have hd0 : (((D : Nat) : Int) == 0) = false := by simp; exact hd
            go_wp2_with (refine wpList_slice_low rfl 27 _ _ rfl rfl rfl (by kernel_rfl) (HT.out _) ?_)
            go_ret2
            rw [HPO.out]
            exact .inr ⟨HEN.out, _, rfl, HV.out, HG.out.setCell 0 _, grown_set (grown_refl _ _) _ _⟩
          · first
            | (exfalso; omega)
            | (have hk0 := HKL.out
               clear hc
               generalize l.length = n at *
               obtain rfl : n = 0 := by omega
               obtain rfl : D = 0 := by omega
               go_wp2_with (refine wpList_slice_low rfl 27 _ _ rfl rfl rfl (by kernel_rfl) (HT.out _) ?_)
               go_ret2
               rw [HPO.out]
               exact .inr ⟨HEN.out, _, rfl, HV.out, HG.out.setCell 0 _, grown_set (grown_refl _ _) _ _⟩)
end Go.Proofs.YtefplhkjcclppaaGreatDoor
/-
  Contract of package body: line.
-/
namespace Go.Proofs.YtefplhkjcclppaaGreatDoor
open Go.RowKit Go.Pantry

/-- what 'line' leaves -/
def LinePost (g lack : Nat) (l : List UInt8) (w0 w : World) (e : Ending) (w' : World) : Prop :=
  e = .returned (.int .i64 ((lineE lack l : Nat) : Int)) ∧ w.grownBy w' (some g) ∧
  (lineE lack l = 0 → ∃ v', Bytes w0 v' (l.drop 2) ∧ rowIs w' g #[v', .int .i64 (lack : Int)] 140)
theorem drewN_row {w : World} {g : Nat} {cs : Array Value} {t : TypeId} (h : rowIs w g cs t) (n : Nat) : rowIs (w.drewN n) g cs t := h
theorem grown_drewN (w : World) (g n : Nat) : w.grownBy (w.drewN n) (some g) := below_grown g (below_drewN (Below.refl _ _) n)
set_option maxRecDepth 100000 in
set_option maxHeartbeats 8000000 in
theorem line_any (g lack : Nat) (v : Value) (l : List UInt8) (w0 w : World) (hlk : lack ≠ 0) (hb : Below w0.heap.size w0 w) (hg : rowIs w g #[v, .int .i64 (lack : Int)] 140) (hr : Bytes w0 v l) (hl : l.length ≤ 1000000) :
    Calls Tryz.prog 100 #[.pointer (some ⟨g, 0, none⟩)] w fun e w' => LinePost g lack l w0 w e w' := by
  match l with
  | [] =>
    obtain ⟨ao, cap, rfl, hc⟩ := bytes_form hr
    have hrd := bytes_below hr hb
    have g0 := hg.cell 0
    have g1 := hg.cell 1
    have hcv := fun n => reads_string (P := Tryz.prog) (w := w.drewN n) (v := .slice ao 0 cap) (l := []) (bytesRead hrd) 27 9 5 Tryz.underlying27 Tryz.underlying5 Tryz.underlying9
    simp only [List.length_nil] at *
    have HH := hid hlk
    clear hrd hr hb hg hlk
    go_enter Tryz.func100, Tryz.ntmps100
    go_wp2_with fail
    go_quiet (fail)
    go_wp2
    go_ret
    exact ⟨rfl, grown_drewN _ _ _, fun h => absurd h HH.out⟩
  | [c] =>
    obtain ⟨ao, cap, rfl, hc⟩ := bytes_form hr
    have hrd := bytes_below hr hb
    have g0 := hg.cell 0
    have g1 := hg.cell 1
    have hcv := fun n => reads_string (P := Tryz.prog) (w := w.drewN n) (v := .slice ao 1 cap) (l := [c]) (bytesRead hrd) 27 9 5 Tryz.underlying27 Tryz.underlying5 Tryz.underlying9
    simp only [List.length_cons, List.length_nil, Nat.zero_add] at *
    have ex1 : (⟨#[13, 10]⟩ : ByteArray).extract 0 1 = ⟨#[13]⟩ := by kernel_rfl
    have HH := hid hlk
    have hE := lineE_one lack c
    clear hrd hr hb hg hlk
    by_cases hc13 : c = 13
    · rw [if_pos hc13] at hE
      subst hc13
      have HE := hid hE
      clear hE
      go_enter Tryz.func100, Tryz.ntmps100
      go_wp2_with fail
      go_quiet (fail)
      go_wp2
      go_ret
      exact ⟨by rw [HE.out]; rfl, grown_drewN _ _ _, fun h => absurd (HE.out.symm.trans h) HH.out⟩
    · rw [if_neg hc13] at hE
      have HE := hid hE
      have e1 : ((([c] : List UInt8)) == [13]) = false := by simpa using hc13
      have e2 : ((([c] : List UInt8)) != [13]) = true := by simpa using hc13
      clear hE
      go_enter Tryz.func100, Tryz.ntmps100
      go_wp2_with fail
      go_quiet (fail)
      go_wp2
      go_ret
      exact ⟨by rw [HE.out]; rfl, grown_drewN _ _ _, fun h => absurd (HE.out.symm.trans h) (by decide)⟩
  | c :: d :: t =>
    obtain ⟨aot, ct, htail, hv'⟩ := bytes_low (P := Tryz.prog) 27 (by kernel_rfl) (fun _ => by kernel_rfl) hr 2 (by simp)
    obtain ⟨ao, cap, rfl, hc⟩ := bytes_form hr
    have hrd := bytes_below hr hb
    have g0 := hg.cell 0
    have g1 := hg.cell 1
    have f0 := hg.free 0
    have hcv := fun n => reads_string (P := Tryz.prog) (w := w.drewN n) (v := .slice ao 2 cap) (l := [c, d]) ((bytesRead hrd).take 2 (by simp)) 27 9 5 Tryz.underlying27 Tryz.underlying5 Tryz.underlying9
    have ex2 : (⟨#[13, 10]⟩ : ByteArray).extract 0 2 = ⟨#[13, 10]⟩ := by kernel_rfl
    have hlen : (c :: d :: t).length = t.length + 2 := rfl
    generalize (c :: d :: t).length = n at *
    have hn2 : ¬ (n : Int) < 2 := by omega
    have hn2' : ((2 : Nat) : Int) ≤ (n : Int) := by omega
    have hnc : ((2 : Nat) : Int) ≤ (cap : Int) := by omega
    have HH := hid hlk
    have HV := hid hv'
    have HG := hid hg
    have HT := hid htail
    have hE := lineE_two lack c d t
    clear hrd hr hb hg hlk hv' htail hlen hl
    by_cases hcd : c = 13 ∧ d = 10
    · rw [if_pos hcd] at hE
      obtain ⟨rfl, rfl⟩ := hcd
      have HE := hid hE
      clear hE
      go_enter Tryz.func100, Tryz.ntmps100
      go_wp2_with fail
      go_quiet (fail)
      go_wp2_with (refine wpList_slice_low rfl 27 _ _ rfl rfl rfl (by kernel_rfl) (HT.out _) ?_)
      go_ret
      exact ⟨by rw [HE.out]; rfl, grown_set (grown_drewN _ _ _) _ _, fun _ => ⟨_, HV.out, (drewN_row HG.out _).setCell 0 _⟩⟩
    · rw [if_neg hcd] at hE
      have HE := hid hE
      have e1 : ((([c, d] : List UInt8)) == [13, 10]) = false := by simpa using hcd
      have e2 : ((([c, d] : List UInt8)) != [13, 10]) = true := by simpa using hcd
      clear hE
      go_enter Tryz.func100, Tryz.ntmps100
      go_wp2_with fail
      go_quiet (fail)
      go_wp2
      go_ret
      exact ⟨by rw [HE.out]; rfl, grown_drewN _ _ _, fun h => absurd (HE.out.symm.trans h) (by decide)⟩
end Go.Proofs.YtefplhkjcclppaaGreatDoor
/-
  Contract of package body: chunk.
-/
namespace Go.Proofs.YtefplhkjcclppaaGreatDoor
open Go.RowKit Go.Pantry

/-- what 'chunk' leaves -/
def ChunkPost (g lack : Nat) (x : Except Nat (List UInt8 × List UInt8)) (w0 w : World) (e : Ending) (w' : World) : Prop :=
  w.grownBy w' (some g) ∧ match x with
  | .error k => ∃ v, e = .returned (.tuple #[v, .int .i64 (k : Int)])
  | .ok (c, t) => ∃ v v', e = .returned (.tuple #[v, .int .i64 0]) ∧ Bytes w0 v c ∧ Bytes w0 v' t ∧ rowIs w' g #[v', .int .i64 (lack : Int)] 140
theorem below_grow {w0 w w' : World} {g : Nat} (hb : Below w0.heap.size w0 w) (hg : w.grownBy w' (some g)) (h0 : w0.heap.size ≤ g) : Below w0.heap.size w0 w' := hb.trans (grown_below hg h0 hb.size)
set_option maxRecDepth 100000 in
set_option maxHeartbeats 8000000 in
theorem chunk_any (g lack most : Nat) (v : Value) (l : List UInt8) (w0 w : World) (hlk : lack ≠ 0) (h0 : w0.heap.size ≤ g) (hb : Below w0.heap.size w0 w) (hg : rowIs w g #[v, .int .i64 (lack : Int)] 140) (hr : Bytes w0 v l) (hl : l.length ≤ 1000000) :
    Calls Tryz.prog 78 #[.pointer (some ⟨g, 0, none⟩), .int .i64 (most : Int)] w fun e w' => ChunkPost g lack (chunkL lack most l) w0 w e w' := by
  have c1 := number_any g lack v l w0 w hb hg hr hl
  have c2 := fun W v' L h1 h2 h3 h4 => line_any g lack v' L w0 W hlk h1 h2 h3 h4
  have hx : chunkL lack most l = if numE l ≠ 0 then .error 21 else if lineE lack (l.drop (hexRun 8 0 l).2) ≠ 0 then .error (lineE lack (l.drop (hexRun 8 0 l).2)) else if most < (hexRun 8 0 l).1 then .error 23
    else if (l.drop ((hexRun 8 0 l).2 + 2)).length < (hexRun 8 0 l).1 then .error lack else if lineE lack ((l.drop ((hexRun 8 0 l).2 + 2)).drop (hexRun 8 0 l).1) ≠ 0 then .error (lineE lack ((l.drop ((hexRun 8 0 l).2 + 2)).drop (hexRun 8 0 l).1))
    else .ok ((l.drop ((hexRun 8 0 l).2 + 2)).take (hexRun 8 0 l).1, (l.drop ((hexRun 8 0 l).2 + 2)).drop ((hexRun 8 0 l).1 + 2)) := rfl
  unfold NumPost at c1
  rw [← List.drop_drop] at hx
  obtain ⟨N, hN⟩ : ∃ N, (hexRun 8 0 l).1 = N := ⟨_, rfl⟩
  obtain ⟨D, hD⟩ : ∃ D, (hexRun 8 0 l).2 = D := ⟨_, rfl⟩
  rw [hN, hD] at hx c1
  generalize chunkL lack most l = x at hx ⊢
  have hd1 : (l.drop D).length ≤ 1000000 := by rw [List.length_drop]; omega
  generalize l.drop D = L1 at hx c1 hd1
  have hd2 : (L1.drop 2).length ≤ 1000000 := by rw [List.length_drop]; omega
  have C1 := hid c1
  have C2 := hid c2
  have HX := hid hx
  have HB := hid hb
  have H1 := hid hd1
  have H2 := hid hd2
  clear c1 c2 hx hr hg hb hN hD hd1 hd2 hl
  go_enter Tryz.func78, Tryz.ntmps78
  go_wp2_with fail
  refine C1.out.mono ?_
  rintro e w1 (⟨hn, rfl, rfl⟩ | ⟨hn, v1, rfl, hv1, hg1, hgr1⟩)
  · have hx := HX.out
    rw [hn, if_pos (by decide)] at hx
    subst hx
    clear hn HX
    go_wp2_with fail
    go_ret2
    exact ⟨grown_refl _ _, _, rfl⟩
  · have hx := HX.out
    rw [hn, if_neg (by simp)] at hx
    have HX2 := hid hx
    have hb1 := below_grow HB.out hgr1 h0
    clear hn HX hx
    go_wp2_with fail
    refine (C2.out _ _ _ hb1 hg1 hv1 H1.out).mono ?_
    rintro e w2 ⟨rfl, hgr2, hok⟩
    have hgr := grown_trans hgr1 hgr2
    have hb2 := below_grow hb1 hgr2 h0
    have HGR := hid hgr
    have HB2 := hid hb2
    obtain ⟨k1, hk1⟩ : ∃ k, lineE lack L1 = k := ⟨_, rfl⟩
    have hx := HX2.out
    rw [hk1] at hx hok
    rw [hk1]
    by_cases hk : k1 = 0
    · subst hk
      obtain ⟨v2, hv2, hg2⟩ := hok rfl
      rw [if_neg (by simp)] at hx
      generalize L1.drop 2 = L2 at hx hv2 H2
      have HX3 := hid hx
      clear hx HX2 hgr hgr1 hgr2 hb1 hb2 hok hk1 hg1 hv1
      by_cases hm : (most : Int) < (N : Int)
      · have hx := HX3.out
        rw [if_pos (by omega)] at hx
        subst hx
        clear HX3 hv2 hg2
        go_wp2_with fail
        go_ret2
        exact ⟨HGR.out, _, rfl⟩
      · have hx := HX3.out
        rw [if_neg (by omega)] at hx
        have HX4 := hid hx
        obtain ⟨ao2, cap2, rfl, hc2⟩ := bytes_form hv2
        have g0 := hg2.cell 0
        have g1 := hg2.cell 1
        have f0 := hg2.free 0
        clear hx HX3
        by_cases hln : (L2.length : Int) < (N : Int)
        · have hx := HX4.out
          rw [if_pos (by omega)] at hx
          subst hx
          clear HX4
          go_wp2_with fail
          go_quiet (fail)
          go_wp2
          go_ret2
          exact ⟨grown_trans HGR.out (grown_drewN _ _ _), _, rfl⟩
        · have hx := HX4.out
          rw [if_neg (by omega)] at hx
          have hNl : N ≤ L2.length := by omega
          obtain ⟨aoc, cc, hhigh, hvc⟩ := bytes_high (P := Tryz.prog) 27 (by kernel_rfl) (fun _ => by kernel_rfl) hv2 N hNl
          obtain ⟨aot, ct, htail, hv3⟩ := bytes_low (P := Tryz.prog) 27 (by kernel_rfl) (fun _ => by kernel_rfl) hv2 N hNl
          have hd3 : (L2.drop N).length ≤ 1000000 := by have := H2.out; rw [List.length_drop]; omega
          rw [← List.drop_drop] at hx
          generalize L2.drop N = L3 at hx hv3 hd3
          generalize L2.take N = L4 at hx hvc
          have HX5 := hid hx
          have HC := hid hvc
          have HV3 := hid hv3
          have HH := hid hhigh
          have HT := hid htail
          have HG2 := hid hg2
          have HD3 := hid hd3
          clear hx HX4 hvc hv3 hhigh htail hv2 hg2 hd3
          obtain ⟨W3, hW3⟩ : ∃ W, W = w2.setCell ⟨g, 0, none⟩ (.slice aot (L2.length - N) ct) := ⟨_, rfl⟩
          have hg3 : rowIs W3 g #[.slice aot (L2.length - N) ct, .int .i64 (lack : Int)] 140 := by rw [hW3]; exact HG2.out.setCell 0 _
          have hgr3 := grown_set HGR.out 0 (.slice aot (L2.length - N) ct)
          rw [← hW3] at hgr3
          have hb3 := below_grow HB.out hgr3 h0
          have HG3 := hid hg3
          have HGR3 := hid hgr3
          have HB3 := hid hb3
          clear hg3 hgr3 hb3 HGR HB2
          go_wp2_with (first | (refine wpList_slice_high rfl 27 _ _ rfl rfl rfl (by kernel_rfl) (HH.out _) ?_) | (refine wpList_slice_low rfl 27 _ _ rfl rfl rfl (by kernel_rfl) (HT.out _) ?_))
          rw [← hW3]
          clear hW3
          refine (C2.out _ _ _ HB3.out HG3.out HV3.out HD3.out).mono ?_
          rintro e w4 ⟨rfl, hgr4, hok⟩
          have hgr5 := grown_trans HGR3.out hgr4
          go_wp2_with fail
          go_ret2
          refine ⟨hgr5, ?_⟩
          rw [HX5.out]
          by_cases hk2 : lineE lack L3 = 0
          · rw [hk2, if_neg (by simp)]
            obtain ⟨v5, hv5, hg5⟩ := hok hk2
            exact ⟨_, _, rfl, HC.out, hv5, hg5⟩
          · rw [if_pos hk2]
            exact ⟨_, rfl⟩
    · rw [if_pos hk] at hx
      subst hx
      have hk2 : ((k1 : Nat) : Int) ≠ 0 := by omega
      have hk3 : (((k1 : Nat) : Int) == 0) = false := by simpa using hk
      have hk4 : (((k1 : Nat) : Int) != 0) = true := by simpa using hk
      clear HX2 hgr hgr1 hgr2 hb1 hb2 hok hk1 hg1 hv1 hk
      go_wp2_with fail
      go_ret2
      exact ⟨HGR.out, _, rfl⟩
end Go.Proofs.YtefplhkjcclppaaGreatDoor
/-
  Contract of package body: readChunks.
-/
namespace Go.Proofs.YtefplhkjcclppaaGreatDoor
open Go.RowKit Go.Pantry

def lackN (closed : Bool) : Nat := if closed then 21 else 20
theorem lackN_ne (b : Bool) : lackN b ≠ 0 := by cases b <;> decide
theorem lackN_any (b : Bool) (w : World) : Calls Tryz.prog 76 #[.bool b] w fun e w' => e = .returned (.int .i64 ((lackN b : Nat) : Int)) ∧ w = w' := by
  have h := lacking_any b w
  cases b <;> exact h
/-- what the reading of chunks tells -/
def ChunksPost (B n : Nat) (x : Except Nat (List UInt8 × List UInt8)) (e : Ending) (w' : World) : Prop := match x with
  | .error k => k ≠ 0 ∧ e = .returned (.tuple #[.slice none 0 0, .int .i64 0, .int .i64 (k : Int)])
  | .ok (c, t) => t.length ≤ n ∧ ∃ v, e = .returned (.tuple #[v, .int .i64 ((n - t.length : Nat) : Int), .int .i64 0]) ∧ w'.ownsRow B 5 1 v c.length (c.map byteV)
set_option maxRecDepth 100000 in
set_option maxHeartbeats 8000000 in
theorem readChunks_any (v : Value) (l : List UInt8) (closed : Bool) (w : World) (hr : Bytes w v l) (hl : l.length ≤ 1000000) :
    Calls Tryz.prog 49 #[v, .bool closed] w fun e w' => ChunksPost w.heap.size l.length (chunksL (lackN closed) (l.length + 1) [] l) e w' ∧ Below w.heap.size w w' := by
  have hlk := lackN_ne closed
  have c0 := lackN_any closed
  obtain ⟨lack, hlack⟩ : ∃ k, lackN closed = k := ⟨_, rfl⟩
  rw [hlack] at hlk c0 ⊢
  obtain ⟨R, hR⟩ : ∃ R, chunksL lack (l.length + 1) [] l = R := ⟨_, rfl⟩
  rw [hR]
  have c1 := fun W v' t most h1 h2 h3 h4 => chunk_any w.heap.size lack most v' t w W hlk (Nat.le_refl _) h1 h2 h3 h4
  obtain ⟨W1, hW1⟩ : ∃ W, W = w.alloc (.cells #[v, .int .i64 (lack : Int)] 140) := ⟨_, rfl⟩
  have hb1 : Below w.heap.size w W1 := by rw [hW1]; exact below_alloc _ _
  have hg1 : rowIs W1 w.heap.size #[v, .int .i64 (lack : Int)] 140 := by rw [hW1]; exact rowIs_new _ _ _
  have hs1 : w.heap.size + 1 ≤ W1.heap.size := by rw [hW1]; simp
  obtain ⟨ao, cap, rfl, hc⟩ := bytes_form hr
  have C0 := hid c0
  have C1 := hid c1
  have HR := hid hr
  have HRR := hid hR
  have HLK := hid hlk
  have HC := hid hc
  clear c0 c1 hr hR hlk hlack hc
  go_enter Tryz.func49, Tryz.ntmps49
  go_wp2_with fail
  refine (C0.out _).mono ?_
  rintro e w1 ⟨rfl, rfl⟩
  go_wp2_with fail
  rw [← hW1]
  clear hW1 C0
  have hb2 := hb1
  generalize hgd : w.heap.size = g at *
  have GEQ := hid hgd
  clear hgd
  go_loopw [7] (fun bv wr => ∃ (acc t : List UInt8) (vt : Value), wr.ownsRow (g + 1) 5 1 bv acc.length (acc.map byteV) ∧ rowIs wr g #[vt, .int .i64 (lack : Int)] 140 ∧ Bytes w vt t ∧ Below g w wr ∧ g + 1 ≤ wr.heap.size ∧ chunksL lack (t.length + 1) acc t = R ∧ acc.length ≤ 2048 ∧ t.length ≤ l.length) (fun _ wr => match wr.cell? ⟨g, 0, none⟩ with | some (.slice _ n _) => n | _ => 0)
  case atStart => exact ⟨[], l, _, World.ownsRow_nil _ _ _ _, hg1, HR.out, hb1, hs1, HRR.out, by simp, Nat.le_refl _⟩
  case round =>
    obtain ⟨acc, t, vt, ho, hgt, hvt, hb, hs, hRt, ha, htl⟩ := hrel
    obtain ⟨aob, capb, rfl⟩ := ownsRow_bytes_form ho
    obtain ⟨aot, capt, rfl, hct⟩ := bytes_form hvt
    have h2048 : (2048 : Int) - (acc.length : Int) = ((2048 - acc.length : Nat) : Int) := by omega
    have HRT := hid hRt
    have HCT := hid hct
    have c2 := C1.out wr (.slice aot t.length capt) t (2048 - acc.length) hb hgt hvt (by omega)
    cases hx : chunkL lack (2048 - acc.length) t with
    | error k =>
      have hk := chunkL_err hx HLK.out
      have hRk : R = .error k := by rw [← HRT.out]; exact chunksL_fail hx
      rw [hx] at c2
      have C2 := hid c2
      have hk3 : (((k : Nat) : Int) == 0) = false := by simpa using hk
      have hk4 : (((k : Nat) : Int) != 0) = true := by simpa using hk
      have HK := hid hk
      subst hRk
      clear c2 hx hk hRt hct C1 HR HRR
      go_wp2_with fail
      refine C2.out.mono ?_
      rintro e w2 ⟨hgr, v2, rfl⟩
      have hbb := hb.trans (grown_below hgr (Nat.le_refl _) (by omega))
      clear hgr hgt
      go_wp2_with fail
      go_ret3
      exact ⟨⟨HK.out, rfl⟩, by rw [GEQ.out]; exact hbb⟩
    | ok p =>
      obtain ⟨c, t'⟩ := p
      obtain ⟨hcl, hlen, -⟩ := chunkL_ok HLK.out hx
      rw [hx] at c2
      have C2 := hid c2
      by_cases h0 : c.length = 0
      · have hRk : R = .ok (acc, t') := by
          rw [← HRT.out, chunksL, hx]
          simp only
          rw [if_pos h0]
        subst hRk
        obtain rfl := List.length_eq_zero_iff.1 h0
        clear c2 hx hRt hct C1 HR HRR h0 hcl
        go_wp2_with fail
        refine C2.out.mono ?_
        rintro e w2 ⟨hgr, v2, v3, rfl, hv2, hv3, hg2⟩
        obtain ⟨ao2, cap2, rfl, -⟩ := bytes_form hv2
        obtain ⟨ao3, cap3, rfl, -⟩ := bytes_form hv3
        have hbb := hb.trans (grown_below hgr (Nat.le_refl _) (by omega))
        have ho2 := ownsRow_grown ho hgr (by omega)
        have g0 := hg2.cell 0
        have hsub : (l.length : Int) - (t'.length : Int) = ((l.length - t'.length : Nat) : Int) := by omega
        clear hgr hgt ho hv2 hv3
        go_wp2_with fail
        go_quiet (fail)
        go_wp2
        go_ret3
        refine ⟨⟨by omega, _, rfl, ?_⟩, ?_⟩
        · rw [GEQ.out]
          exact (ho2.below (below_drewN (Below.refl _ _) _)).base (by omega)
        · rw [GEQ.out]
          exact below_drewN hbb _
      · have hRk : chunksL lack (t'.length + 1) (acc ++ c) t' = R := by
          rw [← HRT.out, chunksL_step hx (by omega)]
          exact chunksL_fuel HLK.out _ _ _ _ (by omega) (by omega)
        have HRK := hid hRk
        have hn0 : ((c.length : Int) == 0) = false := beq_eq_false_iff_ne.2 (by omega)
        clear c2 hx hRt hct HRR hRk
        go_wp2_with fail
        refine C2.out.mono ?_
        rintro e w2 ⟨hgr, v2, v3, rfl, hv2, hv3, hg2⟩
        obtain ⟨ao2, cap2, rfl, -⟩ := bytes_form hv2
        have hbb := hb.trans (grown_below hgr (Nat.le_refl _) (by omega))
        have ho2 := ownsRow_grown ho hgr (by omega)
        have hs2 : g + 1 ≤ w2.heap.size := by have := hgr.size; omega
        have hrd := (bytesRead (bytes_below hv2 (by rw [GEQ.out]; exact hbb)))
        have HV3 := hid hv3
        have q0 := hgt.cell 0
        have Q0 := hid q0
        clear q0
        have HRD := hid hrd
        have hll : acc.length + c.length < 4294967296 := by omega
        clear hgr hgt ho hv2 hv3 hvt hrd
        go_wp2_with ((at_builtin; go_must (refine wpList_append_all _ rfl _ _ 27 rfl (g + 1) 5 Tryz.underlying27 infoU8 rfl (by decide) rfl ho2 HRD.out (oneCell_bytes _) rfl (by rw [List.length_map]; exact hll) hs2 ?_); intro v' w3 hown3 hg3 hb3))
        go_roundw
        case rel =>
          obtain ⟨ao3, cap3, rfl, -⟩ := bytes_form HV3.out
          refine ⟨acc ++ c, t', _, ?_, (hb3.block g (by omega)).trans hg2, HV3.out, hbb.trans (hb3.mono (by omega)), ?_, HRK.out, ?_, by omega⟩
          · simpa using hown3
          · have := hb3.size; omega
          · rw [List.length_append]; omega
        case measure =>
          obtain ⟨ao3, cap3, rfl, -⟩ := bytes_form HV3.out
          have q1 := hg2.cell 0
          have q3 : w3.cell? ⟨g, 0, none⟩ = some (.slice ao3 t'.length cap3) := (hb3.cell (p := ⟨g, 0, none⟩) (by show g < g + 1; omega)).trans q1
          have q0 : wr.cell? ⟨g, 0, none⟩ = some (.slice aot t.length capt) := Q0.out
          simp only [q0, q3]
          omega
end Go.Proofs.YtefplhkjcclppaaGreatDoor
/-
  The document's answers of layer 6: the reading of a body.
-/
namespace Go.Proofs.YtefplhkjcclppaaGreatDoor
open Go.RowKit Go.Pantry

def fixE {α : Type} (x : Except Nat α) : Except Nat α := match x with | .error e => .error (if e = 20 then 21 else e) | .ok p => .ok p
theorem lineE_21 (s : List UInt8) : lineE 21 s = if lineE 20 s = 20 then 21 else lineE 20 s := by
  match s with
  | [] => rfl
  | [c] => rw [lineE_one, lineE_one]; split <;> simp
  | c :: d :: s => rw [lineE_two, lineE_two]; split <;> simp
theorem lineE_zero (s : List UInt8) : lineE 21 s ≠ 0 ↔ lineE 20 s ≠ 0 := by
  rw [lineE_21]
  split <;> omega
theorem chunkL_21 (m : Nat) (s : List UInt8) : chunkL 21 m s = fixE (chunkL 20 m s) := by
  unfold chunkL
  by_cases h1 : numE s ≠ 0
  · rw [if_pos h1, if_pos h1]; rfl
  · rw [if_neg h1, if_neg h1]
    by_cases h2 : lineE 20 (s.drop (hexRun 8 0 s).2) ≠ 0
    · rw [if_pos h2, if_pos ((lineE_zero _).2 h2), lineE_21]; rfl
    · rw [if_neg h2, if_neg (fun h => h2 ((lineE_zero _).1 h))]
      by_cases h3 : m < (hexRun 8 0 s).1
      · rw [if_pos h3, if_pos h3]; rfl
      · rw [if_neg h3, if_neg h3]
        by_cases h4 : (s.drop ((hexRun 8 0 s).2 + 2)).length < (hexRun 8 0 s).1
        · rw [if_pos h4, if_pos h4]; rfl
        · rw [if_neg h4, if_neg h4]
          by_cases h5 : lineE 20 ((s.drop ((hexRun 8 0 s).2 + 2)).drop (hexRun 8 0 s).1) ≠ 0
          · rw [if_pos h5, if_pos ((lineE_zero _).2 h5), lineE_21]; rfl
          · rw [if_neg h5, if_neg (fun h => h5 ((lineE_zero _).1 h))]; rfl
theorem chunksL_21 : ∀ (k : Nat) (acc s : List UInt8), chunksL 21 k acc s = fixE (chunksL 20 k acc s)
  | 0, _, _ => rfl
  | k + 1, acc, s => by
    rw [chunksL, chunksL, chunkL_21]
    cases chunkL 20 (2048 - acc.length) s with
    | error e => rfl
    | ok p =>
      obtain ⟨c, t⟩ := p
      show (if c.length = 0 then Except.ok (acc, t) else chunksL 21 k (acc ++ c) t) = fixE (if c.length = 0 then Except.ok (acc, t) else chunksL 20 k (acc ++ c) t)
      split
      · rfl
      · exact chunksL_21 k _ _
/-- what the reading of a body tells: an error's number, or the bytes and how many they took -/
def BodyRef (x : Except Nat (List UInt8 × Nat)) (e : Ending) (w' : World) : Prop :=
  ∃ (v : Value) (k y : Nat), e = .returned (.tuple #[v, .int .i64 (k : Int), .int .i64 (y : Int)]) ∧ (∃ ao m c, v = .slice ao m c) ∧
    match x with | .error z => y = z ∧ z ≠ 0 | .ok (b, u) => y = 0 ∧ k = u ∧ Bytes w' v b
theorem bodyRef_nil {z : Nat} {x : Except Nat (List UInt8 × Nat)} {w' : World} (hx : x = .error z) (hz : z ≠ 0) : BodyRef x (.returned (.tuple #[.slice none 0 0, .int .i64 0, .int .i64 (z : Int)])) w' := by
  subst hx
  exact ⟨.slice none 0 0, 0, z, rfl, ⟨none, 0, 0, rfl⟩, rfl, hz⟩
theorem bodyRef_ok {k m c : Nat} {ao : Option Addr} {b : List UInt8} {x : Except Nat (List UInt8 × Nat)} {w' : World} (hx : x = .ok (b, k)) (hb : Bytes w' (.slice ao m c) b) : BodyRef x (.returned (.tuple #[.slice ao m c, .int .i64 (k : Int), .int .i64 0])) w' := by
  subst hx
  exact ⟨.slice ao m c, k, 0, rfl, ⟨ao, m, c, rfl⟩, rfl, rfl, hb⟩
/-- the reading when the connection isn't closed -/
def readX (kind len : Nat) (l : List UInt8) : Except Nat (List UInt8 × Nat) :=
  if kind = 0 then .ok ([], 0) else if kind = 1 then (if l.length < len then .error 20 else .ok (l.take len, len)) else ofChunks l.length (chunksL 20 (l.length + 1) [] l)
theorem bodyX_read {kind len : Nat} (hk : kind ≤ 2) (hl : len ≤ 2048) (closed : Bool) (l : List UInt8) : bodyX kind len closed l = if closed then fixE (readX kind len l) else readX kind len l := by
  unfold bodyX readX lackW
  rw [if_neg (by omega)]
  by_cases h0 : kind = 0
  · rw [if_pos h0, if_pos h0]; cases closed <;> rfl
  · rw [if_neg h0, if_neg h0]
    by_cases h1 : kind = 1
    · rw [if_pos h1, if_pos h1]
      by_cases h2 : l.length < len
      · rw [if_pos h2, if_pos h2]; cases closed <;> rfl
      · rw [if_neg h2, if_neg h2]; cases closed <;> rfl
    · rw [if_neg h1, if_neg h1, if_pos (by omega)]
      cases closed with
      | false => rfl
      | true =>
        simp only [if_true]
        rw [chunksL_21]
        cases chunksL 20 (l.length + 1) [] l with
        | error e => rfl
        | ok p => rfl
set_option maxRecDepth 100000 in
set_option maxHeartbeats 4000000 in
theorem refRead6_any (kind len : Nat) (v : Value) (l : List UInt8) (w : World) (hr : Bytes w v l) (hl : l.length ≤ 1000000) (hlen : len ≤ 2048) (hk : kind ≤ 2) :
    Calls Tryz.prog 45 #[.agg #[.int .i64 (kind : Int), .int .i64 (len : Int)], v] w fun e w' => BodyRef (readX kind len l) e w' ∧ Below w.heap.size w w' := by
  obtain ⟨ao, cap, rfl, hcap⟩ := bytes_form hr
  obtain ⟨W, hW⟩ : ∃ W, W = w.alloc (.cells #[.int .i64 (kind : Int), .int .i64 (len : Int)] 72) := ⟨_, rfl⟩
  have hb : Below w.heap.size w W := by rw [hW]; exact below_alloc _ _
  have hbr := bytes_below hr hb
  have hg : rowIs W w.heap.size #[.int .i64 (kind : Int), .int .i64 (len : Int)] 72 := by rw [hW]; exact rowIs_new _ _ _
  have g0 := hg.cell 0
  have g1 := hg.cell 1
  rw [hW] at g0 g1
  have HB := hid hb
  have HBR := hid hbr
  have HG := hid hg
  clear hb hbr hg hr
  by_cases h0 : kind = 0
  · subst h0
    have hW : W = w.alloc (.cells #[.int .i64 0, .int .i64 (len : Int)] 72) := hW
    have HP := hid (bodyRef_ok (x := readX 0 len l) (k := 0) (b := []) rfl (bytes_nil W))
    clear hcap
    go_enter Tryz.func45, Tryz.ntmps45
    go_wp2_with fail
    rw [← hW]
    go_ret3
    exact ⟨HP.out, HB.out⟩
  · by_cases h1 : kind = 1
    · subst h1
      have hW : W = w.alloc (.cells #[.int .i64 1, .int .i64 (len : Int)] 72) := hW
      by_cases h2 : l.length < len
      · have hz : (l.length : Int) < (len : Int) := by omega
        have HP := hid (bodyRef_nil (x := readX 1 len l) (w' := W) (z := 20) (by unfold readX; rw [if_neg (by decide), if_pos rfl, if_pos h2]) (by decide))
        clear hcap
        go_enter Tryz.func45, Tryz.ntmps45
        go_wp2_with fail
        rw [← hW]
        go_ret3
        exact ⟨HP.out, HB.out⟩
      · have hz : ¬ (l.length : Int) < (len : Int) := by omega
        obtain ⟨aoc, cc, hhigh, hvc⟩ := bytes_high (P := Tryz.prog) 27 (by kernel_rfl) (fun _ => by kernel_rfl) HBR.out len (by omega)
        have HP := hid (fun n => bodyRef_ok (x := readX 1 len l) (k := len) (by unfold readX; rw [if_neg (by decide), if_pos rfl, if_neg h2]) (bytes_below hvc (below_drewN (Below.refl W.heap.size W) n)))
        have k0 := HG.out.cell 0
        have k1 := HG.out.cell 1
        clear hvc hcap h2
        go_enter Tryz.func45, Tryz.ntmps45
        go_wp2_with fail
        rw [← hW]
        clear hW g0 g1
        go_quiet (fail)
        go_wp2
        go_ret3
        exact ⟨HP.out _, below_drewN HB.out _⟩
    · have h2 : kind = 2 := by omega
      subst h2
      have hW : W = w.alloc (.cells #[.int .i64 2, .int .i64 (len : Int)] 72) := hW
      have cc := refChunks_any (.slice ao l.length cap) l W HBR.out hl
      have CC := hid cc
      clear cc hcap h0 h1
      go_enter Tryz.func45, Tryz.ntmps45
      go_wp2_with fail
      rw [← hW]
      clear hW g0 g1
      refine CC.out.mono ?_
      rintro e w1 ⟨⟨v1, k1, y1, rfl, ⟨ao1, m1, c1, rfl⟩, hm⟩, hb1⟩
      have hb2 := chain2 HB.out HB.out.size hb1
      have hP : BodyRef (readX 2 len l) (.returned (.tuple #[.slice ao1 m1 c1, .int .i64 (k1 : Int), .int .i64 (y1 : Int)])) w1 := by
        refine ⟨_, k1, y1, rfl, ⟨ao1, m1, c1, rfl⟩, ?_⟩
        unfold readX
        rw [if_neg (by decide), if_neg (by decide)]
        cases hX : chunksL 20 (l.length + 1) [] l with
        | error z => rw [hX] at hm; exact hm
        | ok p =>
          obtain ⟨c, t⟩ := p
          rw [hX] at hm
          exact ⟨hm.1, hm.2.2.1, ownsRow_bytes hm.2.2.2⟩
      have HP := hid hP
      have HB2 := hid hb2
      clear hm hb1 hb2 hP CC
      go_wp2_with fail
      go_ret3
      exact ⟨HP.out, HB2.out⟩
end Go.Proofs.YtefplhkjcclppaaGreatDoor
/-
  The document's answers of layer 6: Read.
-/
namespace Go.Proofs.YtefplhkjcclppaaGreatDoor
open Go.RowKit Go.Pantry

set_option maxRecDepth 100000 in
set_option maxHeartbeats 4000000 in
theorem refReadB_any (kind len : Nat) (v : Value) (l : List UInt8) (closed : Bool) (w : World) (hr : Bytes w v l) (hl : l.length ≤ 1000000) (hlen : len ≤ 2048) (hk : kind ≤ 3) :
    Calls Tryz.prog 24 #[.agg #[.int .i64 (kind : Int), .int .i64 (len : Int)], v, .bool closed] w fun e w' => BodyRef (bodyX kind len closed l) e w' ∧ Below w.heap.size w w' := by
  obtain ⟨ao, cap, rfl, hcap⟩ := bytes_form hr
  obtain ⟨kz, hkz⟩ : ∃ z : Int, (kind : Int) = z := ⟨_, rfl⟩
  rw [hkz]
  obtain ⟨W, hW⟩ : ∃ W, W = w.alloc (.cells #[.int .i64 kz, .int .i64 (len : Int)] 72) := ⟨_, rfl⟩
  have hb : Below w.heap.size w W := by rw [hW]; exact below_alloc _ _
  have hbr := bytes_below hr hb
  have hg : rowIs W w.heap.size #[.int .i64 kz, .int .i64 (len : Int)] 72 := by rw [hW]; exact rowIs_new _ _ _
  have g0 := hg.cell 0
  have g1 := hg.cell 1
  rw [hW] at g0 g1
  have HB := hid hb
  have HBR := hid hbr
  have t1 : ¬ kz < 0 := by omega
  have t2 : ¬ 3 < kz := by omega
  have t3 : ¬ (len : Int) < 0 := by omega
  have t4 : ¬ 2048 < (len : Int) := by omega
  clear hb hbr hg hr
  by_cases h3 : kind = 3
  · have e3 : (kz == 3) = true := by simp; omega
    subst h3
    have hx : bodyX 3 len closed l = if 2048 < l.length then .error 23 else if closed then .ok (l, l.length) else .error 20 := by
      unfold bodyX
      rw [if_neg (by omega), if_neg (by decide), if_neg (by decide), if_neg (by decide), if_pos rfl]
    rw [hx]
    by_cases hb : 2048 < l.length
    · have hz : (2048 : Int) < (l.length : Int) := by omega
      rw [if_pos hb]
      have HP := hid (bodyRef_nil (x := (.error 23 : Except Nat (List UInt8 × Nat))) (w' := W) (z := 23) rfl (by decide))
      clear hcap hx hkz
      go_enter Tryz.func24, Tryz.ntmps24
      go_wp2_with fail
      rw [← hW]
      go_ret3
      exact ⟨HP.out, HB.out⟩
    · have hz : ¬ (2048 : Int) < (l.length : Int) := by omega
      rw [if_neg hb]
      cases closed with
      | true =>
        have HP := hid (bodyRef_ok (x := (.ok (l, l.length) : Except Nat (List UInt8 × Nat))) (k := l.length) rfl HBR.out)
        clear hcap hx hkz
        go_enter Tryz.func24, Tryz.ntmps24
        go_wp2_with fail
        rw [← hW]
        go_ret3
        exact ⟨HP.out, HB.out⟩
      | false =>
        have HP := hid (bodyRef_nil (x := (.error 20 : Except Nat (List UInt8 × Nat))) (w' := W) (z := 20) rfl (by decide))
        clear hcap hx hkz
        go_enter Tryz.func24, Tryz.ntmps24
        go_wp2_with fail
        rw [← hW]
        go_ret3
        exact ⟨HP.out, HB.out⟩
  · have e3 : (kz == 3) = false := by simp; omega
    have cc := refRead6_any kind len (.slice ao l.length cap) l W HBR.out hl hlen (by omega)
    rw [hkz] at cc
    rw [bodyX_read (by omega) hlen]
    have CC := hid cc
    clear cc hcap hkz h3
    generalize readX kind len l = X at *
    obtain ⟨Y, hY⟩ : ∃ Y, (if closed then fixE X else X) = Y := ⟨_, rfl⟩
    rw [hY]
    have HY := hid hY
    clear hY
    go_enter Tryz.func24, Tryz.ntmps24
    go_wp2_with fail
    rw [← hW]
    clear hW g0 g1
    refine CC.out.mono ?_
    rintro e w1 ⟨⟨v1, k1, y1, rfl, ⟨ao1, m1, c1, rfl⟩, hm⟩, hb1⟩
    have HB2 := hid (chain2 HB.out HB.out.size hb1)
    clear hb1 CC
    cases X with
    | ok p =>
      obtain ⟨b, u⟩ := p
      obtain ⟨rfl, rfl, hv⟩ := hm
      have HP := hid (bodyRef_ok (x := Y) (by have h := HY.out; rw [← h]; cases closed <;> rfl) hv)
      clear hv
      go_wp2_with fail
      go_ret3
      exact ⟨HP.out, HB2.out⟩
    | error z =>
      obtain ⟨rfl, hz⟩ := hm
      by_cases h20 : y1 = 20
      · subst h20
        cases closed with
        | true =>
          have HP := hid (bodyRef_nil (x := Y) (w' := w1) (z := 21) (by have h := HY.out; rw [← h]; rfl) (by decide))
          clear hz
          go_wp2_with fail
          go_ret3
          exact ⟨HP.out, HB2.out⟩
        | false =>
          have HP := hid (bodyRef_nil (x := Y) (w' := w1) (z := 20) (by have h := HY.out; rw [← h]; rfl) (by decide))
          clear hz
          go_wp2_with fail
          go_ret3
          exact ⟨HP.out, HB2.out⟩
      · have e20 : ((y1 : Int) == 20) = false := by simp; omega
        have e0 : ((y1 : Int) != 0) = true := by simp; omega
        have HP := hid (bodyRef_nil (x := Y) (w' := w1) (z := y1) (by have h := HY.out; rw [← h]; cases closed; rfl; unfold fixE; simp [h20]) hz)
        clear hz h20
        go_wp2_with fail
        go_ret3
        exact ⟨HP.out, HB2.out⟩
end Go.Proofs.YtefplhkjcclppaaGreatDoor
