/-
  Contracts of package body: digit, lacking, line, number.
-/
import Derived.Test.YtefplhkjcclppaaDoorPureAll2
import Derived.Test.YtefplhkjcclppaaDoorInfo
import Derived.IntWalk
import Derived.BigQuiet
import Derived.Deep.QuietTactic
namespace Go.Proofs.YtefplhkjcclppaaDoor
open Go.RowKit Go.Pantry

theorem hexV_dig {c : UInt8} (h1 : 48 ≤ c.toNat) (h2 : c.toNat ≤ 57) : hexV c = some (c.toNat - 48) := by unfold hexV; rw [if_pos ⟨h1, h2⟩]
theorem hexV_low {c : UInt8} (h1 : 97 ≤ c.toNat) (h2 : c.toNat ≤ 102) : hexV c = some (c.toNat - 87) := by unfold hexV; rw [if_neg (by omega), if_pos ⟨h1, h2⟩]
theorem hexV_up {c : UInt8} (h1 : 65 ≤ c.toNat) (h2 : c.toNat ≤ 70) : hexV c = some (c.toNat - 55) := by unfold hexV; rw [if_neg (by omega), if_neg (by omega), if_pos ⟨h1, h2⟩]
theorem hexV_no {c : UInt8} (h1 : ¬ (48 ≤ c.toNat ∧ c.toNat ≤ 57)) (h2 : ¬ (97 ≤ c.toNat ∧ c.toNat ≤ 102)) (h3 : ¬ (65 ≤ c.toNat ∧ c.toNat ≤ 70)) : hexV c = none := by unfold hexV; rw [if_neg h1, if_neg h2, if_neg h3]
set_option maxHeartbeats 2000000 in
theorem bdigit_any (c : UInt8) (w : World) :
    Calls Tryd.prog 42 #[.int .u8 (c.toNat : Int)] w fun e w' => e = .returned (.tuple #[.int .i64 (((hexV c).getD 0 : Nat) : Int), .bool (hexV c).isSome]) ∧ w = w' := by
  have hc := c.toNat_lt
  by_cases a1 : 48 ≤ c.toNat ∧ c.toNat ≤ 57
  · have hv := hexV_dig a1.1 a1.2
    generalize hexV c = r at hv ⊢
    subst hv
    obtain ⟨h1, h2⟩ := a1
    go_enter Tryd.func42, Tryd.ntmps42
    go_wp2
    go_ret2
    refine ⟨?_, rfl⟩
    simp
    omega
  · by_cases a2 : 97 ≤ c.toNat ∧ c.toNat ≤ 102
    · have hv := hexV_low a2.1 a2.2
      generalize hexV c = r at hv ⊢
      subst hv
      obtain ⟨h1, h2⟩ := a2
      go_enter Tryd.func42, Tryd.ntmps42
      go_wp2
      go_ret2
      refine ⟨?_, rfl⟩
      simp
      omega
    · by_cases a3 : 65 ≤ c.toNat ∧ c.toNat ≤ 70
      · have hv := hexV_up a3.1 a3.2
        generalize hexV c = r at hv ⊢
        subst hv
        obtain ⟨h1, h2⟩ := a3
        go_enter Tryd.func42, Tryd.ntmps42
        go_wp2
        go_ret2
        refine ⟨?_, rfl⟩
        simp
        omega
      · have hv := hexV_no a1 a2 a3
        generalize hexV c = r at hv ⊢
        subst hv
        go_enter Tryd.func42, Tryd.ntmps42
        go_wp2
        all_goals first | omega | skip
        all_goals go_ret2
        all_goals exact ⟨rfl, rfl⟩
theorem lacking_any (b : Bool) (w : World) :
    Calls Tryd.prog 23 #[.bool b] w fun e w' => e = .returned (.int .i64 (if b then 21 else 20)) ∧ w = w' := by
  cases b
  all_goals
    go_enter Tryd.func23, Tryd.ntmps23
    go_wp2
    go_ret
    exact ⟨rfl, rfl⟩

/-- what 'number' leaves -/
def NumPost (g lack : Nat) (l : List UInt8) (w0 w : World) (e : Ending) (w' : World) : Prop :=
  (numE l = 21 ∧ e = .returned (.tuple #[.int .i64 0, .int .i64 21]) ∧ w = w') ∨
  (numE l = 0 ∧ ∃ v', e = .returned (.tuple #[.int .i64 ((hexRun 8 0 l).1 : Int), .int .i64 0]) ∧ Bytes w0 v' (l.drop (hexRun 8 0 l).2) ∧ rowIs w' g #[v', .int .i64 (lack : Int)] 61 ∧ w.grownBy w' (some g))
set_option maxRecDepth 100000 in
set_option maxHeartbeats 8000000 in
theorem number_any (g lack : Nat) (v : Value) (l : List UInt8) (w0 w : World) (hb : Below w0.heap.size w0 w) (hg : rowIs w g #[v, .int .i64 (lack : Int)] 61) (hr : Bytes w0 v l) (hl : l.length ≤ 1000000) :
    Calls Tryd.prog 32 #[.pointer (some ⟨g, 0, none⟩)] w fun e w' => NumPost g lack l w0 w e w' := by
  have hle := hexRun_le 8 0 l
  have hnum : numE l = if (hexRun 8 0 l).2 = 0 ∧ l ≠ [] then 21 else 0 := rfl
  obtain ⟨N, hN⟩ : ∃ N, (hexRun 8 0 l).1 = N := ⟨_, rfl⟩
  obtain ⟨D, hD⟩ : ∃ D, (hexRun 8 0 l).2 = D := ⟨_, rfl⟩
  rw [hD] at hnum
  rw [hN, hD] at hle
  have hpost : ∀ e w', NumPost g lack l w0 w e w' = ((numE l = 21 ∧ e = .returned (.tuple #[.int .i64 0, .int .i64 21]) ∧ w = w') ∨ (numE l = 0 ∧ ∃ v', e = .returned (.tuple #[.int .i64 (N : Int), .int .i64 0]) ∧ Bytes w0 v' (l.drop D) ∧ rowIs w' g #[v', .int .i64 (lack : Int)] 61 ∧ w.grownBy w' (some g))) := fun e w' => by unfold NumPost; rw [hN, hD]
  have HPO := hid hpost
  have hDl := hle.1
  clear hle
  obtain ⟨aot, ct, htail, hv'⟩ := bytes_low (P := Tryd.prog) 41 (by kernel_rfl) (fun _ => by kernel_rfl) hr D hDl
  obtain ⟨ao, cap, rfl, hc⟩ := bytes_form hr
  have hrd := (bytesRead hr).below hb
  have HR := hid hrd
  have HV := hid hv'
  have HG := hid hg
  have g0 := hg.cell 0
  have f0 := hg.free 0
  have HN := hid hN
  have HD := hid hD
  have HE := hid hnum
  have HT := hid htail
  have HB := hid hb
  clear hpost hrd hv' hr hN hD hnum htail hg hb hDl
  go_enter Tryd.func32, Tryd.ntmps32
  go_wp2
  go_loop [4, 5] (fun n d => ∃ x k : Nat, n = .int .i64 (x : Int) ∧ d = .int .i64 (k : Int) ∧ k ≤ 8 ∧ k ≤ l.length ∧ x < 16 ^ k ∧ (hexRun (8 - k) x (l.drop k)).1 = N ∧ (hexRun (8 - k) x (l.drop k)).2 + k = D) (fun _ d => 8 - (intOf d).toNat)
  case atStart => exact ⟨0, 0, rfl, rfl, by omega, by omega, by decide, HN.out, HD.out⟩
  case round =>
    obtain ⟨x, k, rfl, rfl, hk8, hkl, hx, h1, h2⟩ := hrel
    have hx8 : x < 4294967296 := Nat.lt_of_lt_of_le hx (Nat.pow_le_pow_right (by decide) hk8)
    have H1 := hid h1
    have H2 := hid h2
    have HX := hid hx
    clear h1 h2 hx
    by_cases hlt : k < 8 ∧ k < l.length
    · obtain ⟨hlt1, hlt2⟩ := hlt
      have hmin : (k : Int) < if (l.length : Int) < 8 then (l.length : Int) else 8 := by split <;> omega
      have hmd : decide ((k : Int) < if (l.length : Int) < 8 then (l.length : Int) else 8) = true := decide_eq_true hmin
      obtain ⟨c, hcx⟩ : ∃ c, l[k]? = some c := ⟨_, List.getElem?_eq_getElem hlt2⟩
      have hdr : l.drop k = c :: l.drop (k + 1) := by
        rw [List.drop_eq_getElem_cons hlt2]
        obtain ⟨_, e⟩ := List.getElem?_eq_some_iff.1 hcx
        rw [e]
      obtain ⟨b, off, cap', hv, hcell⟩ := HR.out.at_some (by rw [List.length_map]; omega)
      have hce := hcell k (byteV c) (by rw [List.getElem?_map, hcx]; rfl)
      rw [List.length_map] at hv
      cases hv
      have HDR := hid hdr
      clear hdr hcx hcell hmin
      obtain ⟨M, hM⟩ : ∃ M : Int, (if (l.length : Int) < 8 then (l.length : Int) else 8) = M := ⟨_, rfl⟩
      rw [hM] at hmd
      all_goals
        cases hcv : hexV c with
        | some dv =>
          have hdv := hexV_le hcv
          have HCV := hid hcv
          have cd := bdigit_any c w
          rw [hcv] at cd
          simp only [Option.getD_some, Option.isSome_some] at cd
          have CD := hid cd
          clear hcv cd hmd
          go_wp2_with fail
          refine CD.out.mono ?_
          rintro e w1 ⟨rfl, rfl⟩
          go_wp2_with fail
          go_round
          case rel =>
            have e8 : 8 - k = (8 - (k + 1)) + 1 := by omega
            have q1 := H1.out
            have q2 := H2.out
            rw [HDR.out, e8, hexRun_some HCV.out] at q1 q2
            refine ⟨16 * x + dv, k + 1, by go_num, by go_num, by omega, by omega, ?_, q1, by simp only at q2; omega⟩
            have q3 := HX.out
            rw [Nat.pow_succ]
            omega
          case measure => simp [intOf]; omega
        | none =>
          have HCV := hid hcv
          have cd := bdigit_any c w
          rw [hcv] at cd
          simp only [Option.getD_none, Option.isSome_none] at cd
          have CD := hid cd
          have e0 : hexRun (8 - k) x (l.drop k) = (x, 0) := by rw [HDR.out, hexRun_none hcv]
          have HE0 := hid e0
          clear hcv cd hmd e0
          go_wp2_with fail
          refine CD.out.mono ?_
          rintro e w1 ⟨rfl, rfl⟩
          have hDk : D = k := by have := H2.out; rw [HE0.out] at this; simp only at this; omega
          have hNx : N = x := by have := H1.out; rw [HE0.out] at this; exact this.symm
          clear H1 H2 HX
          subst hDk hNx
          by_cases hz : D = 0 ∧ l ≠ []
          · have hen : numE l = 21 := by rw [HE.out, if_pos hz]
            have hpos : (0 : Int) < (l.length : Int) := by
              have := List.length_pos_iff.2 hz.2
              omega
            have hd0 : (((D : Nat) : Int) == 0) = true := by rw [hz.1]; rfl
            have HEN := hid hen
            clear hz hen HE HT HV hkl hk8
            go_wp2_with fail
            go_ret2
            rw [HPO.out]
            exact .inl ⟨HEN.out, rfl, rfl⟩
          · have hen : numE l = 0 := by rw [HE.out, if_neg hz]
            have HEN := hid hen
            have hor : D ≠ 0 ∨ (l.length : Int) = 0 := by
              by_cases hd : D = 0
              · exact .inr (by
                  have : ¬ l ≠ [] := fun h => hz ⟨hd, h⟩
                  rw [Decidable.not_not.1 this]; rfl)
              · exact .inl hd
            have HKL := hid hkl
            clear hz hen HE hkl hk8
            rcases hor with hd | hd
            · have hd0 : (((D : Nat) : Int) == 0) = false := by simp; exact hd
              go_wp2_with (refine wpList_slice_low rfl 41 _ _ rfl rfl rfl (by kernel_rfl) (HT.out _) ?_)
              go_ret2
              rw [HPO.out]
              exact .inr ⟨HEN.out, _, rfl, HV.out, HG.out.setCell 0 _, grown_set (grown_refl _ _) _ _⟩
            · first
              | (exfalso; omega)
              | (have hk0 := HKL.out
                 clear hc
                 generalize l.length = n at *
                 obtain rfl : n = 0 := by omega
                 obtain rfl : D = 0 := by omega
                 go_wp2_with (refine wpList_slice_low rfl 41 _ _ rfl rfl rfl (by kernel_rfl) (HT.out _) ?_)
                 go_ret2
                 rw [HPO.out]
                 exact .inr ⟨HEN.out, _, rfl, HV.out, HG.out.setCell 0 _, grown_set (grown_refl _ _) _ _⟩)
    · have e0 : hexRun (8 - k) x (l.drop k) = (x, 0) := by
        by_cases hk : k = 8
        · subst hk; rfl
        · rw [List.drop_of_length_le (by omega), hexRun_nil]
      have HE0 := hid e0
      clear e0
      have hmin : ¬ (k : Int) < if (l.length : Int) < 8 then (l.length : Int) else 8 := by split <;> omega
      have hmin2 : ((l.length : Int) < 8 ∧ ¬ (k : Int) < (l.length : Int)) ∨ (¬ (l.length : Int) < 8 ∧ ¬ (k : Int) < 8) := by omega
      clear hmin
      rcases hmin2 with ⟨h8, h9⟩ | ⟨h8, h9⟩
      all_goals
        have hDk : D = k := by have := H2.out; rw [HE0.out] at this; simp only at this; omega
        have hNx : N = x := by have := H1.out; rw [HE0.out] at this; exact this.symm
        clear H1 H2 HX
        subst hDk hNx
        by_cases hz : D = 0 ∧ l ≠ []
        · have hen : numE l = 21 := by rw [HE.out, if_pos hz]
          have hpos : (0 : Int) < (l.length : Int) := by
            have := List.length_pos_iff.2 hz.2
            omega
          have hd0 : (((D : Nat) : Int) == 0) = true := by rw [hz.1]; rfl
          have HEN := hid hen
          clear hz hen HE HT HV hkl hk8
          go_wp2_with fail
          go_ret2
          rw [HPO.out]
          exact .inl ⟨HEN.out, rfl, rfl⟩
        · have hen : numE l = 0 := by rw [HE.out, if_neg hz]
          have HEN := hid hen
          have hor : D ≠ 0 ∨ (l.length : Int) = 0 := by
            by_cases hd : D = 0
            · exact .inr (by
                have : ¬ l ≠ [] := fun h => hz ⟨hd, h⟩
                rw [Decidable.not_not.1 this]; rfl)
            · exact .inl hd
          have HKL := hid hkl
          clear hz hen HE hkl hk8
          rcases hor with hd | hd
          · have hd0 : (((D : Nat) : Int) == 0) = false := by simp; exact hd
            go_wp2_with (refine wpList_slice_low rfl 41 _ _ rfl rfl rfl (by kernel_rfl) (HT.out _) ?_)
            go_ret2
            rw [HPO.out]
            exact .inr ⟨HEN.out, _, rfl, HV.out, HG.out.setCell 0 _, grown_set (grown_refl _ _) _ _⟩
          · first
            | (exfalso; omega)
            | (have hk0 := HKL.out
               clear hc
               generalize l.length = n at *
               obtain rfl : n = 0 := by omega
               obtain rfl : D = 0 := by omega
               go_wp2_with (refine wpList_slice_low rfl 41 _ _ rfl rfl rfl (by kernel_rfl) (HT.out _) ?_)
               go_ret2
               rw [HPO.out]
               exact .inr ⟨HEN.out, _, rfl, HV.out, HG.out.setCell 0 _, grown_set (grown_refl _ _) _ _⟩)
end Go.Proofs.YtefplhkjcclppaaDoor
