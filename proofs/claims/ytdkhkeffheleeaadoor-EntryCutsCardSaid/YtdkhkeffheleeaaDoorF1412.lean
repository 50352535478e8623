/-
  Several texts in one: EntI, EntK.
-/
import Derived.Test.YtdkhkeffheleeaaDoorF14EntD
import Derived.Test.YtdkhkeffheleeaaDoorF14EntF
import Derived.Test.YtdkhkeffheleeaaDoorF14EntH
import Derived.Test.YtdkhkeffheleeaaDoorF1408
/-
  Contracts of package entry: check, Decode, Turn.
-/
set_option linter.unusedVariables false
set_option linter.unusedSimpArgs false
namespace Go.Pantry
open Go.RowKit
/-- what is wrong with a record but for what its rest says -/
def rchkC (D : List UInt8) : Int :=
  if D.length < 8 ∨ 4000 < D.length ∨ D.getD 0 0 ≠ 69 then 10
  else if (D.getD 1 0).toNat < 1 ∨ 3 < (D.getD 1 0).toNat then 50
  else if (D.getD 2 0).toNat * 256 + (D.getD 3 0).toNat ≠ D.length - 8 then 10
  else if numN ((D.drop 4).take 4) ≠ sumL (D.drop 8) then 44 else 0
theorem rchk_bad {D : List UInt8} (h : rchkC D ≠ 0) : decD D = (rchkC D, zeroE, 0) := by
  unfold rchkC at h ⊢
  by_cases h1 : D.length < 8 ∨ 4000 < D.length ∨ D.getD 0 0 ≠ 69
  · rw [if_pos h1, dec_c1 h1]
  rw [if_neg h1] at h ⊢
  by_cases h2 : (D.getD 1 0).toNat < 1 ∨ 3 < (D.getD 1 0).toNat
  · rw [if_pos h2, dec_c2 h1 h2]
  rw [if_neg h2] at h ⊢
  by_cases h3 : (D.getD 2 0).toNat * 256 + (D.getD 3 0).toNat ≠ D.length - 8
  · rw [if_pos h3, dec_c3 h1 h2 h3]
  rw [if_neg h3] at h ⊢
  by_cases h4 : numN ((D.drop 4).take 4) ≠ sumL (D.drop 8)
  · rw [if_pos h4, dec_c4 h1 h2 h3 h4]
  rw [if_neg h4] at h
  exact absurd rfl h
theorem rchk_ok {D : List UInt8} (h : rchkC D = 0) : (8 ≤ D.length ∧ D.length ≤ 4000) ∧ (1 ≤ (D.getD 1 0).toNat ∧ (D.getD 1 0).toNat ≤ 3) ∧ decD D = match entD (D.getD 1 0).toNat (D.drop 8) with
    | none => (10, zeroE, 0)
    | some (e, r) => if r = [] ∧ rightE e = true then (0, e, (D.getD 1 0).toNat) else (10, zeroE, 0) := by
  unfold rchkC at h
  by_cases h1 : D.length < 8 ∨ 4000 < D.length ∨ D.getD 0 0 ≠ 69
  · rw [if_pos h1] at h; cases h
  rw [if_neg h1] at h
  by_cases h2 : (D.getD 1 0).toNat < 1 ∨ 3 < (D.getD 1 0).toNat
  · rw [if_pos h2] at h; cases h
  rw [if_neg h2] at h
  by_cases h3 : (D.getD 2 0).toNat * 256 + (D.getD 3 0).toNat ≠ D.length - 8
  · rw [if_pos h3] at h; cases h
  rw [if_neg h3] at h
  by_cases h4 : numN ((D.drop 4).take 4) ≠ sumL (D.drop 8)
  · rw [if_pos h4] at h; cases h
  exact ⟨by omega, by omega, dec_c5 h1 h2 h3 h4⟩
end Go.Pantry
namespace Go.Proofs.YtdkhkeffheleeaaDoor
open Go.RowKit Go.Pantry

theorem bytes_cells {w : World} {bv : Value} {D : List UInt8} (hb : Bytes w bv D) {k : Nat} (hk : k < D.length) : ∃ (bk off cap : Nat), bv = .slice (some ⟨bk, off, none⟩) D.length cap ∧ (∀ (j : Nat) (c : UInt8), D[j]? = some c → w.cell? ⟨bk, off + j, none⟩ = some (.int .u8 (c.toNat : Int))) := by
  obtain ⟨ao, cap, rfl, hc⟩ := bytes_form hb
  obtain ⟨ao1, cap1, hv1, hcell, -⟩ := bytesRead hb
  have hao1 : ao1 = ao := by injection hv1 with q1 _ _; exact q1.symm
  rw [hao1] at hcell
  obtain ⟨bk, off, hao, -⟩ := hcell k (byteV D[k]) (by rw [List.getElem?_map, List.getElem?_eq_getElem hk]; rfl)
  subst hao
  refine ⟨bk, off, cap, rfl, fun j c hj => ?_⟩
  obtain ⟨b2, o2, ha2, hx⟩ := hcell j (byteV c) (by rw [List.getElem?_map, hj]; rfl)
  injection ha2 with ha3
  injection ha3 with ha4 ha5
  subst ha4 ha5
  exact hx
set_option maxRecDepth 8000 in
theorem versionOf_any (bv : Value) (D : List UInt8) (w : World) (hb : Bytes w bv D) (hl : 2 ≤ D.length) :
    Calls Tryd.prog 38 #[bv] w fun e w' => e = .returned (.int .i64 ((D.getD 1 0).toNat : Int)) ∧ w = w' := by
  obtain ⟨bk, off, cap, rfl, hcell⟩ := bytes_cells hb (k := 0) (by omega)
  obtain ⟨c1, g1⟩ : ∃ c, D[1]? = some c := ⟨_, List.getElem?_eq_getElem (by omega)⟩
  have e1 : D.getD 1 0 = c1 := by rw [List.getD_eq_getElem?_getD, g1]; rfl
  have x1 : w.cell? ⟨bk, off + 1, none⟩ = some (.int .u8 (c1.toNat : Int)) := hcell 1 c1 g1
  have hc1 := c1.toNat_lt
  have hw : IntKind.i64.wrap (c1.toNat : Int) = (c1.toNat : Int) := IntWalk.i64_in _ (by omega)
  have hn1 : (1 : Int) < (D.length : Int) := by omega
  rw [e1]
  clear hcell g1 e1 hb
  go_enter Tryd.func38, Tryd.ntmps38
  go_wp2_with fail
  go_ret
  exact ⟨rfl, rfl⟩
set_option maxRecDepth 8000 in
set_option maxHeartbeats 8000000 in
theorem check_any (bv : Value) (D : List UInt8) (w : World) (hb : Bytes w bv D) (hl : D.length ≤ 90000) :
    Calls Tryd.prog 37 #[bv] w fun e w' => e = .returned (.int .i64 (rchkC D)) ∧ Below w.heap.size w w' := by
  obtain ⟨R, hR⟩ : ∃ R, rchkC D = R := ⟨_, rfl⟩
  have HRR := hid hR
  rw [hR]
  clear hR
  by_cases hlen : D.length < 8 ∨ 4000 < D.length
  · have hwb : withB (D.length : Int) 8 4000 = false := by
      unfold withB
      rcases hlen with h | h
      · rw [decide_eq_false (by omega)]; rfl
      · rw [decide_eq_false (show ¬ (D.length : Int) ≤ 4000 by omega), Bool.and_false]
    have hr0 : R = 10 := by rw [← HRR.out]; unfold rchkC; rw [if_pos (hlen.imp id .inl)]
    subst hr0
    have cW := within_any (D.length : Int) 8 4000 w
    rw [hwb] at cW
    have CW := hid cW
    obtain ⟨ao, cap, rfl, hc⟩ := bytes_form hb
    clear hwb hlen cW hb
    go_enter Tryd.func37, Tryd.ntmps37
    go_wp2_with fail
    refine CW.out.mono ?_
    rintro e w1 ⟨rfl, rfl⟩
    go_wp2_with fail
    go_ret
    exact ⟨rfl, Below.refl _ _⟩
  have hwb : withB (D.length : Int) 8 4000 = true := by
    unfold withB
    rw [decide_eq_true (show (8 : Int) ≤ (D.length : Int) by omega), decide_eq_true (show (D.length : Int) ≤ 4000 by omega)]; rfl
  have cW := within_any (D.length : Int) 8 4000 w
  rw [hwb] at cW
  have CW := hid cW
  have HB := hid hb
  obtain ⟨bk, off, cap, rfl, hcell⟩ := bytes_cells hb (k := 0) (by omega)
  obtain ⟨c0, g0⟩ : ∃ c, D[0]? = some c := ⟨_, List.getElem?_eq_getElem (by omega)⟩
  have e0 : D.getD 0 0 = c0 := by rw [List.getD_eq_getElem?_getD, g0]; rfl
  have x0 : w.cell? ⟨bk, off, none⟩ = some (.int .u8 (c0.toNat : Int)) := hcell 0 c0 g0
  have hn0 : (0 : Int) < (D.length : Int) := by omega
  have HLN := hid hlen
  obtain ⟨n, hn⟩ : ∃ n, D.length = n := ⟨_, rfl⟩
  have HN := hid hn
  by_cases h69 : c0 ≠ 69
  · have hr0 : R = 10 := by rw [← HRR.out]; unfold rchkC; rw [if_pos (.inr (.inr (by rw [e0]; exact h69)))]
    subst hr0
    have d69 : ((c0.toNat : Int) == 69) = false := by
      rw [beq_eq_false_iff_ne]
      intro h
      exact h69 (UInt8.toNat_inj.1 (by show c0.toNat = 69; omega))
    have d69n : ((c0.toNat : Int) != 69) = true := by rw [bne, d69]; rfl
    have d69d : ¬ (c0.toNat : Int) = 69 := by intro h; rw [h] at d69; cases d69
    clear hwb hlen cW hb hcell g0 e0 h69 hn d69d
    go_enter Tryd.func37, Tryd.ntmps37
    go_wp2_with fail
    refine CW.out.mono ?_
    rintro e w1 ⟨rfl, rfl⟩
    go_wp2_with fail
    go_ret
    exact ⟨rfl, Below.refl _ _⟩
  have hc69 : c0 = 69 := Classical.not_not.1 h69
  have d69 : ((c0.toNat : Int) == 69) = true := by rw [hc69]; rfl
  have d69n : ((c0.toNat : Int) != 69) = false := by rw [bne, d69]; rfl
  have d69d : (c0.toNat : Int) = 69 := by rw [hc69]; rfl
  have HC1 := hid (show ¬ (D.length < 8 ∨ 4000 < D.length ∨ D.getD 0 0 ≠ 69) by rw [e0, hc69]; exact fun h => h.elim (fun h => hlen (.inl h)) (fun h => h.elim (fun h => hlen (.inr h)) (fun h => h rfl)))
  -- the slices
  obtain ⟨lo, lc, hl0, hlb, hlin⟩ := slice_low_in (P := Tryd.prog) 25 Tryd.underlying25 (fun W => by rfl) hb 8 (by omega)
  obtain ⟨so, sc, hs0, hsb⟩ := slice_both (P := Tryd.prog) 25 Tryd.underlying25 (fun W => by rfl) hb 2 2 (by omega)
  obtain ⟨to, tc, ht0, htb⟩ := slice_both (P := Tryd.prog) 25 Tryd.underlying25 (fun W => by rfl) hb 4 4 (by omega)
  have hl1 : ∀ W, (Instr.slice 25 (.slice (some ⟨bk, off, none⟩) D.length cap) (some (.int .i64 8)) none none).run Tryd.prog W = .ok (.slice lo (D.length - 8) lc) W := hl0
  have hs1 : ∀ W, (Instr.slice 25 (.slice (some ⟨bk, off, none⟩) D.length cap) (some (.int .i64 2)) (some (.int .i64 4)) none).run Tryd.prog W = .ok (.slice so 2 sc) W := hs0
  have ht1 : ∀ W, (Instr.slice 25 (.slice (some ⟨bk, off, none⟩) D.length cap) (some (.int .i64 4)) (some (.int .i64 8)) none).run Tryd.prog W = .ok (.slice to 4 tc) W := ht0
  have CV := hid (versionOf_any _ D w hb (by omega))
  have CK := hid (known_any ((D.getD 1 0).toNat : Int) w)
  have C2 := hid (fun W (h : Below w.heap.size w W) => numberOf_any (.slice so 2 sc) ((D.drop 2).take 2) W ((bytesRead hsb).below h) (by rw [List.length_take]; omega))
  have C4 := hid (fun W (h : Below w.heap.size w W) => numberOf_any (.slice to 4 tc) ((D.drop 4).take 4) W ((bytesRead htb).below h) (by rw [List.length_take]; omega))
  have CS := hid (fun W (h : Below w.heap.size w W) => sum_any (.slice lo (D.length - 8) lc) (D.drop 8) W ((bytesRead hlb).below h) (by rw [List.length_drop]; omega))
  have HS1 := hid hs1
  have HT1 := hid ht1
  have HL1 := hid hl1
  have htwo := two_bytes D (by omega)
  have HTWO := hid htwo
  have hnl : ((D.length - 8 : Nat) : Int) = ((n - 8 : Nat) : Int) := by rw [hn]
  rw [hn] at HL1 HS1 HT1 CV CS
  rw [hn] at hn0 ⊢
  have CW : Hid (Calls Tryd.prog 29 #[.int .i64 (n : Int), .int .i64 8, .int .i64 4000] w fun e w' => e = .returned (.bool true) ∧ w = w' ) := by rw [← hn]; exact CW
  clear hwb hlen cW hb hcell g0 e0 h69 hc69 hl0 hs0 ht0 hl1 hs1 ht1 hlb hsb htb hlin htwo hnl hn d69d
  by_cases hv : (D.getD 1 0).toNat < 1 ∨ 3 < (D.getD 1 0).toNat
  · have hr0 : R = 50 := by rw [← HRR.out]; unfold rchkC; rw [if_neg HC1.out, if_pos hv]
    subst hr0
    have hkb : withB ((D.getD 1 0).toNat : Int) 1 3 = false := by
      unfold withB
      rcases hv with h | h
      · rw [decide_eq_false (show ¬ (1 : Int) ≤ ((D.getD 1 0).toNat : Int) by omega)]; rfl
      · rw [decide_eq_false (show ¬ ((D.getD 1 0).toNat : Int) ≤ 3 by omega), Bool.and_false]
    rw [hkb] at CK
    clear hkb hv
    go_enter Tryd.func37, Tryd.ntmps37
    go_wp2_with fail
    refine CW.out.mono ?_
    rintro e w1 ⟨rfl, rfl⟩
    go_wp2_with (refine wpList_slice_low rfl 25 _ _ rfl rfl rfl Tryd.underlying25 (HL1.out _) ?_)
    refine CV.out.mono ?_
    rintro e w1 ⟨rfl, rfl⟩
    go_wp2_with fail
    refine CK.out.mono ?_
    rintro e w1 ⟨rfl, rfl⟩
    go_wp2_with fail
    go_ret
    exact ⟨rfl, Below.refl _ _⟩
  have hkb : withB ((D.getD 1 0).toNat : Int) 1 3 = true := by
    unfold withB
    rw [decide_eq_true (show (1 : Int) ≤ ((D.getD 1 0).toNat : Int) by omega), decide_eq_true (show ((D.getD 1 0).toNat : Int) ≤ 3 by omega)]; rfl
  rw [hkb] at CK
  have HC2 := hid hv
  clear hkb hv
  go_enter Tryd.func37, Tryd.ntmps37
  go_wp2_with fail
  refine CW.out.mono ?_
  rintro e w1 ⟨rfl, rfl⟩
  go_wp2_with (refine wpList_slice_low rfl 25 _ _ rfl rfl rfl Tryd.underlying25 (HL1.out _) ?_)
  refine CV.out.mono ?_
  rintro e w1 ⟨rfl, rfl⟩
  go_wp2_with fail
  refine CK.out.mono ?_
  rintro e w1 ⟨rfl, rfl⟩
  go_wp2_with (refine wpList_slice_bothR rfl 25 _ _ _ rfl rfl rfl rfl Tryd.underlying25 (HS1.out _) ?_)
  refine (C2.out w (Below.refl _ _)).mono ?_
  rintro e w1 ⟨rfl, hb1⟩
  have HB1 := hid hb1
  clear hb1
  rw [← HTWO.out]
  obtain ⟨z, hz⟩ : ∃ z, (D.getD 2 0).toNat * 256 + (D.getD 3 0).toNat = z := ⟨_, rfl⟩
  rw [hz]
  by_cases h3 : z ≠ n - 8
  · have hr0 : R = 10 := by rw [← HRR.out]; unfold rchkC; rw [if_neg HC1.out, if_neg HC2.out, if_pos (by rw [hz, HN.out]; exact h3)]
    subst hr0
    have d3 : ((z : Int) == ((n - 8 : Nat) : Int)) = false := by rw [beq_eq_false_iff_ne]; omega
    have d3n : ((z : Int) != ((n - 8 : Nat) : Int)) = true := by rw [bne, d3]; rfl
    clear h3 hz
    go_wp2_with fail
    go_ret
    exact ⟨rfl, HB1.out⟩
  have HC3 := hid (show ¬ (D.getD 2 0).toNat * 256 + (D.getD 3 0).toNat ≠ D.length - 8 by rw [hz, HN.out]; exact h3)
  have d3 : ((z : Int) == ((n - 8 : Nat) : Int)) = true := by rw [beq_iff_eq]; omega
  have d3n : ((z : Int) != ((n - 8 : Nat) : Int)) = false := by rw [bne, d3]; rfl
  clear h3 hz
  go_wp2_with (refine wpList_slice_bothR rfl 25 _ _ _ rfl rfl rfl rfl Tryd.underlying25 (HT1.out _) ?_)
  refine (C4.out w1 HB1.out).mono ?_
  rintro e w2 ⟨rfl, hb2⟩
  have HB2 := hid (chain2 HB1.out HB1.out.size hb2)
  clear hb2
  go_wp2_with fail
  refine (CS.out w2 HB2.out).mono ?_
  rintro e w3 ⟨rfl, hb3⟩
  have HB3 := hid (chain2 HB2.out HB2.out.size hb3)
  clear hb3
  have hsl := sumL_lt (D.drop 8)
  obtain ⟨S, hS⟩ : ∃ S, sumL (D.drop 8) = S := ⟨_, rfl⟩
  obtain ⟨T, hT⟩ : ∃ T, numN ((D.drop 4).take 4) = T := ⟨_, rfl⟩
  rw [hS] at hsl ⊢
  rw [hT]
  have hw : IntKind.i64.wrap (S : Int) = (S : Int) := IntWalk.i64_in _ (by omega)
  by_cases h4 : T ≠ S
  · have hr0 : R = 44 := by rw [← HRR.out]; unfold rchkC; rw [if_neg HC1.out, if_neg HC2.out, if_neg HC3.out, if_pos (by rw [hT, hS]; exact h4)]
    subst hr0
    have d4 : ((T : Int) == (S : Int)) = false := by rw [beq_eq_false_iff_ne]; omega
    have d4n : ((T : Int) != (S : Int)) = true := by rw [bne, d4]; rfl
    clear h4 hS hT
    go_wp2_with fail
    go_ret
    exact ⟨rfl, HB3.out⟩
  · have hr0 : R = 0 := by rw [← HRR.out]; unfold rchkC; rw [if_neg HC1.out, if_neg HC2.out, if_neg HC3.out, if_neg (by rw [hT, hS]; exact h4)]
    subst hr0
    have d4 : ((T : Int) == (S : Int)) = true := by rw [beq_iff_eq]; omega
    have d4n : ((T : Int) != (S : Int)) = false := by rw [bne, d4]; rfl
    clear h4 hS hT
    go_wp2_with fail
    go_ret
    exact ⟨rfl, HB3.out⟩
end Go.Proofs.YtdkhkeffheleeaaDoor
/-
  Contracts of package entry: Decode, Turn; all of it.
-/
set_option linter.unusedVariables false
set_option linter.unusedSimpArgs false
namespace Go.Proofs.YtdkhkeffheleeaaDoor
open Go.RowKit Go.Pantry

theorem readEntry_any (v : Nat) (hv : 1 ≤ v ∧ v ≤ 3) (rv : Value) (l : List UInt8) (w : World) (hb : Bytes w rv l) (hin : In (fun k => k < w.heap.size) rv) (hl : l.length ≤ 100000) :
    Calls Tryd.prog 39 #[.int .i64 (v : Int), rv] w (EntRead w v l) := by
  have : v = 1 ∨ v = 2 ∨ v = 3 := by omega
  rcases this with rfl | rfl | rfl
  · exact readEntry1_any rv l w hb hin hl
  · exact readEntry2_any rv l w hb hin hl
  · exact readEntry3_any rv l w hb hin hl
set_option maxRecDepth 20000 in
set_option maxHeartbeats 16000000 in
theorem entDecode_any (bv : Value) (D : List UInt8) (w : World) (hb : Bytes w bv D) (hl : D.length ≤ 90000) :
    Calls Tryd.prog 19 #[bv] w (DecPost w D) := by
  obtain ⟨W0, hW0⟩ : ∃ W, w.alloc (.cells #[.string ⟨#[]⟩, .string ⟨#[]⟩, .slice none 0 0, .int .i64 0, .int .i64 0, .int .i64 0, .slice none 0 0, .slice none 0 0, .int .i64 0] 27) = W := ⟨_, rfl⟩
  have hbW : Below w.heap.size w W0 := by rw [← hW0]; exact below_alloc _ _
  have hres : rowIs W0 w.heap.size #[.string ⟨#[]⟩, .string ⟨#[]⟩, .slice none 0 0, .int .i64 0, .int .i64 0, .int .i64 0, .slice none 0 0, .slice none 0 0, .int .i64 0] 27 := by rw [← hW0]; exact rowIs_new _ _ _
  have HB := hid hb
  have HBW := hid hbW
  have HRES := hid hres
  have CC := hid (check_any bv D W0 (bytes_below hb hbW) hl)
  by_cases hc : rchkC D ≠ 0
  · have HD := hid (rchk_bad hc)
    have hcb : (rchkC D == 0) = false := by rw [beq_eq_false_iff_ne]; exact hc
    have hcn : (rchkC D != 0) = true := by rw [bne, hcb]; rfl
    have HC := hid hc
    generalize rchkC D = c at CC HD hcb hcn
    obtain ⟨ao, cap, hbv, -⟩ := bytes_form hb
    subst hbv
    clear hb hbW hres hc HC
    go_enter Tryd.func19, Tryd.ntmps19
    go_wp2_with fail
    try rw [hW0]
    clear hW0
    refine CC.out.mono ?_
    rintro e w1 ⟨rfl, hb1⟩
    have hres := HRES.out.below hb1
    have HB1 := hid (chain2 HBW.out HBW.out.size hb1)
    clear hb1
    go_wp2_with (refine wpList_store_row rfl 27 _ _ rfl w.heap.size _ rfl rfl 27 #[.string ⟨#[]⟩, .string ⟨#[]⟩, .slice none 0 0, .int .i64 0, .int .i64 0, .int .i64 0, .slice none 0 0, .slice none 0 0, .int .i64 0] hres infoEntK rfl (oneEntK _ _ _ _ _ _ _ _ _ _ _ _ _ _ _) ?_)
    refine bodyPost_ret (results_row3 Tryd.results19 _ _ w.heap.size #[.string ⟨#[]⟩, .string ⟨#[]⟩, .slice none 0 0, .int .i64 0, .int .i64 0, .int .i64 0, .slice none 0 0, .slice none 0 0, .int .i64 0] rfl (hres.setRow _) Tryd.underlying27 rfl infoEntK) rfl ?_
    exact DecPost.err HD.out (below_setRow HB1.out (Nat.le_refl _) _) rfl
  have hc0 : rchkC D = 0 := Classical.not_not.1 hc
  obtain ⟨h8, hv, hdec⟩ := rchk_ok hc0
  rw [hc0] at CC
  obtain ⟨v, hvv⟩ : ∃ v, (D.getD 1 0).toNat = v := ⟨_, rfl⟩
  have cV := fun W h => versionOf_any bv D W (bytes_below hb h) (by omega)
  rw [hvv] at hv hdec cV
  have HDEC := hid hdec
  have HV := hid hv
  obtain ⟨bk, off, cap, hbv, -⟩ := bytes_cells hb (k := 0) (by omega)
  subst hbv
  obtain ⟨lo, lc, hl0, hlb, hlin⟩ := slice_low_in (P := Tryd.prog) 25 Tryd.underlying25 (fun W => by rfl) hb 8 (by omega)
  have hl1 : ∀ W, (Instr.slice 25 (.slice (some ⟨bk, off, none⟩) D.length cap) (some (.int .i64 8)) none none).run Tryd.prog W = .ok (.slice lo (D.length - 8) lc) W := hl0
  have hbk : In (fun k => k < w.heap.size) (.slice (some ⟨bk, off, none⟩) D.length cap) := bytes_in hb (by intro h; rw [h] at h8; simp at h8)
  have hlt : In (fun k => k < w.heap.size) (.slice lo (D.length - 8) lc) := fun k e => hbk k (hlin k e)
  have CV := hid cV
  have CE := hid (fun (W : World) (h : Below w.heap.size w W) => readEntry_any v hv (.slice lo (D.length - 8) lc) (D.drop 8) W (bytes_below hlb h) (fun k e => by have := hlt k e; have := h.size; omega) (by rw [List.length_drop]; omega))
  have HL1 := hid hl1
  have HD8 := hid (show (D.drop 8).length ≤ 5000 by rw [List.length_drop]; omega)
  clear hb hbW hres hc hc0 h8 hv hdec cV hl0 hlb hlin hl1 hbk hlt hvv
  go_enter Tryd.func19, Tryd.ntmps19
  go_wp2_with fail
  try rw [hW0]
  clear hW0
  refine CC.out.mono ?_
  rintro e w1 ⟨rfl, hb1⟩
  have HRES1 := hid (HRES.out.below hb1)
  have HB1 := hid (chain2 HBW.out HBW.out.size hb1)
  clear hb1 CC HRES
  go_wp2_with fail
  refine (CV.out w1 HB1.out).mono ?_
  rintro e w2 ⟨rfl, rfl⟩
  go_wp2_with (refine wpList_slice_low rfl 25 _ _ rfl rfl rfl Tryd.underlying25 (HL1.out _) ?_)
  refine (CE.out w1 HB1.out).mono ?_
  rintro e w2 ⟨nv, fv, dv, x, q, st, rfl, hat, i1, i2, i3, hb2, hent, hq⟩
  obtain ⟨na, nc, hnv⟩ := hat.names.strs
  obtain ⟨fa, fc, hfv⟩ := hat.flds.form
  obtain ⟨da, dc, hdv⟩ : ∃ a c, dv = .slice a x.body.length c := by
    obtain ⟨a, c, h, -⟩ := hat.body
    exact ⟨a, c, by rw [h, List.length_map]⟩
  subst hnv hfv hdv
  obtain ⟨W3, hW3⟩ : ∃ W, (w2.alloc (.cells #[.string ⟨#[]⟩, .string ⟨#[]⟩, .slice none 0 0, .int .i64 0, .int .i64 0, .int .i64 0, .slice none 0 0, .slice none 0 0, .int .i64 0] 27)).setRow w2.heap.size (rowE (.slice na x.names.length nc) (.slice fa x.fields.length fc) (.slice da x.body.length dc) x) = W := ⟨_, rfl⟩
  have hz3 : rowIs (w2.alloc (.cells #[.string ⟨#[]⟩, .string ⟨#[]⟩, .slice none 0 0, .int .i64 0, .int .i64 0, .int .i64 0, .slice none 0 0, .slice none 0 0, .int .i64 0] 27)) w2.heap.size #[.string ⟨#[]⟩, .string ⟨#[]⟩, .slice none 0 0, .int .i64 0, .int .i64 0, .int .i64 0, .slice none 0 0, .slice none 0 0, .int .i64 0] 27 := rowIs_new _ _ _
  have hb3 : Below w2.heap.size w2 W3 := by rw [← hW3]; exact below_setRow (below_alloc _ _) (Nat.le_refl _) _
  have hr3 : rowIs W3 w2.heap.size (rowE (.slice na x.names.length nc) (.slice fa x.fields.length fc) (.slice da x.body.length dc) x) 27 := by rw [← hW3]; exact (rowIs_new _ _ _).setRow _
  have HRES3 := hid ((HRES1.out.below hb2).below hb3)
  have HB3 := hid (chain2 (chain2 HB1.out HB1.out.size hb2) (chain2 HB1.out HB1.out.size hb2).size hb3)
  have HAT := hid (hat.below hb3)
  have HR3 := hid hr3
  have HI := hid (And.intro i1 (And.intro i2 i3))
  have HLT := hid (show w.heap.size < w1.heap.size from HRES1.out.lt)
  have HENT := hid hent
  have HQ := hid hq
  clear hat i1 i2 i3 hb2 hent hq hb3 hr3 HRES1 CE CV
  cases q with
  | false =>
    have hd : decD D = (10, zeroE, 0) := by
      rw [HDEC.out, HENT.out]
      cases st with
      | none => rfl
      | some r =>
        have hne : r ≠ [] := fun h => by have := HQ.out.2 (by rw [h]); cases this
        show (if r = [] ∧ rightE x = true then _ else _) = _
        rw [if_neg (fun h => hne h.1)]
    have HD := hid hd
    have hres := HRES3.out
    clear hd
    go_wp2_with (first
      | (refine wpList_store_row rfl 27 _ _ rfl w2.heap.size _ rfl rfl 27 #[.string ⟨#[]⟩, .string ⟨#[]⟩, .slice none 0 0, .int .i64 0, .int .i64 0, .int .i64 0, .slice none 0 0, .slice none 0 0, .int .i64 0] hz3 infoEntK rfl (oneEntK _ _ _ _ _ _ _ _ _ _ _ _ _ _ _) ?_; rw [hW3])
      | (refine wpList_store_row rfl 27 _ _ rfl w.heap.size _ rfl rfl 27 #[.string ⟨#[]⟩, .string ⟨#[]⟩, .slice none 0 0, .int .i64 0, .int .i64 0, .int .i64 0, .slice none 0 0, .slice none 0 0, .int .i64 0] hres infoEntK rfl (oneEntK _ _ _ _ _ _ _ _ _ _ _ _ _ _ _) ?_))
    refine bodyPost_ret (results_row3 Tryd.results19 _ _ w.heap.size #[.string ⟨#[]⟩, .string ⟨#[]⟩, .slice none 0 0, .int .i64 0, .int .i64 0, .int .i64 0, .slice none 0 0, .slice none 0 0, .int .i64 0] rfl (hres.setRow _) Tryd.underlying27 rfl infoEntK) rfl ?_
    exact DecPost.err HD.out (below_setRow HB3.out (Nat.le_refl _) _) rfl
  | true =>
    have hst : st = some [] := HQ.out.1 rfl
    subst hst
    have hent : entD v (D.drop 8) = some (x, []) := HENT.out
    have hsm : SmallE x := entD_small hent HD8.out
    have CR := hid (entRight_any x _ _ _ W3 hsm HAT.out)
    have hd : decD D = if rightE x = true then (0, x, v) else (10, zeroE, 0) := by
      rw [HDEC.out, hent]
      show (if [] = [] ∧ rightE x = true then _ else _) = _
      by_cases hr : rightE x = true
      · rw [if_pos ⟨rfl, hr⟩, if_pos hr]
      · rw [if_neg (fun h => hr h.2), if_neg hr]
    have HD := hid hd
    clear hent hsm hd
    generalize rightE x = rt at CR HD
    have y0 : W3.cell? ⟨w2.heap.size, 0, none⟩ = some (strV x.key) := HR3.out.cell 0
    have y1 : W3.cell? ⟨w2.heap.size, 1, none⟩ = some (strV x.second) := HR3.out.cell 1
    have y2 : W3.cell? ⟨w2.heap.size, 2, none⟩ = some (.slice na x.names.length nc) := HR3.out.cell 2
    have y3 : W3.cell? ⟨w2.heap.size, 3, none⟩ = some (.int .i64 x.asked) := HR3.out.cell 3
    have y4 : W3.cell? ⟨w2.heap.size, 4, none⟩ = some (.int .i64 x.came) := HR3.out.cell 4
    have y5 : W3.cell? ⟨w2.heap.size, 5, none⟩ = some (.int .i64 x.status) := HR3.out.cell 5
    have y6 : W3.cell? ⟨w2.heap.size, 6, none⟩ = some (.slice fa x.fields.length fc) := HR3.out.cell 6
    have y7 : W3.cell? ⟨w2.heap.size, 7, none⟩ = some (.slice da x.body.length dc) := HR3.out.cell 7
    have y8 : W3.cell? ⟨w2.heap.size, 8, none⟩ = some (.int .i64 x.gen) := HR3.out.cell 8
    go_wp2_with (refine wpList_store_row rfl 27 _ _ rfl w2.heap.size _ rfl rfl 27 #[.string ⟨#[]⟩, .string ⟨#[]⟩, .slice none 0 0, .int .i64 0, .int .i64 0, .int .i64 0, .slice none 0 0, .slice none 0 0, .int .i64 0] hz3 infoEntK rfl (oneEntK _ _ _ _ _ _ _ _ _ _ _ _ _ _ _) ?_; rw [hW3])
    clear hW3 hz3
    refine CR.out.mono ?_
    rintro e w4 ⟨rfl, hb4⟩
    have HRES4 := hid (HRES3.out.below hb4)
    have HB4 := hid (chain2 HB3.out HB3.out.size hb4)
    have HAT4 := hid (HAT.out.below hb4)
    have HR4 := hid (HR3.out.below hb4)
    clear y0 y1 y2 y3 y4 y5 y6 y7 y8 hb4 CR HRES3 HAT HR3
    have hres := HRES4.out
    cases rt with
    | false =>
      go_wp2_with (refine wpList_store_row rfl 27 _ _ rfl w.heap.size _ rfl rfl 27 #[.string ⟨#[]⟩, .string ⟨#[]⟩, .slice none 0 0, .int .i64 0, .int .i64 0, .int .i64 0, .slice none 0 0, .slice none 0 0, .int .i64 0] hres infoEntK rfl (oneEntK _ _ _ _ _ _ _ _ _ _ _ _ _ _ _) ?_)
      refine bodyPost_ret (results_row3 Tryd.results19 _ _ w.heap.size #[.string ⟨#[]⟩, .string ⟨#[]⟩, .slice none 0 0, .int .i64 0, .int .i64 0, .int .i64 0, .slice none 0 0, .slice none 0 0, .int .i64 0] rfl (hres.setRow _) Tryd.underlying27 rfl infoEntK) rfl ?_
      exact DecPost.err HD.out (below_setRow HB4.out (Nat.le_refl _) _) rfl
    | true =>
      have q4 := HR4.out
      go_wp2_with (first
        | (refine wpList_load_row rfl 27 _ rfl w2.heap.size rfl 27 _ (0, 0) _ q4 Tryd.underlying27 rfl infoEntK ?_)
        | (refine wpList_store_row rfl 27 _ _ rfl w.heap.size _ rfl rfl 27 #[.string ⟨#[]⟩, .string ⟨#[]⟩, .slice none 0 0, .int .i64 0, .int .i64 0, .int .i64 0, .slice none 0 0, .slice none 0 0, .int .i64 0] hres infoEntK rfl (oneEntK _ _ _ _ _ _ _ _ _ _ _ _ _ _ _) ?_))
      refine bodyPost_ret (results_row3 Tryd.results19 _ _ w.heap.size (rowE (.slice na x.names.length nc) (.slice fa x.fields.length fc) (.slice da x.body.length dc) x) rfl (hres.setRow _) Tryd.underlying27 rfl infoEntK) rfl ?_
      have hd : decD D = (0, x, v) := HD.out
      have kk := (Kept.refl (fun k => k = w.heap.size) w4).setRow (g := w.heap.size) (.inl rfl) (rowE (.slice na x.names.length nc) (.slice fa x.fields.length fc) (.slice da x.body.length dc) x)
      refine ⟨.slice na x.names.length nc, .slice fa x.fields.length fc, .slice da x.body.length dc, ?_, ?_, fun k e => ?_, fun k e => ?_, fun k e => ?_, below_setRow HB4.out (Nat.le_refl _) _⟩
      · rw [hd]; rfl
      · rw [hd]
        exact HAT4.out.kept kk (fun k e h => by have := HI.out.1 k e; have := HLT.out; omega) (fun k e h => by have := HI.out.2.1 k e; have := HLT.out; omega) (fun k e h => by have := HI.out.2.2 k e; have := HLT.out; omega)
      · have := HI.out.1 k e; have := HLT.out; omega
      · have := HI.out.2.1 k e; have := HLT.out; omega
      · have := HI.out.2.2 k e; have := HLT.out; omega
set_option maxRecDepth 20000 in
set_option maxHeartbeats 16000000 in
theorem entTurn_any (bv : Value) (D : List UInt8) (v : Int) (w : World) (hb : Bytes w bv D) (hl : D.length ≤ 90000) :
    Calls Tryd.prog 22 #[bv, .int .i64 v] w fun x w' => (∃ r, x = .returned (.tuple #[r, .int .i64 (turnC D v)]) ∧ Bytes w' r (turnB D v)) ∧ Below w.heap.size w w' := by
  have CD := hid (entDecode_any bv D w hb hl)
  obtain ⟨ao, cap, hbv, -⟩ := bytes_form hb
  subst hbv
  clear hb
  go_enter Tryd.func22, Tryd.ntmps22
  go_wp2_with fail
  refine CD.out.mono ?_
  rintro e w1 ⟨nv, fv, dv, rfl, hat, i1, i2, i3, hb1⟩
  obtain ⟨x, hx⟩ : ∃ x, (decD D).2.1 = x := ⟨_, rfl⟩
  obtain ⟨vv, hvv⟩ : ∃ x, (decD D).2.2 = x := ⟨_, rfl⟩
  obtain ⟨c, hc⟩ : ∃ x, (decD D).1 = x := ⟨_, rfl⟩
  rw [hx] at hat
  rw [hx, hvv, hc]
  obtain ⟨na, nc, hnv⟩ := hat.names.strs
  obtain ⟨fa, fc, hfv⟩ := hat.flds.form
  obtain ⟨da, dc, hdv⟩ : ∃ a c, dv = .slice a x.body.length c := by
    obtain ⟨a, c, h, -⟩ := hat.body
    exact ⟨a, c, by rw [h, List.length_map]⟩
  subst hnv hfv hdv
  obtain ⟨W3, hW3⟩ : ∃ W, (w1.alloc (.cells #[.string ⟨#[]⟩, .string ⟨#[]⟩, .slice none 0 0, .int .i64 0, .int .i64 0, .int .i64 0, .slice none 0 0, .slice none 0 0, .int .i64 0] 27)).setRow w1.heap.size (rowE (.slice na x.names.length nc) (.slice fa x.fields.length fc) (.slice da x.body.length dc) x) = W := ⟨_, rfl⟩
  have hz3 : rowIs (w1.alloc (.cells #[.string ⟨#[]⟩, .string ⟨#[]⟩, .slice none 0 0, .int .i64 0, .int .i64 0, .int .i64 0, .slice none 0 0, .slice none 0 0, .int .i64 0] 27)) w1.heap.size #[.string ⟨#[]⟩, .string ⟨#[]⟩, .slice none 0 0, .int .i64 0, .int .i64 0, .int .i64 0, .slice none 0 0, .slice none 0 0, .int .i64 0] 27 := rowIs_new _ _ _
  have hb3 : Below w1.heap.size w1 W3 := by rw [← hW3]; exact below_setRow (below_alloc _ _) (Nat.le_refl _) _
  have hr3 : rowIs W3 w1.heap.size (rowE (.slice na x.names.length nc) (.slice fa x.fields.length fc) (.slice da x.body.length dc) x) 27 := by rw [← hW3]; exact (rowIs_new _ _ _).setRow _
  have HB3 := hid (chain2 hb1 hb1.size hb3)
  have HAT := hid (hat.below hb3)
  have HR3 := hid hr3
  have htC : turnC D v = if c = 0 then encC v x else c := by unfold turnC; rw [hx, hc]
  have htB : turnB D v = if c = 0 then encB v x else [] := by unfold turnB; rw [hx, hc]
  have HT := hid (And.intro htC htB)
  have HX := hid (And.intro hx (And.intro hvv hc))
  clear hat i1 i2 i3 hb1 hb3 hr3 htC htB CD hx hvv hc
  by_cases hc0 : c ≠ 0
  · have hcb : (c == 0) = false := by rw [beq_eq_false_iff_ne]; exact hc0
    have hcn : (c != 0) = true := by rw [bne, hcb]; rfl
    have HT2 := hid (And.intro (HT.out.1.trans (if_neg hc0)) (HT.out.2.trans (if_neg hc0)))
    clear hc0
    go_wp2_with (refine wpList_store_row rfl 27 _ _ rfl w1.heap.size _ rfl rfl 27 #[.string ⟨#[]⟩, .string ⟨#[]⟩, .slice none 0 0, .int .i64 0, .int .i64 0, .int .i64 0, .slice none 0 0, .slice none 0 0, .int .i64 0] hz3 infoEntK rfl (oneEntK _ _ _ _ _ _ _ _ _ _ _ _ _ _ _) ?_; rw [hW3])
    go_ret2
    refine ⟨⟨_, by rw [HT2.out.1] <;> rfl, ?_⟩, HB3.out⟩
    rw [HT2.out.2]
    exact ⟨none, 0, rfl, Nat.le_refl _, ⟨none, 0, rfl, (fun j u hj => by cases hj), fun _ => rfl⟩⟩
  · have hc1 : c = 0 := Classical.not_not.1 hc0
    subst hc1
    have HT2 := hid (And.intro (HT.out.1.trans (if_pos rfl)) (HT.out.2.trans (if_pos rfl)))
    have hdec : decD D = (0, x, vv) := by rw [← HX.out.1, ← HX.out.2.1, ← HX.out.2.2]
    have hsm : SmallE x := by have h := dec_small D; rw [hdec] at h; exact h
    have CE := hid (entEncode_any v x _ _ _ W3 hsm HAT.out)
    have q4 := HR3.out
    clear hdec hsm hc0
    have y0 : W3.cell? ⟨w1.heap.size, 0, none⟩ = some (strV x.key) := HR3.out.cell 0
    have y1 : W3.cell? ⟨w1.heap.size, 1, none⟩ = some (strV x.second) := HR3.out.cell 1
    have y2 : W3.cell? ⟨w1.heap.size, 2, none⟩ = some (.slice na x.names.length nc) := HR3.out.cell 2
    have y3 : W3.cell? ⟨w1.heap.size, 3, none⟩ = some (.int .i64 x.asked) := HR3.out.cell 3
    have y4 : W3.cell? ⟨w1.heap.size, 4, none⟩ = some (.int .i64 x.came) := HR3.out.cell 4
    have y5 : W3.cell? ⟨w1.heap.size, 5, none⟩ = some (.int .i64 x.status) := HR3.out.cell 5
    have y6 : W3.cell? ⟨w1.heap.size, 6, none⟩ = some (.slice fa x.fields.length fc) := HR3.out.cell 6
    have y7 : W3.cell? ⟨w1.heap.size, 7, none⟩ = some (.slice da x.body.length dc) := HR3.out.cell 7
    have y8 : W3.cell? ⟨w1.heap.size, 8, none⟩ = some (.int .i64 x.gen) := HR3.out.cell 8
    go_wp2_with (refine wpList_store_row rfl 27 _ _ rfl w1.heap.size _ rfl rfl 27 #[.string ⟨#[]⟩, .string ⟨#[]⟩, .slice none 0 0, .int .i64 0, .int .i64 0, .int .i64 0, .slice none 0 0, .slice none 0 0, .int .i64 0] hz3 infoEntK rfl (oneEntK _ _ _ _ _ _ _ _ _ _ _ _ _ _ _) ?_; rw [hW3])
    clear hW3 hz3
    refine CE.out.mono ?_
    rintro e w4 ⟨⟨r, rfl, ho⟩, hb4⟩
    have HB4 := hid (chain2 HB3.out HB3.out.size hb4)
    have HO := hid ho
    clear y0 y1 y2 y3 y4 y5 y6 y7 y8 hb4 ho CE
    go_wp2_with fail
    go_ret2
    refine ⟨⟨r, by rw [HT2.out.1] <;> rfl, ?_⟩, HB4.out⟩
    rw [HT2.out.2]
    exact ownsRow_bytes HO.out
theorem entries_ok : Entries (fun _ => True) where
  keep := fun _ _ _ _ => trivial
  right := fun e nv fv bv w _ hs hat => entRight_any e nv fv bv w hs hat
  fits := fun e v nv fv bv w _ _ hs hat => entFits_any e v nv fv bv w hs hat
  same := fun a b pnv pfv pbv qnv qfv qbv w _ hsa _ ha hb => entSame_any a b pnv pfv pbv qnv qfv qbv w hsa ha hb
  encode := fun v e nv fv bv w _ _ hs hat => entEncode_any v e nv fv bv w hs hat
  decode := fun bv D w _ hb hl => entDecode_any bv D w hb hl
  turn := fun bv D v w _ _ hb hl => entTurn_any bv D v w hb hl
end Go.Proofs.YtdkhkeffheleeaaDoor
