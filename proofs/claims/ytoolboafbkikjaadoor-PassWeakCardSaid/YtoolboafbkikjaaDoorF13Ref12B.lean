/-
  The document's answers of layer 12: Read, Dated.
-/
import Derived.Test.YtoolboafbkikjaaDoorF13Ref12A
import Derived.Test.YtoolboafbkikjaaDoorF1304
import Derived.Test.YtoolboafbkikjaaDoorF1301
set_option linter.unusedVariables false
set_option linter.unusedSimpArgs false

namespace Go.Pantry
open Go.RowKit
/-- a time, and whether there is one -/
def timeV : Option Int → Value
  | some t => .tuple #[.int .i64 t, .bool true]
  | none => .tuple #[.int .i64 0, .bool false]
theorem mo_yes {l : List UInt8} {i : Int} (h1 : 1 ≤ i) (h2 : i ≤ 12) : (moL i == l) = decide (moNum l = i) := by
  rw [Bool.eq_iff_iff, beq_iff_eq, decide_eq_true_eq]
  constructor
  · intro h; rw [← h]; exact moNum_of i h1 h2
  · intro h
    by_cases hn : ∃ m : Int, (1 ≤ m ∧ m ≤ 12) ∧ l = moL m
    · obtain ⟨m, ⟨a, b⟩, e⟩ := hn
      rw [e, moNum_of m a b] at h
      rw [e, h]
    · rw [moNum_none l (fun m a b e => hn ⟨m, ⟨a, b⟩, e⟩)] at h
      omega
/-- the month found up to there -/
noncomputable def moK (l : List UInt8) (i : Int) : Int := if moNum l < i then moNum l else 0
theorem readDL_at {l : List UInt8} {t : Int} (h : docT l (moNum (sub l 8 11)) = t) (h0 : 0 ≤ t) (h1 : t ≤ 253402300799) : readDL l = if showL t == l then some t else none := by
  by_cases e : showL t = l
  · rw [if_pos (by simpa using e), ← e]; exact readDL_show t h0 h1
  · rw [if_neg (by simpa using e)]
    cases hr : readDL l with
    | none => rfl
    | some u =>
      obtain ⟨-, -, -, -, g, -, -, gs⟩ := doc_show hr
      exact absurd (by rw [← h, g]; exact gs) e
theorem readDL_far {l : List UInt8} {t : Int} (h : docT l (moNum (sub l 8 11)) = t) (hb : t < 0 ∨ 253402300799 < t) : readDL l = none := by
  cases hr : readDL l with
  | none => rfl
  | some u => obtain ⟨-, -, -, -, g, g0, g1, -⟩ := doc_show hr; omega
theorem readDL_off {l : List UInt8} (h : l.length ≠ 29 ∨ moNum (sub l 8 11) = 0 ∨ nD (sub l 12 16) < 1970 ∨ nD (sub l 5 7) < 1) : readDL l = none := by
  cases hr : readDL l with
  | none => rfl
  | some u => obtain ⟨g1, g2, g3, g4, -⟩ := doc_show hr; omega
end Go.Pantry
namespace Go.Proofs.YtoolboafbkikjaaDoor
open Go.RowKit Go.Pantry

theorem mo13_cell (w : World) (m : Int) (h1 : 1 ≤ m) (h2 : m ≤ 12) {t : TypeId} :
    (w.alloc (Obj.cells #[Value.string { data := #[] }, Value.string { data := #[74, 97, 110] }, Value.string { data := #[70, 101, 98] }, Value.string { data := #[77, 97, 114] }, Value.string { data := #[65, 112, 114] }, Value.string { data := #[77, 97, 121] }, Value.string { data := #[74, 117, 110] }, Value.string { data := #[74, 117, 108] }, Value.string { data := #[65, 117, 103] }, Value.string { data := #[83, 101, 112] }, Value.string { data := #[79, 99, 116] }, Value.string { data := #[78, 111, 118] }, Value.string { data := #[68, 101, 99] }] t)).cell? ⟨w.heap.size, m.toNat, none⟩ = some (strV (moL m)) := by
  rw [World.cell?_alloc_at _ _ _ _ rfl]
  rcases month_all h1 h2 with rfl | rfl | rfl | rfl | rfl | rfl | rfl | rfl | rfl | rfl | rfl | rfl <;> rfl
set_option maxRecDepth 8000 in
set_option maxHeartbeats 4000000 in
theorem refRead_any (l : List UInt8) (w : World) (hlen : l.length ≤ 1000000000) :
    Calls Tryd.prog 61 #[strV l] w fun e w' => e = .returned (timeV (readDL l)) ∧ Below w.heap.size w w' := by
  have hz : ((⟨l.toArray⟩ : ByteArray).size : Int) = (l.length : Int) := by rw [szL]
  by_cases h29 : l.length = 29
  · have c := fun (W : World) (i n : Nat) (h : i + n ≤ 29) (hn : n ≤ 4) (hi : i ≤ 25) => number_any ⟨l.toArray⟩ i n W (by rw [szL]; omega) hn hi (by rw [szL]; exact h29)
    obtain ⟨Y, hYd⟩ : ∃ Y, sub l 8 11 = Y := ⟨_, rfl⟩
    have hx : (⟨l.toArray⟩ : ByteArray).extract 8 11 = ⟨Y.toArray⟩ := by
      apply bytes_ext
      rw [Lib.extract_eq, ← hYd]
      simp [sub, List.drop_take]
    have c1 : ∀ W : World, Calls Tryd.prog 73 #[strV l, .int .i64 12, .int .i64 4] W fun e w' => e = .returned (.int .i64 (nD (sub l 12 16))) ∧ W = w' := fun W => by
      have h := c W 12 4 (by decide) (by decide) (by decide)
      rw [dtL] at h
      exact h
    have c2 : ∀ W : World, Calls Tryd.prog 73 #[strV l, .int .i64 5, .int .i64 2] W fun e w' => e = .returned (.int .i64 (nD (sub l 5 7))) ∧ W = w' := fun W => by
      have h := c W 5 2 (by decide) (by decide) (by decide)
      rw [dtL] at h
      exact h
    have c3 : ∀ W : World, Calls Tryd.prog 73 #[strV l, .int .i64 17, .int .i64 2] W fun e w' => e = .returned (.int .i64 (nD (sub l 17 19))) ∧ W = w' := fun W => by
      have h := c W 17 2 (by decide) (by decide) (by decide)
      rw [dtL] at h
      exact h
    have c4 : ∀ W : World, Calls Tryd.prog 73 #[strV l, .int .i64 20, .int .i64 2] W fun e w' => e = .returned (.int .i64 (nD (sub l 20 22))) ∧ W = w' := fun W => by
      have h := c W 20 2 (by decide) (by decide) (by decide)
      rw [dtL] at h
      exact h
    have c5 : ∀ W : World, Calls Tryd.prog 73 #[strV l, .int .i64 23, .int .i64 2] W fun e w' => e = .returned (.int .i64 (nD (sub l 23 25))) ∧ W = w' := fun W => by
      have h := c W 23 2 (by decide) (by decide) (by decide)
      rw [dtL] at h
      exact h
    have hlb : ∀ i j : Nat, (sub l i j).length ≤ j - i := fun i j => by unfold sub; rw [List.length_drop, List.length_take]; omega
    have b1 := nD_bd (sub l 12 16) (k := 4) (hlb 12 16)
    have b2 := nD_bd (sub l 5 7) (k := 2) (hlb 5 7)
    have b3 := nD_bd (sub l 17 19) (k := 2) (hlb 17 19)
    have b4 := nD_bd (sub l 20 22) (k := 2) (hlb 20 22)
    have b5 := nD_bd (sub l 23 25) (k := 2) (hlb 23 25)
    have bm := moNum_bd Y
    have hat := fun t h h0 h1 => readDL_at (l := l) (t := t) h h0 h1
    have hfar := fun t h hb => readDL_far (l := l) (t := t) h hb
    have hoff := fun h => readDL_off (l := l) (.inr h)
    have hdt : docT l (moNum (sub l 8 11)) = (nD (sub l 5 7) - 1 + ysI (nD (sub l 12 16)) + cumR (nD (sub l 12 16)) (moNum (sub l 8 11) - 1).toNat) * 86400 + nD (sub l 17 19) * 3600 + nD (sub l 20 22) * 60 + nD (sub l 23 25) := rfl
    rw [hYd] at hat hfar hoff hdt
    rw [show (10 : Int) ^ 4 = 10000 by decide] at b1
    rw [show (10 : Int) ^ 2 = 100 by decide] at b2 b3 b4 b5
    generalize nD (sub l 12 16) = y at c1 b1 hoff hdt
    generalize nD (sub l 5 7) = d at c2 b2 hoff hdt
    generalize nD (sub l 17 19) = hh at c3 b3 hdt
    generalize nD (sub l 20 22) = mi at c4 b4 hdt
    generalize nD (sub l 23 25) = ss at c5 b5 hdt
    have hmo : ∀ i : Int, 1 ≤ i → i ≤ 12 → (moL i == Y) = decide (moNum Y = i) := fun i h1 h2 => mo_yes h1 h2
    obtain ⟨M, hM⟩ : ∃ M, moNum Y = M := ⟨_, rfl⟩
    rw [hM] at bm hat hfar hoff hdt
    have HMO : Hid (∀ i : Int, 1 ≤ i → i ≤ 12 → (moL i == Y) = decide (M = i)) := fun i h1 h2 => by rw [← hM]; exact hmo i h1 h2
    have C1 := hid c1
    have C2 := hid c2
    have C3 := hid c3
    have C4 := hid c4
    have C5 := hid c5
    have HAT := hid hat
    have HFAR := hid hfar
    have HOFF := hid hoff
    have HDT := hid hdt
    have hd29 : decide ((l.length : Int) = 29) = true := decide_eq_true (by omega)
    have hd29b : ((l.length : Int) != 29) = false := by simp; omega
    have hl29 : (l.length : Int) = 29 := by omega
    clear hat hfar hoff hdt hmo hM hYd c1 c2 c3 c4 c5 c hlb
    have hb0 := below_alloc w (Obj.cells #[Value.string { data := #[] }, Value.string { data := #[74, 97, 110] }, Value.string { data := #[70, 101, 98] }, Value.string { data := #[77, 97, 114] }, Value.string { data := #[65, 112, 114] }, Value.string { data := #[77, 97, 121] }, Value.string { data := #[74, 117, 110] }, Value.string { data := #[74, 117, 108] }, Value.string { data := #[65, 117, 103] }, Value.string { data := #[83, 101, 112] }, Value.string { data := #[79, 99, 116] }, Value.string { data := #[78, 111, 118] }, Value.string { data := #[68, 101, 99] }] 93)
    go_enter Tryd.func61, Tryd.ntmps61
    go_wp2_with fail
    have hc0 := fun i h1 h2 => mo13_cell w i h1 h2 (t := 93)
    obtain ⟨G, hG⟩ : ∃ G, w.heap.size = G := ⟨_, rfl⟩
    rw [hG] at hc0 ⊢
    generalize w.alloc (Obj.cells #[Value.string { data := #[] }, Value.string { data := #[74, 97, 110] }, Value.string { data := #[70, 101, 98] }, Value.string { data := #[77, 97, 114] }, Value.string { data := #[65, 112, 114] }, Value.string { data := #[77, 97, 121] }, Value.string { data := #[74, 117, 110] }, Value.string { data := #[74, 117, 108] }, Value.string { data := #[65, 117, 103] }, Value.string { data := #[83, 101, 112] }, Value.string { data := #[79, 99, 116] }, Value.string { data := #[78, 111, 118] }, Value.string { data := #[68, 101, 99] }] 93) = W0 at hc0 hb0 ⊢
    have HB0 := hid hb0
    have HC0 := hid hc0
    clear hb0 hc0 hG
    go_loopw [5, 6] (fun mv z wr => ∃ i : Int, 1 ≤ i ∧ i ≤ 13 ∧ z = .int .i64 i ∧ mv = .int .i64 (if M < i then M else 0) ∧ Below W0.heap.size W0 wr) (fun _ z _ => 13 - (intOf z).toNat)
    case atStart => exact ⟨1, by omega, by omega, rfl, by congr 1; split <;> omega, Below.refl _ _⟩
    case round =>
      obtain ⟨i, i1, i2, rfl, rfl, hbr⟩ := hrel
      have HBR := hid hbr
      by_cases hi : i ≤ 12
      · have hcell := kept (HC0.out i i1 hi) hbr
        have hi0 : 0 ≤ i := by omega
        have hi13 : i < 13 := by omega
        have hiw : IntKind.i64.wrap (i + 1) = i + 1 := IntWalk.i64_in _ (by omega)
        have heq := HMO.out i i1 hi
        obtain ⟨v, hv⟩ : ∃ v, (if M < i then M else 0) = v := ⟨_, rfl⟩
        rw [hv]
        have HV := hid hv
        clear hbr hv
        by_cases hMi : M = i
        · rw [decide_eq_true hMi] at heq
          have HMi := hid hMi
          clear hMi
          go_wp2_with fail
          go_quiet (fail)
          go_wp2_with fail
          go_roundw
          case rel => exact ⟨i + 1, by omega, by omega, by go_num, by have := HMi.out; subst this; rw [if_pos (by omega)], chain2 HBR.out HBR.out.size (drewN_below2 _ _)⟩
          case measure => simp [intOf]; omega
        · rw [decide_eq_false hMi] at heq
          have HMi := hid hMi
          clear hMi
          go_wp2_with fail
          go_quiet (fail)
          go_wp2_with fail
          go_roundw
          case rel => exact ⟨i + 1, by omega, by omega, by go_num, by have := HMi.out; have := HV.out; congr 1; rw [← HV.out]; split <;> split <;> omega, chain2 HBR.out HBR.out.size (drewN_below2 _ _)⟩
          case measure => simp [intOf]; omega
      · have hi13 : i = 13 := by omega
        have e : (if M < i then M else 0) = M := if_pos (by omega)
        rw [e]
        have HBW := hid (chain2 HB0.out HB0.out.size hbr)
        clear hbr e HC0 HMO
        go_wp2_with fail
        refine (C1.out _).mono ?_
        rintro e w1 ⟨rfl, rfl⟩
        go_wp2_with fail
        refine (C2.out _).mono ?_
        rintro e w1 ⟨rfl, rfl⟩
        by_cases hM0 : M = 0
        · have zM : (M == 0) = true := by simp [hM0]
          have zM2 : decide (M = 0) = true := decide_eq_true hM0
          have HR := hid (HOFF.out (.inl hM0))
          clear hM0
          go_wp2_with fail
          go_ret2
          exact ⟨by rw [HR.out]; rfl, HBW.out⟩
        have zM : (M == 0) = false := by simp [hM0]
        by_cases hy : y < 1970
        · have dy : decide (y < 1970) = true := decide_eq_true hy
          have HR := hid (HOFF.out (.inr (.inl hy)))
          clear hM0
          go_wp2_with fail
          go_ret2
          exact ⟨by rw [HR.out]; rfl, HBW.out⟩
        have dy : decide (y < 1970) = false := decide_eq_false hy
        by_cases hd1 : d < 1
        · have dd : decide (d < 1) = true := decide_eq_true hd1
          have HR := hid (HOFF.out (.inr (.inr hd1)))
          clear hM0
          go_wp2_with fail
          go_ret2
          exact ⟨by rw [HR.out]; rfl, HBW.out⟩
        have dd : decide (d < 1) = false := decide_eq_false hd1
        have M1 : 1 ≤ M := by omega
        have hdw : IntKind.i64.wrap (d - 1) = d - 1 := IntWalk.i64_in _ (by omega)
        clear hM0 HOFF
        go_wp2_with fail
        clear zM dy dd hdw
        go_loopw [9, 10] (fun dv z wi => ∃ i : Int, 1970 ≤ i ∧ i ≤ y ∧ z = .int .i64 i ∧ dv = .int .i64 (d - 1 + ysI i) ∧ Below w.heap.size w wi) (fun _ z _ => 9999 - (intOf z).toNat)
        case atStart => exact ⟨1970, by omega, by omega, rfl, by rw [ysI_first]; simp, HBW.out⟩
        case round =>
          obtain ⟨i, i1, i2, rfl, rfl, hbi⟩ := hrel
          have HBI := hid hbi
          clear hbi
          have yb := ysI_bd i (by omega) (by omega)
          have ys := ysI_succ i (by omega)
          by_cases hlt : i < y
          · have hiw : IntKind.i64.wrap (i + 1) = i + 1 := IntWalk.i64_in _ (by omega)
            have k1 : IntKind.i64.wrap (d - 1 + ysI i + 365) = d - 1 + ysI i + 365 := IntWalk.i64_in _ (by omega)
            have k2 : IntKind.i64.wrap (d - 1 + ysI i + 365 + 1) = d - 1 + ysI i + 365 + 1 := IntWalk.i64_in _ (by omega)
            have CL := hid (fun (W : World) => refLeap_any i W (by omega) (by omega))
            have HYS := hid ys
            have hlf : leapB i = true → leapI i = 1 := leapI_t
            have hlf2 : leapB i = false → leapI i = 0 := leapI_f
            have HL := hid (And.intro hlf hlf2)
            clear ys hlf hlf2
            generalize leapB i = lb at CL HL
            generalize leapI i = li at HYS HL
            generalize ysI i = yi at k1 k2 HYS yb ⊢
            cases lb with
            | false =>
              have hl0 := HL.out.2 rfl
              go_wp2_with fail
              refine (CL.out _).mono ?_
              rintro e w3 ⟨rfl, rfl⟩
              go_wp2_with fail
              go_roundw
              case rel => exact ⟨i + 1, by omega, by omega, by go_num, by congr 1; rw [HYS.out]; omega, HBI.out⟩
              case measure => simp [intOf]; omega
            | true =>
              have hl0 := HL.out.1 rfl
              go_wp2_with fail
              refine (CL.out _).mono ?_
              rintro e w3 ⟨rfl, rfl⟩
              go_wp2_with fail
              go_roundw
              case rel => exact ⟨i + 1, by omega, by omega, by go_num, by congr 1; rw [HYS.out]; omega, HBI.out⟩
              case measure => simp [intOf]; omega
          · have hiy : i = y := by omega
            subst hiy
            clear ys
            obtain ⟨ya, hya⟩ : ∃ x, ysI i = x := ⟨_, rfl⟩
            have HDT2 := hid (show docT l M = (d - 1 + ya + cumR i (M - 1).toNat) * 86400 + hh * 3600 + mi * 60 + ss by rw [HDT.out, hya])
            rw [hya] at yb ⊢
            clear hya HDT
            go_wp2_with fail
            go_loopw [9, 11] (fun dv z wi => ∃ j : Int, 1 ≤ j ∧ j ≤ M ∧ z = .int .i64 j ∧ dv = .int .i64 (d - 1 + ya + cumR i (j - 1).toNat) ∧ Below w.heap.size w wi) (fun _ z _ => 13 - (intOf z).toNat)
            case atStart => exact ⟨1, by omega, by omega, rfl, by simp [cumR], HBI.out⟩
            case round =>
              obtain ⟨j, j1, j2, rfl, rfl, hbj⟩ := hrel
              have HBJ := hid hbj
              clear hbj
              have cb := cumR_bd i (j - 1).toNat
              have cn := cumR_next i j j1
              have db := daysI_bd i j
              have hj12 : ((j - 1).toNat : Int) ≤ 12 := by omega
              by_cases hjl : j < M
              · have hjw : IntKind.i64.wrap (j + 1) = j + 1 := IntWalk.i64_in _ (by omega)
                have k1 : IntKind.i64.wrap (d - 1 + ya + cumR i (j - 1).toNat + daysI i j) = d - 1 + ya + cumR i (j - 1).toNat + daysI i j := IntWalk.i64_in _ (by omega)
                have CD := hid (fun (W : World) => refDays_any i j W)
                have HCN := hid (show cumR i (j + 1 - 1).toNat = cumR i (j - 1).toNat + daysI i j by rw [show j + 1 - 1 = j by omega]; exact cn)
                clear cn
                generalize cumR i (j - 1).toNat = cu at k1 cb HCN ⊢
                generalize daysI i j = dj at k1 CD HCN db
                go_wp2_with fail
                refine (CD.out _).mono ?_
                rintro e w3 ⟨rfl, hb3⟩
                have HB3 := hid (chain2 HBJ.out HBJ.out.size hb3)
                clear hb3
                go_wp2_with fail
                go_roundw
                case rel => exact ⟨j + 1, by omega, by omega, by go_num, by congr 1; rw [HCN.out]; omega, HB3.out⟩
                case measure => simp [intOf]; omega
              · have hjM : j = M := by omega
                subst hjM
                clear cn db
                generalize cumR i (j - 1).toNat = cu at cb HDT2 ⊢
                obtain ⟨D, hD⟩ : ∃ D, d - 1 + ya + cu = D := ⟨_, rfl⟩
                have hDb : -1000000 ≤ D ∧ D ≤ 160000000 := by omega
                rw [hD] at HDT2 ⊢
                have k1 : IntKind.i64.wrap (D * 86400) = D * 86400 := IntWalk.i64_in _ (by omega)
                have k2 : IntKind.i64.wrap (hh * 3600) = hh * 3600 := IntWalk.i64_in _ (by omega)
                have k3 : IntKind.i64.wrap (D * 86400 + hh * 3600) = D * 86400 + hh * 3600 := IntWalk.i64_in _ (by omega)
                have k4 : IntKind.i64.wrap (mi * 60) = mi * 60 := IntWalk.i64_in _ (by omega)
                have k5 : IntKind.i64.wrap (D * 86400 + hh * 3600 + mi * 60) = D * 86400 + hh * 3600 + mi * 60 := IntWalk.i64_in _ (by omega)
                have k6 : IntKind.i64.wrap (D * 86400 + hh * 3600 + mi * 60 + ss) = D * 86400 + hh * 3600 + mi * 60 + ss := IntWalk.i64_in _ (by omega)
                clear hD cb yb
                go_wp2_with fail
                refine (C3.out _).mono ?_
                rintro e w3 ⟨rfl, rfl⟩
                go_wp2_with fail
                refine (C4.out _).mono ?_
                rintro e w3 ⟨rfl, rfl⟩
                go_wp2_with fail
                refine (C5.out _).mono ?_
                rintro e w3 ⟨rfl, rfl⟩
                obtain ⟨t, ht⟩ : ∃ t, D * 86400 + hh * 3600 + mi * 60 + ss = t := ⟨_, rfl⟩
                rw [ht] at HDT2 k6
                clear k1 k2 k3 k4 k5
                by_cases t0 : t < 0
                · have e0 : decide (t < 0) = true := decide_eq_true t0
                  have HR := hid (HFAR.out t HDT2.out (.inl t0))
                  go_wp2_with fail
                  go_ret2
                  exact ⟨by rw [HR.out]; rfl, HBJ.out⟩
                have e0 : decide (t < 0) = false := decide_eq_false t0
                by_cases t1 : 253402300799 < t
                · have e1 : decide (253402300799 < t) = true := decide_eq_true t1
                  have HR := hid (HFAR.out t HDT2.out (.inr t1))
                  go_wp2_with fail
                  go_ret2
                  exact ⟨by rw [HR.out]; rfl, HBJ.out⟩
                have e1 : decide (253402300799 < t) = false := decide_eq_false t1
                have HR := hid (HAT.out t HDT2.out (by omega) (by omega))
                have CS := hid (fun (W : World) => refShow_any t W (by omega) (by omega))
                generalize showL t = sh at HR CS
                cases hq : (sh == l) with
                | true =>
                  have zq : (!(sh == l)) = false := by rw [hq]; rfl
                  have HQ := hid hq
                  clear t0 t1 hq
                  go_wp2_with fail
                  refine (CS.out _).mono ?_
                  rintro e w3 ⟨rfl, hb3⟩
                  have HB3 := hid (chain2 HBJ.out HBJ.out.size hb3)
                  clear hb3
                  go_wp2_with fail
                  go_ret2
                  exact ⟨by rw [HR.out, if_pos HQ.out]; rfl, HB3.out⟩
                | false =>
                  have zq : (!(sh == l)) = true := by rw [hq]; rfl
                  have HQ := hid hq
                  clear t0 t1 hq
                  go_wp2_with fail
                  refine (CS.out _).mono ?_
                  rintro e w3 ⟨rfl, hb3⟩
                  have HB3 := hid (chain2 HBJ.out HBJ.out.size hb3)
                  clear hb3
                  go_wp2_with fail
                  go_ret2
                  exact ⟨by rw [HR.out, if_neg (by rw [HQ.out]; decide)]; rfl, HB3.out⟩
  · have hd : decide ((l.length : Int) = 29) = false := decide_eq_false (by omega)
    have hd2 : ((l.length : Int) != 29) = true := by simp; omega
    have HR := hid (readDL_off (l := l) (.inl h29))
    go_enter Tryd.func61, Tryd.ntmps61
    go_wp2_with fail
    go_ret2
    exact ⟨by rw [HR.out]; rfl, Below.refl _ _⟩
/-- a field's time -/
theorem refDated_any (v : Value) (l : List Fld) (n : List UInt8) (w : World) (hr : Reads2 w v l) (hs : SmallF l) (hn : n.length ≤ 100000) :
    Calls Tryd.prog 45 #[v, strV n] w fun e w' => e = .returned (timeV (datedF l n)) ∧ Below w.heap.size w w' := by
  have c1 := refGet_any v l ⟨n.toArray⟩ w hr (fun f hf => Nat.lt_of_le_of_lt (hs.name f hf) (by decide)) (fun f hf => Nat.le_trans (hs.val f hf) (by decide)) (Nat.le_trans hs.len (by decide)) (by rw [szL]; omega)
  rw [dtL] at c1
  have hg := hs.get n
  have c2 := fun (W : World) => refRead_any (getF l n) W (by omega)
  have e : readDL (getF l n) = datedF l n := rfl
  rw [e] at c2
  generalize getF l n = G at c1 c2
  have C1 := hid c1
  cases h : datedF l n with
  | none =>
    rw [h] at c2
    have C2 := hid c2
    clear c1 c2 e hg h
    go_enter Tryd.func45, Tryd.ntmps45
    go_wp2_with fail
    refine C1.out.mono ?_
    rintro e w1 ⟨rfl, hb1⟩
    go_wp2_with fail
    refine (C2.out _).mono ?_
    rintro e w2 ⟨rfl, hb2⟩
    have hbw := chain2 hb1 hb1.size hb2
    unfold timeV
    go_wp2_with fail
    go_ret2
    exact ⟨rfl, hbw⟩
  | some t =>
    rw [h] at c2
    have C2 := hid c2
    clear c1 c2 e hg h
    go_enter Tryd.func45, Tryd.ntmps45
    go_wp2_with fail
    refine C1.out.mono ?_
    rintro e w1 ⟨rfl, hb1⟩
    go_wp2_with fail
    refine (C2.out _).mono ?_
    rintro e w2 ⟨rfl, hb2⟩
    have hbw := chain2 hb1 hb1.size hb2
    unfold timeV
    go_wp2_with fail
    go_ret2
    exact ⟨rfl, hbw⟩
end Go.Proofs.YtoolboafbkikjaaDoor
