/-
  Contracts of package entry: varies, Fits, begin, Encode.
-/
import Derived.Test.YtdkhkeffheleeaaDoorF1411
import Derived.Test.YtdkhkeffheleeaaDoorF1408

set_option linter.unusedVariables false
set_option linter.unusedSimpArgs false
namespace Go.Proofs.YtdkhkeffheleeaaDoor
open Go.RowKit Go.Pantry

/-- is an entry but for some requests? -/
def varB (e : EntP) : Bool := !(e.second.isEmpty && e.names.isEmpty)
set_option maxRecDepth 8000 in
set_option maxHeartbeats 4000000 in
theorem varies_any (e : EntP) (nv fv bv : Value) (w : World) (hat : EntAt w nv fv bv e) :
    Calls Tryd.prog 33 #[.agg (rowE nv fv bv e)] w fun x w' => x = .returned (.bool (varB e)) ∧ Below w.heap.size w w' := by
  obtain ⟨no, nc, rfl⟩ := hat.names.strs
  obtain ⟨fo, fc, rfl⟩ := hat.flds.form
  obtain ⟨bo, bc, hbv⟩ : ∃ ao cap, bv = .slice ao e.body.length cap := by
    obtain ⟨ao, cap, h, -⟩ := hat.body
    exact ⟨ao, cap, by rw [h, List.length_map]⟩
  subst hbv
  obtain ⟨W0, hW0⟩ : ∃ W, w.alloc (.cells (rowE (.slice no e.names.length nc) (.slice fo e.fields.length fc) (.slice bo e.body.length bc) e) 27) = W := ⟨_, rfl⟩
  have hbW : Below w.heap.size w W0 := by rw [← hW0]; exact below_alloc _ _
  have q1 : rowIs W0 w.heap.size (rowE (.slice no e.names.length nc) (.slice fo e.fields.length fc) (.slice bo e.body.length bc) e) 27 := by rw [← hW0]; exact rowIs_new _ _ _
  have HB := hid hbW
  have x1 : W0.cell? ⟨w.heap.size, 1, none⟩ = some (strV e.second) := q1.cell 1
  have x2 : W0.cell? ⟨w.heap.size, 2, none⟩ = some (.slice no e.names.length nc) := q1.cell 2
  have hv : varB e = ((e.second != ([] : List UInt8)) || decide ((0 : Int) < (e.names.length : Int))) := by
    unfold varB
    cases e.second <;> cases e.names <;> simp
  rw [hv]
  obtain ⟨b0, hb0⟩ : ∃ b, (e.second != ([] : List UInt8)) = b := ⟨_, rfl⟩
  obtain ⟨b1, hb1⟩ : ∃ b, decide ((0 : Int) < (e.names.length : Int)) = b := ⟨_, rfl⟩
  rw [hb0, hb1]
  clear hat hbW q1 hv
  cases b0 with
  | false =>
    have hke : (e.second == ([] : List UInt8)) = true := by have h := hb0; cases hk : e.second with
      | nil => rfl
      | cons a b => rw [hk] at h; cases h
    cases b1
    all_goals
      go_enter Tryd.func33, Tryd.ntmps33
      go_wp2_with fail
      go_ret
      exact ⟨ret_bool ((decide_eq_decide.2 (show 0 < e.names.length ↔ (0 : Int) < (e.names.length : Int) by omega)).trans hb1), HB.out⟩
  | true =>
    have hke : (e.second == ([] : List UInt8)) = false := by have h := hb0; cases hk : e.second with
      | nil => rw [hk] at h; cases h
      | cons a b => rfl
    go_enter Tryd.func33, Tryd.ntmps33
    go_wp2_with fail
    go_ret
    exact ⟨rfl, HB.out⟩
set_option maxRecDepth 8000 in
set_option maxHeartbeats 8000000 in
theorem entFits_any (e : EntP) (v : Int) (nv fv bv : Value) (w : World) (hs : SmallE e) (hat : EntAt w nv fv bv e) :
    Calls Tryd.prog 16 #[.agg (rowE nv fv bv e), .int .i64 v] w fun x w' => x = .returned (.bool (fitsE v e)) ∧ Below w.heap.size w w' := by
  obtain ⟨no, nc, rfl⟩ := hat.names.strs
  obtain ⟨fo, fc, rfl⟩ := hat.flds.form
  obtain ⟨bo, bc, hbv⟩ : ∃ ao cap, bv = .slice ao e.body.length cap := by
    obtain ⟨ao, cap, h, -⟩ := hat.body
    exact ⟨ao, cap, by rw [h, List.length_map]⟩
  subst hbv
  obtain ⟨W0, hW0⟩ : ∃ W, w.alloc (.cells (rowE (.slice no e.names.length nc) (.slice fo e.fields.length fc) (.slice bo e.body.length bc) e) 27) = W := ⟨_, rfl⟩
  have hbW : Below w.heap.size w W0 := by rw [← hW0]; exact below_alloc _ _
  have q1 : rowIs W0 w.heap.size (rowE (.slice no e.names.length nc) (.slice fo e.fields.length fc) (.slice bo e.body.length bc) e) 27 := by rw [← hW0]; exact rowIs_new _ _ _
  have cR := entRight_any e _ _ _ W0 hs (hat.below hbW)
  have cV := fun (W : World) (h : Below w.heap.size w W) => varies_any e (.slice no e.names.length nc) (.slice fo e.fields.length fc) (.slice bo e.body.length bc) W (hat.below h)
  have hf : fitsE v e = (rightE e && ((decide (1 ≤ v) && decide (v ≤ 3)) && ((v == 3 || (e.second.isEmpty && e.names.isEmpty)) && (decide (1 < v) || e.gen == 1)))) := rfl
  have hvb : (e.second.isEmpty && e.names.isEmpty) = !varB e := by unfold varB; simp
  rw [hvb] at hf
  obtain ⟨R, hR⟩ : ∃ R, fitsE v e = R := ⟨_, rfl⟩
  rw [hR] at hf ⊢
  generalize rightE e = rt at cR hf
  generalize varB e = vr at cV hf
  obtain ⟨g1, hg1⟩ : ∃ b, (e.gen == 1) = b := ⟨_, rfl⟩
  rw [hg1] at hf
  have hgd : decide (e.gen = 1) = g1 := by rw [← hg1]; rfl
  have CR := hid cR
  have CV := hid cV
  have HF := hid hf
  have HQ := hid q1
  have HB := hid hbW
  clear cR cV hR hat hvb
  have x0 : W0.cell? ⟨w.heap.size, 0, none⟩ = some (strV e.key) := HQ.out.cell 0
  have x1 : W0.cell? ⟨w.heap.size, 1, none⟩ = some (strV e.second) := HQ.out.cell 1
  have x2 : W0.cell? ⟨w.heap.size, 2, none⟩ = some (.slice no e.names.length nc) := HQ.out.cell 2
  have x3 : W0.cell? ⟨w.heap.size, 3, none⟩ = some (.int .i64 e.asked) := HQ.out.cell 3
  have x4 : W0.cell? ⟨w.heap.size, 4, none⟩ = some (.int .i64 e.came) := HQ.out.cell 4
  have x5 : W0.cell? ⟨w.heap.size, 5, none⟩ = some (.int .i64 e.status) := HQ.out.cell 5
  have x6 : W0.cell? ⟨w.heap.size, 6, none⟩ = some (.slice fo e.fields.length fc) := HQ.out.cell 6
  have x7 : W0.cell? ⟨w.heap.size, 7, none⟩ = some (.slice bo e.body.length bc) := HQ.out.cell 7
  have x8 : W0.cell? ⟨w.heap.size, 8, none⟩ = some (.int .i64 e.gen) := HQ.out.cell 8
  clear hbW q1
  by_cases h3 : v = 3
  · subst h3
    have HF3 := hid (show R = rt by rw [HF.out]; simp)
    clear hf HF
    go_enter Tryd.func16, Tryd.ntmps16
    go_wp2_with fail
    refine CR.out.mono ?_
    rintro y w1 ⟨rfl, hb1⟩
    have HB1 := hid (chain2 HB.out HB.out.size hb1)
    clear hb1
    go_wp2_with fail
    go_ret
    exact ⟨ret_bool HF3.out.symm, HB1.out⟩
  by_cases h2 : v = 2
  · subst h2
    have HF2 := hid (show R = (rt && !vr) by rw [HF.out]; simp)
    clear hf HF
    go_enter Tryd.func16, Tryd.ntmps16
    go_wp2_with fail
    refine CR.out.mono ?_
    rintro y w1 ⟨rfl, hb1⟩
    have HB1 := hid (chain2 HB.out HB.out.size hb1)
    have HQ1 := hid (HQ.out.below hb1)
    clear hb1 x0 x1 x2 x3 x4 x5 x6 x7 x8
    cases rt with
    | false =>
      go_wp2_with fail
      go_ret
      exact ⟨ret_bool (by rw [HF2.out] <;> rfl), HB1.out⟩
    | true =>
      have x0 : w1.cell? ⟨w.heap.size, 0, none⟩ = some (strV e.key) := HQ1.out.cell 0
      have x1 : w1.cell? ⟨w.heap.size, 1, none⟩ = some (strV e.second) := HQ1.out.cell 1
      have x2 : w1.cell? ⟨w.heap.size, 2, none⟩ = some (.slice no e.names.length nc) := HQ1.out.cell 2
      have x3 : w1.cell? ⟨w.heap.size, 3, none⟩ = some (.int .i64 e.asked) := HQ1.out.cell 3
      have x4 : w1.cell? ⟨w.heap.size, 4, none⟩ = some (.int .i64 e.came) := HQ1.out.cell 4
      have x5 : w1.cell? ⟨w.heap.size, 5, none⟩ = some (.int .i64 e.status) := HQ1.out.cell 5
      have x6 : w1.cell? ⟨w.heap.size, 6, none⟩ = some (.slice fo e.fields.length fc) := HQ1.out.cell 6
      have x7 : w1.cell? ⟨w.heap.size, 7, none⟩ = some (.slice bo e.body.length bc) := HQ1.out.cell 7
      have x8 : w1.cell? ⟨w.heap.size, 8, none⟩ = some (.int .i64 e.gen) := HQ1.out.cell 8
      go_wp2_with fail
      refine (CV.out w1 HB1.out).mono ?_
      rintro y w2 ⟨rfl, hb2⟩
      have HB2 := hid (chain2 HB1.out HB1.out.size hb2)
      clear hb2
      go_wp2_with fail
      go_ret
      exact ⟨ret_bool (by rw [HF2.out] <;> rfl), HB2.out⟩
  by_cases h1 : v = 1
  · subst h1
    have HF1 := hid (show R = (rt && (!vr && g1)) by rw [HF.out]; simp)
    clear hf HF
    go_enter Tryd.func16, Tryd.ntmps16
    go_wp2_with fail
    refine CR.out.mono ?_
    rintro y w1 ⟨rfl, hb1⟩
    have HB1 := hid (chain2 HB.out HB.out.size hb1)
    have HQ1 := hid (HQ.out.below hb1)
    clear hb1 x0 x1 x2 x3 x4 x5 x6 x7 x8
    cases rt with
    | false =>
      go_wp2_with fail
      go_ret
      exact ⟨ret_bool (by rw [HF1.out] <;> rfl), HB1.out⟩
    | true =>
      have x0 : w1.cell? ⟨w.heap.size, 0, none⟩ = some (strV e.key) := HQ1.out.cell 0
      have x1 : w1.cell? ⟨w.heap.size, 1, none⟩ = some (strV e.second) := HQ1.out.cell 1
      have x2 : w1.cell? ⟨w.heap.size, 2, none⟩ = some (.slice no e.names.length nc) := HQ1.out.cell 2
      have x3 : w1.cell? ⟨w.heap.size, 3, none⟩ = some (.int .i64 e.asked) := HQ1.out.cell 3
      have x4 : w1.cell? ⟨w.heap.size, 4, none⟩ = some (.int .i64 e.came) := HQ1.out.cell 4
      have x5 : w1.cell? ⟨w.heap.size, 5, none⟩ = some (.int .i64 e.status) := HQ1.out.cell 5
      have x6 : w1.cell? ⟨w.heap.size, 6, none⟩ = some (.slice fo e.fields.length fc) := HQ1.out.cell 6
      have x7 : w1.cell? ⟨w.heap.size, 7, none⟩ = some (.slice bo e.body.length bc) := HQ1.out.cell 7
      have x8 : w1.cell? ⟨w.heap.size, 8, none⟩ = some (.int .i64 e.gen) := HQ1.out.cell 8
      go_wp2_with fail
      refine (CV.out w1 HB1.out).mono ?_
      rintro y w2 ⟨rfl, hb2⟩
      have HB2 := hid (chain2 HB1.out HB1.out.size hb2)
      have z8 : w2.cell? ⟨w.heap.size, 8, none⟩ = some (.int .i64 e.gen) := (HQ1.out.below hb2).cell 8
      clear hb2 x0 x1 x2 x3 x4 x5 x6 x7 x8
      cases vr with
      | true =>
        go_wp2_with fail
        go_ret
        exact ⟨ret_bool (by rw [HF1.out] <;> rfl), HB2.out⟩
      | false =>
        cases g1 with
        | true =>
          have hgx : e.gen = 1 := by simpa using hg1
          go_wp2_with fail
          go_ret
          exact ⟨ret_bool (by rw [HF1.out] <;> simp [hgx]), HB2.out⟩
        | false =>
          have hgx : ¬ e.gen = 1 := by simpa using hg1
          go_wp2_with fail
          go_ret
          exact ⟨ret_bool (by rw [HF1.out] <;> simp [hgx]), HB2.out⟩
  · have HF0 := hid (show R = false by
      rw [HF.out]
      by_cases ha : 1 ≤ v
      · rw [decide_eq_false (show ¬ v ≤ 3 by omega)]; simp
      · rw [decide_eq_false ha]; simp)
    have e3 : (v == 3) = false := by simpa using h3
    have e2 : (v == 2) = false := by simpa using h2
    have e1 : (v == 1) = false := by simpa using h1
    clear hf HF
    go_enter Tryd.func16, Tryd.ntmps16
    go_wp2_with fail
    go_ret
    exact ⟨ret_bool HF0.out.symm, HB.out⟩
theorem putEntry_any (v : Nat) (hv : 1 ≤ v ∧ v ≤ 3) (e : EntP) (nv fv bv : Value) (w : World) (hE : RightE e) (hf : v = 3 ∨ (e.second = [] ∧ e.names = [])) (hat : EntAt w nv fv bv e) :
    Calls Tryd.prog 26 #[.int .i64 (v : Int), .agg (rowE nv fv bv e)] w fun x w' => MadeBy 5 w.heap.size (restB v e) x w' ∧ Below w.heap.size w w' := by
  have : v = 1 ∨ v = 2 ∨ v = 3 := by omega
  rcases this with rfl | rfl | rfl
  · exact putEntry1_any e nv fv bv w hE hf hat
  · exact putEntry2_any e nv fv bv w hE hf hat
  · exact putEntry3_any e nv fv bv w hE hf hat
/-- what stands ahead of the rest -/
def beginB (v : Nat) (r : List UInt8) : List UInt8 := 69 :: UInt8.ofNat v :: (numB r.length 2 ++ numB (sumL r) 4)
theorem recB_begin (v : Nat) (e : EntP) : recB v e = beginB v (restB v e) ++ restB v e := by unfold recB beginB; simp
theorem beginB_len (v : Nat) (r : List UInt8) : (beginB v r).length = 8 := by unfold beginB; simp [numB_len]
set_option maxRecDepth 8000 in
set_option maxHeartbeats 8000000 in
theorem begin_any (v : Nat) (hv : 1 ≤ v ∧ v ≤ 3) (rv : Value) (r : List UInt8) (w : World) (hr : Reads w rv (r.map byteV)) (hrl : r.length ≤ 100000) :
    Calls Tryd.prog 27 #[.int .i64 (v : Int), rv] w fun x w' => MadeBy 5 w.heap.size (beginB v r) x w' ∧ Below w.heap.size w w' := by
  obtain ⟨ao, cap, hrv, -⟩ := id hr
  rw [List.length_map] at hrv
  subst hrv
  have HR := hid hr
  unfold beginB
  have hvc : IntKind.u8.wrap (v : Int) = (v : Int) := by simp [IntKind.wrap, IntKind.signed, IntKind.bits] <;> omega
  have hvm : (v : Int) % 256 = (v : Int) := by omega
  have hvb : ((UInt8.ofNat v).toNat : Int) = (v : Int) := by rw [ver_byte hv.2]
  have hev : byteV (UInt8.ofNat v) = .int .u8 (v : Int) := by show Value.int .u8 _ = _; rw [hvb]
  have hs4 := sumL_lt r
  obtain ⟨W, hW⟩ : ∃ W, w.alloc (.cells #[.int .u8 69, .int .u8 (v : Int)] 5) = W := ⟨_, rfl⟩
  have hbW : Below w.heap.size w W := by rw [← hW]; exact below_alloc _ _
  have hoA := World.ownsRow_lit (base := w.heap.size) (e := 5) (size := 1) w #[.int .u8 69, .int .u8 (v : Int)] 2 (Nat.le_refl _) (by unfold maxLen; omega) rfl
  rw [hW] at hoA
  have hA : OwnL 5 W w.heap.size (.slice (some ⟨w.heap.size, 0, none⟩) 2 2) [69, UInt8.ofNat v] := by
    show World.ownsRow _ _ _ _ _ _ _
    rw [List.map_cons, List.map_cons, hev]
    exact hoA
  have HA := hid hA
  have HB := hid hbW
  obtain ⟨S, hS⟩ : ∃ S, sumL r = S := ⟨_, rfl⟩
  have h2 := numB_len 2 r.length
  obtain ⟨n, hn⟩ : ∃ n, r.length = n := ⟨_, rfl⟩
  have HN := hid hn
  have HS := hid hS
  rw [hS] at hs4 ⊢
  rw [hn] at hrl ⊢
  have c1 : Calls Tryd.prog 51 #[.slice (some ⟨w.heap.size, 0, none⟩) 2 2, .int .i64 (n : Int), .int .i64 2] W (MadeK 5 w.heap.size (.slice (some ⟨w.heap.size, 0, none⟩) 2 2) ([69, UInt8.ofNat v] ++ numB n 2) W) := put_any _ w.heap.size [69, UInt8.ofNat v] n 2 W hA hbW.size (by simp) (by omega) (by decide)
  have C1 := hid c1
  clear hoA hA hbW hn hS hev hvb c1 h2 hr
  go_enter Tryd.func27, Tryd.ntmps27
  go_wp2_with fail
  try rw [hW]
  refine C1.out.mono ?_
  rintro e w1 ⟨v1, rfl, ho1, hi1, hk1⟩
  have hX1 : Below w.heap.size w w1 := HB.out.trans (hk1.below (fun k e _ => (HA.out.lt k e).1) HB.out.size)
  have HX1 := hid hX1
  have HO1 := hid ho1
  have cS := sum_any (.slice ao r.length cap) r w1 (HR.out.below hX1) (by have := HN.out; omega)
  rw [HS.out, HN.out] at cS
  have CS := hid cS
  clear hX1 ho1 hi1 hk1 C1 cS hW
  go_wp2_with fail
  refine CS.out.mono ?_
  rintro e w2 ⟨rfl, hb2⟩
  have hX2 : Below w.heap.size w1 w2 := hb2.mono HX1.out.size
  have HX2 := hid (HX1.out.trans hX2)
  have HO2 := hid (HO1.out.below hb2)
  have hw0 : IntKind.i64.wrap (S : Int) = (S : Int) := IntWalk.i64_in _ (by omega)
  have c2 : Calls Tryd.prog 51 #[v1, .int .i64 (S : Int), .int .i64 4] w2 (MadeK 5 w.heap.size v1 (([69, UInt8.ofNat v] ++ numB n 2) ++ numB S 4) w2) := put_any _ w.heap.size _ S 4 w2 HO2.out HX2.out.size (by simp [numB_len]) (by omega) (by decide)
  have C2 := hid c2
  clear hb2 hX2 c2 CS
  go_wp2_with fail
  refine C2.out.mono ?_
  rintro e w3 ⟨v3, rfl, ho3, hi3, hk3⟩
  have HX3 := hid (HX2.out.trans (hk3.below (fun k e _ => (HO2.out.lt k e).1) HX2.out.size))
  have HO3 := hid ho3
  clear hi3 hk3 ho3
  go_wp2_with fail
  go_ret
  refine ⟨⟨v3, rfl, ?_⟩, HX3.out⟩
  have h := HO3.out
  rw [show ([69, UInt8.ofNat v] ++ numB n 2) ++ numB S 4 = 69 :: UInt8.ofNat v :: (numB n 2 ++ numB S 4) by simp] at h
  exact h
set_option maxRecDepth 8000 in
set_option maxHeartbeats 8000000 in
theorem entEncode_any (v : Int) (e : EntP) (nv fv bv : Value) (w : World) (hs : SmallE e) (hat : EntAt w nv fv bv e) :
    Calls Tryd.prog 13 #[.int .i64 v, .agg (rowE nv fv bv e)] w fun x w' => (∃ r, x = .returned (.tuple #[r, .int .i64 (encC v e)]) ∧ OwnB 5 w' w.heap.size r (encB v e)) ∧ Below w.heap.size w w' := by
  obtain ⟨no, nc, rfl⟩ := hat.names.strs
  obtain ⟨fo, fc, rfl⟩ := hat.flds.form
  obtain ⟨bo, bc, hbv⟩ : ∃ ao cap, bv = .slice ao e.body.length cap := by
    obtain ⟨ao, cap, h, -⟩ := hat.body
    exact ⟨ao, cap, by rw [h, List.length_map]⟩
  subst hbv
  obtain ⟨W0, hW0⟩ : ∃ W, w.alloc (.cells (rowE (.slice no e.names.length nc) (.slice fo e.fields.length fc) (.slice bo e.body.length bc) e) 27) = W := ⟨_, rfl⟩
  have hbW : Below w.heap.size w W0 := by rw [← hW0]; exact below_alloc _ _
  have q1 : rowIs W0 w.heap.size (rowE (.slice no e.names.length nc) (.slice fo e.fields.length fc) (.slice bo e.body.length bc) e) 27 := by rw [← hW0]; exact rowIs_new _ _ _
  have cR := entRight_any e _ _ _ W0 hs (hat.below hbW)
  have cF := fun (W : World) (h : Below w.heap.size w W) => entFits_any e v (.slice no e.names.length nc) (.slice fo e.fields.length fc) (.slice bo e.body.length bc) W hs (hat.below h)
  have cP := fun (W : World) (h : Below w.heap.size w W) (hf : fitsE v e = true) => (show Calls Tryd.prog 26 #[.int .i64 v, .agg (rowE (.slice no e.names.length nc) (.slice fo e.fields.length fc) (.slice bo e.body.length bc) e)] W fun x w' => MadeBy 5 W.heap.size (restB v.toNat e) x w' ∧ Below W.heap.size W w' by
    obtain ⟨f1, f2, f3, f4⟩ := fits_parts hf
    have hvn : ((v.toNat : Nat) : Int) = v := by omega
    have h := putEntry_any v.toNat (by omega) e (.slice no e.names.length nc) (.slice fo e.fields.length fc) (.slice bo e.body.length bc) W (rightE_parts f1) (f3.imp (fun g => by omega) id) (hat.below h)
    rw [hvn] at h
    exact h)
  have cK := known_any v W0
  have CR := hid cR
  have CF := hid cF
  have CP := hid cP
  have CK := hid cK
  have HQ := hid q1
  have HB := hid hbW
  clear cR cF cP cK hat
  have x0 : W0.cell? ⟨w.heap.size, 0, none⟩ = some (strV e.key) := HQ.out.cell 0
  have x1 : W0.cell? ⟨w.heap.size, 1, none⟩ = some (strV e.second) := HQ.out.cell 1
  have x2 : W0.cell? ⟨w.heap.size, 2, none⟩ = some (.slice no e.names.length nc) := HQ.out.cell 2
  have x3 : W0.cell? ⟨w.heap.size, 3, none⟩ = some (.int .i64 e.asked) := HQ.out.cell 3
  have x4 : W0.cell? ⟨w.heap.size, 4, none⟩ = some (.int .i64 e.came) := HQ.out.cell 4
  have x5 : W0.cell? ⟨w.heap.size, 5, none⟩ = some (.int .i64 e.status) := HQ.out.cell 5
  have x6 : W0.cell? ⟨w.heap.size, 6, none⟩ = some (.slice fo e.fields.length fc) := HQ.out.cell 6
  have x7 : W0.cell? ⟨w.heap.size, 7, none⟩ = some (.slice bo e.body.length bc) := HQ.out.cell 7
  have x8 : W0.cell? ⟨w.heap.size, 8, none⟩ = some (.int .i64 e.gen) := HQ.out.cell 8
  clear hbW q1
  by_cases hk : v < 1 ∨ 3 < v
  · have hkb : withB v 1 3 = false := by
      unfold withB
      rcases hk with h | h
      · rw [decide_eq_false (by omega)]; rfl
      · rw [decide_eq_false (show ¬ v ≤ 3 by omega), Bool.and_false]
    have hc : encC v e = 50 := encC_version hk
    have hb0 : encB v e = [] := enc_none (by rw [hc]; decide)
    have HC := hid (And.intro hc hb0)
    rw [hkb] at CK
    clear hc hb0 hk hkb
    go_enter Tryd.func13, Tryd.ntmps13
    go_wp2_with fail
    refine CK.out.mono ?_
    rintro y w1 ⟨rfl, rfl⟩
    go_wp2_with fail
    go_ret2
    refine ⟨⟨_, by rw [HC.out.1] <;> rfl, ?_⟩, HB.out⟩
    rw [HC.out.2]
    exact World.ownsRow_nil _ _ _ _
  have hkb : withB v 1 3 = true := by
    unfold withB
    rw [decide_eq_true (show 1 ≤ v by omega), decide_eq_true (show v ≤ 3 by omega)]; rfl
  rw [hkb] at CK
  have HK := hid hk
  clear hkb hk
  go_enter Tryd.func13, Tryd.ntmps13
  go_wp2_with fail
  refine CK.out.mono ?_
  rintro y w1 ⟨rfl, rfl⟩
  go_wp2_with fail
  refine CR.out.mono ?_
  rintro y w1 ⟨rfl, hb1⟩
  have HB1 := hid (chain2 HB.out HB.out.size hb1)
  have HQ1 := hid (HQ.out.below hb1)
  clear hb1 CR x0 x1 x2 x3 x4 x5 x6 x7 x8
  cases hr : rightE e with
  | false =>
    have hc : encC v e = 10 := by unfold encC; rw [if_neg HK.out, if_pos hr]
    have hb0 : encB v e = [] := enc_none (by rw [hc]; decide)
    have HC := hid (And.intro hc hb0)
    clear hc hb0 hr
    go_wp2_with fail
    go_ret2
    refine ⟨⟨_, by rw [HC.out.1] <;> rfl, ?_⟩, HB1.out⟩
    rw [HC.out.2]
    exact World.ownsRow_nil _ _ _ _
  | true =>
  have HR := hid hr
  clear hr
  have x0 : w1.cell? ⟨w.heap.size, 0, none⟩ = some (strV e.key) := HQ1.out.cell 0
  have x1 : w1.cell? ⟨w.heap.size, 1, none⟩ = some (strV e.second) := HQ1.out.cell 1
  have x2 : w1.cell? ⟨w.heap.size, 2, none⟩ = some (.slice no e.names.length nc) := HQ1.out.cell 2
  have x3 : w1.cell? ⟨w.heap.size, 3, none⟩ = some (.int .i64 e.asked) := HQ1.out.cell 3
  have x4 : w1.cell? ⟨w.heap.size, 4, none⟩ = some (.int .i64 e.came) := HQ1.out.cell 4
  have x5 : w1.cell? ⟨w.heap.size, 5, none⟩ = some (.int .i64 e.status) := HQ1.out.cell 5
  have x6 : w1.cell? ⟨w.heap.size, 6, none⟩ = some (.slice fo e.fields.length fc) := HQ1.out.cell 6
  have x7 : w1.cell? ⟨w.heap.size, 7, none⟩ = some (.slice bo e.body.length bc) := HQ1.out.cell 7
  have x8 : w1.cell? ⟨w.heap.size, 8, none⟩ = some (.int .i64 e.gen) := HQ1.out.cell 8
  go_wp2_with fail
  refine (CF.out w1 HB1.out).mono ?_
  rintro y w2 ⟨rfl, hb2⟩
  have HB2 := hid (chain2 HB1.out HB1.out.size hb2)
  have HQ2 := hid (HQ1.out.below hb2)
  clear hb2 CF x0 x1 x2 x3 x4 x5 x6 x7 x8
  cases hf : fitsE v e with
  | false =>
    have hc : encC v e = 51 := encC_lossy HK.out HR.out hf
    have hb0 : encB v e = [] := enc_none (by rw [hc]; decide)
    have HC := hid (And.intro hc hb0)
    clear hc hb0 hf
    go_wp2_with fail
    go_ret2
    refine ⟨⟨_, by rw [HC.out.1] <;> rfl, ?_⟩, HB2.out⟩
    rw [HC.out.2]
    exact World.ownsRow_nil _ _ _ _
  | true =>
  have HF := hid hf
  clear hf
  have x0 : w2.cell? ⟨w.heap.size, 0, none⟩ = some (strV e.key) := HQ2.out.cell 0
  have x1 : w2.cell? ⟨w.heap.size, 1, none⟩ = some (strV e.second) := HQ2.out.cell 1
  have x2 : w2.cell? ⟨w.heap.size, 2, none⟩ = some (.slice no e.names.length nc) := HQ2.out.cell 2
  have x3 : w2.cell? ⟨w.heap.size, 3, none⟩ = some (.int .i64 e.asked) := HQ2.out.cell 3
  have x4 : w2.cell? ⟨w.heap.size, 4, none⟩ = some (.int .i64 e.came) := HQ2.out.cell 4
  have x5 : w2.cell? ⟨w.heap.size, 5, none⟩ = some (.int .i64 e.status) := HQ2.out.cell 5
  have x6 : w2.cell? ⟨w.heap.size, 6, none⟩ = some (.slice fo e.fields.length fc) := HQ2.out.cell 6
  have x7 : w2.cell? ⟨w.heap.size, 7, none⟩ = some (.slice bo e.body.length bc) := HQ2.out.cell 7
  have x8 : w2.cell? ⟨w.heap.size, 8, none⟩ = some (.int .i64 e.gen) := HQ2.out.cell 8
  go_wp2_with fail
  refine (CP.out w2 HB2.out HF.out).mono ?_
  rintro y w3 ⟨⟨v3, rfl, ho3⟩, hb3⟩
  have HB3 := hid (chain2 HB2.out HB2.out.size hb3)
  obtain ⟨f1, f2, f3, f4⟩ := fits_parts HF.out
  have hrl := restB_len (v := v.toNat) (rightE_parts f1)
  have hvn : ((v.toNat : Nat) : Int) = v := by omega
  have hrec := recB_begin v.toNat e
  have hlen : (recB v.toNat e).length = (restB v.toNat e).length + 8 := recB_len _ _
  have henc0 : ¬ 4000 < (recB v.toNat e).length → encC v e = 0 ∧ encB v e = recB v.toNat e := fun h => by
    have hc : encC v e = 0 := by unfold encC; rw [if_neg HK.out, if_neg (by rw [HR.out]; decide), if_neg (by rw [HF.out]; decide), if_neg h]
    exact ⟨hc, by unfold encB; rw [if_pos hc]⟩
  have henc23 : 4000 < (recB v.toNat e).length → encC v e = 23 ∧ encB v e = [] := fun h => by
    have hc : encC v e = 23 := by unfold encC; rw [if_neg HK.out, if_neg (by rw [HR.out]; decide), if_neg (by rw [HF.out]; decide), if_pos h]
    exact ⟨hc, enc_none (by rw [hc]; decide)⟩
  have HV := hid (And.intro f2 hvn)
  obtain ⟨r, hre⟩ : ∃ r, restB v.toNat e = r := ⟨_, rfl⟩
  rw [hre] at hrec hlen hrl ho3
  obtain ⟨ao3, c3, rfl⟩ := ownsRow_bytes_form ho3
  obtain ⟨n, hn⟩ : ∃ n, r.length = n := ⟨_, rfl⟩
  rw [hn] at hlen hrl
  have HO3 := hid ho3
  have HREC := hid hrec
  have HN := hid hn
  rw [hn]
  clear ho3 hb3 f1 f2 f3 f4 hrec hre hn x0 x1 x2 x3 x4 x5 x6 x7 x8
  by_cases h4 : (3992 : Int) < (n : Int)
  · have d4 : decide ((3992 : Int) < (n : Int)) = true := decide_eq_true h4
    obtain ⟨hc, hb0⟩ := henc23 (by omega)
    have HC := hid (And.intro hc hb0)
    clear hc hb0 henc0 henc23
    go_wp2_with fail
    go_ret2
    refine ⟨⟨_, by rw [HC.out.1] <;> rfl, ?_⟩, HB3.out⟩
    rw [HC.out.2]
    exact World.ownsRow_nil _ _ _ _
  have d4 : decide ((3992 : Int) < (n : Int)) = false := decide_eq_false h4
  obtain ⟨hc, hb0⟩ := henc0 (by omega)
  have HC := hid (And.intro hc hb0)
  have hcb := begin_any v.toNat (by have := HV.out; omega) (.slice ao3 r.length c3) r w3 HO3.out.reads (by have := HN.out; omega)
  rw [HV.out.2, HN.out] at hcb
  have CB := hid hcb
  have hrl2 := HO3.out.reads
  have HR3 := hid hrl2
  have hbl := beginB_len v.toNat r
  clear hc hb0 henc0 henc23 hcb hrl2 hlen
  go_wp2_with fail
  refine CB.out.mono ?_
  rintro y w4 ⟨⟨v4, rfl, ho4⟩, hb4⟩
  have HB4 := hid (chain2 HB3.out HB3.out.size hb4)
  have hr4 := HR3.out.below hb4
  rw [HN.out] at hr4
  have hs4 : w3.heap.size ≤ w4.heap.size := hb4.size
  obtain ⟨a4, c4, rfl⟩ := ownsRow_bytes_form ho4
  have hrm : (r.map byteV).length = n := by rw [List.length_map, HN.out]
  rw [hbl] at ho4 ⊢
  go_wp2_with (at_builtin; refine wpList_append_all _ rfl _ _ 25 rfl w3.heap.size 5 Tryd.underlying25 infoU8 rfl (by decide) rfl ho4 hr4 (oneCell_bytes _) rfl (by rw [hrm]; omega) hs4 ?_; intro v7 w7 ho7 hg7 hb7)
  go_ret2
  refine ⟨⟨v7, by rw [HC.out.1] <;> rfl, ?_⟩, HB4.out.trans (hb7.mono HB3.out.size)⟩
  rw [HC.out.2, HREC.out]
  have hfin := own_cat (by rw [hbl]; exact ho7)
  exact World.ownsRow.base hfin HB3.out.size
end Go.Proofs.YtdkhkeffheleeaaDoor
