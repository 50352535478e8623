/-
  Several texts in one: Ref14E, SmallEn.
-/
import Derived.Test.YtdkhkeffheleeaaDoorF1403
import Derived.Test.YtdkhkeffheleeaaDoorF1406
/-
  The document's answers of layer 14: Right, Fits, over its names.
-/
set_option linter.unusedVariables false
set_option linter.unusedSimpArgs false
namespace Go.Pantry
open Go.RowKit
/-- an entry that can be gone through with -/
structure SmallE (e : EntP) : Prop where
  key : e.key.length ≤ 5000
  second : e.second.length ≤ 5000
  names : e.names.length ≤ 5000
  each : ∀ n ∈ e.names, n.length ≤ 5000
  flds : e.fields.length ≤ 5000
  fld : ∀ f ∈ e.fields, f.1.length ≤ 5000 ∧ f.2.length ≤ 5000
  body : e.body.length ≤ 5000
theorem right_more {e : EntP} (h : rightE e = true) : 1 ≤ e.key.length ∧ namesOk e.names = true ∧ rightFs e.fields = true := by
  unfold rightE at h
  simp only [Bool.and_eq_true, decide_eq_true_eq] at h
  exact ⟨h.1.1, h.1.2.2.2.1, h.2.2.2.2.1⟩
theorem right_of {e : EntP} (h1 : 1 ≤ e.key.length) (h2 : e.key.length ≤ 1200) (h3 : e.second.length ≤ 600) (h4 : namesOk e.names = true) (h5 : e.body.length ≤ 2048) (h6 : 0 ≤ e.asked) (h7 : e.asked ≤ 253402300799) (h8 : 0 ≤ e.came) (h9 : e.came ≤ 253402300799) (h10 : 200 ≤ e.status) (h11 : e.status ≤ 599) :
    rightE e = (rightFs e.fields && (decide (1 ≤ e.gen) && decide (e.gen ≤ 253402300799))) := by
  unfold rightE
  rw [decide_eq_true h1, decide_eq_true h2, decide_eq_true h3, h4, decide_eq_true h5, decide_eq_true h6, decide_eq_true h7, decide_eq_true h8, decide_eq_true h9, decide_eq_true h10, decide_eq_true h11]
  rfl
end Go.Pantry
namespace Go.Proofs.YtdkhkeffheleeaaDoor
open Go.RowKit Go.Pantry

/-- what the walks take of names -/
def NamesC : Prop := ∀ (v : Value) (ns : List (List UInt8)) (w : World), Reads w v (ns.map strV) → ns.length ≤ 5000 → (∀ n ∈ ns, n.length ≤ 5000) → Calls Tryd.prog 31 #[v] w fun e w' => e = .returned (.bool (namesOk ns)) ∧ Below w.heap.size w w'
set_option maxRecDepth 8000 in
set_option maxHeartbeats 8000000 in
theorem r14Right_any (hN : NamesC) (e : EntP) (nv fv bv : Value) (w : World) (hs : SmallE e) (hat : EntAt w nv fv bv e) :
    Calls Tryd.prog 15 #[.agg (rowE nv fv bv e)] w fun x w' => x = .returned (.bool (rightE e)) ∧ Below w.heap.size w w' := by
  obtain ⟨no, nc, rfl⟩ := hat.names.strs
  obtain ⟨fo, fc, rfl⟩ := hat.flds.form
  obtain ⟨bo, bc, hbv⟩ : ∃ ao cap, bv = .slice ao e.body.length cap := by
    obtain ⟨ao, cap, h, -⟩ := hat.body
    exact ⟨ao, cap, by rw [h, List.length_map]⟩
  subst hbv
  obtain ⟨W0, hW0⟩ : ∃ W, w.alloc (.cells (rowE (.slice no e.names.length nc) (.slice fo e.fields.length fc) (.slice bo e.body.length bc) e) 32) = W := ⟨_, rfl⟩
  have hbW : Below w.heap.size w W0 := by rw [← hW0]; exact below_alloc _ _
  have q1 : rowIs W0 w.heap.size (rowE (.slice no e.names.length nc) (.slice fo e.fields.length fc) (.slice bo e.body.length bc) e) 32 := by rw [← hW0]; exact rowIs_new _ _ _
  have C1 := hid (hN (.slice no e.names.length nc) e.names _ (hat.names.below hbW) hs.names hs.each)
  have C2 := hid (fun (W : World) (h : Below w.heap.size w W) => refRights_any (.slice fo e.fields.length fc) e.fields W (hat.flds.below h) (fun f hf => by have := hs.fld f hf; omega) (fun f hf => by have := hs.fld f hf; omega) (by have := hs.flds; omega))
  have hzk : ((⟨e.key.toArray⟩ : ByteArray).size : Int) = (e.key.length : Int) := by rw [szL]
  have hzs : ((⟨e.second.toArray⟩ : ByteArray).size : Int) = (e.second.length : Int) := by rw [szL]
  have hkl := hs.key
  have hsl := hs.second
  have hbl := hs.body
  have hparts := fun h => rightE_parts (e := e) h
  have hmore := fun h => right_more (e := e) h
  have hof := fun h1 h2 h3 h4 h5 h6 h7 h8 h9 h10 h11 => right_of (e := e) h1 h2 h3 h4 h5 h6 h7 h8 h9 h10 h11
  obtain ⟨R, hR⟩ : ∃ R, rightE e = R := ⟨_, rfl⟩
  rw [hR] at hparts hmore hof ⊢
  have HP := hid hparts
  have HM := hid hmore
  have HO := hid hof
  have HQ := hid q1
  have HB := hid hbW
  clear hparts hmore hof q1 hbW hat hR
  have x0 : W0.cell? ⟨w.heap.size, 0, none⟩ = some (strV e.key) := HQ.out.cell 0
  have x1 : W0.cell? ⟨w.heap.size, 1, none⟩ = some (strV e.second) := HQ.out.cell 1
  have x2 : W0.cell? ⟨w.heap.size, 2, none⟩ = some (.slice no e.names.length nc) := HQ.out.cell 2
  have x7 : W0.cell? ⟨w.heap.size, 7, none⟩ = some (.slice bo e.body.length bc) := HQ.out.cell 7
  go_enter Tryd.func15, Tryd.ntmps15
  by_cases hk0 : (e.key.length : Int) < 1
  · have dk0 : decide ((e.key.length : Int) < 1) = true := decide_eq_true hk0
    have hr0 : R = false := by
      cases hr : R with
      | false => rfl
      | true => exfalso; have := (HM.out hr).1; omega
    subst hr0
    clear HP HM HO hk0
    go_wp2_with fail
    go_ret
    exact ⟨rfl, HB.out⟩
  have dk0 : decide ((e.key.length : Int) < 1) = false := decide_eq_false hk0
  by_cases hk1 : (1200 : Int) < (e.key.length : Int)
  · have dk1 : decide ((1200 : Int) < (e.key.length : Int)) = true := decide_eq_true hk1
    have hr0 : R = false := by
      cases hr : R with
      | false => rfl
      | true => exfalso; have := (HP.out hr).key; omega
    subst hr0
    clear HP HM HO hk1
    go_wp2_with fail
    go_ret
    exact ⟨rfl, HB.out⟩
  have dk1 : decide ((1200 : Int) < (e.key.length : Int)) = false := decide_eq_false hk1
  by_cases hs1 : (600 : Int) < (e.second.length : Int)
  · have ds1 : decide ((600 : Int) < (e.second.length : Int)) = true := decide_eq_true hs1
    have hr0 : R = false := by
      cases hr : R with
      | false => rfl
      | true => exfalso; have := (HP.out hr).second; omega
    subst hr0
    clear HP HM HO hs1
    go_wp2_with fail
    go_ret
    exact ⟨rfl, HB.out⟩
  have ds1 : decide ((600 : Int) < (e.second.length : Int)) = false := decide_eq_false hs1
  go_wp2_with fail
  clear hW0
  refine C1.out.mono ?_
  rintro y1 w1 ⟨rfl, hb1⟩
  have HQ1 := hid (HQ.out.below hb1)
  have HB1 := hid (chain2 HB.out HB.out.size hb1)
  clear x0 x1 x2 x7 hb1 C1
  have x3 : w1.cell? ⟨w.heap.size, 3, none⟩ = some (.int .i64 e.asked) := HQ1.out.cell 3
  have x4 : w1.cell? ⟨w.heap.size, 4, none⟩ = some (.int .i64 e.came) := HQ1.out.cell 4
  have x5 : w1.cell? ⟨w.heap.size, 5, none⟩ = some (.int .i64 e.status) := HQ1.out.cell 5
  have x6 : w1.cell? ⟨w.heap.size, 6, none⟩ = some (.slice fo e.fields.length fc) := HQ1.out.cell 6
  have x7 : w1.cell? ⟨w.heap.size, 7, none⟩ = some (.slice bo e.body.length bc) := HQ1.out.cell 7
  have x8 : w1.cell? ⟨w.heap.size, 8, none⟩ = some (.int .i64 e.gen) := HQ1.out.cell 8
  cases hn : namesOk e.names with
  | false =>
    have hr0 : R = false := by
      cases hr : R with
      | false => rfl
      | true => exfalso; have := (HM.out hr).2.1; rw [hn] at this; cases this
    subst hr0
    clear HP HM HO hn
    go_wp2_with fail
    go_ret
    exact ⟨rfl, HB1.out⟩
  | true =>
  by_cases hb1 : (2048 : Int) < (e.body.length : Int)
  · have db1 : decide ((2048 : Int) < (e.body.length : Int)) = true := decide_eq_true hb1
    have hr0 : R = false := by
      cases hr : R with
      | false => rfl
      | true => exfalso; have := (HP.out hr).body; omega
    subst hr0
    clear HP HM HO hb1
    go_wp2_with fail
    go_ret
    exact ⟨rfl, HB1.out⟩
  have db1 : decide ((2048 : Int) < (e.body.length : Int)) = false := decide_eq_false hb1
  by_cases ha0 : e.asked < 0
  · have da0 : decide (e.asked < 0) = true := decide_eq_true ha0
    have hr0 : R = false := by
      cases hr : R with
      | false => rfl
      | true => exfalso; have := (HP.out hr).asked; omega
    subst hr0
    clear HP HM HO ha0
    go_wp2_with fail
    go_ret
    exact ⟨rfl, HB1.out⟩
  have da0 : decide (e.asked < 0) = false := decide_eq_false ha0
  by_cases ha1 : (253402300799 : Int) < e.asked
  · have da1 : decide ((253402300799 : Int) < e.asked) = true := decide_eq_true ha1
    have hr0 : R = false := by
      cases hr : R with
      | false => rfl
      | true => exfalso; have := (HP.out hr).asked; omega
    subst hr0
    clear HP HM HO ha1
    go_wp2_with fail
    go_ret
    exact ⟨rfl, HB1.out⟩
  have da1 : decide ((253402300799 : Int) < e.asked) = false := decide_eq_false ha1
  by_cases hc0 : e.came < 0
  · have dc0 : decide (e.came < 0) = true := decide_eq_true hc0
    have hr0 : R = false := by
      cases hr : R with
      | false => rfl
      | true => exfalso; have := (HP.out hr).came; omega
    subst hr0
    clear HP HM HO hc0
    go_wp2_with fail
    go_ret
    exact ⟨rfl, HB1.out⟩
  have dc0 : decide (e.came < 0) = false := decide_eq_false hc0
  by_cases hc1 : (253402300799 : Int) < e.came
  · have dc1 : decide ((253402300799 : Int) < e.came) = true := decide_eq_true hc1
    have hr0 : R = false := by
      cases hr : R with
      | false => rfl
      | true => exfalso; have := (HP.out hr).came; omega
    subst hr0
    clear HP HM HO hc1
    go_wp2_with fail
    go_ret
    exact ⟨rfl, HB1.out⟩
  have dc1 : decide ((253402300799 : Int) < e.came) = false := decide_eq_false hc1
  by_cases ht0 : e.status < 200
  · have dt0 : decide (e.status < 200) = true := decide_eq_true ht0
    have hr0 : R = false := by
      cases hr : R with
      | false => rfl
      | true => exfalso; have := (HP.out hr).status; omega
    subst hr0
    clear HP HM HO ht0
    go_wp2_with fail
    go_ret
    exact ⟨rfl, HB1.out⟩
  have dt0 : decide (e.status < 200) = false := decide_eq_false ht0
  by_cases ht1 : (599 : Int) < e.status
  · have dt1 : decide ((599 : Int) < e.status) = true := decide_eq_true ht1
    have hr0 : R = false := by
      cases hr : R with
      | false => rfl
      | true => exfalso; have := (HP.out hr).status; omega
    subst hr0
    clear HP HM HO ht1
    go_wp2_with fail
    go_ret
    exact ⟨rfl, HB1.out⟩
  have dt1 : decide ((599 : Int) < e.status) = false := decide_eq_false ht1
  have hfin := HO.out (by omega) (by omega) (by omega) hn (by omega) (by omega) (by omega) (by omega) (by omega) (by omega) (by omega)
  have HF := hid hfin
  clear hfin hn HP HM HO
  go_wp2_with fail
  refine (C2.out _ HB1.out).mono ?_
  rintro y2 w2 ⟨rfl, hb2⟩
  have HQ2 := hid (HQ1.out.below hb2)
  have HB2 := hid (chain2 HB1.out HB1.out.size hb2)
  clear x3 x4 x5 x6 x7 x8 hb2 C2
  have x8 : w2.cell? ⟨w.heap.size, 8, none⟩ = some (.int .i64 e.gen) := HQ2.out.cell 8
  generalize rightFs e.fields = b0 at HF ⊢
  obtain ⟨b1, hb1⟩ : ∃ b, decide (1 ≤ e.gen) = b := ⟨_, rfl⟩
  obtain ⟨b2, hb2⟩ : ∃ b, decide (e.gen ≤ 253402300799) = b := ⟨_, rfl⟩
  rw [hb1, hb2] at HF
  cases b0 <;> cases b1
  all_goals
    go_wp2_with fail
    go_ret
    exact ⟨ret_bool (by rw [HF.out]; rfl), HB2.out⟩
end Go.Proofs.YtdkhkeffheleeaaDoor
/-
  pantrymade.SmallEntry: can an entry be gone through with?
-/
set_option linter.unusedVariables false
set_option linter.unusedSimpArgs false
namespace Go.Pantry
open Go.RowKit
def smallE (e : EntP) : Bool :=
  e.fields.all (fun f => decide (f.1.length ≤ 200) && decide (f.2.length ≤ 1100)) && (e.names.all (fun n => decide (n.length ≤ 100)) && (decide (e.key.length ≤ 1300) && (decide (e.second.length ≤ 700) && (decide (e.names.length ≤ 20) && (decide (e.fields.length ≤ 70) && decide (e.body.length ≤ 2100))))))
theorem smallE_ok {e : EntP} (h : smallE e = true) : SmallE e := by
  unfold smallE at h
  simp only [Bool.and_eq_true, decide_eq_true_eq, List.all_eq_true] at h
  exact ⟨by omega, by omega, by omega, fun n hn => by have := h.2.1 n hn; omega, by omega, fun f hf => by have := h.1 f hf; omega, by omega⟩
theorem smallE_fld {e : EntP} {f : Fld} (hf : f ∈ e.fields) (h : ¬ (f.1.length ≤ 200 ∧ f.2.length ≤ 1100)) : smallE e = false := by
  unfold smallE
  rw [List.all_eq_false.2 ⟨f, hf, by simp only [Bool.and_eq_true, decide_eq_true_eq]; exact h⟩]; rfl
theorem smallE_name {e : EntP} {n : List UInt8} (hf : n ∈ e.names) (h : ¬ n.length ≤ 100) : smallE e = false := by
  unfold smallE
  rw [List.all_eq_false.2 ⟨n, hf, by simpa using h⟩]
  simp
end Go.Pantry
namespace Go.Proofs.YtdkhkeffheleeaaDoor
open Go.RowKit Go.Pantry

set_option maxRecDepth 8000 in
set_option maxHeartbeats 8000000 in
theorem smallE_any (e : EntP) (nv fv bv : Value) (w : World) (hat : EntAt w nv fv bv e) (hl1 : e.names.length ≤ 9223372036854775807) (hl2 : e.fields.length ≤ 9223372036854775807) :
    Calls Tryd.prog 11 #[.agg (rowE nv fv bv e)] w fun x w' => x = .returned (.bool (smallE e)) ∧ Below w.heap.size w w' := by
  obtain ⟨no, nc, rfl⟩ := hat.names.strs
  obtain ⟨fo, fc, rfl⟩ := hat.flds.form
  obtain ⟨bo, bc, hbv⟩ : ∃ ao cap, bv = .slice ao e.body.length cap := by
    obtain ⟨ao, cap, h, -⟩ := hat.body
    exact ⟨ao, cap, by rw [h, List.length_map]⟩
  subst hbv
  obtain ⟨W0, hW0⟩ : ∃ W, w.alloc (.cells (rowE (.slice no e.names.length nc) (.slice fo e.fields.length fc) (.slice bo e.body.length bc) e) 27) = W := ⟨_, rfl⟩
  have hbW : Below w.heap.size w W0 := by rw [← hW0]; exact below_alloc _ _
  have q1 : rowIs W0 w.heap.size (rowE (.slice no e.names.length nc) (.slice fo e.fields.length fc) (.slice bo e.body.length bc) e) 27 := by rw [← hW0]; exact rowIs_new _ _ _
  have HA := hid (hat.below hbW)
  have HQ := hid q1
  have HB := hid hbW
  obtain ⟨R, hR⟩ : ∃ R, smallE e = R := ⟨_, rfl⟩
  have HF := hid (fun (f : Fld) (hf : f ∈ e.fields) h => hR.symm.trans (smallE_fld hf h))
  have HN := hid (fun (f : List UInt8) (hf : f ∈ e.names) h => hR.symm.trans (smallE_name hf h))
  rw [hR]
  have HRR := hid hR
  have hzk : ((⟨e.key.toArray⟩ : ByteArray).size : Int) = (e.key.length : Int) := by rw [szL]
  have hzs : ((⟨e.second.toArray⟩ : ByteArray).size : Int) = (e.second.length : Int) := by rw [szL]
  clear hat hbW q1 hR
  have x6 : W0.cell? ⟨w.heap.size, 6, none⟩ = some (.slice fo e.fields.length fc) := HQ.out.cell 6
  go_enter Tryd.func11, Tryd.ntmps11
  go_wp2_with fail
  clear hW0 x6
  go_loopw [10] (fun i wr => ∃ k : Nat, k ≤ e.fields.length ∧ i = .int .i64 (k : Int) ∧ (∀ f ∈ e.fields.take k, f.1.length ≤ 200 ∧ f.2.length ≤ 1100) ∧ Below W0.heap.size W0 wr) (fun i _ => e.fields.length - (intOf i).toNat)
  case atStart => exact ⟨0, Nat.zero_le _, rfl, by simp, Below.refl _ _⟩
  case round =>
    obtain ⟨k, hk, rfl, hall, hbr⟩ := hrel
    have HAL := hid hall
    have HBW := hid (chain2 HB.out HB.out.size hbr)
    clear hall
    by_cases hlt : k < e.fields.length
    · obtain ⟨f, hf⟩ : ∃ f, e.fields[k]? = some f := ⟨_, List.getElem?_eq_getElem hlt⟩
      obtain ⟨bb, off, hao, hc1, hc2⟩ := (HA.out.flds.below hbr).fld hf
      subst hao
      have hm := List.mem_of_getElem? hf
      have HT := hid (take_fld hf)
      have HBR := hid hbr
      have hkI : (k : Int) < (e.fields.length : Int) := by omega
      have hk0 : (0 : Int) ≤ (k : Int) := by omega
      have hkw : IntKind.i64.wrap ((k : Int) + 1) = (k : Int) + 1 := IntWalk.i64_in _ (by omega)
      have hff := HF.out f hm
      clear hf hbr hm
      by_cases p1 : (200 : Int) < (f.1.length : Int)
      · have d1 : decide ((200 : Int) < (f.1.length : Int)) = true := decide_eq_true p1
        have hr := hff (by omega)
        subst hr
        go_wp2_with fail
        go_ret
        exact ⟨rfl, chain2 HBW.out HBW.out.size (below_alloc _ _)⟩
      have d1 : decide ((200 : Int) < (f.1.length : Int)) = false := decide_eq_false p1
      by_cases p2 : (1100 : Int) < (f.2.length : Int)
      · have d2 : decide ((1100 : Int) < (f.2.length : Int)) = true := decide_eq_true p2
        have hr := hff (by omega)
        subst hr
        go_wp2_with fail
        go_ret
        exact ⟨rfl, chain2 HBW.out HBW.out.size (below_alloc _ _)⟩
      have d2 : decide ((1100 : Int) < (f.2.length : Int)) = false := decide_eq_false p2
      have HPP := hid (show f.1.length ≤ 200 ∧ f.2.length ≤ 1100 by omega)
      have HK := hid (show ∀ g ∈ e.fields.take (k + 1), g.1.length ≤ 200 ∧ g.2.length ≤ 1100 by
        intro g hg
        rw [HT.out] at hg
        rcases List.mem_append.1 hg with h | h
        · exact HAL.out g h
        · rw [List.mem_singleton.1 h]; exact HPP.out)
      clear hff
      go_wp2_with fail
      go_roundw
      case rel => exact ⟨k + 1, hlt, by go_num, HK.out, chain2 HBR.out HBR.out.size (below_alloc _ _)⟩
      case measure => simp [intOf]; omega
    · have hkd : decide ((k : Int) < (e.fields.length : Int)) = false := decide_eq_false (by omega)
      have hft : e.fields.take k = e.fields := List.take_of_length_le (by omega)
      rw [hft] at HAL
      have HQr := hid (HQ.out.below hbr)
      have HAr := hid (HA.out.names.below hbr)
      have x2 : wr.cell? ⟨w.heap.size, 2, none⟩ = some (.slice no e.names.length nc) := HQr.out.cell 2
      clear hft hbr HF
      go_wp2_with fail
      obtain ⟨w5, hw5⟩ : ∃ x, wr = x := ⟨_, rfl⟩
      rw [hw5] at HBW HQr HAr ⊢
      clear x2 hw5 hkd
      go_loopw [28] (fun i wr => ∃ j : Nat, j ≤ e.names.length ∧ i = .int .i64 (j : Int) ∧ (∀ n ∈ e.names.take j, n.length ≤ 100) ∧ Below w5.heap.size w5 wr) (fun i _ => e.names.length - (intOf i).toNat)
      case atStart => exact ⟨0, Nat.zero_le _, rfl, by simp, Below.refl _ _⟩
      case round =>
        obtain ⟨j, hj, rfl, hall, hbr⟩ := hrel
        have HAN := hid hall
        have HBX := hid (chain2 HBW.out HBW.out.size hbr)
        clear hall
        by_cases hlt2 : j < e.names.length
        · obtain ⟨s, hs⟩ : ∃ s, e.names[j]? = some s := ⟨_, List.getElem?_eq_getElem hlt2⟩
          obtain ⟨bb, off, hao, d0⟩ := (HAr.out.below hbr).str hs
          subst hao
          have hm := List.mem_of_getElem? hs
          have HT := hid (take_str hs)
          have HBR := hid hbr
          have hkI : (j : Int) < (e.names.length : Int) := by omega
          have hk0 : (0 : Int) ≤ (j : Int) := by omega
          have hkw : IntKind.i64.wrap ((j : Int) + 1) = (j : Int) + 1 := IntWalk.i64_in _ (by omega)
          have hz : ((⟨s.toArray⟩ : ByteArray).size : Int) = (s.length : Int) := by rw [szL]
          have hff := HN.out s hm
          clear hs hbr hm
          by_cases p1 : (100 : Int) < (s.length : Int)
          · have d1 : decide ((100 : Int) < (s.length : Int)) = true := decide_eq_true p1
            have hr := hff (by omega)
            subst hr
            go_wp2_with fail
            go_ret
            exact ⟨rfl, HBX.out⟩
          have d1 : decide ((100 : Int) < (s.length : Int)) = false := decide_eq_false p1
          have HPP := hid (show s.length ≤ 100 by omega)
          have HK := hid (show ∀ g ∈ e.names.take (j + 1), g.length ≤ 100 by
            intro g hg
            rw [HT.out] at hg
            rcases List.mem_append.1 hg with h | h
            · exact HAN.out g h
            · rw [List.mem_singleton.1 h]; exact HPP.out)
          clear hff
          go_wp2_with fail
          go_roundw
          case rel => exact ⟨j + 1, hlt2, by go_num, HK.out, HBR.out⟩
          case measure => simp [intOf]; omega
        · have hjd : decide ((j : Int) < (e.names.length : Int)) = false := decide_eq_false (by omega)
          have hnt : e.names.take j = e.names := List.take_of_length_le (by omega)
          rw [hnt] at HAN
          have HQx := hid (HQr.out.below hbr)
          have hfin : R = (decide (e.key.length ≤ 1300) && (decide (e.second.length ≤ 700) && (decide (e.names.length ≤ 20) && (decide (e.fields.length ≤ 70) && decide (e.body.length ≤ 2100))))) := by
            rw [← HRR.out]
            unfold smallE
            rw [List.all_eq_true.2 (fun f hf => by have := HAL.out f hf; simpa using this), List.all_eq_true.2 (fun f hf => by have := HAN.out f hf; simpa using this)]
            rfl
          have HFI := hid hfin
          have z0 : wr.cell? ⟨w.heap.size, 0, none⟩ = some (strV e.key) := HQx.out.cell 0
          have z1 : wr.cell? ⟨w.heap.size, 1, none⟩ = some (strV e.second) := HQx.out.cell 1
          have z2 : wr.cell? ⟨w.heap.size, 2, none⟩ = some (.slice no e.names.length nc) := HQx.out.cell 2
          have z6 : wr.cell? ⟨w.heap.size, 6, none⟩ = some (.slice fo e.fields.length fc) := HQx.out.cell 6
          have z7 : wr.cell? ⟨w.heap.size, 7, none⟩ = some (.slice bo e.body.length bc) := HQx.out.cell 7
          obtain ⟨b0, hb0⟩ : ∃ b, decide ((e.key.length : Int) ≤ 1300) = b := ⟨_, rfl⟩
          have g0 : decide (e.key.length ≤ 1300) = b0 := by rw [← hb0]; exact decide_eq_decide.2 (by omega)
          obtain ⟨b1, hb1⟩ : ∃ b, decide ((e.second.length : Int) ≤ 700) = b := ⟨_, rfl⟩
          have g1 : decide (e.second.length ≤ 700) = b1 := by rw [← hb1]; exact decide_eq_decide.2 (by omega)
          obtain ⟨b2, hb2⟩ : ∃ b, decide ((e.names.length : Int) ≤ 20) = b := ⟨_, rfl⟩
          have g2 : decide (e.names.length ≤ 20) = b2 := by rw [← hb2]; exact decide_eq_decide.2 (by omega)
          obtain ⟨b3, hb3⟩ : ∃ b, decide ((e.fields.length : Int) ≤ 70) = b := ⟨_, rfl⟩
          have g3 : decide (e.fields.length ≤ 70) = b3 := by rw [← hb3]; exact decide_eq_decide.2 (by omega)
          obtain ⟨b4, hb4⟩ : ∃ b, decide ((e.body.length : Int) ≤ 2100) = b := ⟨_, rfl⟩
          have g4 : decide (e.body.length ≤ 2100) = b4 := by rw [← hb4]; exact decide_eq_decide.2 (by omega)
          rw [g0, g1, g2, g3, g4] at HFI
          clear hnt hbr hfin HN
          cases b0 <;> cases b1 <;> cases b2 <;> cases b3
          all_goals
            go_wp2_with fail
            go_ret
            exact ⟨ret_bool (by rw [HFI.out] <;> rfl), HBX.out⟩
end Go.Proofs.YtdkhkeffheleeaaDoor
