/-
  Several texts in one: Law13S, Law13A.
-/
import Derived.Test.YtoolboafbkikjaaDoorF1301
import Derived.Test.YtoolboafbkikjaaDoorF1303
import Derived.Test.YtoolboafbkikjaaDoorF1304
import Derived.Test.YtoolboafbkikjaaDoorF13RefFieldB
import Derived.Deep.QuietTactic
import Derived.BigQuiet
import Derived.Laws.StructEq
set_option linter.unusedVariables false
set_option linter.unusedSimpArgs false
/-
  The statements' small and same of layer 13; what the walks take of package pass.
-/
namespace Go.Proofs.YtoolboafbkikjaaDoor
open Go.RowKit Go.Pantry

/-- can fields be gone through with? -/
def smallK (L : List Fld) : Bool := L.all (fun f => decide (f.1.length ≤ 100) && decide (f.2.length ≤ 300)) && decide (L.length ≤ 30)
set_option maxHeartbeats 4000000 in
theorem smallK_any (v : Value) (L : List Fld) (w : World) (hr : Reads2 w v L) (hn : (L.length : Int) ≤ 9223372036854775807) :
    Calls Tryd.prog 11 #[v] w fun e w' => e = .returned (.bool (smallK L)) ∧ Below w.heap.size w w' := by
  obtain ⟨ao, cap, rfl⟩ := hr.form
  have HR := hid hr
  have hrf : smallK L = (L.all (fun f => decide (f.1.length ≤ 100) && decide (f.2.length ≤ 300)) && decide (L.length ≤ 30)) := rfl
  obtain ⟨r, hrr⟩ : ∃ r, smallK L = r := ⟨_, rfl⟩
  rw [hrr] at hrf ⊢
  have HF := hid hrf
  clear hr hrr hrf
  go_enter Tryd.func11, Tryd.ntmps11
  go_wp2
  go_loopw [7] (fun i wr => ∃ (k : Nat), k ≤ L.length ∧ i = .int .i64 k ∧ (L.take k).all (fun f => decide (f.1.length ≤ 100) && decide (f.2.length ≤ 300)) = true ∧ Below w.heap.size w wr) (fun i _ => L.length - (intOf i).toNat)
  case atStart => exact ⟨0, Nat.zero_le _, rfl, rfl, Below.refl _ _⟩
  case round =>
    obtain ⟨k, hk, rfl, hak, hb⟩ := hrel
    have HK := hid hak
    clear hak
    by_cases hlt : k < L.length
    · obtain ⟨f, hf⟩ : ∃ f, L[k]? = some f := ⟨_, List.getElem?_eq_getElem hlt⟩
      obtain ⟨b, off, rfl, hc1, hc2⟩ := (HR.out.below hb).fld hf
      have HM := hid (List.mem_of_getElem? hf)
      have HT := hid (take_fld hf)
      clear hf
      by_cases p1 : (100 : Int) < (f.1.length : Int)
      · have d1 : decide ((100 : Int) < (f.1.length : Int)) = true := decide_eq_true p1
        have hno : r = false := by
          rw [HF.out]
          rw [List.all_eq_false.2 ⟨f, HM.out, by simp; omega⟩]; rfl
        subst hno
        go_wp2_with fail
        go_ret
        exact ⟨rfl, chain2 hb hb.size (below_alloc _ _)⟩
      · by_cases p2 : (300 : Int) < (f.2.length : Int)
        · have d1 : decide ((100 : Int) < (f.1.length : Int)) = false := decide_eq_false p1
          have d2 : decide ((300 : Int) < (f.2.length : Int)) = true := decide_eq_true p2
          have hno : r = false := by
            rw [HF.out]
            rw [List.all_eq_false.2 ⟨f, HM.out, by simp; omega⟩]; rfl
          subst hno
          go_wp2_with fail
          go_ret
          exact ⟨rfl, chain2 hb hb.size (below_alloc _ _)⟩
        · have d1 : decide ((100 : Int) < (f.1.length : Int)) = false := decide_eq_false p1
          have d2 : decide ((300 : Int) < (f.2.length : Int)) = false := decide_eq_false p2
          have p1' : (f.1.length : Int) ≤ 100 := by omega
          have p2' : (f.2.length : Int) ≤ 300 := by omega
          go_wp2_with fail
          go_roundw
          case rel => exact ⟨k + 1, hlt, by go_num, by rw [HT.out, List.all_append, HK.out]; simp; omega, chain2 hb hb.size (below_alloc _ _)⟩
          case measure => simp [intOf]; omega
    · have hyes : r = decide (L.length ≤ 30) := by
        have h := HK.out
        rw [List.take_of_length_le (show L.length ≤ k by omega)] at h
        rw [HF.out, h]; rfl
      have HY := hid hyes
      clear hyes
      by_cases p : (L.length : Int) ≤ 30
      · have d : decide ((L.length : Int) ≤ 30) = true := decide_eq_true p
        have hr1 : r = true := by rw [HY.out]; exact decide_eq_true (by omega)
        subst hr1
        go_wp2_with fail
        go_ret
        exact ⟨rfl, hb⟩
      · have d : decide ((L.length : Int) ≤ 30) = false := decide_eq_false p
        have hr1 : r = false := by rw [HY.out]; exact decide_eq_false (by omega)
        subst hr1
        go_wp2_with fail
        go_ret
        exact ⟨rfl, hb⟩

theorem smallK_ok {L : List Fld} (h : smallK L = true) : SmallF L := by
  unfold smallK at h
  simp only [Bool.and_eq_true, decide_eq_true_eq, List.all_eq_true] at h
  exact ⟨by omega, fun f hf => by have := (h.1 f hf).1; omega, fun f hf => by have := (h.1 f hf).2; omega⟩
theorem smallK_len {L : List Fld} (h : smallK L = true) : L.length ≤ 30 := by
  unfold smallK at h
  simp only [Bool.and_eq_true, decide_eq_true_eq] at h
  exact h.2
theorem same13_any (v x : Value) (L M : List Fld) (w : World) (hr : Reads2 w v L) (hx : Reads2 w x M) (hn : L.length < 1000000) :
    Calls Tryd.prog 16 #[v, x] w fun e w' => e = .returned (.bool (decide (L = M))) ∧ Below w.heap.size w w' := by
  have c1 := hid (Fields_any v L w hr hn)
  have c2 := hid (fun (W : World) (y : Value) (h1 : Reads2 W y L) (h2 : Reads2 W x M) => refSame_any y x L M W h1 h2 hn)
  have HX := hid hx
  clear hr hx
  go_enter Tryd.func16, Tryd.ntmps16
  go_wp2_with fail
  refine c1.out.mono ?_
  rintro e w1 ⟨v1, rfl, ho1, hb1⟩
  have d2 := hid (c2.out _ _ ho1.reads2.2 (HX.out.below hb1))
  have HB1 := hid hb1
  clear hb1 ho1
  go_wp2_with fail
  refine d2.out.mono ?_
  rintro e w2 ⟨rfl, hb2⟩
  have HB2 := hid (chain2 HB1.out HB1.out.size hb2)
  clear hb2 d2
  go_wp2_with fail
  go_ret
  exact ⟨rfl, HB2.out⟩
abbrev InP (z : Int) : Prop := -9223372036854775808 ≤ z ∧ z ≤ 9223372036854775807
def GaveF (w : World) (L : List Fld) (e : Ending) (w' : World) : Prop := (∃ v', e = .returned v' ∧ Reads2 w' v' L) ∧ Below w.heap.size w w'
abbrev FieldsAt13 (w : World) (lv : Value) (l : List Fld) : Prop := Reads2 w lv l ∧ (∀ f ∈ l, f.1.length ≤ maxLen ∧ f.2.length ≤ maxLen) ∧ l.length ≤ maxLen
/-- package pass's contracts that ask nothing of dates, in worlds where Ok holds -/
structure Moves (Ok : World → Prop) : Prop where
  keep : ∀ w w', Ok w → Below w.heap.size w w' → Ok w'
  strip : ∀ (v : Value) (l : List Fld) (w : World), Ok w → Reads2 w v l → WideF l → Calls Tryd.prog 12 #[v] w (GaveF w (stripF l))
  onward : ∀ (v : Value) (l : List Fld) (w : World), Ok w → Reads2 w v l → WideF l → Calls Tryd.prog 18 #[v] w (GaveF w (onwardF l))
  merge : ∀ (cv v : Value) (came said : List Fld) (w : World), Ok w → Reads2 w cv came → Reads2 w v said → WideF came → came.length ≤ 200 → SmallF said → Calls Tryd.prog 22 #[cv, v] w (GaveF w (mergeF came said))
  drops : ∀ (m : List UInt8) (st : Int) (w : World), Ok w → m.length ≤ 1000 → InP st → Calls Tryd.prog 28 #[strV m, .int .i64 st] w fun e w' => e = .returned (.bool (dropsF m st)) ∧ Below w.heap.size w w'
/-- package pass's contracts, in worlds where Ok holds -/
structure Passes (Ok : World → Prop) : Prop extends Moves Ok where
  asking : ∀ (v cv : Value) (req came : List Fld) (w : World), Ok w → Reads2 w v req → Reads2 w cv came → SmallF req → SmallF came → Calls Tryd.prog 20 #[v, cv] w (GaveF w (askingF req came))
  good : ∀ (v cv : Value) (req came : List Fld) (w : World), Ok w → Reads2 w v req → Reads2 w cv came → WideF req → SmallF came → Calls Tryd.prog 26 #[v, cv] w fun e w' => e = .returned (.bool (goodF req came)) ∧ Below w.heap.size w w'
end Go.Proofs.YtoolboafbkikjaaDoor
/-
  The document's example of layer 13.
-/
namespace Go.Proofs.YtoolboafbkikjaaDoor
open Go.RowKit Go.Pantry

theorem guardP : Tryd.prog.eqGuardType Tryd.prog.depth 49 = false := by kernel_rfl
theorem eqlFldP (f g : Fld) (w : World) : (binOp .eql 49 (fldV f) (fldV g)).run Tryd.prog w = .ok (.bool (decide (f = g))) w := by
  have hu : Tryd.prog.underlying 49 = some (.struct (Tryd.prog.fieldsOf 49)) := by kernel_rfl
  have hp : Tryd.prog.stoodInHeld 49 = false := by kernel_rfl
  rw [run_eql_struct, run_equalIn_agg w 9999 _ _ _ hu hp]
  obtain ⟨a, b⟩ := f
  obtain ⟨c, d⟩ := g
  have hf : (Tryd.prog.fieldsOf 49).toList.map (fun x => (x.name == "_", x.type, x.offset)) = [(false, 9, 0), (false, 9, 1)] := by kernel_rfl
  generalize (Tryd.prog.fieldsOf 49).toList = fs at hf
  have hl : fs.length = 2 := by simpa using congrArg List.length hf
  obtain ⟨f0, f1, rfl⟩ : ∃ f0 f1, fs = [f0, f1] := by
    cases fs with
    | nil => simp at hl
    | cons f0 fs =>
      cases fs with
      | nil => simp at hl
      | cons f1 fs =>
        cases fs with
        | nil => exact ⟨f0, f1, rfl⟩
        | cons f2 fs => simp at hl
  simp only [List.map_cons, List.map_nil, List.cons.injEq, Prod.mk.injEq, and_true] at hf
  obtain ⟨⟨n0, t0, o0⟩, n1, t1, o1⟩ := hf
  have n0' : f0.name ≠ "_" := by simpa using n0
  have n1' : f1.name ≠ "_" := by simpa using n1
  have p0 : ∀ (u v : Value) (W : World), (part 9 #[u, v] 0).run Tryd.prog W = .ok u W := by intro u v W; kernel_rfl
  have p1 : ∀ (u v : Value) (W : World), (part 9 #[u, v] 1).run Tryd.prog W = .ok v W := by intro u v W; kernel_rfl
  have q : ∀ (x y : List UInt8) (W : World), (Op.equalIn 9999 9 (strV x) (strV y)).run Tryd.prog W = .ok (x == y) W := by
    intro x y W
    have := run_equalIn_string (P := Tryd.prog) W 9998 9 ⟨x.toArray⟩ ⟨y.toArray⟩ Tryd.underlying9
    rw [Lib.toList_data, Lib.toList_data, dtL, dtL] at this
    exact this
  simp [Op.eqFields, n0', n1', t0, t1, o0, o1, p0, p1, q]
  by_cases e1 : a = c
  · by_cases e2 : b = d <;> simp [e1, e2]
  · simp [e1]

abbrev exP : List Fld := [([67, 111, 110, 110, 101, 99, 116, 105, 111, 110], [99, 108, 111, 115, 101, 44, 32, 120]), ([88], [49]), ([65], [50])]
theorem exP_strip : stripF exP = [([65], [50])] := by decide +kernel
theorem exP_onward : onwardF exP = [([65], [50]), (sViaP, markP)] := by decide +kernel
theorem exP_wide : WideF exP := ⟨by decide, by simp, by simp⟩
set_option maxRecDepth 8000 in
set_option maxHeartbeats 4000000 in
theorem anchor13_any {Ok : World → Prop} (K : Moves Ok) (w : World) (ok : Ok w) :
    Calls Tryd.prog 10 #[] w fun e w' => e = .returned (.bool true) ∧ Below w.heap.size w w' := by
  have c1 := fun (W : World) (v : Value) (o : Ok W) (h : Reads2 W v exP) => K.strip v exP W o h exP_wide
  have c2 := fun (W : World) (v : Value) (o : Ok W) (h : Reads2 W v exP) => K.onward v exP W o h exP_wide
  have c3 := fun (W : World) (o : Ok W) => K.drops [80, 85, 84] 200 W o (by decide) (by decide)
  simp only [exP_strip] at c1
  simp only [exP_onward] at c2
  have e3 : dropsF [80, 85, 84] 200 = true := by decide
  simp only [e3] at c3
  have C1 := hid c1
  have C2 := hid c2
  have C3 := hid c3
  have HK := hid K.keep
  have HOK := hid ok
  clear c1 c2 c3 e3 K ok
  have hb1 := below_alloc w (.cells (fldCells exP).toArray 49)
  have hr1 := (World.ownsRow_lit (e := 49) (size := 2) w (fldCells exP).toArray 3 (Nat.le_refl _) (by unfold maxLen; omega) rfl).reads2 (L := exP)
  have HB1 := hid hb1
  have HR1 := hid hr1.2
  clear hb1 hr1
  go_enter Tryd.func10, Tryd.ntmps10
  go_wp2_with fail
  refine (C1.out _ _ (HK.out _ _ HOK.out HB1.out) HR1.out).mono ?_
  rintro e w2 ⟨⟨v2, rfl, hr2⟩, hb2⟩
  have HB2 := hid (chain2 HB1.out HB1.out.size hb2)
  have HR12 := hid (HR1.out.below hb2)
  have HS2 := hid hr2
  clear hb2 hr2 HB1 HR1 C1
  go_wp2_with fail
  refine (C2.out _ _ (HK.out _ _ HOK.out HB2.out) HR12.out).mono ?_
  rintro e w3 ⟨⟨v3, rfl, hr3⟩, hb3⟩
  have HB3 := hid (chain2 HB2.out HB2.out.size hb3)
  have hs3 := HS2.out.below hb3
  obtain ⟨so, sc, rfl⟩ := hs3.form
  obtain ⟨oo, oc, rfl⟩ := hr3.form
  obtain ⟨b, off, hbo, d1, d2⟩ := hs3.fld (j := 0) rfl
  obtain ⟨b2, off2, hbo2, d3, d4⟩ := hr3.fld (j := 1) rfl
  subst hbo hbo2
  simp only [Nat.zero_mul, Nat.add_zero, Nat.zero_add, Nat.one_mul] at d1 d2 d3 d4
  have heq := eqlFldP (sViaP, markP) (sViaP, markP)
  clear hb3 hr3 hs3 HS2 HB2 HR12 C2
  go_wp2_with fail
  refine (C3.out _ (HK.out _ _ HOK.out HB3.out)).mono ?_
  rintro e w4 ⟨rfl, hb4⟩
  have HB4 := hid (chain2 HB3.out HB3.out.size hb4)
  clear hb4
  go_wp2_with fail
  go_ret
  exact ⟨rfl, HB4.out⟩
end Go.Proofs.YtoolboafbkikjaaDoor
