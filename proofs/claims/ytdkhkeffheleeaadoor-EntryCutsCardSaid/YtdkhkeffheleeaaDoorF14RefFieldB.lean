/-
  Contracts of layer 3: pantrymade.Fields, the document's Same, With, Get.
-/
import Derived.Test.YtdkhkeffheleeaaDoorF1402
import Derived.Deep.QuietTactic
import Derived.BigQuiet
import Derived.Laws.StructEq
set_option linter.unusedVariables false
set_option linter.unusedSimpArgs false

namespace Go.Proofs.YtdkhkeffheleeaaDoor
open Go.RowKit Go.Pantry

theorem guard3 : Tryd.prog.eqGuardType Tryd.prog.depth 74 = false := by kernel_rfl
theorem neqFld3 (f g : Fld) (w : World) : (binOp .neq 74 (fldV f) (fldV g)).run Tryd.prog w = .ok (.bool (!decide (f = g))) w := by
  have hu : Tryd.prog.underlying 74 = some (.struct (Tryd.prog.fieldsOf 74)) := by kernel_rfl
  have hp : Tryd.prog.stoodInHeld 74 = false := by kernel_rfl
  rw [run_neq_struct, run_equalIn_agg w 9999 _ _ _ hu hp]
  obtain ⟨a, b⟩ := f
  obtain ⟨c, d⟩ := g
  have hf : (Tryd.prog.fieldsOf 74).toList.map (fun x => (x.name == "_", x.type, x.offset)) = [(false, 9, 0), (false, 9, 1)] := by kernel_rfl
  generalize (Tryd.prog.fieldsOf 74).toList = fs at hf
  have hl : fs.length = 2 := by simpa using congrArg List.length hf
  obtain ⟨f0, f1, rfl⟩ : ∃ f0 f1, fs = [f0, f1] := by
    cases fs with
    | nil => simp at hl
    | cons f0 fs =>
      cases fs with
      | nil => simp at hl
      | cons f1 fs =>
        cases fs with
        | nil => exact ⟨f0, f1, rfl⟩
        | cons f2 fs => simp at hl
  simp only [List.map_cons, List.map_nil, List.cons.injEq, Prod.mk.injEq, and_true] at hf
  obtain ⟨⟨n0, t0, o0⟩, n1, t1, o1⟩ := hf
  have n0' : f0.name ≠ "_" := by simpa using n0
  have n1' : f1.name ≠ "_" := by simpa using n1
  have p0 : ∀ (u v : Value) (W : World), (part 9 #[u, v] 0).run Tryd.prog W = .ok u W := by intro u v W; kernel_rfl
  have p1 : ∀ (u v : Value) (W : World), (part 9 #[u, v] 1).run Tryd.prog W = .ok v W := by intro u v W; kernel_rfl
  have q : ∀ (x y : List UInt8) (W : World), (Op.equalIn 9999 9 (strV x) (strV y)).run Tryd.prog W = .ok (x == y) W := by
    intro x y W
    have := run_equalIn_string (P := Tryd.prog) W 9998 9 ⟨x.toArray⟩ ⟨y.toArray⟩ Tryd.underlying9
    rw [Lib.toList_data, Lib.toList_data, dtL, dtL] at this
    exact this
  simp [Op.eqFields, n0', n1', t0, t1, o0, o1, p0, p1, q]
  by_cases e1 : a = c
  · by_cases e2 : b = d <;> simp [e1, e2]
  · simp [e1]
set_option maxHeartbeats 1000000 in
theorem refSame_any (v1 v2 : Value) (L M : List Fld) (w : World) (hr1 : Reads2 w v1 L) (hr2 : Reads2 w v2 M) (hn : L.length < 1000000) :
    Calls Tryd.prog 40 #[v1, v2] w fun e w' => e = .returned (.bool (decide (L = M))) ∧ Below w.heap.size w w' := by
  obtain ⟨ao1, cap1, rfl⟩ := hr1.form
  obtain ⟨ao2, cap2, rfl⟩ := hr2.form
  by_cases hl : (L.length : Int) = (M.length : Int)
  · have HR1 := hid hr1
    have HR2 := hid hr2
    have h1 : ((L.length : Int) == (M.length : Int)) = true := by simpa using hl
    have h2 : ((L.length : Int) != (M.length : Int)) = false := by simpa using hl
    have HL := hid hl
    clear hr1 hr2 hl
    go_enter Tryd.func40, Tryd.ntmps40
    go_wp2
    go_loopw [5] (fun i wr => ∃ (k : Nat), k ≤ L.length ∧ i = .int .i64 k ∧ L.take k = M.take k ∧ Below w.heap.size w wr) (fun i _ => L.length - (intOf i).toNat)
    case atStart => exact ⟨0, Nat.zero_le _, rfl, by simp, Below.refl _ _⟩
    case round =>
      obtain ⟨k, hk, rfl, he, hb⟩ := hrel
      have HE := hid he
      clear he
      by_cases hlt : k < L.length
      · have hlM : k < M.length := by have := HL.out; omega
        have hltM : (k : Int) < (M.length : Int) := by omega
        obtain ⟨f, hf⟩ : ∃ f, L[k]? = some f := ⟨_, List.getElem?_eq_getElem hlt⟩
        obtain ⟨g, hg⟩ : ∃ g, M[k]? = some g := ⟨_, List.getElem?_eq_getElem hlM⟩
        obtain ⟨b1, off1, rfl, hc1, hc2⟩ := (HR1.out.below hb).fld hf
        obtain ⟨b2, off2, rfl, hd1, hd2⟩ := (HR2.out.below hb).fld hg
        have HTf := hid (take_fld hf)
        have HTg := hid (take_fld hg)
        clear hf hg
        have gd := guard3
        obtain ⟨q, hq⟩ : ∃ q, decide (f = g) = q := ⟨_, rfl⟩
        have ne := neqFld3 f g
        rw [hq] at ne
        have HQ := hid hq
        clear hq
        cases q
        · go_wp2_with fail
          go_quiet (fail)
          go_wp2_with fail
          have hne : ¬ L = M := by
            intro e
            have h3 := HTf.out
            have h4 := HTg.out
            rw [e, h4] at h3
            have h5 : g = f := by simpa using List.append_cancel_left h3
            exact absurd h5.symm (of_decide_eq_false HQ.out)
          have HN := hid hne
          clear hne
          go_ret
          exact ⟨ret_bool (by simp [HN.out]), chain2 hb hb.size (drewN_below2 _ _)⟩
        · go_wp2_with fail
          go_quiet (fail)
          go_wp2_with fail
          have hfg : f = g := of_decide_eq_true HQ.out
          go_roundw
          case rel => exact ⟨k + 1, hlt, by go_num, by rw [HTf.out, HTg.out, HE.out, hfg], chain2 hb hb.size (drewN_below2 _ _)⟩
          case measure => simp [intOf]; omega
      · have hke : L = M := by
          have h3 := HE.out
          have h4 := HL.out
          rwa [List.take_of_length_le (by omega), List.take_of_length_le (by omega)] at h3
        have HK := hid hke
        clear hke
        go_wp2
        go_ret
        exact ⟨ret_bool (by simp [HK.out]), hb⟩
  · have h1 : ((L.length : Int) == (M.length : Int)) = false := by simpa using hl
    have h2 : ((L.length : Int) != (M.length : Int)) = true := by simpa using hl
    have hne : ¬ L = M := by intro e; rw [e] at hl; exact hl rfl
    have HN := hid hne
    clear hr1 hr2 hl hne
    go_enter Tryd.func40, Tryd.ntmps40
    go_wp2
    go_ret
    exact ⟨ret_bool (by simp [HN.out]), Below.refl _ _⟩
end Go.Proofs.YtdkhkeffheleeaaDoor
