/-
  Several texts in one: Info, Info3, RefFieldM, RefSignB, RefFieldI, RefFieldA, RefFieldD.
-/
import Derived.Test.YtoolboafbkikjaaDoorProg
import Derived.Test.YtoolboafbkikjaaDoorPureAll1
set_option linter.unusedVariables false
set_option linter.unusedSimpArgs false
/-
  Facts on types that several texts want.
-/
namespace Go.Proofs.YtoolboafbkikjaaDoor
open Go.RowKit
theorem infoU8 : (Tryd.prog.info? 5).map (fun i => (i.zero, i.size, i.bytes)) = some (some (.int .u8 0), 1, 1) := by kernel_rfl
theorem infoStr : (Tryd.prog.info? 9).map (fun i => (i.zero, i.size, i.bytes)) = some (some (.string ⟨#[]⟩), 1, 16) := by kernel_rfl
theorem infoBool : (Tryd.prog.info? 4).map (fun i => (i.zero, i.size, i.bytes)) = some (some (.bool false), 1, 1) := by kernel_rfl
end Go.Proofs.YtoolboafbkikjaaDoor
/-
  The size of a field as the document has it.
-/
namespace Go.Proofs.YtoolboafbkikjaaDoor
open Go.RowKit Go.Pantry

theorem infoFld3 : (Tryd.prog.info? 54).map (fun i => (i.zero, i.size, i.bytes)) = some (some (.agg #[.string ⟨#[]⟩, .string ⟨#[]⟩]), 2, 32) := by kernel_rfl
end Go.Proofs.YtoolboafbkikjaaDoor
/-
  Contract of pantrymade.Fields.
-/
namespace Go.Proofs.YtoolboafbkikjaaDoor
open Go.RowKit Go.Pantry

set_option maxHeartbeats 1000000 in
theorem Fields_any (v : Value) (L : List Fld) (w : World) (hr : Reads2 w v L) (hn : L.length < 1000000) :
    Calls Tryd.prog 15 #[v] w fun e w' => ∃ v', e = .returned v' ∧ w'.ownsRow w.heap.size 54 2 v' L.length (fldCells L) ∧ Below w.heap.size w w' := by
  obtain ⟨ao, cap, rfl⟩ := hr.form
  have HR := hid hr
  clear hr
  go_enter Tryd.func15, Tryd.ntmps15
  go_wp2
  go_loopw [3, 8] (fun v' i wr => ∃ (k : Nat), k ≤ L.length ∧ i = .int .i64 k ∧ wr.ownsRow w.heap.size 54 2 v' k (fldCells (L.take k)) ∧ Below w.heap.size w wr) (fun _ i _ => L.length - (intOf i).toNat)
  case atStart => exact ⟨0, Nat.zero_le _, rfl, World.ownsRow_nil _ _ _ _, Below.refl _ _⟩
  case round =>
    obtain ⟨k, hk, rfl, ho, hb⟩ := hrel
    have hs := hb.size
    by_cases hlt : k < L.length
    · obtain ⟨f, hf⟩ : ∃ f, L[k]? = some f := ⟨_, List.getElem?_eq_getElem hlt⟩
      obtain ⟨b, off, rfl, hc1, hc2⟩ := (HR.out.below hb).fld hf
      have HT := hid (take_fld hf)
      clear hf
      have ho1 := ho.alloc (.cells #[strV f.1, strV f.2] 49)
      have hb1 := hb.trans ((below_alloc wr (.cells #[strV f.1, strV f.2] 49)).mono hs)
      have hs1 := hb1.size
      go_wp2_with ((at_builtin; go_must (refine wpList_append_fld _ rfl _ _ 31 rfl w.heap.size 54 Tryd.underlying31 infoFld3 rfl (by decide) rfl ho1 f rfl (by first | rfl | simp) (by omega) hs1 ?_); intro v' w3 hown3 hb3))
      go_roundw
      case rel => exact ⟨k + 1, hlt, by go_num, by rw [HT.out]; exact hown3, hb1.trans hb3⟩
      case measure => simp [intOf]; omega
    · have hk2 : k = L.length := by omega
      subst hk2
      rw [List.take_length] at ho
      go_wp2
      go_ret
      exact ⟨_, rfl, ho, hb⟩
end Go.Proofs.YtoolboafbkikjaaDoor
/-
  Contracts of the document's answers of layer 1: Lower.
-/
namespace Go.Proofs.YtoolboafbkikjaaDoor
open Go.RowKit Go.Pantry


set_option maxRecDepth 4000 in
theorem refLower_any (s : ByteArray) (w : World) (hs : s.size < 4294967296) :
    Calls Tryd.prog 50 #[.string s] w fun e w' => e = .returned (.string ⟨(lowerL s.data.toList).toArray⟩) ∧ Below w.heap.size w w' := by
  go_enter Tryd.func50, Tryd.ntmps50
  go_wp2
  go_loopw [3, 4] (fun v i wr => ∃ k : Nat, k ≤ s.size ∧ i = .int .i64 k ∧ wr.ownsRow w.heap.size 5 1 v k ((lowerL (s.data.toList.take k)).map byteV) ∧ Below w.heap.size w wr) (fun _ i _ => s.size - (intOf i).toNat)
  case atStart => exact ⟨0, Nat.zero_le _, rfl, World.ownsRow_nil _ _ _ _, Below.refl _ _⟩
  case round =>
    obtain ⟨k, hk, rfl, hown, hb⟩ := hrel
    have hB := hb.size
    have hcv := ownsRow_string hown 46 9 Tryd.underlying46 Tryd.underlying5 Tryd.underlying9
    go_wp2_with ((at_builtin; refine wpList_append_one _ rfl _ _ 46 rfl w.heap.size 5 Tryd.underlying46 infoU8 rfl (by decide) rfl hown rfl rfl (by omega) hB ?_; intro v' w1 hown1 hg1 hb1))
    iterate 3
      · go_roundw
        case rel =>
          have hlt : k < s.size := by assumption
          refine ⟨k + 1, by omega, by go_num, ?_, hb.trans hb1⟩
          rw [take_succ_list s k hlt, lower_snoc, List.map_append]
          have e := low_any s[k]
          first
            | (rw [if_pos (by omega)] at e; simpa [byteV, e] using hown1)
            | (rw [if_neg (by omega)] at e; simpa [byteV, e] using hown1)
        case measure => simp [intOf]; omega
    · have hlt : ¬ k < s.size := by assumption
      go_ret
      refine ⟨ret_str ?_, hb⟩
      rw [take_all s k hlt]
end Go.Proofs.YtoolboafbkikjaaDoor
/-
  Contract of the document's answers of layer 3: Is.
-/
namespace Go.Proofs.YtoolboafbkikjaaDoor
open Go.RowKit Go.Pantry

theorem refIs_any (f : Fld) (n : ByteArray) (w : World) (h1 : f.1.length < 4294967296) (h2 : n.size < 4294967296) :
    Calls Tryd.prog 48 #[fldV f, .string n] w fun e w' => e = .returned (.bool (isF n.data.toList f)) ∧ Below w.heap.size w w' := by
  obtain ⟨a, b⟩ := f
  have c1 := fun W => refLower_any ⟨a.toArray⟩ W (by rw [szL]; exact h1)
  rw [dtL] at c1
  have c2 := fun W => refLower_any n W h2
  have C1 := hid c1
  have C2 := hid c2
  clear c1 c2
  go_enter Tryd.func48, Tryd.ntmps48
  go_wp2_with fail
  refine (C1.out _).mono ?_
  rintro e w1 ⟨rfl, hb1⟩
  go_wp2_with fail
  refine (C2.out _).mono ?_
  rintro e w2 ⟨rfl, hb2⟩
  go_wp2_with fail
  go_ret
  exact ⟨rfl, chain2 ((below_alloc _ _).trans (hb1.mono (by simp))) (Nat.le_trans (by simp) hb1.size) hb2⟩

end Go.Proofs.YtoolboafbkikjaaDoor
/-
  Contract of the document's answers of layer 3: Without.
-/
namespace Go.Proofs.YtoolboafbkikjaaDoor
open Go.RowKit Go.Pantry

set_option maxHeartbeats 1000000 in
theorem refWithout_any (v : Value) (L : List Fld) (n : ByteArray) (w : World) (hr : Reads2 w v L) (hL : ∀ f ∈ L, f.1.length < 4294967296) (hn : L.length < 1000000) (h2 : n.size < 4294967296) :
    Calls Tryd.prog 42 #[v, .string n] w fun e w' => MadeFlds 54 w.heap.size (outF L n.data.toList) e w' ∧ Below w.heap.size w w' := by
  obtain ⟨ao, cap, rfl⟩ := hr.form
  have HR := hid hr
  have HL := hid hL
  clear hr hL
  go_enter Tryd.func42, Tryd.ntmps42
  go_wp2
  go_loopw [5, 6] (fun v' i wr => ∃ (k m : Nat), k ≤ L.length ∧ m ≤ k ∧ i = .int .i64 k ∧ wr.ownsRow w.heap.size 54 2 v' m (fldCells (outF (L.take k) n.data.toList)) ∧ Below w.heap.size w wr) (fun _ i _ => L.length - (intOf i).toNat)
  case atStart => exact ⟨0, 0, Nat.zero_le _, Nat.le_refl _, rfl, World.ownsRow_nil _ _ _ _, Below.refl _ _⟩
  case round =>
    obtain ⟨k, m, hk, hm, rfl, ho, hb⟩ := hrel
    have hs := hb.size
    by_cases hlt : k < L.length
    · obtain ⟨f, hf⟩ : ∃ f, L[k]? = some f := ⟨_, List.getElem?_eq_getElem hlt⟩
      obtain ⟨b, off, rfl, hc1, hc2⟩ := (HR.out.below hb).fld hf
      have hfl := HL.out f (List.mem_of_getElem? hf)
      have HT := hid (take_fld hf)
      clear hf
      have hst := outF_snoc (L.take k) n.data.toList f
      rw [← HT.out] at hst
      obtain ⟨q, hq⟩ : ∃ q, isF n.data.toList f = q := ⟨_, rfl⟩
      have cI := fun W => refIs_any f n W hfl h2
      rw [hq] at hst cI
      have CI := hid cI
      have HS := hid hst
      clear cI hst hq
      cases q
      · go_wp2_with fail
        refine (CI.out _).mono ?_
        rintro e w2 ⟨rfl, hb2⟩
        have hbn := chain2 hb hs hb2
        have ho2 := ho.below hb2
        have hs2 := hbn.size
        obtain ⟨b', off', hbo, hd1, hd2⟩ := (HR.out.below hbn).fld (j := k) (p := f) (by have := HT.out; exact fld_of_take hlt this)
        cases hbo
        clear hb2 hc1 hc2 hb hs ho
        go_wp2_with ((at_builtin; go_must (refine wpList_append_fld _ rfl _ _ 31 rfl w.heap.size 54 Tryd.underlying31 infoFld3 rfl (by decide) rfl ho2 f rfl (by first | rfl | simp) (by omega) hs2 ?_); intro v' w3 hown3 hb3))
        go_roundw
        case rel => exact ⟨k + 1, m + 1, hlt, by omega, by go_num, by rw [HS.out]; exact hown3, hbn.trans hb3⟩
        case measure => simp [intOf]; omega
      · go_wp2_with fail
        refine (CI.out _).mono ?_
        rintro e w2 ⟨rfl, hb2⟩
        have hbn := chain2 hb hs hb2
        have ho2 := ho.below hb2
        clear hb2 hc1 hc2 hb hs ho
        go_wp2_with fail
        go_roundw
        case rel => exact ⟨k + 1, m, hlt, by omega, by go_num, by rw [HS.out]; simpa using ho2, hbn⟩
        case measure => simp [intOf]; omega
    · have hk2 : L.take k = L := List.take_of_length_le (by omega)
      rw [hk2] at ho
      clear hk2
      go_wp2
      go_ret
      exact ⟨⟨_, m, rfl, ho⟩, hb⟩
end Go.Proofs.YtoolboafbkikjaaDoor
/-
  Contracts of the document's answers of layer 3: Get.
-/
namespace Go.Proofs.YtoolboafbkikjaaDoor
open Go.RowKit Go.Pantry

set_option maxHeartbeats 4000000 in
theorem refGet_any (v : Value) (L : List Fld) (n : ByteArray) (w : World) (hr : Reads2 w v L) (hL : ∀ f ∈ L, f.1.length < 4294967296) (hV : ∀ f ∈ L, f.2.length ≤ 100000) (hn : L.length ≤ 1000) (h2 : n.size < 4294967296) :
    Calls Tryd.prog 41 #[v, .string n] w fun e w' => e = .returned (.tuple #[strV (getF L n.data.toList), .int .i64 ((allF L n.data.toList).length : Int)]) ∧ Below w.heap.size w w' := by
  obtain ⟨ao, cap, rfl⟩ := hr.form
  have HR := hid hr
  have HL := hid hL
  have HV := hid hV
  clear hr hL hV
  go_enter Tryd.func41, Tryd.ntmps41
  go_wp2
  go_loopw [6, 7, 8] (fun s c i wr => ∃ (k : Nat), k ≤ L.length ∧ i = .int .i64 k ∧ s = strV (getF (L.take k) n.data.toList) ∧ c = .int .i64 ((allF (L.take k) n.data.toList).length : Int) ∧ Below w.heap.size w wr) (fun _ _ i _ => L.length - (intOf i).toNat)
  case atStart => exact ⟨0, Nat.zero_le _, rfl, rfl, rfl, Below.refl _ _⟩
  case round =>
    obtain ⟨k, hk, rfl, rfl, rfl, hb⟩ := hrel
    have hs := hb.size
    by_cases hlt : k < L.length
    · obtain ⟨f, hf⟩ : ∃ f, L[k]? = some f := ⟨_, List.getElem?_eq_getElem hlt⟩
      obtain ⟨b, off, rfl, hc1, hc2⟩ := (HR.out.below hb).fld hf
      have hfl := HL.out f (List.mem_of_getElem? hf)
      have hfv := HV.out f (List.mem_of_getElem? hf)
      have hgl := getF_len (L := L.take k) (n := n.data.toList) (fun g hg => HV.out g (List.mem_of_mem_take hg)) (by rw [List.length_take]; omega)
      have hal := allF_len (L.take k) n.data.toList
      rw [List.length_take] at hal
      have HT := hid (take_fld hf)
      clear hf
      have hst := getF_snoc (L.take k) n.data.toList f
      have hst2 := allF_snoc (L.take k) n.data.toList f
      rw [← HT.out] at hst hst2
      obtain ⟨q, hq⟩ : ∃ q, isF n.data.toList f = q := ⟨_, rfl⟩
      have cI := fun W => refIs_any f n W hfl h2
      rw [hq] at hst hst2 cI
      have hA0 : allF (L.take k) n.data.toList = [] → getF (L.take k) n.data.toList = [] := by intro h; unfold getF; rw [h]; rfl
      generalize getF (L.take k) n.data.toList = A at hst hgl hA0 ⊢
      obtain ⟨T, hT⟩ : ∃ T, allF (L.take k) n.data.toList = T := ⟨_, rfl⟩
      rw [hT] at hst hst2 hal hA0 ⊢
      have HA0 := hid hA0
      have CI := hid cI
      have HST := hid hst
      have HST2 := hid hst2
      clear cI hst hst2 hT hq hA0
      cases q
      · simp only [Bool.false_eq_true, if_false, List.append_nil] at HST HST2
        go_wp2_with fail
        refine (CI.out _).mono ?_
        rintro e w2 ⟨rfl, hb2⟩
        have hbn := chain2 hb hs hb2
        clear hb2 hc1 hc2 hb hs
        go_wp2_with fail
        go_roundw
        case rel => exact ⟨k + 1, hlt, by go_num, by rw [HST.out], by rw [HST2.out], hbn⟩
        case measure => simp [intOf]; omega
      · simp only [if_true] at HST HST2
        by_cases hT : T = []
        · subst hT
          simp only [if_true, List.nil_append] at HST HST2
          obtain rfl : A = [] := HA0.out rfl
          obtain ⟨X, hX, -, hs1⟩ := sum_lists (P := Tryd.prog) [] f.2 (by decide) (by omega)
          have hX' : X = f.2 := by rw [hX]; rfl
          rw [← hX'] at HST
          clear hX hX'
          go_wp2_with fail
          refine (CI.out _).mono ?_
          rintro e w2 ⟨rfl, hb2⟩
          have hbn := chain2 hb hs hb2
          obtain ⟨b', off', hbo, hd1, hd2⟩ := (HR.out.below hbn).fld (j := k) (p := f) (fld_of_take hlt HT.out)
          cases hbo
          clear hb2 hc1 hc2 hb hs
          go_wp2_with fail
          go_roundw
          case rel => exact ⟨k + 1, hlt, by go_num, by rw [HST.out], by rw [HST2.out]; simp, hbn⟩
          case measure => simp [intOf]; omega
        · have htl : 0 < (T.length : Int) := by cases T with
            | nil => exact absurd rfl hT
            | cons a r => simp
          simp only [hT, if_false] at HST
          obtain ⟨X, hX, hXl, hs1⟩ := sum_lists (P := Tryd.prog) A [44, 32] (by omega) (by decide)
          obtain ⟨Y, hY, -, hs2⟩ := sum_lists (P := Tryd.prog) X f.2 (by rw [hXl]; simp; omega) (by omega)
          have hYA : Y = A ++ 44 :: 32 :: f.2 := by rw [hY, hX]; simp
          rw [← hYA] at HST
          clear hX hY hXl hYA hT
          go_wp2_with fail
          refine (CI.out _).mono ?_
          rintro e w2 ⟨rfl, hb2⟩
          have hbn := chain2 hb hs hb2
          obtain ⟨b', off', hbo, hd1, hd2⟩ := (HR.out.below hbn).fld (j := k) (p := f) (fld_of_take hlt HT.out)
          cases hbo
          clear hb2 hc1 hc2 hb hs
          go_wp2_with fail
          go_roundw
          case rel => exact ⟨k + 1, hlt, by go_num, by rw [HST.out], by rw [HST2.out]; simp, hbn⟩
          case measure => simp [intOf]; omega
    · have hke : L.take k = L := List.take_of_length_le (by omega)
      rw [hke]
      clear hke
      go_wp2
      go_ret2
      exact ⟨rfl, hb⟩
end Go.Proofs.YtoolboafbkikjaaDoor
