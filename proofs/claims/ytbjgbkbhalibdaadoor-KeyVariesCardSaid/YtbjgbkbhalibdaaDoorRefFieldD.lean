/-
  Contracts of the document's answers of layer 3: Get.
-/
import Derived.Test.YtbjgbkbhalibdaaDoorRefFieldI
namespace Go.Proofs.YtbjgbkbhalibdaaDoor
open Go.RowKit Go.Pantry

set_option maxHeartbeats 4000000 in
theorem refGet_any (v : Value) (L : List Fld) (n : ByteArray) (w : World) (hr : Reads2 w v L) (hL : ∀ f ∈ L, f.1.length < 4294967296) (hV : ∀ f ∈ L, f.2.length ≤ 100000) (hn : L.length ≤ 1000) (h2 : n.size < 4294967296) :
    Calls Tryd.prog 11 #[v, .string n] w fun e w' => e = .returned (.tuple #[strV (getF L n.data.toList), .int .i64 ((allF L n.data.toList).length : Int)]) ∧ Below w.heap.size w w' := by
  obtain ⟨ao, cap, rfl⟩ := hr.form
  have HR := hid hr
  have HL := hid hL
  have HV := hid hV
  clear hr hL hV
  go_enter Tryd.func11, Tryd.ntmps11
  go_wp2
  go_loopw [6, 7, 8] (fun s c i wr => ∃ (k : Nat), k ≤ L.length ∧ i = .int .i64 k ∧ s = strV (getF (L.take k) n.data.toList) ∧ c = .int .i64 ((allF (L.take k) n.data.toList).length : Int) ∧ Below w.heap.size w wr) (fun _ _ i _ => L.length - (intOf i).toNat)
  case atStart => exact ⟨0, Nat.zero_le _, rfl, rfl, rfl, Below.refl _ _⟩
  case round =>
    obtain ⟨k, hk, rfl, rfl, rfl, hb⟩ := hrel
    have hs := hb.size
    by_cases hlt : k < L.length
    · obtain ⟨f, hf⟩ : ∃ f, L[k]? = some f := ⟨_, List.getElem?_eq_getElem hlt⟩
      obtain ⟨b, off, rfl, hc1, hc2⟩ := (HR.out.below hb).fld hf
      have hfl := HL.out f (List.mem_of_getElem? hf)
      have hfv := HV.out f (List.mem_of_getElem? hf)
      have hgl := getF_len (L := L.take k) (n := n.data.toList) (fun g hg => HV.out g (List.mem_of_mem_take hg)) (by rw [List.length_take]; omega)
      have hal := allF_len (L.take k) n.data.toList
      rw [List.length_take] at hal
      have HT := hid (take_fld hf)
      clear hf
      have hst := getF_snoc (L.take k) n.data.toList f
      have hst2 := allF_snoc (L.take k) n.data.toList f
      rw [← HT.out] at hst hst2
      obtain ⟨q, hq⟩ : ∃ q, isF n.data.toList f = q := ⟨_, rfl⟩
      have cI := fun W => refIs_any f n W hfl h2
      rw [hq] at hst hst2 cI
      have hA0 : allF (L.take k) n.data.toList = [] → getF (L.take k) n.data.toList = [] := by intro h; unfold getF; rw [h]; rfl
      generalize getF (L.take k) n.data.toList = A at hst hgl hA0 ⊢
      obtain ⟨T, hT⟩ : ∃ T, allF (L.take k) n.data.toList = T := ⟨_, rfl⟩
      rw [hT] at hst hst2 hal hA0 ⊢
      have HA0 := hid hA0
      have CI := hid cI
      have HST := hid hst
      have HST2 := hid hst2
      clear cI hst hst2 hT hq hA0
      cases q
      · simp only [Bool.false_eq_true, if_false, List.append_nil] at HST HST2
        go_wp2_with fail
        refine (CI.out _).mono ?_
        rintro e w2 ⟨rfl, hb2⟩
        have hbn := chain2 hb hs hb2
        clear hb2 hc1 hc2 hb hs
        go_wp2_with fail
        go_roundw
        case rel => exact ⟨k + 1, hlt, by go_num, by rw [HST.out], by rw [HST2.out], hbn⟩
        case measure => simp [intOf]; omega
      · simp only [if_true] at HST HST2
        by_cases hT : T = []
        · subst hT
          simp only [if_true, List.nil_append] at HST HST2
          obtain rfl : A = [] := HA0.out rfl
          obtain ⟨X, hX, -, hs1⟩ := sum_lists (P := Tryd.prog) [] f.2 (by decide) (by omega)
          have hX' : X = f.2 := by rw [hX]; rfl
          rw [← hX'] at HST
          clear hX hX'
          go_wp2_with fail
          refine (CI.out _).mono ?_
          rintro e w2 ⟨rfl, hb2⟩
          have hbn := chain2 hb hs hb2
          obtain ⟨b', off', hbo, hd1, hd2⟩ := (HR.out.below hbn).fld (j := k) (p := f) (fld_of_take hlt HT.out)
          cases hbo
          clear hb2 hc1 hc2 hb hs
          go_wp2_with fail
          go_roundw
          case rel => exact ⟨k + 1, hlt, by go_num, by rw [HST.out], by rw [HST2.out]; simp, hbn⟩
          case measure => simp [intOf]; omega
        · have htl : 0 < (T.length : Int) := by cases T with
            | nil => exact absurd rfl hT
            | cons a r => simp
          simp only [hT, if_false] at HST
          obtain ⟨X, hX, hXl, hs1⟩ := sum_lists (P := Tryd.prog) A [44, 32] (by omega) (by decide)
          obtain ⟨Y, hY, -, hs2⟩ := sum_lists (P := Tryd.prog) X f.2 (by rw [hXl]; simp; omega) (by omega)
          have hYA : Y = A ++ 44 :: 32 :: f.2 := by rw [hY, hX]; simp
          rw [← hYA] at HST
          clear hX hY hXl hYA hT
          go_wp2_with fail
          refine (CI.out _).mono ?_
          rintro e w2 ⟨rfl, hb2⟩
          have hbn := chain2 hb hs hb2
          obtain ⟨b', off', hbo, hd1, hd2⟩ := (HR.out.below hbn).fld (j := k) (p := f) (fld_of_take hlt HT.out)
          cases hbo
          clear hb2 hc1 hc2 hb hs
          go_wp2_with fail
          go_roundw
          case rel => exact ⟨k + 1, hlt, by go_num, by rw [HST.out], by rw [HST2.out]; simp, hbn⟩
          case measure => simp [intOf]; omega
    · have hke : L.take k = L := List.take_of_length_le (by omega)
      rw [hke]
      clear hke
      go_wp2
      go_ret2
      exact ⟨rfl, hb⟩
end Go.Proofs.YtbjgbkbhalibdaaDoor
