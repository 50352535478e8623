/-
  Contracts of package field: Has.
-/
import Derived.Test.YtofkiihajhkmdaaDoorFieldH
namespace Go.Proofs.YtofkiihajhkmdaaDoor
open Go.RowKit Go.Pantry

set_option maxHeartbeats 4000000 in
theorem lHas_any (v : Value) (L : List Fld) (n x : ByteArray) (w : World) (hr : Reads2 w v L) (hk : okFs L) (hn : n.size ≤ 100000) (hx : x.size ≤ 100000) :
    Calls Tryd.prog 24 #[v, .string n, .string x] w fun e w' => e = .returned (.bool (hasF L n.data.toList x.data.toList)) ∧ Below w.heap.size w w' := by
  obtain ⟨hz, hzs⟩ := elementsF_size (n := n.data.toList) (fun f hf => (hk.2 f hf).2) hk.1
  have c1 := fun W h => lElements_any v L n W h hk hn
  have hh : hasF L n.data.toList x.data.toList = (elementsF L n.data.toList).any fun e => lowerL e == lowerL x.data.toList := rfl
  generalize elementsF L n.data.toList = E at c1 hh hz hzs
  have C1 := hid c1
  have HH := hid hh
  have HR := hid hr
  have HZ := hid hzs
  clear c1 hh hr hzs
  go_enter Tryd.func24, Tryd.ntmps24
  go_wp2_with fail
  refine (C1.out _ HR.out).mono ?_
  rintro e w1 ⟨⟨v', rfl, ho⟩, hb1⟩
  have hrd := ho.reads
  obtain ⟨ao, cap, rfl⟩ := Reads.strs hrd
  have HRD := hid hrd
  clear hrd ho
  go_wp2_with fail
  go_loopw [13] (fun i wr => ∃ k : Nat, k ≤ E.length ∧ i = .int .i64 k ∧ ((E.take k).any fun e => lowerL e == lowerL x.data.toList) = false ∧ Below w1.heap.size w1 wr) (fun i _ => E.length - (intOf i).toNat)
  case atStart => exact ⟨0, Nat.zero_le _, rfl, by simp, Below.refl _ _⟩
  case round =>
    obtain ⟨k, hk, rfl, ha, hb⟩ := hrel
    have HA := hid ha
    clear ha
    by_cases hlt : k < E.length
    · obtain ⟨e, he⟩ : ∃ e, E[k]? = some e := ⟨_, List.getElem?_eq_getElem hlt⟩
      obtain ⟨b, off, rfl, hcw⟩ := Reads.str (HRD.out.below hb) he
      have hel := HZ.out e (List.mem_of_getElem? he)
      have HT := hid (take_str he)
      have HM := hid (List.mem_of_getElem? he)
      clear he
      have c3 := fun W => Same_any ⟨e.toArray⟩ x W (by rw [szL]; unfold maxLen; omega) (by unfold maxLen; omega)
      rw [dtL] at c3
      obtain ⟨q, hq⟩ : ∃ q, (lowerL e == lowerL x.data.toList) = q := ⟨_, rfl⟩
      rw [hq] at c3
      have C3 := hid c3
      have HQ := hid hq
      clear c3 hq
      cases q
      · go_wp2_with fail
        refine (C3.out _).mono ?_
        rintro e3 w3 ⟨rfl, hb3⟩
        have hbn := chain2 hb hb.size hb3
        clear hb hb3 hcw
        go_wp2_with fail
        go_roundw
        case rel => exact ⟨k + 1, hlt, by go_num, by rw [HT.out, List.any_append, HA.out]; simpa using HQ.out, hbn⟩
        case measure => simp [intOf]; omega
      · have hyes : (E.any fun e => lowerL e == lowerL x.data.toList) = true := List.any_eq_true.2 ⟨e, HM.out, HQ.out⟩
        have HY := hid hyes
        clear hyes
        go_wp2_with fail
        refine (C3.out _).mono ?_
        rintro e3 w3 ⟨rfl, hb3⟩
        have hbn := chain2 hb hb.size hb3
        clear hb hb3 hcw
        go_wp2_with fail
        go_ret
        exact ⟨ret_bool (by rw [HH.out, HY.out]), chain2 hb1 hb1.size hbn⟩
    · have hke : E.take k = E := List.take_of_length_le (by omega)
      have hno : (E.any fun e => lowerL e == lowerL x.data.toList) = false := by rw [← hke]; exact HA.out
      have HN := hid hno
      clear hke hno
      go_wp2_with fail
      go_ret
      exact ⟨ret_bool (by rw [HH.out, HN.out]), chain2 hb1 hb1.size hb⟩
end Go.Proofs.YtofkiihajhkmdaaDoor
