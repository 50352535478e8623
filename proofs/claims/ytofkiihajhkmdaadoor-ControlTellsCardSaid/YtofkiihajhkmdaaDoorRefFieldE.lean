/-
  Contracts of the document's answers of layer 3: Elements, Has.
-/
import Derived.Test.YtofkiihajhkmdaaDoorRefFieldD
import Derived.Test.YtofkiihajhkmdaaDoorRefSignC
namespace Go.Proofs.YtofkiihajhkmdaaDoor
open Go.RowKit Go.Pantry

theorem refElements_any (v : Value) (L : List Fld) (n : ByteArray) (w : World) (hr : Reads2 w v L) (hL : ∀ f ∈ L, f.1.length < 4294967296) (hV : ∀ f ∈ L, f.2.length ≤ 100000) (hn : L.length ≤ 1000) (h2 : n.size < 4294967296) :
    Calls Tryd.prog 25 #[v, .string n] w fun e w' => MadeStrs 9 w.heap.size (elementsF L n.data.toList) e w' ∧ Below w.heap.size w w' := by
  have hl := getF_len (L := L) (n := n.data.toList) hV hn
  have c1 := fun W h => refGet_any v L n W h hL hV hn h2
  have c2 := fun W => refList_any ⟨(getF L n.data.toList).toArray⟩ W (by rw [szL]; omega)
  have he : elementsF L n.data.toList = listL (getF L n.data.toList) := rfl
  rw [dtL, ← he] at c2
  generalize getF L n.data.toList = G at c1 c2
  generalize allF L n.data.toList = T at c1
  have C1 := hid c1
  have C2 := hid c2
  have HR := hid hr
  clear c1 c2 hr he hL hV
  go_enter Tryd.func25, Tryd.ntmps25
  go_wp2_with fail
  refine (C1.out _ HR.out).mono ?_
  rintro e w1 ⟨rfl, hb1⟩
  go_wp2_with fail
  refine (C2.out _).mono ?_
  rintro e w2 ⟨v', rfl, ho, hb2⟩
  go_wp2_with fail
  go_ret
  exact ⟨⟨_, rfl, ho.base hb1.size⟩, chain2 hb1 hb1.size hb2⟩

set_option maxHeartbeats 4000000 in
theorem refHas_any (v : Value) (L : List Fld) (n x : ByteArray) (w : World) (hr : Reads2 w v L) (hL : ∀ f ∈ L, f.1.length < 4294967296) (hV : ∀ f ∈ L, f.2.length ≤ 100000) (hn : L.length ≤ 1000) (h2 : n.size < 4294967296) (h3 : x.size < 4294967296) :
    Calls Tryd.prog 29 #[v, .string n, .string x] w fun e w' => e = .returned (.bool (hasF L n.data.toList x.data.toList)) ∧ Below w.heap.size w w' := by
  obtain ⟨hz, hzs⟩ := elementsF_size (n := n.data.toList) hV hn
  have c1 := fun W h => refElements_any v L n W h hL hV hn h2
  have hh : hasF L n.data.toList x.data.toList = (elementsF L n.data.toList).any fun e => lowerL e == lowerL x.data.toList := rfl
  generalize elementsF L n.data.toList = E at c1 hh hz hzs
  have c2 := fun W => refLower_any x W h3
  have C1 := hid c1
  have C2 := hid c2
  have HH := hid hh
  have HR := hid hr
  have HZ := hid hzs
  clear c1 c2 hh hr hL hV hzs
  go_enter Tryd.func29, Tryd.ntmps29
  go_wp2_with fail
  refine (C1.out _ HR.out).mono ?_
  rintro e w1 ⟨⟨v', rfl, ho⟩, hb1⟩
  have hrd := ho.reads
  obtain ⟨ao, cap, rfl, hc, -⟩ := hrd
  have hcl : (E.map strV).length = E.length := List.length_map ..
  rw [hcl]
  have HC := hid hc
  clear hc ho hcl
  go_wp2_with fail
  go_loopw [8] (fun i wr => ∃ k : Nat, k ≤ E.length ∧ i = .int .i64 k ∧ ((E.take k).any fun e => lowerL e == lowerL x.data.toList) = false ∧ Below w1.heap.size w1 wr) (fun i _ => E.length - (intOf i).toNat)
  case atStart => exact ⟨0, Nat.zero_le _, rfl, by simp, Below.refl _ _⟩
  case round =>
    obtain ⟨k, hk, rfl, ha, hb⟩ := hrel
    have HA := hid ha
    clear ha
    by_cases hlt : k < E.length
    · obtain ⟨e, he⟩ : ∃ e, E[k]? = some e := ⟨_, List.getElem?_eq_getElem hlt⟩
      obtain ⟨b, off, hao, hcell⟩ := HC.out k (strV e) (by simp [he])
      subst hao
      have hcw := (hb.cell (p := ⟨b, off + k, none⟩) (World.block_lt_of_cell? w1 _ hcell)).trans hcell
      have hel := HZ.out e (List.mem_of_getElem? he)
      have htk : E.take (k + 1) = E.take k ++ [e] := by
        obtain ⟨hk', rfl⟩ := List.getElem?_eq_some_iff.1 he
        exact List.take_succ_eq_append_getElem hk'
      have HT := hid htk
      have hmem := List.mem_of_getElem? he
      have HM := hid hmem
      clear he hcell htk hmem
      have c3 := fun W => refLower_any ⟨e.toArray⟩ W (by rw [szL]; omega)
      rw [dtL] at c3
      obtain ⟨q, hq⟩ : ∃ q, (lowerL e == lowerL x.data.toList) = q := ⟨_, rfl⟩
      have C3 := hid c3
      clear c3
      go_wp2_with fail
      refine (C3.out _).mono ?_
      rintro e2 w2 ⟨rfl, hb2⟩
      go_wp2_with fail
      refine (C2.out _).mono ?_
      rintro e3 w3 ⟨rfl, hb3⟩
      have hbn := chain2 (chain2 hb hb.size hb2) (Nat.le_trans hb.size hb2.size) hb3
      clear hb hb2 hb3 hcw
      have HQ := hid hq
      cases q
      · go_wp2_with fail
        go_roundw
        case rel => exact ⟨k + 1, hlt, by go_num, by rw [HT.out, List.any_append, HA.out]; simpa using HQ.out, hbn⟩
        case measure => simp [intOf]; omega
      · have hyes : (E.any fun e => lowerL e == lowerL x.data.toList) = true := List.any_eq_true.2 ⟨e, HM.out, HQ.out⟩
        have HY := hid hyes
        clear hyes
        go_wp2_with fail
        go_ret
        exact ⟨ret_bool (by rw [HH.out, HY.out]), chain2 hb1 hb1.size hbn⟩
    · have hke : E.take k = E := List.take_of_length_le (by omega)
      have hno : (E.any fun e => lowerL e == lowerL x.data.toList) = false := by rw [← hke]; exact HA.out
      have HN := hid hno
      clear hke hno
      go_wp2_with fail
      go_ret
      exact ⟨ret_bool (by rw [HH.out, HN.out]), chain2 hb1 hb1.size hb⟩
end Go.Proofs.YtofkiihajhkmdaaDoor
