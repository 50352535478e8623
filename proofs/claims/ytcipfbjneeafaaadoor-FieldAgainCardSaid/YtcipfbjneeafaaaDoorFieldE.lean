/-
  Contracts of package field: Get, Elements, Has.
-/
import Derived.Test.YtcipfbjneeafaaaDoorFieldD
namespace Go.Proofs.YtcipfbjneeafaaaDoor
open Go.RowKit Go.Pantry

theorem joinC_inter : ∀ l : List (List UInt8), Lib.join l [44, 32] = joinC l
  | [] => rfl
  | [a] => by simp [Lib.join, joinC]
  | a :: b :: r => by
    have h := joinC_inter (b :: r)
    unfold Lib.join at h ⊢
    show [44, 32].intercalate (a :: b :: r) = a ++ 44 :: 32 :: joinC (b :: r)
    rw [← h]
    simp [List.intercalate]
/-- strings.Join of a slice that the call made, with ", " -/
theorem join_made {B : Nat} {e : TypeId} (v : Value) (l : List (List UInt8)) (w : World) (ho : w.ownsRow B e 1 v l.length (l.map strV)) (hl : l.length ≤ 140737488355328) (hj : (joinC l).length ≤ 140737488355328) :
    Calls Tryd.prog 36 #[v, .string ⟨#[44, 32]⟩] w fun e w' => e = .returned (strV (joinC l)) ∧ Below w.heap.size w w' := by
  rcases ho.2 with ⟨rfl, hn⟩ | ⟨g, cap, cur, rfl, hb, hg, hnc, hcm, hcs, htake⟩
  · have : l = [] := List.eq_nil_of_length_eq_zero hn
    subst this
    refine (Tryd.strings_Join_none none 0 ⟨#[44, 32]⟩ w).mono ?_
    rintro e w' ⟨rfl, rfl⟩
    exact ⟨rfl, Below.refl _ _⟩
  · have hx : (l.map fun x => (⟨x.toArray⟩ : ByteArray)).map (·.data.toList) = l := by rw [List.map_map]; exact List.map_id' _
    have hxl : (l.map fun x => (⟨x.toArray⟩ : ByteArray)).length = l.length := by simp
    have c := Tryd.strings_Join g 0 cap (l.map fun x => (⟨x.toArray⟩ : ByteArray)) ⟨#[44, 32]⟩ w (fun j x hx => by
        have h1 := ho.row.cell j (.string x) (by
          rw [List.getElem?_map, Option.map_eq_some_iff] at hx
          obtain ⟨y, hy, rfl⟩ := hx
          rw [List.getElem?_map, hy]; rfl)
        rw [Nat.zero_add]; exact h1) (Array.getElem?_eq_some_iff.1 hg).1 (by omega) (by omega) (by
        rw [hx]
        show (Lib.join l [44, 32]).length ≤ _
        rw [joinC_inter]; exact hj)
    rw [hx, hxl] at c
    refine c.mono ?_
    rintro e w' ⟨rfl, hb'⟩
    refine ⟨?_, hb'⟩
    show Ending.returned (strV (Lib.join l [44, 32])) = _
    rw [joinC_inter]

theorem lGet_any (v : Value) (L : List Fld) (n : ByteArray) (w : World) (hr : Reads2 w v L) (hk : okFs L) (hn : n.size ≤ 100000) :
    Calls Tryd.prog 15 #[v, .string n] w fun e w' => e = .returned (.tuple #[strV (getF L n.data.toList), .bool (!(allF L n.data.toList).isEmpty)]) ∧ Below w.heap.size w w' := by
  have c1 := fun W h => lAll_any v L n W h hk hn
  have hg : getF L n.data.toList = joinC (allF L n.data.toList) := rfl
  have hgl := getF_len (L := L) (n := n.data.toList) (fun f hf => (hk.2 f hf).2) hk.1
  have hal := allF_len L n.data.toList
  have hk1 := hk.1
  generalize allF L n.data.toList = T at c1 hg hal ⊢
  generalize getF L n.data.toList = G at hg hgl ⊢
  have hT : (!T.isEmpty) = decide (0 < T.length) := by cases T <;> simp
  rw [hT]
  subst hg
  have cj := fun W B v h => join_made (B := B) (e := 9) v T W h (by omega) (by omega)
  generalize joinC T = J at cj ⊢
  have C1 := hid c1
  have CJ := hid cj
  have HR := hid hr
  clear c1 cj hr hk hgl hT
  go_enter Tryd.func15, Tryd.ntmps15
  go_wp2_with fail
  refine (C1.out _ HR.out).mono ?_
  rintro e w1 ⟨⟨v', rfl, ho⟩, hb1⟩
  obtain ⟨ao, cap, rfl⟩ := Reads.strs ho.reads
  go_wp2_with fail
  refine (CJ.out _ _ _ ho).mono ?_
  rintro e w2 ⟨rfl, hb2⟩
  go_wp2_with fail
  go_ret2
  exact ⟨rfl, chain2 hb1 hb1.size hb2⟩

theorem lElements_any (v : Value) (L : List Fld) (n : ByteArray) (w : World) (hr : Reads2 w v L) (hk : okFs L) (hn : n.size ≤ 100000) :
    Calls Tryd.prog 21 #[v, .string n] w fun e w' => MadeStrs 9 w.heap.size (elementsF L n.data.toList) e w' ∧ Below w.heap.size w w' := by
  have hgl := getF_len (L := L) (n := n.data.toList) (fun f hf => (hk.2 f hf).2) hk.1
  have c1 := fun W h => lGet_any v L n W h hk hn
  have c2 := fun W => List_any ⟨(getF L n.data.toList).toArray⟩ W (by rw [szL]; omega)
  have he : elementsF L n.data.toList = listL (getF L n.data.toList) := rfl
  rw [dtL, ← he] at c2
  generalize getF L n.data.toList = G at c1 c2
  generalize allF L n.data.toList = T at c1
  have C1 := hid c1
  have C2 := hid c2
  have HR := hid hr
  clear c1 c2 hr he
  go_enter Tryd.func21, Tryd.ntmps21
  go_wp2_with fail
  refine (C1.out _ HR.out).mono ?_
  rintro e w1 ⟨rfl, hb1⟩
  go_wp2_with fail
  refine (C2.out _).mono ?_
  rintro e w2 ⟨v', rfl, ho, hb2⟩
  go_wp2_with fail
  go_ret
  exact ⟨⟨_, rfl, ho.base hb1.size⟩, chain2 hb1 hb1.size hb2⟩

set_option maxHeartbeats 4000000 in
theorem lHas_any (v : Value) (L : List Fld) (n x : ByteArray) (w : World) (hr : Reads2 w v L) (hk : okFs L) (hn : n.size ≤ 100000) (hx : x.size ≤ 100000) :
    Calls Tryd.prog 23 #[v, .string n, .string x] w fun e w' => e = .returned (.bool (hasF L n.data.toList x.data.toList)) ∧ Below w.heap.size w w' := by
  obtain ⟨hz, hzs⟩ := elementsF_size (n := n.data.toList) (fun f hf => (hk.2 f hf).2) hk.1
  have c1 := fun W h => lElements_any v L n W h hk hn
  have hh : hasF L n.data.toList x.data.toList = (elementsF L n.data.toList).any fun e => lowerL e == lowerL x.data.toList := rfl
  generalize elementsF L n.data.toList = E at c1 hh hz hzs
  have C1 := hid c1
  have HH := hid hh
  have HR := hid hr
  have HZ := hid hzs
  clear c1 hh hr hzs
  go_enter Tryd.func23, Tryd.ntmps23
  go_wp2_with fail
  refine (C1.out _ HR.out).mono ?_
  rintro e w1 ⟨⟨v', rfl, ho⟩, hb1⟩
  have hrd := ho.reads
  obtain ⟨ao, cap, rfl⟩ := Reads.strs hrd
  have HRD := hid hrd
  clear hrd ho
  go_wp2_with fail
  go_loopw [13] (fun i wr => ∃ k : Nat, k ≤ E.length ∧ i = .int .i64 k ∧ ((E.take k).any fun e => lowerL e == lowerL x.data.toList) = false ∧ Below w1.heap.size w1 wr) (fun i _ => E.length - (intOf i).toNat)
  case atStart => exact ⟨0, Nat.zero_le _, rfl, by simp, Below.refl _ _⟩
  case round =>
    obtain ⟨k, hk, rfl, ha, hb⟩ := hrel
    have HA := hid ha
    clear ha
    by_cases hlt : k < E.length
    · obtain ⟨e, he⟩ : ∃ e, E[k]? = some e := ⟨_, List.getElem?_eq_getElem hlt⟩
      obtain ⟨b, off, rfl, hcw⟩ := Reads.str (HRD.out.below hb) he
      have hel := HZ.out e (List.mem_of_getElem? he)
      have HT := hid (take_str he)
      have HM := hid (List.mem_of_getElem? he)
      clear he
      have c3 := fun W => Same_any ⟨e.toArray⟩ x W (by rw [szL]; unfold maxLen; omega) (by unfold maxLen; omega)
      rw [dtL] at c3
      obtain ⟨q, hq⟩ : ∃ q, (lowerL e == lowerL x.data.toList) = q := ⟨_, rfl⟩
      rw [hq] at c3
      have C3 := hid c3
      have HQ := hid hq
      clear c3 hq
      cases q
      · go_wp2_with fail
        refine (C3.out _).mono ?_
        rintro e3 w3 ⟨rfl, hb3⟩
        have hbn := chain2 hb hb.size hb3
        clear hb hb3 hcw
        go_wp2_with fail
        go_roundw
        case rel => exact ⟨k + 1, hlt, by go_num, by rw [HT.out, List.any_append, HA.out]; simpa using HQ.out, hbn⟩
        case measure => simp [intOf]; omega
      · have hyes : (E.any fun e => lowerL e == lowerL x.data.toList) = true := List.any_eq_true.2 ⟨e, HM.out, HQ.out⟩
        have HY := hid hyes
        clear hyes
        go_wp2_with fail
        refine (C3.out _).mono ?_
        rintro e3 w3 ⟨rfl, hb3⟩
        have hbn := chain2 hb hb.size hb3
        clear hb hb3 hcw
        go_wp2_with fail
        go_ret
        exact ⟨ret_bool (by rw [HH.out, HY.out]), chain2 hb1 hb1.size hbn⟩
    · have hke : E.take k = E := List.take_of_length_le (by omega)
      have hno : (E.any fun e => lowerL e == lowerL x.data.toList) = false := by rw [← hke]; exact HA.out
      have HN := hid hno
      clear hke hno
      go_wp2_with fail
      go_ret
      exact ⟨ret_bool (by rw [HH.out, HN.out]), chain2 hb1 hb1.size hb⟩
end Go.Proofs.YtcipfbjneeafaaaDoor
