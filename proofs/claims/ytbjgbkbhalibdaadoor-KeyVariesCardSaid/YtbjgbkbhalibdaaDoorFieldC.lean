/-
  Contracts of package field: Without.
-/
import Derived.Test.YtbjgbkbhalibdaaDoorFieldB
namespace Go.Proofs.YtbjgbkbhalibdaaDoor
open Go.RowKit Go.Pantry

set_option maxHeartbeats 1000000 in
theorem lWithout_any (v vn : Value) (L : List Fld) (ns : List (List UInt8)) (w : World) (hr : Reads2 w v L) (hk : okFs L) (hn : Reads w vn (ns.map strV)) (hns : ns.length ≤ 1000 ∧ ∀ n ∈ ns, n.length ≤ 9223372036854775807) :
    Calls Tryd.prog 17 #[v, vn] w fun e w' => MadeFlds 41 w.heap.size (outsF L ns) e w' ∧ Below w.heap.size w w' := by
  obtain ⟨ao, cap, rfl⟩ := hr.form
  obtain ⟨hl, hv⟩ := hk
  have HR := hid hr
  have HV := hid hv
  have HN := hid hn
  have HNS := hid hns
  clear hr hv hn hns
  go_enter Tryd.func17, Tryd.ntmps17
  go_wp2
  go_loopw [5, 10] (fun v' i wr => ∃ (k m : Nat), k ≤ L.length ∧ m ≤ k ∧ i = .int .i64 k ∧ wr.ownsRow w.heap.size 41 2 v' m (fldCells (outsF (L.take k) ns)) ∧ Below w.heap.size w wr) (fun _ i _ => L.length - (intOf i).toNat)
  case atStart => exact ⟨0, 0, Nat.zero_le _, Nat.le_refl _, rfl, World.ownsRow_nil _ _ _ _, Below.refl _ _⟩
  case round =>
    obtain ⟨k, m, hk, hm, rfl, ho, hb⟩ := hrel
    have hs := hb.size
    by_cases hlt : k < L.length
    · obtain ⟨f, hf⟩ : ∃ f, L[k]? = some f := ⟨_, List.getElem?_eq_getElem hlt⟩
      obtain ⟨b, off, rfl, hc1, hc2⟩ := (HR.out.below hb).fld hf
      have hfl := (HV.out f (List.mem_of_getElem? hf)).1
      have HT := hid (take_fld hf)
      clear hf
      have hst : outsF (L.take k ++ [f]) ns = outsF (L.take k) ns ++ if (ns.any fun n => isF n f) then [] else [f] := by
        unfold outsF
        rw [List.filter_append]
        cases h : (ns.any fun n => isF n f) <;> simp only [List.filter_cons, List.filter_nil, h] <;> rfl
      rw [← HT.out] at hst
      obtain ⟨q, hq⟩ : ∃ q, (ns.any fun n => isF n f) = q := ⟨_, rfl⟩
      have cI := fun W h => called_any f vn ns W hfl h HNS.out
      rw [hq] at hst cI
      have CI := hid cI
      have HS := hid hst
      clear cI hst hq
      obtain ⟨W, hW, hbW, hsW, hx1, hx2⟩ := box2 wr f 41
      have hbw := chain2 hb hs hbW
      replace ho := ho.below hbW
      clear hbW hs
      cases q
      · go_wp2_with fail
        rw [← hW]
        clear hW
        refine (CI.out _ (HN.out.below hbw)).mono ?_
        rintro e w2 ⟨rfl, hb2⟩
        have hbn := chain2 hbw hbw.size hb2
        have ho2 := ho.below hb2
        have hs2 := hbn.size
        have hd1 := kept hx1 hb2
        have hd2 := kept hx2 hb2
        clear hb2 hc1 hc2 hb hx1 hx2 ho
        go_wp2_with ((at_builtin; go_must (refine wpList_append_fld _ rfl _ _ 28 rfl w.heap.size 41 Tryd.underlying28 infoFld rfl (by decide) rfl ho2 f rfl (by first | rfl | simp) (by omega) hs2 ?_); intro v' w3 hown3 hb3))
        go_roundw
        case rel => exact ⟨k + 1, m + 1, hlt, by omega, by go_num, by rw [HS.out]; exact hown3, hbn.trans hb3⟩
        case measure => simp [intOf]; omega
      · go_wp2_with fail
        rw [← hW]
        clear hW
        refine (CI.out _ (HN.out.below hbw)).mono ?_
        rintro e w2 ⟨rfl, hb2⟩
        have hbn := chain2 hbw hbw.size hb2
        have ho2 := ho.below hb2
        clear hb2 hc1 hc2 hb hx1 hx2 ho
        go_wp2_with fail
        go_roundw
        case rel => exact ⟨k + 1, m, hlt, by omega, by go_num, by rw [HS.out]; simpa using ho2, hbn⟩
        case measure => simp [intOf]; omega
    · have hk2 : L.take k = L := List.take_of_length_le (by omega)
      rw [hk2] at ho
      clear hk2
      go_wp2
      go_ret
      exact ⟨⟨_, m, rfl, ho⟩, hb⟩
end Go.Proofs.YtbjgbkbhalibdaaDoor
