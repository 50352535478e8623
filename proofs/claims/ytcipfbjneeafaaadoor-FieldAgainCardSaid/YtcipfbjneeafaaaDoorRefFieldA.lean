/-
  Contracts of the document's answers of layer 3: Is, Without; and pantrymade.Fields.
-/
import Derived.Test.YtcipfbjneeafaaaDoorRefSignB
import Derived.Test.YtcipfbjneeafaaaDoorBase2
import Derived.Test.YtcipfbjneeafaaaDoorInfo
namespace Go.Proofs.YtcipfbjneeafaaaDoor
open Go.RowKit Go.Pantry

theorem refIs_any (f : Fld) (n : ByteArray) (w : World) (h1 : f.1.length < 4294967296) (h2 : n.size < 4294967296) :
    Calls Tryd.prog 37 #[fldV f, .string n] w fun e w' => e = .returned (.bool (isF n.data.toList f)) ∧ Below w.heap.size w w' := by
  obtain ⟨a, b⟩ := f
  have c1 := fun W => refLower_any ⟨a.toArray⟩ W (by rw [szL]; exact h1)
  rw [dtL] at c1
  have c2 := fun W => refLower_any n W h2
  have C1 := hid c1
  have C2 := hid c2
  clear c1 c2
  go_enter Tryd.func37, Tryd.ntmps37
  go_wp2_with fail
  refine (C1.out _).mono ?_
  rintro e w1 ⟨rfl, hb1⟩
  go_wp2_with fail
  refine (C2.out _).mono ?_
  rintro e w2 ⟨rfl, hb2⟩
  go_wp2_with fail
  go_ret
  exact ⟨rfl, chain2 ((below_alloc _ _).trans (hb1.mono (by simp))) (Nat.le_trans (by simp) hb1.size) hb2⟩

theorem infoFld3 : (Tryd.prog.info? 30).map (fun i => (i.zero, i.size, i.bytes)) = some (some (.agg #[.string ⟨#[]⟩, .string ⟨#[]⟩]), 2, 32) := by kernel_rfl

set_option maxHeartbeats 1000000 in
theorem refWithout_any (v : Value) (L : List Fld) (n : ByteArray) (w : World) (hr : Reads2 w v L) (hL : ∀ f ∈ L, f.1.length < 4294967296) (hn : L.length < 1000000) (h2 : n.size < 4294967296) :
    Calls Tryd.prog 25 #[v, .string n] w fun e w' => MadeFlds 30 w.heap.size (outF L n.data.toList) e w' ∧ Below w.heap.size w w' := by
  obtain ⟨ao, cap, rfl⟩ := hr.form
  have HR := hid hr
  have HL := hid hL
  clear hr hL
  go_enter Tryd.func25, Tryd.ntmps25
  go_wp2
  go_loopw [5, 6] (fun v' i wr => ∃ (k m : Nat), k ≤ L.length ∧ m ≤ k ∧ i = .int .i64 k ∧ wr.ownsRow w.heap.size 30 2 v' m (fldCells (outF (L.take k) n.data.toList)) ∧ Below w.heap.size w wr) (fun _ i _ => L.length - (intOf i).toNat)
  case atStart => exact ⟨0, 0, Nat.zero_le _, Nat.le_refl _, rfl, World.ownsRow_nil _ _ _ _, Below.refl _ _⟩
  case round =>
    obtain ⟨k, m, hk, hm, rfl, ho, hb⟩ := hrel
    have hs := hb.size
    by_cases hlt : k < L.length
    · obtain ⟨f, hf⟩ : ∃ f, L[k]? = some f := ⟨_, List.getElem?_eq_getElem hlt⟩
      obtain ⟨b, off, rfl, hc1, hc2⟩ := (HR.out.below hb).fld hf
      have hfl := HL.out f (List.mem_of_getElem? hf)
      have HT := hid (take_fld hf)
      clear hf
      have hst := outF_snoc (L.take k) n.data.toList f
      rw [← HT.out] at hst
      obtain ⟨q, hq⟩ : ∃ q, isF n.data.toList f = q := ⟨_, rfl⟩
      have cI := fun W => refIs_any f n W hfl h2
      rw [hq] at hst cI
      have CI := hid cI
      have HS := hid hst
      clear cI hst hq
      cases q
      · go_wp2_with fail
        refine (CI.out _).mono ?_
        rintro e w2 ⟨rfl, hb2⟩
        have hbn := chain2 hb hs hb2
        have ho2 := ho.below hb2
        have hs2 := hbn.size
        obtain ⟨b', off', hbo, hd1, hd2⟩ := (HR.out.below hbn).fld (j := k) (p := f) (by have := HT.out; exact fld_of_take hlt this)
        cases hbo
        clear hb2 hc1 hc2 hb hs ho
        go_wp2_with ((at_builtin; go_must (refine wpList_append_fld _ rfl _ _ 26 rfl w.heap.size 30 Tryd.underlying26 infoFld3 rfl (by decide) rfl ho2 f rfl (by first | rfl | simp) (by omega) hs2 ?_); intro v' w3 hown3 hb3))
        go_roundw
        case rel => exact ⟨k + 1, m + 1, hlt, by omega, by go_num, by rw [HS.out]; exact hown3, hbn.trans hb3⟩
        case measure => simp [intOf]; omega
      · go_wp2_with fail
        refine (CI.out _).mono ?_
        rintro e w2 ⟨rfl, hb2⟩
        have hbn := chain2 hb hs hb2
        have ho2 := ho.below hb2
        clear hb2 hc1 hc2 hb hs ho
        go_wp2_with fail
        go_roundw
        case rel => exact ⟨k + 1, m, hlt, by omega, by go_num, by rw [HS.out]; simpa using ho2, hbn⟩
        case measure => simp [intOf]; omega
    · have hk2 : L.take k = L := List.take_of_length_le (by omega)
      rw [hk2] at ho
      clear hk2
      go_wp2
      go_ret
      exact ⟨⟨_, m, rfl, ho⟩, hb⟩
end Go.Proofs.YtcipfbjneeafaaaDoor
