/-
  Contracts of package field: called.
-/
import Derived.Test.YtbjgbkbhalibdaaDoorSignB
import Derived.Test.YtbjgbkbhalibdaaDoorPureAll1
namespace Go.Proofs.YtbjgbkbhalibdaaDoor
open Go.RowKit Go.Pantry

/-- fields that can be gone through with -/
def okFs (L : List Fld) : Prop := L.length ≤ 1000 ∧ ∀ f ∈ L, f.1.length ≤ 100000 ∧ f.2.length ≤ 100000

theorem infoFld : (Tryd.prog.info? 41).map (fun i => (i.zero, i.size, i.bytes)) = some (some (.agg #[.string ⟨#[]⟩, .string ⟨#[]⟩]), 2, 32) := by kernel_rfl

theorem called_any (f : Fld) (vn : Value) (ns : List (List UInt8)) (w : World) (h : f.1.length ≤ 100000) (hn : Reads w vn (ns.map strV)) (hns : ns.length ≤ 1000 ∧ ∀ n ∈ ns, n.length ≤ 9223372036854775807) :
    Calls Tryd.prog 28 #[fldV f, vn] w fun e w' => e = .returned (.bool (ns.any fun n => isF n f)) ∧ Below w.heap.size w w' := by
  obtain ⟨a, b⟩ := f
  obtain ⟨hl, hns⟩ := hns
  simp only at h
  obtain ⟨ao, cap, rfl⟩ := Reads.strs hn
  obtain ⟨r, hr⟩ : ∃ r, (ns.any fun n => isF n (a, b)) = r := ⟨_, rfl⟩
  rw [hr]
  have HN := hid hn
  have HNS := hid hns
  have HRR := hid hr
  clear hn hns hr
  go_enter Tryd.func28, Tryd.ntmps28
  go_wp2_with fail
  have hbW := below_alloc w (.cells #[strV a, strV b] 41)
  have hx : (w.alloc (.cells #[strV a, strV b] 41)).cell? ⟨w.heap.size, 0, none⟩ = some (strV a) := by rw [World.cell?_alloc_at _ _ _ _ rfl]; rfl
  generalize w.alloc (.cells #[strV a, strV b] 41) = W at hbW hx ⊢
  have HX := hid hx
  clear hx
  go_loopw [9] (fun i wr => ∃ (k : Nat), k ≤ ns.length ∧ i = .int .i64 k ∧ ((ns.take k).any fun n => isF n (a, b)) = false ∧ Below W.heap.size W wr) (fun i _ => ns.length - (intOf i).toNat)
  case atStart => exact ⟨0, Nat.zero_le _, rfl, rfl, Below.refl _ _⟩
  case round =>
    obtain ⟨k, hk, rfl, ha, hb⟩ := hrel
    have HA := hid ha
    clear ha
    by_cases hlt : k < ns.length
    · obtain ⟨n, hn⟩ : ∃ n, ns[k]? = some n := ⟨_, List.getElem?_eq_getElem hlt⟩
      obtain ⟨b', off, rfl, hc⟩ := Reads.str (HN.out.below (hbW.trans (hb.mono hbW.size))) hn
      have x1 := (hb.cell (p := ⟨w.heap.size, 0, none⟩) (World.block_lt_of_cell? W _ HX.out)).trans HX.out
      have hnl := HNS.out n (List.mem_of_getElem? hn)
      have HM := hid (List.mem_of_getElem? hn)
      have HT := hid (take_str hn)
      clear hn
      have cs := fun W => Same_any ⟨a.toArray⟩ ⟨n.toArray⟩ W (by rw [szL]; unfold maxLen; omega) (by rw [szL]; unfold maxLen; omega)
      rw [dtL, dtL] at cs
      obtain ⟨q, hq⟩ : ∃ q, (lowerL a == lowerL n) = q := ⟨_, rfl⟩
      rw [hq] at cs
      have CS := hid cs
      have HQ : Hid (isF n (a, b) = q) := hid hq
      clear cs hq
      cases q
      · go_wp2_with fail
        refine (CS.out _).mono ?_
        rintro e w2 ⟨rfl, hb2⟩
        go_wp2_with fail
        go_roundw
        case rel => exact ⟨k + 1, hlt, by go_num, by rw [HT.out, List.any_append, HA.out]; simp [HQ.out], chain2 hb hb.size hb2⟩
        case measure => simp [intOf]; omega
      · obtain rfl : r = true := by rw [← HRR.out]; exact List.any_eq_true.2 ⟨n, HM.out, HQ.out⟩
        go_wp2_with fail
        refine (CS.out _).mono ?_
        rintro e w2 ⟨rfl, hb2⟩
        go_wp2_with fail
        go_ret
        exact ⟨rfl, hbW.trans ((chain2 hb hb.size hb2).mono hbW.size)⟩
    · have hke : ns.take k = ns := List.take_of_length_le (by omega)
      obtain rfl : r = false := by rw [← HRR.out, ← hke]; exact HA.out
      clear hke
      go_wp2_with fail
      go_ret
      exact ⟨rfl, hbW.trans (hb.mono hbW.size)⟩
end Go.Proofs.YtbjgbkbhalibdaaDoor
