/-
  The statements of layer 6: small.
-/
import Derived.Test.YtefplhkjcclppaaDoorFieldB
namespace Go.Proofs.YtefplhkjcclppaaDoor
open Go.RowKit Go.Pantry

/-- can fields be gone through with? -/
def smallG (L : List Fld) : Bool := L.all (fun f => decide (f.1.length ≤ 100) && decide (f.2.length ≤ 300)) && decide (L.length ≤ 30)
set_option maxHeartbeats 4000000 in
theorem small_any (v : Value) (L : List Fld) (w : World) (hr : Reads2 w v L) (hn : (L.length : Int) ≤ 9223372036854775807) :
    Calls Tryd.prog 5 #[v] w fun e w' => e = .returned (.bool (smallG L)) ∧ Below w.heap.size w w' := by
  obtain ⟨ao, cap, rfl⟩ := hr.form
  have HR := hid hr
  have hrf : smallG L = (L.all (fun f => decide (f.1.length ≤ 100) && decide (f.2.length ≤ 300)) && decide (L.length ≤ 30)) := rfl
  obtain ⟨r, hrr⟩ : ∃ r, smallG L = r := ⟨_, rfl⟩
  rw [hrr] at hrf ⊢
  have HF := hid hrf
  clear hr hrr hrf
  go_enter Tryd.func5, Tryd.ntmps5
  go_wp2
  go_loopw [7] (fun i wr => ∃ (k : Nat), k ≤ L.length ∧ i = .int .i64 k ∧ (L.take k).all (fun f => decide (f.1.length ≤ 100) && decide (f.2.length ≤ 300)) = true ∧ Below w.heap.size w wr) (fun i _ => L.length - (intOf i).toNat)
  case atStart => exact ⟨0, Nat.zero_le _, rfl, rfl, Below.refl _ _⟩
  case round =>
    obtain ⟨k, hk, rfl, hak, hb⟩ := hrel
    have HK := hid hak
    clear hak
    by_cases hlt : k < L.length
    · obtain ⟨f, hf⟩ : ∃ f, L[k]? = some f := ⟨_, List.getElem?_eq_getElem hlt⟩
      obtain ⟨b, off, rfl, hc1, hc2⟩ := (HR.out.below hb).fld hf
      have HM := hid (List.mem_of_getElem? hf)
      have HT := hid (take_fld hf)
      clear hf
      by_cases p1 : (100 : Int) < (f.1.length : Int)
      · have d1 : decide ((100 : Int) < (f.1.length : Int)) = true := decide_eq_true p1
        have hno : r = false := by
          rw [HF.out]
          rw [List.all_eq_false.2 ⟨f, HM.out, by simp; omega⟩]; rfl
        subst hno
        go_wp2_with fail
        go_ret
        exact ⟨rfl, chain2 hb hb.size (below_alloc _ _)⟩
      · by_cases p2 : (300 : Int) < (f.2.length : Int)
        · have d1 : decide ((100 : Int) < (f.1.length : Int)) = false := decide_eq_false p1
          have d2 : decide ((300 : Int) < (f.2.length : Int)) = true := decide_eq_true p2
          have hno : r = false := by
            rw [HF.out]
            rw [List.all_eq_false.2 ⟨f, HM.out, by simp; omega⟩]; rfl
          subst hno
          go_wp2_with fail
          go_ret
          exact ⟨rfl, chain2 hb hb.size (below_alloc _ _)⟩
        · have d1 : decide ((100 : Int) < (f.1.length : Int)) = false := decide_eq_false p1
          have d2 : decide ((300 : Int) < (f.2.length : Int)) = false := decide_eq_false p2
          have p1' : (f.1.length : Int) ≤ 100 := by omega
          have p2' : (f.2.length : Int) ≤ 300 := by omega
          go_wp2_with fail
          go_roundw
          case rel => exact ⟨k + 1, hlt, by go_num, by rw [HT.out, List.all_append, HK.out]; simp; omega, chain2 hb hb.size (below_alloc _ _)⟩
          case measure => simp [intOf]; omega
    · have hyes : r = decide (L.length ≤ 30) := by
        have h := HK.out
        rw [List.take_of_length_le (show L.length ≤ k by omega)] at h
        rw [HF.out, h]; rfl
      have HY := hid hyes
      clear hyes
      by_cases p : (L.length : Int) ≤ 30
      · have d : decide ((L.length : Int) ≤ 30) = true := decide_eq_true p
        have hr1 : r = true := by rw [HY.out]; exact decide_eq_true (by omega)
        subst hr1
        go_wp2_with fail
        go_ret
        exact ⟨rfl, hb⟩
      · have d : decide ((L.length : Int) ≤ 30) = false := decide_eq_false p
        have hr1 : r = false := by rw [HY.out]; exact decide_eq_false (by omega)
        subst hr1
        go_wp2_with fail
        go_ret
        exact ⟨rfl, hb⟩
theorem smallG_ok {L : List Fld} (h : smallG L = true) : okFs L ∧ L.length ≤ 30 ∧ ∀ f ∈ L, f.1.length ≤ 100 ∧ f.2.length ≤ 300 := by
  unfold smallG at h
  simp only [Bool.and_eq_true, decide_eq_true_eq, List.all_eq_true] at h
  exact ⟨⟨by omega, fun f hf => by have := h.1 f hf; omega⟩, h.2, h.1⟩
end Go.Proofs.YtefplhkjcclppaaDoor
