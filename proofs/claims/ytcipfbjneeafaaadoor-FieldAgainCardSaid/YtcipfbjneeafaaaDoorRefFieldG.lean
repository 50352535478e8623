/-
  Contracts of layer 3: the document's Right of fields; the statements' small and words.
-/
import Derived.Test.YtcipfbjneeafaaaDoorRefFieldF
namespace Go.Proofs.YtcipfbjneeafaaaDoor
open Go.RowKit Go.Pantry

set_option maxHeartbeats 4000000 in
theorem refRights_any (v : Value) (L : List Fld) (w : World) (hr : Reads2 w v L) (hL : ∀ f ∈ L, f.1.length < 4294967296) (hV : ∀ f ∈ L, f.2.length < 4294967296) (hn : L.length < 1000000) :
    Calls Tryd.prog 18 #[v] w fun e w' => e = .returned (.bool (rightFs L)) ∧ Below w.heap.size w w' := by
  obtain ⟨ao, cap, rfl⟩ := hr.form
  have HR := hid hr
  have HL := hid hL
  have HV := hid hV
  have hrf : rightFs L = (decide (L.length ≤ 64) && L.all rightF) := rfl
  obtain ⟨r, hrr⟩ : ∃ r, rightFs L = r := ⟨_, rfl⟩
  rw [hrr] at hrf ⊢
  have HF := hid hrf
  clear hr hL hV hrr hrf
  by_cases h64 : (64 : Int) < (L.length : Int)
  · have hno : r = false := by rw [HF.out, decide_eq_false (by omega)]; rfl
    subst hno
    go_enter Tryd.func18, Tryd.ntmps18
    go_wp2
    go_ret
    exact ⟨rfl, Below.refl _ _⟩
  · have h64' : (L.length : Int) ≤ 64 := by omega
    have hd : decide ((64 : Int) < (L.length : Int)) = false := decide_eq_false h64
    have hall : r = L.all rightF := by rw [HF.out, decide_eq_true (by omega)]; rfl
    have HA := hid hall
    clear h64 hall
    go_enter Tryd.func18, Tryd.ntmps18
    go_wp2
    go_loopw [3] (fun i wr => ∃ (k : Nat), k ≤ L.length ∧ i = .int .i64 k ∧ (L.take k).all rightF = true ∧ Below w.heap.size w wr) (fun i _ => L.length - (intOf i).toNat)
    case atStart => exact ⟨0, Nat.zero_le _, rfl, rfl, Below.refl _ _⟩
    case round =>
      obtain ⟨k, hk, rfl, hak, hb⟩ := hrel
      have HK := hid hak
      clear hak
      by_cases hlt : k < L.length
      · obtain ⟨f, hf⟩ : ∃ f, L[k]? = some f := ⟨_, List.getElem?_eq_getElem hlt⟩
        obtain ⟨b, off, rfl, hc1, hc2⟩ := (HR.out.below hb).fld hf
        have hfl := HL.out f (List.mem_of_getElem? hf)
        have hfv := HV.out f (List.mem_of_getElem? hf)
        have HM := hid (List.mem_of_getElem? hf)
        have HT := hid (take_fld hf)
        clear hf
        have cI := fun W => refRight_any f W hfl hfv
        obtain ⟨q, hq⟩ : ∃ q, rightF f = q := ⟨_, rfl⟩
        rw [hq] at cI
        have CI := hid cI
        have HQ := hid hq
        clear cI hq
        cases q
        · have hno : r = false := by rw [HA.out]; exact List.all_eq_false.2 ⟨f, HM.out, by rw [HQ.out]; simp⟩
          subst hno
          go_wp2_with fail
          refine (CI.out _).mono ?_
          rintro e w2 ⟨rfl, hb2⟩
          go_wp2_with fail
          go_ret
          exact ⟨rfl, chain2 hb hb.size hb2⟩
        · go_wp2_with fail
          refine (CI.out _).mono ?_
          rintro e w2 ⟨rfl, hb2⟩
          go_wp2_with fail
          go_roundw
          case rel => exact ⟨k + 1, hlt, by go_num, by rw [HT.out, List.all_append, HK.out]; simp [HQ.out], chain2 hb hb.size hb2⟩
          case measure => simp [intOf]; omega
      · have hyes : r = true := by rw [HA.out, ← List.take_of_length_le (show L.length ≤ k by omega)]; exact HK.out
        subst hyes
        go_wp2
        go_ret
        exact ⟨rfl, hb⟩

/-- can fields be gone through with? -/
def smallF (L : List Fld) : Bool := L.all (fun f => decide (f.1.length ≤ 200) && decide (f.2.length ≤ 1100)) && decide (L.length ≤ 70)
set_option maxHeartbeats 4000000 in
theorem small_any (v : Value) (L : List Fld) (w : World) (hr : Reads2 w v L) (hn : (L.length : Int) ≤ 9223372036854775807) :
    Calls Tryd.prog 11 #[v] w fun e w' => e = .returned (.bool (smallF L)) ∧ Below w.heap.size w w' := by
  obtain ⟨ao, cap, rfl⟩ := hr.form
  have HR := hid hr
  have hrf : smallF L = (L.all (fun f => decide (f.1.length ≤ 200) && decide (f.2.length ≤ 1100)) && decide (L.length ≤ 70)) := rfl
  obtain ⟨r, hrr⟩ : ∃ r, smallF L = r := ⟨_, rfl⟩
  rw [hrr] at hrf ⊢
  have HF := hid hrf
  clear hr hrr hrf
  go_enter Tryd.func11, Tryd.ntmps11
  go_wp2
  go_loopw [7] (fun i wr => ∃ (k : Nat), k ≤ L.length ∧ i = .int .i64 k ∧ (L.take k).all (fun f => decide (f.1.length ≤ 200) && decide (f.2.length ≤ 1100)) = true ∧ Below w.heap.size w wr) (fun i _ => L.length - (intOf i).toNat)
  case atStart => exact ⟨0, Nat.zero_le _, rfl, rfl, Below.refl _ _⟩
  case round =>
    obtain ⟨k, hk, rfl, hak, hb⟩ := hrel
    have HK := hid hak
    clear hak
    by_cases hlt : k < L.length
    · obtain ⟨f, hf⟩ : ∃ f, L[k]? = some f := ⟨_, List.getElem?_eq_getElem hlt⟩
      obtain ⟨b, off, rfl, hc1, hc2⟩ := (HR.out.below hb).fld hf
      have HM := hid (List.mem_of_getElem? hf)
      have HT := hid (take_fld hf)
      clear hf
      by_cases p1 : (200 : Int) < (f.1.length : Int)
      · have d1 : decide ((200 : Int) < (f.1.length : Int)) = true := decide_eq_true p1
        have hno : r = false := by
          rw [HF.out]
          rw [List.all_eq_false.2 ⟨f, HM.out, by simp; omega⟩]; rfl
        subst hno
        go_wp2_with fail
        go_ret
        exact ⟨rfl, chain2 hb hb.size (below_alloc _ _)⟩
      · by_cases p2 : (1100 : Int) < (f.2.length : Int)
        · have d1 : decide ((200 : Int) < (f.1.length : Int)) = false := decide_eq_false p1
          have d2 : decide ((1100 : Int) < (f.2.length : Int)) = true := decide_eq_true p2
          have hno : r = false := by
            rw [HF.out]
            rw [List.all_eq_false.2 ⟨f, HM.out, by simp; omega⟩]; rfl
          subst hno
          go_wp2_with fail
          go_ret
          exact ⟨rfl, chain2 hb hb.size (below_alloc _ _)⟩
        · have d1 : decide ((200 : Int) < (f.1.length : Int)) = false := decide_eq_false p1
          have d2 : decide ((1100 : Int) < (f.2.length : Int)) = false := decide_eq_false p2
          have p1' : (f.1.length : Int) ≤ 200 := by omega
          have p2' : (f.2.length : Int) ≤ 1100 := by omega
          go_wp2_with fail
          go_roundw
          case rel => exact ⟨k + 1, hlt, by go_num, by rw [HT.out, List.all_append, HK.out]; simp; omega, chain2 hb hb.size (below_alloc _ _)⟩
          case measure => simp [intOf]; omega
    · have hyes : r = decide (L.length ≤ 70) := by
        have h := HK.out
        rw [List.take_of_length_le (show L.length ≤ k by omega)] at h
        rw [HF.out, h]; rfl
      have HY := hid hyes
      clear hyes
      by_cases p : (L.length : Int) ≤ 70
      · have d : decide ((L.length : Int) ≤ 70) = true := decide_eq_true p
        have hr1 : r = true := by rw [HY.out]; exact decide_eq_true (by omega)
        subst hr1
        go_wp2_with fail
        go_ret
        exact ⟨rfl, hb⟩
      · have d : decide ((L.length : Int) ≤ 70) = false := decide_eq_false p
        have hr1 : r = false := by rw [HY.out]; exact decide_eq_false (by omega)
        subst hr1
        go_wp2_with fail
        go_ret
        exact ⟨rfl, hb⟩
end Go.Proofs.YtcipfbjneeafaaaDoor
