/-
  Contract of layer 3's statements: words.
-/
import Derived.Test.YtcipfbjneeafaaaDoorRefFieldA
namespace Go.Proofs.YtcipfbjneeafaaaDoor
open Go.RowKit Go.Pantry

set_option maxHeartbeats 4000000 in
theorem words_any (v1 v2 : Value) (A B : List (List UInt8)) (w : World) (hr1 : Reads w v1 (A.map strV)) (hr2 : Reads w v2 (B.map strV)) (hn : A.length < 4294967296) :
    Calls Tryd.prog 20 #[v1, v2] w fun e w' => e = .returned (.bool (decide (A = B))) ∧ w = w' := by
  obtain ⟨ao1, cap1, rfl⟩ := Reads.strs hr1
  obtain ⟨ao2, cap2, rfl⟩ := Reads.strs hr2
  obtain ⟨r, hrr⟩ : ∃ r, decide (A = B) = r := ⟨_, rfl⟩
  rw [hrr]
  have HRR := hid hrr
  have HR1 := hid hr1
  have HR2 := hid hr2
  clear hrr hr1 hr2
  by_cases hl : (A.length : Int) = (B.length : Int)
  · have h1 : ((A.length : Int) == (B.length : Int)) = true := by simpa using hl
    have h2 : ((A.length : Int) != (B.length : Int)) = false := by simpa using hl
    have HL := hid hl
    clear hl
    go_enter Tryd.func20, Tryd.ntmps20
    go_wp2
    go_loop [14] (fun i => ∃ (k : Nat), k ≤ A.length ∧ i = .int .i64 k ∧ A.take k = B.take k) (fun i => A.length - (intOf i).toNat)
    case atStart => exact ⟨0, Nat.zero_le _, rfl, by simp⟩
    case round =>
      obtain ⟨k, hk, rfl, he⟩ := hrel
      have HE := hid he
      clear he
      by_cases hlt : k < A.length
      · have hlM : (k : Int) < (B.length : Int) := by have := HL.out; omega
        obtain ⟨x, hx⟩ : ∃ x, A[k]? = some x := ⟨_, List.getElem?_eq_getElem hlt⟩
        obtain ⟨y, hy⟩ : ∃ y, B[k]? = some y := ⟨_, List.getElem?_eq_getElem (by omega)⟩
        obtain ⟨b1, off1, rfl, hc1⟩ := Reads.str HR1.out hx
        obtain ⟨b2, off2, rfl, hc2⟩ := Reads.str HR2.out hy
        have HT1 := hid (take_str hx)
        have HT2 := hid (take_str hy)
        clear hx hy
        cases q : (x == y)
        · have q' : (x != y) = true := by rw [bne, q]; rfl
          have hno : r = false := by
            rw [← HRR.out]
            refine decide_eq_false (fun e => ?_)
            have h3 := HT1.out
            rw [e, HT2.out] at h3
            have h4 : y = x := by simpa using List.append_cancel_left h3
            subst h4
            simp at q
          subst hno
          go_wp2_with fail
          go_ret
          exact ⟨rfl, rfl⟩
        · have q' : (x != y) = false := by rw [bne, q]; rfl
          have hxy : x = y := by simpa using q
          have HXY := hid hxy
          clear hxy
          go_wp2_with fail
          go_round
          case rel => exact ⟨k + 1, hlt, by go_num, by rw [HT1.out, HT2.out, HE.out, HXY.out]⟩
          case measure => simp [intOf]; omega
      · have hyes : r = true := by
          rw [← HRR.out]
          refine decide_eq_true ?_
          have h3 := HE.out
          have h4 := HL.out
          rwa [List.take_of_length_le (by omega), List.take_of_length_le (by omega)] at h3
        subst hyes
        go_wp2_with fail
        go_ret
        exact ⟨rfl, rfl⟩
  · have h1 : ((A.length : Int) == (B.length : Int)) = false := by simpa using hl
    have h2 : ((A.length : Int) != (B.length : Int)) = true := by simpa using hl
    have hno : r = false := by rw [← HRR.out]; exact decide_eq_false (fun e => hl (by rw [e]))
    subst hno
    clear hl
    go_enter Tryd.func20, Tryd.ntmps20
    go_wp2
    go_ret
    exact ⟨rfl, rfl⟩
end Go.Proofs.YtcipfbjneeafaaaDoor
