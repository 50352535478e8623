/-
  The document's answers of layer 8: segments, Path.
-/
import Derived.Test.YthokpbpnecdgpaaGreatDoorRef8A
import Derived.Test.YthokpbpnecdgpaaGreatDoorPlaceE
namespace Go.Pantry
open Go.RowKit
theorem seg_cut {s : List UInt8} {l i : Nat} (h1 : l ≤ i) (hi : i ≤ s.length) (hn : (47 : UInt8) ∉ (s.drop l).take (i - l)) (he : i = s.length ∨ (∃ h : i < s.length, s[i] = 47)) :
    segL (s.drop l) = (s.drop l).take (i - l) :: (if i < s.length then segL (s.drop (i + 1)) else []) := by
  rcases he with rfl | ⟨h, he⟩
  · have e : (s.drop l).take (s.length - l) = s.drop l := List.take_of_length_le (by simp)
    rw [e] at hn ⊢
    rw [seg_none hn, if_neg (by omega)]
  · have e : s.drop l = (s.drop l).take (i - l) ++ 47 :: s.drop (i + 1) := by
      conv => lhs; rw [← List.take_append_drop (i - l) (s.drop l)]
      rw [List.drop_drop, show l + (i - l) = i from by omega, List.drop_eq_getElem_cons h, he]
    rw [if_pos h]
    conv => lhs; rw [e]
    rw [seg_at _ hn]
theorem slash_len (l : List (List UInt8)) : (slashL l).length = wS l := by
  induction l with
  | nil => rfl
  | cons a l ih =>
    have h3 : wS (a :: l) = (a.length + 1) + wS l := by simp [wS]
    have h4 : slashL (a :: l) = (47 :: a) ++ slashL l := by simp [slashL]
    rw [h3, h4, List.length_append, ih]; simp
theorem slash_take (l : List (List UInt8)) (k : Nat) : (slashL (l.take k)).length ≤ wS l := by
  rw [slash_len]
  have h := wS_append (l.take k) (l.drop k)
  rw [List.take_append_drop] at h
  omega
theorem slash_snoc {l : List (List UInt8)} {k : Nat} {x : List UInt8} (h : l[k]? = some x) : slashL (l.take (k + 1)) = slashL (l.take k) ++ ([47] ++ x) := by
  rw [List.take_add_one, h]
  simp [slashL]
end Go.Pantry
namespace Go.Proofs.YthokpbpnecdgpaaGreatDoor
open Go.RowKit Go.Pantry

set_option maxRecDepth 100000 in
set_option maxHeartbeats 8000000 in
theorem refSegments_any (s : ByteArray) (w : World) (h0 : 1 ≤ s.size) (hs : s.size ≤ 100000) :
    Calls Tryz.prog 34 #[.string s] w fun e w' => (∃ v, e = .returned v ∧ w'.ownsRow w.heap.size 9 1 v (segL s.data.toList.tail).length ((segL s.data.toList.tail).map strV)) ∧ Below w.heap.size w w' := by
  obtain ⟨S, hS⟩ : ∃ S, segL s.data.toList.tail = S := ⟨_, rfl⟩
  rw [hS]
  have hS1 : segL (s.data.toList.drop 1) = S := by rw [List.drop_one]; exact hS
  have HS1 := hid hS1
  clear hS hS1
  go_enter Tryz.func34, Tryz.ntmps34
  go_wp2_with fail
  go_loopw [3, 4, 5] (fun v la i wr => ∃ (k a : Nat) (E : List (List UInt8)), k ≤ s.size + 1 ∧ i = .int .i64 (k : Int) ∧ la = .int .i64 (a : Int) ∧ a ≤ k ∧ E.length ≤ k ∧ ((a ≤ s.size ∧ k ≤ s.size ∧ E ++ segL (s.data.toList.drop a) = S) ∨ (a = s.size + 1 ∧ E = S)) ∧ (47 : UInt8) ∉ (s.data.toList.drop a).take (k - a) ∧ wr.ownsRow w.heap.size 9 1 v E.length (E.map strV) ∧ Below w.heap.size w wr) (fun _ _ i _ => s.size + 1 - (intOf i).toNat)
  case atStart => exact ⟨1, 1, [], by omega, rfl, rfl, Nat.le_refl _, by simp, .inl ⟨by omega, by omega, HS1.out⟩, by simp, World.ownsRow_nil _ _ _ _, Below.refl _ _⟩
  case round =>
    obtain ⟨k, a, E, hk, rfl, rfl, hak, hE, hst, hno, ho, hb⟩ := hrel
    have HO := hid ho
    have HNO := hid hno
    have HST := hid hst
    have hB := hb.size
    clear ho hno hst
    by_cases hle : k ≤ s.size
    · have f1 : decide ((k : Int) ≤ (s.size : Int)) = true := by simp; omega
      have hx : s.extract a k = ⟨((s.data.toList.drop a).take (k - a)).toArray⟩ := Lib.extract_eq _ _ _
      obtain ⟨X, hX⟩ : ∃ X, (s.data.toList.drop a).take (k - a) = X := ⟨_, rfl⟩
      rw [hX] at hx
      have hcut : ∀ (he : k = s.data.toList.length ∨ (∃ h : k < s.data.toList.length, s.data.toList[k] = 47)), E ++ [X] ++ (if k < s.size then segL (s.data.toList.drop (k + 1)) else []) = S := fun he => by
        have h1 := seg_cut hak (by rw [size_list]; exact hle) HNO.out he
        rw [hX, size_list] at h1
        rcases HST.out with ⟨_, _, h2⟩ | ⟨h2, _⟩
        · rw [h1] at h2
          rw [← h2]; simp
        · omega
      by_cases hlt : k < s.size
      · have f2 : ((k : Int) == (s.size : Int)) = false := by rw [beq_eq_false_iff_ne]; omega
        by_cases hq : s[k] = 47
        · have fq : ((s[k].toNat : Int) == 47) = true := by rw [hq]; rfl
          have h3 := hcut (.inr ⟨by rw [size_list]; exact hlt, by rw [getElem_list s k hlt]; exact hq⟩)
          rw [if_pos hlt] at h3
          have H3 := hid h3
          clear hcut h3 hX hq
          go_wp2_with (at_builtin; go_must (refine wpList_append_one _ rfl _ _ 49 rfl w.heap.size 9 Tryz.underlying49 infoStr rfl (by decide) rfl HO.out rfl (by first | rfl | simp) (by omega) hB ?_); intro v' w3 ho3 hg3 hb3)
          go_roundw
          case rel => exact ⟨k + 1, k + 1, E ++ [X], by omega, by go_num, by go_num, Nat.le_refl _, by simp; omega, .inl ⟨by omega, by omega, H3.out⟩, by simp, by simpa using ho3, hb.trans hb3⟩
          case measure => simp [intOf]; omega
        · have fq : ((s[k].toNat : Int) == 47) = false := by
            rw [← byte_beq s[k] 47 (z := 47) rfl]; simpa using hq
          have hmore := seg_more hak (by rw [size_list]; exact hlt) HNO.out (by rw [getElem_list s k hlt]; exact hq)
          have HM := hid hmore
          have hst3 : ((a ≤ s.size ∧ k + 1 ≤ s.size ∧ E ++ segL (s.data.toList.drop a) = S) ∨ (a = s.size + 1 ∧ E = S)) := by
            rcases HST.out with ⟨h1, h2, h3⟩ | h
            · exact .inl ⟨h1, hlt, h3⟩
            · exact .inr h
          have HST3 := hid hst3
          clear hst3
          clear hcut hX hx hq hmore
          go_wp2_with fail
          go_roundw
          case rel => exact ⟨k + 1, a, E, by omega, by go_num, rfl, by omega, by omega, HST3.out, HM.out, HO.out, hb⟩
          case measure => simp [intOf]; omega
      · obtain rfl : k = s.size := by omega
        have h3 := hcut (.inl (size_list s).symm)
        rw [if_neg (Nat.lt_irrefl _), List.append_nil] at h3
        have H3 := hid h3
        clear hcut h3 hX
        go_wp2_with (at_builtin; go_must (refine wpList_append_one _ rfl _ _ 49 rfl w.heap.size 9 Tryz.underlying49 infoStr rfl (by decide) rfl HO.out rfl (by first | rfl | simp) (by omega) hB ?_); intro v' w3 ho3 hg3 hb3)
        go_roundw
        case rel => exact ⟨s.size + 1, s.size + 1, E ++ [X], by omega, by go_num, by go_num, Nat.le_refl _, by simp; omega, .inr ⟨rfl, H3.out⟩, by simp, by simpa using ho3, hb.trans hb3⟩
        case measure => simp [intOf] <;> omega
    · have f1 : decide ((k : Int) ≤ (s.size : Int)) = false := by rw [decide_eq_false_iff_not]; omega
      have hES : E = S := by
        rcases HST.out with ⟨_, h1, _⟩ | ⟨_, h2⟩
        · exact absurd h1 hle
        · exact h2
      subst hES
      go_wp2_with fail
      go_ret
      exact ⟨⟨_, rfl, HO.out⟩, hb⟩
end Go.Proofs.YthokpbpnecdgpaaGreatDoor
