/-
  The document's answers of layer 5: pieces.
-/
import Derived.Test.YtfoghjhdjmapnaaGreatDoorRef5C
import Derived.Test.YtfoghjhdjmapnaaGreatDoorBase
import Derived.Test.YtfoghjhdjmapnaaGreatDoorInfo
namespace Go.Proofs.YtfoghjhdjmapnaaGreatDoor
open Go.RowKit Go.Pantry

theorem findI_at {w s : List UInt8} {k : Nat} : findI w s k = match findL w (s.drop k) with | none => -1 | some i => ((k + i : Nat) : Int) := rfl
theorem pieces_none {w s : List UInt8} (r : Nat) (h : findL w s = none) : piecesL w r s = [s] := by
  cases r with
  | zero => rfl
  | succ r => rw [piecesL, h]
theorem pieces_some {w s : List UInt8} {i r : Nat} (h : findL w s = some i) : piecesL w (r + 1) s = s.take i :: piecesL w r (s.drop (i + w.length)) := by
  rw [piecesL, h]
set_option maxHeartbeats 4000000 in
theorem refPieces_any (s wd : List UInt8) (z0 : Int) (n : Nat) (w : World) (hw : wd ≠ []) (hs : s.length ≤ 1000000) (hwl : wd.length ≤ 100) (hz : (z0 = (n : Int) ∧ n ≤ 1000) ∨ (z0 = -1 ∧ n = s.length)) :
    Calls Tryz.prog 18 #[strV s, strV wd, .int .i64 z0] w fun e w' => ∃ v, e = .returned v ∧ w'.ownsRow w.heap.size 9 1 v (piecesL wd n s).length ((piecesL wd n s).map strV) ∧ Below w.heap.size w w' := by
  have cf := fun k W h => refFind_any s wd k W hw hs hwl h
  have CF := hid cf
  have HW : Hid (0 < wd.length) := hid (List.length_pos_iff.2 hw)
  have hlt0 : ∀ (t : List UInt8) (i : Nat), findL wd t = some i → i + wd.length ≤ t.length := fun _ _ h => findL_lt hw h
  have HL := hid hlt0
  obtain ⟨R, hR⟩ : ∃ R, piecesL wd n s = R := ⟨_, rfl⟩
  rw [hR]
  have HR := hid hR
  have HZ := hid hz
  clear cf hw hlt0 hR hz
  go_enter Tryz.func18, Tryz.ntmps18
  go_wp2
  go_loopw [2, 7, 8] (fun zv v kv wr => ∃ (z : Int) (k r : Nat) (E : List (List UInt8)), zv = .int .i64 z ∧ kv = .int .i64 k ∧ k ≤ s.length ∧ E.length ≤ k ∧ E ++ piecesL wd r (s.drop k) = R ∧ ((z = (r : Int) ∧ r ≤ 1000) ∨ (z < 0 ∧ -1 - (k : Int) ≤ z ∧ (s.drop k).length ≤ r)) ∧ wr.ownsRow w.heap.size 9 1 v E.length (E.map strV) ∧ Below w.heap.size w wr) (fun _ _ kv _ => s.length - (intOf kv).toNat)
  case atStart =>
    refine ⟨z0, 0, n, [], rfl, rfl, Nat.zero_le _, Nat.zero_le _, by simpa using HR.out, ?_, World.ownsRow_nil _ _ _ _, Below.refl _ _⟩
    rcases HZ.out with ⟨h1, h2⟩ | ⟨h1, h2⟩
    · exact .inl ⟨h1, h2⟩
    · exact .inr ⟨by omega, by omega, by rw [List.drop_zero]; omega⟩
  case round =>
    obtain ⟨z, k, r, E, rfl, rfl, hk, hE, hRE, hzr, hown, hb⟩ := hrel
    have hB := hb.size
    have HE := hid hRE
    have HZR := hid hzr
    clear hRE hzr
    have hex := extract_mid s k (s.length - k)
    have hexs : (⟨s.toArray⟩ : ByteArray).extract k s.length = ⟨(s.drop k).toArray⟩ := by
      rw [show k + (s.length - k) = s.length by omega] at hex
      rw [hex, List.take_of_length_le (by rw [List.length_drop]; omega)]
    clear hex
    by_cases h0 : z = 0
    · have hl : E ++ [s.drop k] = R := by
        rcases HZR.out with ⟨h1, _⟩ | ⟨h1, _⟩
        · obtain rfl : r = 0 := by omega
          exact HE.out
        · omega
      have HLL := hid hl
      subst h0
      clear hl
      generalize s.drop k = X at hexs HLL HE HZR
      go_wp2_with ((at_builtin; go_must (refine wpList_append_one _ rfl _ _ 48 rfl w.heap.size 9 Tryz.underlying48 infoStr rfl (by decide) rfl hown rfl rfl (by omega) hB ?_); intro v' w3 hown3 hg3 hb3))
      go_ret
      exact ⟨v', rfl, by rw [← HLL.out]; simpa using hown3, hb.trans hb3⟩
    · have zn : (z != 0) = true := by simpa using h0
      cases hf : findL wd (s.drop k) with
      | none =>
        have hl : E ++ [s.drop k] = R := by rw [← HE.out, pieces_none r hf]
        have hi : findI wd s k = -1 := by rw [findI_at, hf]
        have HLL := hid hl
        have HI := hid hi
        clear hl hi hf
        generalize s.drop k = X at hexs HLL HE HZR
        go_wp2_with fail
        refine (CF.out k _ hk).mono ?_
        rintro e w2 ⟨rfl, rfl⟩
        rw [HI.out]
        go_wp2_with ((at_builtin; go_must (refine wpList_append_one _ rfl _ _ 48 rfl w.heap.size 9 Tryz.underlying48 infoStr rfl (by decide) rfl hown rfl rfl (by omega) hB ?_); intro v' w3 hown3 hg3 hb3))
        go_ret
        exact ⟨v', rfl, by rw [← HLL.out]; simpa using hown3, hb.trans hb3⟩
      | some i =>
        have hi : findI wd s k = ((k + i : Nat) : Int) := by rw [findI_at, hf]
        have hil := HL.out _ _ hf
        have hdl : (s.drop k).length = s.length - k := List.length_drop ..
        have h0w := HW.out
        obtain ⟨r', rfl⟩ : ∃ r', r = r' + 1 := by
          rcases HZR.out with ⟨h1, _⟩ | ⟨h1, _, h3⟩
          · exact ⟨r - 1, by omega⟩
          · exact ⟨r - 1, by omega⟩
        have hl : (E ++ [(s.drop k).take i]) ++ piecesL wd r' (s.drop (k + i + wd.length)) = R := by
          rw [← HE.out, pieces_some hf, List.drop_drop, ← Nat.add_assoc]
          simp
        have hex2 := extract_mid s k i
        obtain ⟨c, hc⟩ : ∃ c, c = k + i := ⟨_, rfl⟩
        rw [← hc] at hi hex2 hl
        have hkc : k ≤ c := by omega
        have hkc2 : (k : Int) ≤ (c : Int) := by omega
        have hcs : (c : Int) ≤ (s.length : Int) := by omega
        have hcn : ¬ (c : Int) < 0 := by omega
        have hcw : IntKind.i64.wrap ((c : Int) + (wd.length : Int)) = (c : Int) + (wd.length : Int) := IntWalk.i64_in _ (by omega)
        have hzw : IntKind.i64.wrap (z - 1) = z - 1 := by
          rcases HZR.out with ⟨h1, h2⟩ | ⟨h1, h2, h3⟩
          · exact IntWalk.i64_in _ (by omega)
          · exact IntWalk.i64_in _ (by omega)
        have HI := hid hi
        have HLL := hid hl
        have hdl2 : (s.drop (c + wd.length)).length = s.length - (c + wd.length) := List.length_drop ..
        have HC := hid hc
        have HIL := hid hil
        have HD2 := hid hdl2
        have HD1 := hid hdl
        clear hl hi hf hexs hdl2 hdl hc hil
        generalize (s.drop k).take i = X at hex2 HLL
        go_wp2_with fail
        refine (CF.out k _ hk).mono ?_
        rintro e w2 ⟨rfl, rfl⟩
        rw [HI.out]
        go_wp2_with ((at_builtin; go_must (refine wpList_append_one _ rfl _ _ 48 rfl w.heap.size 9 Tryz.underlying48 infoStr rfl (by decide) rfl hown rfl rfl (by omega) hB ?_); intro v' w3 hown3 hg3 hb3))
        go_roundw
        case rel =>
          have q1 := HC.out
          have q2 := HIL.out
          have q3 := HD1.out
          have q4 := HD2.out
          refine ⟨z - 1, c + wd.length, r', E ++ [X], by go_num, by go_num, by omega, by simp; omega, HLL.out, ?_, by simpa using hown3, hb.trans hb3⟩
          rcases HZR.out with ⟨h1, h2⟩ | ⟨h1, h2, h3⟩
          · exact .inl ⟨by omega, by omega⟩
          · exact .inr ⟨by omega, by omega, by omega⟩
        case measure =>
          have q1 := HC.out
          have q2 := HIL.out
          have q3 := HD1.out
          simp [intOf]; omega
end Go.Proofs.YtfoghjhdjmapnaaGreatDoor
