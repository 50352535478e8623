/-
  Contracts of the document's answers of layer 1: quoted, List.
-/
import Derived.Test.YtbjgbkbhalibdaaGreatDoorRefSignA
import Derived.Test.YtbjgbkbhalibdaaGreatDoorRefSignB
import Derived.Test.YtbjgbkbhalibdaaGreatDoorInfo
import Derived.Test.YtbjgbkbhalibdaaGreatDoorPureAll1
namespace Go.Proofs.YtbjgbkbhalibdaaGreatDoor
open Go.RowKit Go.Pantry


theorem refquoted_any (s : ByteArray) (w : World) (hs : s.size < 4294967296) :
    Calls Tryz.prog 55 #[.string s] w fun e w' => ∃ v, e = .returned v ∧ Reads w' v ((qd false false s.data.toList).map Value.bool) ∧ Below w.heap.size w w' := by
  go_enter Tryz.func55, Tryz.ntmps55
  go_wp2_with (at_make; go_must (refine Go.Pantry.wpList_make_row _ rfl _ _ 96 rfl 4 Tryz.underlying96 infoBool rfl (by decide) _ _ _ _ s.size rfl rfl rfl rfl hs ?_); intro w1 xs hxs hrow hlt1 hb1)
  go_loopw [4, 5, 6] (fun vi vs i wr => ∃ (k : Nat) (R : List Value), k ≤ s.size ∧ i = .int .i64 k ∧ vi = .bool (stIn false false (s.data.toList.take k)).1 ∧ vs = .bool (stIn false false (s.data.toList.take k)).2 ∧ R.length = s.size - k ∧ blockAt wr w.heap.size ((qd false false (s.data.toList.take k)).map Value.bool ++ R) ∧ Below w.heap.size w wr ∧ w.heap.size < wr.heap.size) (fun _ _ i _ => s.size - (intOf i).toNat)
  case atStart => exact ⟨0, xs, Nat.zero_le _, rfl, rfl, rfl, by omega, by simpa [qd] using hrow, hb1, hlt1⟩
  case round =>
    obtain ⟨k, R, hk, rfl, rfl, rfl, hR, hrw, hb, hsz⟩ := hrel
    obtain ⟨bi, hbi⟩ : ∃ b, b = (stIn false false (s.data.toList.take k)).1 := ⟨_, rfl⟩
    obtain ⟨bs, hbs⟩ : ∃ b, b = (stIn false false (s.data.toList.take k)).2 := ⟨_, rfl⟩
    rw [← hbi, ← hbs]
    have HI := hid hbi
    have HS := hid hbs
    have HR := hid hrw
    have HL := hid hR
    clear hbi hbs hrw hR
    by_cases hlt : k < s.size
    · have hlen : k < ((qd false false (s.data.toList.take k)).map Value.bool ++ R).length := by simp [qd_length, HL.out]; omega
      have hfree : wr.frozen? ⟨w.heap.size, k, none⟩ = false := HR.out.free k hlen
      have hcell := HR.out.cell k _ (List.getElem?_eq_getElem hlen)
      have hA : ((qd false false (s.data.toList.take k)).map Value.bool).length = k := by simp [qd_length]; omega
      have hRp : 0 < R.length := by rw [HL.out]; omega
      obtain ⟨u0, hu0⟩ : ∃ u, u = ((qd false false (s.data.toList.take k)).map Value.bool ++ R)[k]'hlen := ⟨_, rfl⟩
      rw [← hu0] at hcell
      clear hu0
      have HB := hid (byte_beq s[k] 34 (z := 34) rfl)
      have HC := hid (byte_beq s[k] 92 (z := 92) rfl)
      have HA := hid hA
      clear hA hlen
      cases bi <;> cases bs
      all_goals go_wp2
      all_goals
        go_roundw
        case rel =>
          refine ⟨k + 1, R.tail, by omega, by go_num, ?_, ?_, by simp [HL.out]; omega, ?_, hb.setCell (by simp) _, by simpa [World.setCell] using hsz⟩
          · rw [take_succ_list s k hlt, stIn_snoc, ← HI.out, ← HS.out]; simp [nextIn, HB.out, HC.out, *]
          · rw [take_succ_list s k hlt, stIn_snoc, ← HI.out, ← HS.out]; simp [nextSkip, HC.out, *]
          · have h := HR.out.set k (by simp [qd_length, HL.out]; omega)
            rw [take_succ_list s k hlt, qd_snoc1, List.map_append, ← HI.out]
            simp only [set_mid _ _ k _ HA.out hRp] at h
            simpa [HB.out, *] using h _
        case measure => simp [intOf]; omega
    · go_wp2
      go_ret
      refine ⟨_, rfl, ?_, hb⟩
      have h := HR.out
      have hR0 : R = [] := List.eq_nil_of_length_eq_zero (by rw [HL.out]; omega)
      rw [hR0, List.append_nil, take_all s k hlt] at h
      have hl : ((qd false false s.data.toList).map Value.bool).length = s.size := by simp [qd_length]
      have := h.reads s.size
      rw [hl] at this
      exact this

theorem refList_any (s : ByteArray) (w : World) (hs : s.size < 4294967295) :
    Calls Tryz.prog 34 #[.string s] w fun e w' => ∃ v, e = .returned v ∧ w'.ownsRow w.heap.size 9 1 v (listL s.data.toList).length ((listL s.data.toList).map strV) ∧ Below w.heap.size w w' := by
  go_enter Tryz.func34, Tryz.ntmps34
  go_wp2_with fail
  refine (refquoted_any s _ (by omega)).mono ?_
  rintro e w1 ⟨vq, rfl, hrd, hb0⟩
  obtain ⟨aq, cq, rfl, hcq, -⟩ := hrd
  have hl : ((qd false false s.data.toList).map Value.bool).length = s.size := by simp [qd_length]
  rw [hl]
  have HQ := hid hcq
  clear hcq hl
  go_wp2
  go_loopw [4, 5, 6] (fun v la i wr => ∃ (k a : Nat) (E : List (List UInt8)), k ≤ s.size + 1 ∧ i = .int .i64 k ∧ la = .int .i64 a ∧ a ≤ k ∧ k ≤ a + cut false false (s.data.toList.drop a) ∧ (qd false false s.data.toList).drop a = qd false false (s.data.toList.drop a) ∧ E.length ≤ k ∧ E ++ listL (s.data.toList.drop a) = listL s.data.toList ∧ wr.ownsRow w1.heap.size 9 1 v E.length (E.map strV) ∧ Below w1.heap.size w1 wr) (fun _ _ i _ => s.size + 1 - (intOf i).toNat)
  case atStart => exact ⟨0, 0, [], Nat.zero_le _, rfl, rfl, Nat.le_refl _, Nat.zero_le _, rfl, Nat.le_refl _, rfl, World.ownsRow_nil _ _ _ _, Below.refl _ _⟩
  case round =>
    obtain ⟨k, a, E, hk, rfl, rfl, hak, hka, hqd, hEk, hE, hown, hb⟩ := hrel
    have HE := hid hE
    have HD := hid hqd
    clear hE hqd
    have hB := hb.size
    by_cases hin : k < s.size ∧ k < a + cut false false (s.data.toList.drop a)
    · obtain ⟨hlt, hin⟩ := hin
      by_cases hc : s[k] = 44
      · have hq := qd_within _ a k HD.out hak hin (by rw [List.getElem?_eq_getElem (by rw [size_list]; exact hlt), getElem_list s k hlt, hc])
        obtain ⟨b, off, haq, hcell⟩ := HQ.out k (.bool true) (by rw [List.getElem?_map, hq]; rfl)
        subst haq
        have hcw := (hb.cell (p := ⟨b, off + k, none⟩) (World.block_lt_of_cell? w1 _ hcell)).trans hcell
        have hz : ((s[k].toNat : Int) != 44) = false := by rw [hc]; rfl
        have hc' := hid hc
        clear hc hcell
        go_wp2
        go_roundw
        case rel => exact ⟨k + 1, a, E, by omega, by go_num, rfl, by omega, by omega, HD.out, by omega, HE.out, hown, hb⟩
        case measure => simp [intOf]; omega
      · have hz : ((s[k].toNat : Int) != 44) = true := by
          rw [bne_iff_ne]; intro e; exact hc (UInt8.toNat_inj.1 (by simp; omega))
        clear hc
        go_wp2
        go_roundw
        case rel => exact ⟨k + 1, a, E, by omega, by go_num, rfl, by omega, by omega, HD.out, by omega, HE.out, hown, hb⟩
        case measure => simp [intOf]; omega
    · by_cases hend : k ≤ s.size
      · have hca : a + cut false false (s.data.toList.drop a) ≤ s.size ∨ s.size < a := by
          have := cut_le (s.data.toList.drop a) false false
          rw [List.length_drop, size_list] at this; omega
        have hkc : k = a + cut false false (s.data.toList.drop a) := by omega
        have HK := hid hkc
        clear hkc hca
        have HDK : Hid ((qd false false s.data.toList).drop (k + 1) = qd false false (s.data.toList.drop (k + 1))) := by
          by_cases hlt : k < s.size
          · exact (qd_end _ a k HD.out HK.out (by rw [size_list]; exact hlt)).2.2
          · show _ = _
            rw [List.drop_eq_nil_of_le (by rw [qd_length, size_list]; omega), drop_nil s (k + 1) (by omega)]; rfl
        clear hin
        by_cases hlt : k < s.size
        case' pos =>
          obtain ⟨hc, hq, -⟩ := qd_end _ a k HD.out HK.out (by rw [size_list]; exact hlt)
          obtain ⟨b, off, haq, hcell⟩ := HQ.out k (.bool false) (by rw [List.getElem?_map, hq]; rfl)
          subst haq
          have hcw := (hb.cell (p := ⟨b, off + k, none⟩) (World.block_lt_of_cell? w1 _ hcell)).trans hcell
          have hz : ((s[k].toNat : Int) != 44) = false := by
            obtain ⟨_, hx⟩ := some_list s k 44 hc
            rw [hx]; rfl
          clear hc hq hcell
        all_goals
          go_wp2_with fail
          refine (refTrim_any _ _ (by rw [ByteArray.size_extract]; unfold maxLen; omega)).mono ?_
          rw [Lib.extract_data]
          obtain ⟨t, ht⟩ : ∃ t, t = trimL ((s.data.toList.drop a).take (k - a)) := ⟨_, rfl⟩
          rw [← ht]
          have HT : Hid (t = trimL ((s.data.toList.drop a).take (cut false false (s.data.toList.drop a)))) := by
            show _ = _
            rw [ht, show k - a = cut false false (s.data.toList.drop a) by have := HK.out; omega]
          have HS : Hid (listL (s.data.toList.drop a) = if t = [] then listL (s.data.toList.drop (k + 1)) else t :: listL (s.data.toList.drop (k + 1))) := by
            show _ = _
            rw [list_at, ← HT.out, show a + (cut false false (s.data.toList.drop a) + 1) = k + 1 by have := HK.out; omega]
          clear ht HT
          rintro e w2 ⟨rfl, rfl⟩
          go_wp2_with ((at_builtin; go_must (refine wpList_append_one _ rfl _ _ 22 rfl w1.heap.size 9 Tryz.underlying22 infoStr rfl (by decide) rfl hown rfl rfl (by omega) hB ?_); intro v' w3 hown3 hg3 hb3))
          · have ht : t ≠ [] := not_empty (by assumption)
            go_roundw
            case rel =>
              refine ⟨k + 1, k + 1, E ++ [t], by omega, by go_num, by go_num, Nat.le_refl _, Nat.le_add_right _ _, HDK.out, by simp; omega, ?_, by simpa using hown3, hb.trans hb3⟩
              rw [← HE.out, HS.out, if_neg ht]; simp
            case measure => simp [intOf]; omega
          · have ht : t = [] := is_empty (by assumption)
            go_roundw
            case rel =>
              refine ⟨k + 1, k + 1, E, by omega, by go_num, by go_num, Nat.le_refl _, Nat.le_add_right _ _, HDK.out, by omega, ?_, hown, hb⟩
              rw [← HE.out, HS.out, if_pos ht]
            case measure => simp [intOf]; omega
      · go_wp2
        go_ret
        have e : listL s.data.toList = E := by
          have := cut_le (s.data.toList.drop a) false false
          rw [List.length_drop, size_list] at this
          rw [← HE.out, drop_nil s a (by omega), listL_nil, List.append_nil]
        rw [e]
        exact ⟨_, rfl, hown.base hb0.size, hb0.trans (hb.mono hb0.size)⟩
end Go.Proofs.YtbjgbkbhalibdaaGreatDoor
