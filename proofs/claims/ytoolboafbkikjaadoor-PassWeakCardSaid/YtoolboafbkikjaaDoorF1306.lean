/-
  Several texts in one: RefSignA, RefSignC, RefFieldEl, SignGr, SignLw, SignLow, SignB, FieldB, FieldD, FieldE, FieldC, SignC, FieldH, FieldF.
-/
import Derived.Test.YtoolboafbkikjaaDoorProg
import Derived.Test.YtoolboafbkikjaaDoorShelf
import Derived.Test.YtoolboafbkikjaaDoorPureAll1
import Derived.Test.YtoolboafbkikjaaDoorF1304
set_option linter.unusedVariables false
set_option linter.unusedSimpArgs false
/-
  Contracts of the document's answers of layer 1: Letter, Sign, Token, blank, Trim.
-/
namespace Go.Proofs.YtoolboafbkikjaaDoor
open Go.RowKit Go.Pantry

theorem refblank_any (c : UInt8) (w : World) :
    Calls Tryd.prog 88 #[.int .u8 (c.toNat : Int)] w fun e w' => e = .returned (.bool (isBl c)) ∧ w = w' := by
  go_enter Tryd.func88, Tryd.ntmps88
  go_wp2
  all_goals go_ret
  all_goals exact ⟨ret_bool (by rw [Bool.eq_iff_iff]; simp [isBl]; omega), rfl⟩

theorem refTrim_any (s : ByteArray) (w : World) (hs : s.size ≤ maxLen) :
    Calls Tryd.prog 70 #[.string s] w fun e w' => e = .returned (.string ⟨(trimL s.data.toList).toArray⟩) ∧ w = w' := by
  unfold maxLen at hs
  go_enter Tryd.func70, Tryd.ntmps70
  go_wp2
  go_loop [3] (fun i => ∃ k : Nat, k ≤ s.size ∧ i = .int .i64 k ∧ ∀ (j : Nat) x, j < k → s.data.toList[j]? = some x → isBl x = true) (fun i => s.size - (intOf i).toNat)
  case atStart => exact ⟨0, Nat.zero_le _, rfl, fun j x hj => absurd hj (Nat.not_lt_zero _)⟩
  case round =>
    obtain ⟨k, hk, rfl, hall⟩ := hrel
    have HA := hid hall
    clear hall
    go_wp2_with (go_at_call 88; refine (refblank_any _ _).mono ?_; rintro e w' ⟨rfl, rfl⟩)
    · have h : isBl s[k] = true := by assumption
      go_round
      case rel => exact ⟨k + 1, by omega, by go_num, by
        intro j x hj hx
        by_cases e : j < k
        · exact HA.out j x e hx
        · obtain ⟨_, rfl⟩ := some_list s j x hx
          obtain rfl : j = k := by omega
          exact h⟩
      case measure => simp [intOf]; omega
    all_goals
      have HS : Hid (∀ x, s.data.toList[k]? = some x → isBl x = false) := by
        intro x hx
        obtain ⟨_, rfl⟩ := some_list s k x hx
        first | assumption | omega
      (try (rename isBl s[k] = false => h0; clear h0))
      go_loop [4] (fun i => ∃ m : Nat, k ≤ m ∧ m ≤ s.size ∧ i = .int .i64 m ∧ ∀ (j : Nat) x, m ≤ j → s.data.toList[j]? = some x → isBl x = true) (fun i => (intOf i).toNat - k)
      case atStart => exact ⟨s.size, by omega, Nat.le_refl _, rfl, fun j x hj hx => by obtain ⟨_, _⟩ := some_list s j x hx; omega⟩
      case round =>
        obtain ⟨m, hm1, hm2, rfl, hall⟩ := hrel
        have HB := hid hall
        clear hall
        go_wp2_with (go_at_call 88; refine (refblank_any _ _).mono ?_; rintro e w' ⟨rfl, rfl⟩)
        all_goals first
          | (have h : isBl s[m - 1] = true := by assumption
             go_round
             case rel => exact ⟨m - 1, by omega, by omega, by go_num, fun j x hj hx => by
               by_cases e : m ≤ j
               · exact HB.out j x e hx
               · obtain ⟨_, rfl⟩ := some_list s j x hx
                 obtain rfl : j = m - 1 := by omega
                 exact h⟩
             case measure => simp [intOf]; omega)
          | (go_ret
             refine ⟨ret_str ?_, rfl⟩
             rw [Lib.extract_eq, trim_of _ k m hm1 (by rw [size_list]; exact hm2) HA.out HB.out (fun _ => HS.out) (fun _ x hx => by
               obtain ⟨_, rfl⟩ := some_list s (m - 1) x hx
               first | assumption | omega)])
end Go.Proofs.YtoolboafbkikjaaDoor
/-
  Contracts of the document's answers of layer 1: quoted, List.
-/
namespace Go.Proofs.YtoolboafbkikjaaDoor
open Go.RowKit Go.Pantry


theorem refquoted_any (s : ByteArray) (w : World) (hs : s.size < 4294967296) :
    Calls Tryd.prog 69 #[.string s] w fun e w' => ∃ v, e = .returned v ∧ Reads w' v ((qd false false s.data.toList).map Value.bool) ∧ Below w.heap.size w w' := by
  go_enter Tryd.func69, Tryd.ntmps69
  go_wp2_with (at_make; go_must (refine Go.Pantry.wpList_make_row _ rfl _ _ 88 rfl 4 Tryd.underlying88 infoBool rfl (by decide) _ _ _ _ s.size rfl rfl rfl rfl hs ?_); intro w1 xs hxs hrow hlt1 hb1)
  go_loopw [4, 5, 6] (fun vi vs i wr => ∃ (k : Nat) (R : List Value), k ≤ s.size ∧ i = .int .i64 k ∧ vi = .bool (stIn false false (s.data.toList.take k)).1 ∧ vs = .bool (stIn false false (s.data.toList.take k)).2 ∧ R.length = s.size - k ∧ blockAt wr w.heap.size ((qd false false (s.data.toList.take k)).map Value.bool ++ R) ∧ Below w.heap.size w wr ∧ w.heap.size < wr.heap.size) (fun _ _ i _ => s.size - (intOf i).toNat)
  case atStart => exact ⟨0, xs, Nat.zero_le _, rfl, rfl, rfl, by omega, by simpa [qd] using hrow, hb1, hlt1⟩
  case round =>
    obtain ⟨k, R, hk, rfl, rfl, rfl, hR, hrw, hb, hsz⟩ := hrel
    obtain ⟨bi, hbi⟩ : ∃ b, b = (stIn false false (s.data.toList.take k)).1 := ⟨_, rfl⟩
    obtain ⟨bs, hbs⟩ : ∃ b, b = (stIn false false (s.data.toList.take k)).2 := ⟨_, rfl⟩
    rw [← hbi, ← hbs]
    have HI := hid hbi
    have HS := hid hbs
    have HR := hid hrw
    have HL := hid hR
    clear hbi hbs hrw hR
    by_cases hlt : k < s.size
    · have hlen : k < ((qd false false (s.data.toList.take k)).map Value.bool ++ R).length := by simp [qd_length, HL.out]; omega
      have hfree : wr.frozen? ⟨w.heap.size, k, none⟩ = false := HR.out.free k hlen
      have hcell := HR.out.cell k _ (List.getElem?_eq_getElem hlen)
      have hA : ((qd false false (s.data.toList.take k)).map Value.bool).length = k := by simp [qd_length]; omega
      have hRp : 0 < R.length := by rw [HL.out]; omega
      obtain ⟨u0, hu0⟩ : ∃ u, u = ((qd false false (s.data.toList.take k)).map Value.bool ++ R)[k]'hlen := ⟨_, rfl⟩
      rw [← hu0] at hcell
      clear hu0
      have HB := hid (byte_beq s[k] 34 (z := 34) rfl)
      have HC := hid (byte_beq s[k] 92 (z := 92) rfl)
      have HA := hid hA
      clear hA hlen
      cases bi <;> cases bs
      all_goals go_wp2
      all_goals
        go_roundw
        case rel =>
          refine ⟨k + 1, R.tail, by omega, by go_num, ?_, ?_, by simp [HL.out]; omega, ?_, hb.setCell (by simp) _, by simpa [World.setCell] using hsz⟩
          · rw [take_succ_list s k hlt, stIn_snoc, ← HI.out, ← HS.out]; simp [nextIn, HB.out, HC.out, *]
          · rw [take_succ_list s k hlt, stIn_snoc, ← HI.out, ← HS.out]; simp [nextSkip, HC.out, *]
          · have h := HR.out.set k (by simp [qd_length, HL.out]; omega)
            rw [take_succ_list s k hlt, qd_snoc1, List.map_append, ← HI.out]
            simp only [set_mid _ _ k _ HA.out hRp] at h
            simpa [HB.out, *] using h _
        case measure => simp [intOf]; omega
    · go_wp2
      go_ret
      refine ⟨_, rfl, ?_, hb⟩
      have h := HR.out
      have hR0 : R = [] := List.eq_nil_of_length_eq_zero (by rw [HL.out]; omega)
      rw [hR0, List.append_nil, take_all s k hlt] at h
      have hl : ((qd false false s.data.toList).map Value.bool).length = s.size := by simp [qd_length]
      have := h.reads s.size
      rw [hl] at this
      exact this

theorem refList_any (s : ByteArray) (w : World) (hs : s.size < 4294967295) :
    Calls Tryd.prog 59 #[.string s] w fun e w' => ∃ v, e = .returned v ∧ w'.ownsRow w.heap.size 9 1 v (listL s.data.toList).length ((listL s.data.toList).map strV) ∧ Below w.heap.size w w' := by
  go_enter Tryd.func59, Tryd.ntmps59
  go_wp2_with fail
  refine (refquoted_any s _ (by omega)).mono ?_
  rintro e w1 ⟨vq, rfl, hrd, hb0⟩
  obtain ⟨aq, cq, rfl, hcq, -⟩ := hrd
  have hl : ((qd false false s.data.toList).map Value.bool).length = s.size := by simp [qd_length]
  rw [hl]
  have HQ := hid hcq
  clear hcq hl
  go_wp2
  go_loopw [4, 5, 6] (fun v la i wr => ∃ (k a : Nat) (E : List (List UInt8)), k ≤ s.size + 1 ∧ i = .int .i64 k ∧ la = .int .i64 a ∧ a ≤ k ∧ k ≤ a + cut false false (s.data.toList.drop a) ∧ (qd false false s.data.toList).drop a = qd false false (s.data.toList.drop a) ∧ E.length ≤ k ∧ E ++ listL (s.data.toList.drop a) = listL s.data.toList ∧ wr.ownsRow w1.heap.size 9 1 v E.length (E.map strV) ∧ Below w1.heap.size w1 wr) (fun _ _ i _ => s.size + 1 - (intOf i).toNat)
  case atStart => exact ⟨0, 0, [], Nat.zero_le _, rfl, rfl, Nat.le_refl _, Nat.zero_le _, rfl, Nat.le_refl _, rfl, World.ownsRow_nil _ _ _ _, Below.refl _ _⟩
  case round =>
    obtain ⟨k, a, E, hk, rfl, rfl, hak, hka, hqd, hEk, hE, hown, hb⟩ := hrel
    have HE := hid hE
    have HD := hid hqd
    clear hE hqd
    have hB := hb.size
    by_cases hin : k < s.size ∧ k < a + cut false false (s.data.toList.drop a)
    · obtain ⟨hlt, hin⟩ := hin
      by_cases hc : s[k] = 44
      · have hq := qd_within _ a k HD.out hak hin (by rw [List.getElem?_eq_getElem (by rw [size_list]; exact hlt), getElem_list s k hlt, hc])
        obtain ⟨b, off, haq, hcell⟩ := HQ.out k (.bool true) (by rw [List.getElem?_map, hq]; rfl)
        subst haq
        have hcw := (hb.cell (p := ⟨b, off + k, none⟩) (World.block_lt_of_cell? w1 _ hcell)).trans hcell
        have hz : ((s[k].toNat : Int) != 44) = false := by rw [hc]; rfl
        have hc' := hid hc
        clear hc hcell
        go_wp2
        go_roundw
        case rel => exact ⟨k + 1, a, E, by omega, by go_num, rfl, by omega, by omega, HD.out, by omega, HE.out, hown, hb⟩
        case measure => simp [intOf]; omega
      · have hz : ((s[k].toNat : Int) != 44) = true := by
          rw [bne_iff_ne]; intro e; exact hc (UInt8.toNat_inj.1 (by simp; omega))
        clear hc
        go_wp2
        go_roundw
        case rel => exact ⟨k + 1, a, E, by omega, by go_num, rfl, by omega, by omega, HD.out, by omega, HE.out, hown, hb⟩
        case measure => simp [intOf]; omega
    · by_cases hend : k ≤ s.size
      · have hca : a + cut false false (s.data.toList.drop a) ≤ s.size ∨ s.size < a := by
          have := cut_le (s.data.toList.drop a) false false
          rw [List.length_drop, size_list] at this; omega
        have hkc : k = a + cut false false (s.data.toList.drop a) := by omega
        have HK := hid hkc
        clear hkc hca
        have HDK : Hid ((qd false false s.data.toList).drop (k + 1) = qd false false (s.data.toList.drop (k + 1))) := by
          by_cases hlt : k < s.size
          · exact (qd_end _ a k HD.out HK.out (by rw [size_list]; exact hlt)).2.2
          · show _ = _
            rw [List.drop_eq_nil_of_le (by rw [qd_length, size_list]; omega), drop_nil s (k + 1) (by omega)]; rfl
        clear hin
        by_cases hlt : k < s.size
        case' pos =>
          obtain ⟨hc, hq, -⟩ := qd_end _ a k HD.out HK.out (by rw [size_list]; exact hlt)
          obtain ⟨b, off, haq, hcell⟩ := HQ.out k (.bool false) (by rw [List.getElem?_map, hq]; rfl)
          subst haq
          have hcw := (hb.cell (p := ⟨b, off + k, none⟩) (World.block_lt_of_cell? w1 _ hcell)).trans hcell
          have hz : ((s[k].toNat : Int) != 44) = false := by
            obtain ⟨_, hx⟩ := some_list s k 44 hc
            rw [hx]; rfl
          clear hc hq hcell
        all_goals
          go_wp2_with fail
          refine (refTrim_any _ _ (by rw [ByteArray.size_extract]; unfold maxLen; omega)).mono ?_
          rw [Lib.extract_data]
          obtain ⟨t, ht⟩ : ∃ t, t = trimL ((s.data.toList.drop a).take (k - a)) := ⟨_, rfl⟩
          rw [← ht]
          have HT : Hid (t = trimL ((s.data.toList.drop a).take (cut false false (s.data.toList.drop a)))) := by
            show _ = _
            rw [ht, show k - a = cut false false (s.data.toList.drop a) by have := HK.out; omega]
          have HS : Hid (listL (s.data.toList.drop a) = if t = [] then listL (s.data.toList.drop (k + 1)) else t :: listL (s.data.toList.drop (k + 1))) := by
            show _ = _
            rw [list_at, ← HT.out, show a + (cut false false (s.data.toList.drop a) + 1) = k + 1 by have := HK.out; omega]
          clear ht HT
          rintro e w2 ⟨rfl, rfl⟩
          go_wp2_with ((at_builtin; go_must (refine wpList_append_one _ rfl _ _ 27 rfl w1.heap.size 9 Tryd.underlying27 infoStr rfl (by decide) rfl hown rfl rfl (by omega) hB ?_); intro v' w3 hown3 hg3 hb3))
          · have ht : t ≠ [] := not_empty (by assumption)
            go_roundw
            case rel =>
              refine ⟨k + 1, k + 1, E ++ [t], by omega, by go_num, by go_num, Nat.le_refl _, Nat.le_add_right _ _, HDK.out, by simp; omega, ?_, by simpa using hown3, hb.trans hb3⟩
              rw [← HE.out, HS.out, if_neg ht]; simp
            case measure => simp [intOf]; omega
          · have ht : t = [] := is_empty (by assumption)
            go_roundw
            case rel =>
              refine ⟨k + 1, k + 1, E, by omega, by go_num, by go_num, Nat.le_refl _, Nat.le_add_right _ _, HDK.out, by omega, ?_, hown, hb⟩
              rw [← HE.out, HS.out, if_pos ht]
            case measure => simp [intOf]; omega
      · go_wp2
        go_ret
        have e : listL s.data.toList = E := by
          have := cut_le (s.data.toList.drop a) false false
          rw [List.length_drop, size_list] at this
          rw [← HE.out, drop_nil s a (by omega), listL_nil, List.append_nil]
        rw [e]
        exact ⟨_, rfl, hown.base hb0.size, hb0.trans (hb.mono hb0.size)⟩
end Go.Proofs.YtoolboafbkikjaaDoor
/-
  The document's answers of layer 3: Elements.
-/
namespace Go.Proofs.YtoolboafbkikjaaDoor
open Go.RowKit Go.Pantry

theorem refElements_any (v : Value) (L : List Fld) (n : ByteArray) (w : World) (hr : Reads2 w v L) (hL : ∀ f ∈ L, f.1.length < 4294967296) (hV : ∀ f ∈ L, f.2.length ≤ 100000) (hn : L.length ≤ 1000) (h2 : n.size < 4294967296) :
    Calls Tryd.prog 38 #[v, .string n] w fun e w' => MadeStrs 9 w.heap.size (elementsF L n.data.toList) e w' ∧ Below w.heap.size w w' := by
  have hl := getF_len (L := L) (n := n.data.toList) hV hn
  have c1 := fun W h => refGet_any v L n W h hL hV hn h2
  have c2 := fun W => refList_any ⟨(getF L n.data.toList).toArray⟩ W (by rw [szL]; omega)
  have he : elementsF L n.data.toList = listL (getF L n.data.toList) := rfl
  rw [dtL, ← he] at c2
  generalize getF L n.data.toList = G at c1 c2
  generalize allF L n.data.toList = T at c1
  have C1 := hid c1
  have C2 := hid c2
  have HR := hid hr
  clear c1 c2 hr he hL hV
  go_enter Tryd.func38, Tryd.ntmps38
  go_wp2_with fail
  refine (C1.out _ HR.out).mono ?_
  rintro e w1 ⟨rfl, hb1⟩
  go_wp2_with fail
  refine (C2.out _).mono ?_
  rintro e w2 ⟨v', rfl, ho, hb2⟩
  go_wp2_with fail
  go_ret
  exact ⟨⟨_, rfl, ho.base hb1.size⟩, chain2 hb1 hb1.size hb2⟩
end Go.Proofs.YtoolboafbkikjaaDoor
/-
  Contracts of the leaves of package sign: great.
-/
namespace Go.Proofs.YtoolboafbkikjaaDoor
open Go.RowKit Go.Pantry

theorem great_any (c : UInt8) (w : World) :
    Calls Tryd.prog 97 #[.int .u8 (c.toNat : Int)] w fun e w' => e = .returned (.bool (isUp c)) ∧ w = w' := by
  rw [← isUp_int]
  go_enter Tryd.func97, Tryd.ntmps97
  go_wp2
  all_goals go_ret
  all_goals exact ⟨ret_bool (by simp; try omega), rfl⟩

end Go.Proofs.YtoolboafbkikjaaDoor
/-
  Contract of package sign: Lower.
-/
namespace Go.Proofs.YtoolboafbkikjaaDoor
open Go.RowKit Go.Pantry

theorem Lower_any (s : ByteArray) (w : World) (hs : s.size ≤ maxLen) :
    Calls Tryd.prog 77 #[.string s] w fun e w' => e = .returned (.string ⟨(lowerL s.data.toList).toArray⟩) ∧ Below w.heap.size w w' := by
  unfold maxLen at hs
  have hcv := fun w' => run_bytes_of_string (P := Tryd.prog) w' 9 46 5 s Tryd.underlying9 Tryd.underlying46 Tryd.underlying5
  go_enter Tryd.func77, Tryd.ntmps77
  go_wp2
  clear hcv
  go_loopw [10] (fun i wr => ∃ k : Nat, k ≤ s.size ∧ i = .int .i64 k ∧ bytesAt wr w.heap.size (lowerL (s.data.toList.take k) ++ s.data.toList.drop k) ∧ Below w.heap.size w wr ∧ w.heap.size < wr.heap.size) (fun i _ => s.size - (intOf i).toNat)
  case atStart => exact ⟨0, Nat.zero_le _, rfl, bytesAt_row w s _ _, ((Below.refl _ _).alloc (Nat.le_refl _) _).drew, by simp⟩
  case round =>
    obtain ⟨k, hk, rfl, hby, hb, hsz⟩ := hrel
    have HY := hid hby
    clear hby
    by_cases hlt : k < s.size
    · have hcell : wr.cell? ⟨w.heap.size, k, none⟩ = some (.int .u8 (s[k].toNat : Int)) := HY.out.cell k _ (lower_mid s k hlt)
      have hfree : wr.frozen? ⟨w.heap.size, k, none⟩ = false := HY.out.free k (lower_len s k hlt)
      go_wp2_with (go_at_call 97; refine (great_any _ _).mono ?_; rintro e w' ⟨rfl, rfl⟩)
      · have hu : isUp s[k] = true := by assumption
        go_roundw
        case rel =>
          refine ⟨k + 1, by omega, by go_num, ?_, hb.setCell (by simp) _, by simpa [World.setCell] using hsz⟩
          rw [low_int hu, ← lower_step s k hlt]
          exact HY.out.set k (lower_len s k hlt) _
        case measure => simp [intOf]; omega
      · have hu : isUp s[k] = false := by assumption
        go_roundw
        case rel => exact ⟨k + 1, by omega, by go_num, by rw [← lower_same s k hlt hu]; exact HY.out, hb, hsz⟩
        case measure => simp [intOf]; omega
    · have hback := HY.out.back 46 9 5 s.size (grownCap w s.size 0 5) (by simp [lowerL]; omega) Tryd.underlying46 Tryd.underlying5 Tryd.underlying9
      go_wp2
      go_ret
      refine ⟨ret_str ?_, hb⟩
      rw [take_all s k hlt, drop_nil s k hlt, List.append_nil]
end Go.Proofs.YtoolboafbkikjaaDoor
/-
  Contract of package sign: Same.
-/
namespace Go.Proofs.YtoolboafbkikjaaDoor
open Go.RowKit Go.Pantry

theorem Same_any (s t : ByteArray) (w : World) (hs : s.size ≤ maxLen) (ht : t.size ≤ maxLen) :
    Calls Tryd.prog 63 #[.string s, .string t] w fun e w' => e = .returned (.bool (lowerL s.data.toList == lowerL t.data.toList)) ∧ Below w.heap.size w w' := by
  go_enter Tryd.func63, Tryd.ntmps63
  go_wp2_with fail
  refine (Lower_any _ _ hs).mono ?_
  rintro e w1 ⟨rfl, hb1⟩
  go_wp2_with fail
  refine (Lower_any _ _ ht).mono ?_
  rintro e w2 ⟨rfl, hb2⟩
  go_wp2_with fail
  go_ret
  refine ⟨ret_bool ?_, hb1.trans (hb2.mono hb1.size)⟩
  simp
end Go.Proofs.YtoolboafbkikjaaDoor
/-
  Contracts of package sign: Trim.
-/
namespace Go.Proofs.YtoolboafbkikjaaDoor
open Go.RowKit Go.Pantry


theorem Trim_any (s : ByteArray) (w : World) (hs : s.size ≤ maxLen) :
    Calls Tryd.prog 55 #[.string s] w fun e w' => e = .returned (.string ⟨(trimL s.data.toList).toArray⟩) ∧ Below w.heap.size w w' := by
  unfold maxLen at hs
  go_enter Tryd.func55, Tryd.ntmps55
  go_wp2_with (go_at_call 66; refine (Tryd.strings_Trim s ⟨#[32, 9]⟩ _ (by omega) (by decide) (ascii_of_all (by decide))).mono ?_; rintro e w' ⟨rfl, hb⟩)
  go_ret
  exact ⟨rfl, hb⟩

end Go.Proofs.YtoolboafbkikjaaDoor
/-
  Contracts of package field: called.
-/
namespace Go.Proofs.YtoolboafbkikjaaDoor
open Go.RowKit Go.Pantry

/-- fields that can be gone through with -/
def okFs (L : List Fld) : Prop := L.length ≤ 1000 ∧ ∀ f ∈ L, f.1.length ≤ 100000 ∧ f.2.length ≤ 100000

theorem infoFld : (Tryd.prog.info? 49).map (fun i => (i.zero, i.size, i.bytes)) = some (some (.agg #[.string ⟨#[]⟩, .string ⟨#[]⟩]), 2, 32) := by kernel_rfl

theorem called_any (f : Fld) (vn : Value) (ns : List (List UInt8)) (w : World) (h : f.1.length ≤ 100000) (hn : Reads w vn (ns.map strV)) (hns : ns.length ≤ 1000000000 ∧ ∀ n ∈ ns, n.length ≤ 9223372036854775807) :
    Calls Tryd.prog 51 #[fldV f, vn] w fun e w' => e = .returned (.bool (ns.any fun n => isF n f)) ∧ Below w.heap.size w w' := by
  obtain ⟨a, b⟩ := f
  obtain ⟨hl, hns⟩ := hns
  simp only at h
  obtain ⟨ao, cap, rfl⟩ := Reads.strs hn
  obtain ⟨r, hr⟩ : ∃ r, (ns.any fun n => isF n (a, b)) = r := ⟨_, rfl⟩
  rw [hr]
  have HN := hid hn
  have HNS := hid hns
  have HRR := hid hr
  clear hn hns hr
  go_enter Tryd.func51, Tryd.ntmps51
  go_wp2_with fail
  have hbW := below_alloc w (.cells #[strV a, strV b] 49)
  have hx : (w.alloc (.cells #[strV a, strV b] 49)).cell? ⟨w.heap.size, 0, none⟩ = some (strV a) := by rw [World.cell?_alloc_at _ _ _ _ rfl]; rfl
  generalize w.alloc (.cells #[strV a, strV b] 49) = W at hbW hx ⊢
  have HX := hid hx
  clear hx
  go_loopw [9] (fun i wr => ∃ (k : Nat), k ≤ ns.length ∧ i = .int .i64 k ∧ ((ns.take k).any fun n => isF n (a, b)) = false ∧ Below W.heap.size W wr) (fun i _ => ns.length - (intOf i).toNat)
  case atStart => exact ⟨0, Nat.zero_le _, rfl, rfl, Below.refl _ _⟩
  case round =>
    obtain ⟨k, hk, rfl, ha, hb⟩ := hrel
    have HA := hid ha
    clear ha
    by_cases hlt : k < ns.length
    · obtain ⟨n, hn⟩ : ∃ n, ns[k]? = some n := ⟨_, List.getElem?_eq_getElem hlt⟩
      obtain ⟨b', off, rfl, hc⟩ := Reads.str (HN.out.below (hbW.trans (hb.mono hbW.size))) hn
      have x1 := (hb.cell (p := ⟨w.heap.size, 0, none⟩) (World.block_lt_of_cell? W _ HX.out)).trans HX.out
      have hnl := HNS.out n (List.mem_of_getElem? hn)
      have HM := hid (List.mem_of_getElem? hn)
      have HT := hid (take_str hn)
      clear hn
      have cs := fun W => Same_any ⟨a.toArray⟩ ⟨n.toArray⟩ W (by rw [szL]; unfold maxLen; omega) (by rw [szL]; unfold maxLen; omega)
      rw [dtL, dtL] at cs
      obtain ⟨q, hq⟩ : ∃ q, (lowerL a == lowerL n) = q := ⟨_, rfl⟩
      rw [hq] at cs
      have CS := hid cs
      have HQ : Hid (isF n (a, b) = q) := hid hq
      clear cs hq
      cases q
      · go_wp2_with fail
        refine (CS.out _).mono ?_
        rintro e w2 ⟨rfl, hb2⟩
        go_wp2_with fail
        go_roundw
        case rel => exact ⟨k + 1, hlt, by go_num, by rw [HT.out, List.any_append, HA.out]; simp [HQ.out], chain2 hb hb.size hb2⟩
        case measure => simp [intOf]; omega
      · obtain rfl : r = true := by rw [← HRR.out]; exact List.any_eq_true.2 ⟨n, HM.out, HQ.out⟩
        go_wp2_with fail
        refine (CS.out _).mono ?_
        rintro e w2 ⟨rfl, hb2⟩
        go_wp2_with fail
        go_ret
        exact ⟨rfl, hbW.trans ((chain2 hb hb.size hb2).mono hbW.size)⟩
    · have hke : ns.take k = ns := List.take_of_length_le (by omega)
      obtain rfl : r = false := by rw [← HRR.out, ← hke]; exact HA.out
      clear hke
      go_wp2_with fail
      go_ret
      exact ⟨rfl, hbW.trans (hb.mono hbW.size)⟩
end Go.Proofs.YtoolboafbkikjaaDoor
/-
  Contracts of package field: All.
-/
namespace Go.Proofs.YtoolboafbkikjaaDoor
open Go.RowKit Go.Pantry

set_option maxHeartbeats 1000000 in
theorem lAll_any (v : Value) (L : List Fld) (n : ByteArray) (w : World) (hr : Reads2 w v L) (hk : okFs L) (hn : n.size ≤ 100000) :
    Calls Tryd.prog 25 #[v, .string n] w fun e w' => MadeStrs 9 w.heap.size (allF L n.data.toList) e w' ∧ Below w.heap.size w w' := by
  obtain ⟨ao, cap, rfl⟩ := hr.form
  obtain ⟨N, rfl⟩ := as_list n
  rw [szL] at hn
  rw [dtL]
  obtain ⟨hl, hv⟩ := hk
  have HR := hid hr
  have HV := hid hv
  clear hr hv
  go_enter Tryd.func25, Tryd.ntmps25
  go_wp2
  go_loopw [5, 10] (fun v' i wr => ∃ (k m : Nat), k ≤ L.length ∧ m ≤ k ∧ m = (allF (L.take k) N).length ∧ i = .int .i64 k ∧ wr.ownsRow w.heap.size 9 1 v' m ((allF (L.take k) N).map strV) ∧ Below w.heap.size w wr) (fun _ i _ => L.length - (intOf i).toNat)
  case atStart => exact ⟨0, 0, Nat.zero_le _, Nat.le_refl _, rfl, rfl, World.ownsRow_nil _ _ _ _, Below.refl _ _⟩
  case round =>
    obtain ⟨k, m, hk, hm, hml, rfl, ho, hb⟩ := hrel
    have HML := hid hml
    clear hml
    by_cases hlt : k < L.length
    · obtain ⟨f, hf⟩ : ∃ f, L[k]? = some f := ⟨_, List.getElem?_eq_getElem hlt⟩
      obtain ⟨b, off, rfl, hc1, hc2⟩ := (HR.out.below hb).fld hf
      have hfl := (HV.out f (List.mem_of_getElem? hf)).1
      have HT := hid (take_fld hf)
      clear hf
      have hst := allF_snoc (L.take k) N f
      rw [← HT.out] at hst
      obtain ⟨q, hq⟩ : ∃ q, isF N f = q := ⟨_, rfl⟩
      have cI := fun W vn h => called_any f vn [N] W hfl h ⟨by simp, by simp; omega⟩
      simp only [any_one, hq] at cI
      rw [hq] at hst
      have CI := hid cI
      have HS := hid hst
      clear cI hst hq
      obtain ⟨W, hW, hbW, hsW, hx1, hx2⟩ := box2 wr f 49
      have hbw := chain2 hb hb.size hbW
      replace ho := ho.below hbW
      obtain ⟨X, hX⟩ : ∃ X, X = W.alloc (.cells #[strV N] 9) := ⟨_, rfl⟩
      have hbX : Below W.heap.size W X := by rw [hX]; exact below_alloc _ _
      have hrX : Reads X (.slice (some ⟨wr.heap.size + 1, 0, none⟩) 1 1) ([N].map strV) := by rw [← hsW, hX]; exact reads_one W N 9 1
      have hbx := chain2 hbw hbw.size hbX
      replace ho := ho.below hbX
      replace hx2 := kept hx2 hbX
      clear hbW hbw hbX hb hx1 hsW
      cases q
      · go_wp2_with fail
        rw [← hW, ← hX]
        clear hW hX
        refine (CI.out _ _ hrX).mono ?_
        rintro e w2 ⟨rfl, hb2⟩
        have hbn := chain2 hbx hbx.size hb2
        have ho2 := ho.below hb2
        clear hb2 hc1 hc2 hx2 ho hrX
        go_wp2_with fail
        go_roundw
        case rel => exact ⟨k + 1, m, hlt, by omega, by rw [HS.out, HML.out]; simp, by go_num, by rw [HS.out]; simpa using ho2, hbn⟩
        case measure => simp [intOf]; omega
      · go_wp2_with fail
        rw [← hW, ← hX]
        clear hW hX
        refine (CI.out _ _ hrX).mono ?_
        rintro e w2 ⟨rfl, hb2⟩
        have hbn := chain2 hbx hbx.size hb2
        have ho2 := ho.below hb2
        have hs2 := hbn.size
        have hd2 := kept hx2 hb2
        clear hb2 hc1 hc2 hx2 ho hrX
        go_wp2_with ((at_builtin; go_must (refine wpList_append_one _ rfl _ _ 27 rfl w.heap.size 9 Tryd.underlying27 infoStr rfl (by decide) rfl ho2 rfl (by first | rfl | simp) (by omega) hs2 ?_); intro v' w3 hown3 hg3 hb3))
        go_roundw
        case rel => exact ⟨k + 1, m + 1, hlt, by omega, by rw [HS.out, HML.out]; simp, by go_num, by rw [HS.out]; simpa using hown3, hbn.trans hb3⟩
        case measure => simp [intOf]; omega
    · have hk2 : L.take k = L := List.take_of_length_le (by omega)
      have HM2 : Hid (m = (allF L N).length) := by have h := HML.out; rw [hk2] at h; exact hid h
      rw [hk2] at ho
      clear hk2
      go_wp2
      go_ret
      exact ⟨⟨_, rfl, by rw [← HM2.out]; exact ho⟩, hb⟩
end Go.Proofs.YtoolboafbkikjaaDoor
/-
  Contracts of package field: Get.
-/
namespace Go.Proofs.YtoolboafbkikjaaDoor
open Go.RowKit Go.Pantry

theorem joinC_inter : ∀ l : List (List UInt8), Lib.join l [44, 32] = joinC l
  | [] => rfl
  | [a] => by simp [Lib.join, joinC]
  | a :: b :: r => by
    have h := joinC_inter (b :: r)
    unfold Lib.join at h ⊢
    show [44, 32].intercalate (a :: b :: r) = a ++ 44 :: 32 :: joinC (b :: r)
    rw [← h]
    simp [List.intercalate]
/-- strings.Join of a slice that the call made, with ", " -/
theorem join_made {B : Nat} {e : TypeId} (v : Value) (l : List (List UInt8)) (w : World) (ho : w.ownsRow B e 1 v l.length (l.map strV)) (hl : l.length ≤ 140737488355328) (hj : (joinC l).length ≤ 140737488355328) :
    Calls Tryd.prog 36 #[v, .string ⟨#[44, 32]⟩] w fun e w' => e = .returned (strV (joinC l)) ∧ Below w.heap.size w w' := by
  rcases ho.2 with ⟨rfl, hn⟩ | ⟨g, cap, cur, rfl, hb, hg, hnc, hcm, hcs, htake⟩
  · have : l = [] := List.eq_nil_of_length_eq_zero hn
    subst this
    refine (Tryd.strings_Join_none none 0 ⟨#[44, 32]⟩ w).mono ?_
    rintro e w' ⟨rfl, rfl⟩
    exact ⟨rfl, Below.refl _ _⟩
  · have hx : (l.map fun x => (⟨x.toArray⟩ : ByteArray)).map (·.data.toList) = l := by rw [List.map_map]; exact List.map_id' _
    have hxl : (l.map fun x => (⟨x.toArray⟩ : ByteArray)).length = l.length := by simp
    have c := Tryd.strings_Join g 0 cap (l.map fun x => (⟨x.toArray⟩ : ByteArray)) ⟨#[44, 32]⟩ w (fun j x hx => by
        have h1 := ho.row.cell j (.string x) (by
          rw [List.getElem?_map, Option.map_eq_some_iff] at hx
          obtain ⟨y, hy, rfl⟩ := hx
          rw [List.getElem?_map, hy]; rfl)
        rw [Nat.zero_add]; exact h1) (Array.getElem?_eq_some_iff.1 hg).1 (by omega) (by omega) (by
        rw [hx]
        show (Lib.join l [44, 32]).length ≤ _
        rw [joinC_inter]; exact hj)
    rw [hx, hxl] at c
    refine c.mono ?_
    rintro e w' ⟨rfl, hb'⟩
    refine ⟨?_, hb'⟩
    show Ending.returned (strV (Lib.join l [44, 32])) = _
    rw [joinC_inter]

theorem lGet_any (v : Value) (L : List Fld) (n : ByteArray) (w : World) (hr : Reads2 w v L) (hk : okFs L) (hn : n.size ≤ 100000) :
    Calls Tryd.prog 14 #[v, .string n] w fun e w' => e = .returned (.tuple #[strV (getF L n.data.toList), .bool (!(allF L n.data.toList).isEmpty)]) ∧ Below w.heap.size w w' := by
  have c1 := fun W h => lAll_any v L n W h hk hn
  have hg : getF L n.data.toList = joinC (allF L n.data.toList) := rfl
  have hgl := getF_len (L := L) (n := n.data.toList) (fun f hf => (hk.2 f hf).2) hk.1
  have hal := allF_len L n.data.toList
  have hk1 := hk.1
  generalize allF L n.data.toList = T at c1 hg hal ⊢
  generalize getF L n.data.toList = G at hg hgl ⊢
  have hT : (!T.isEmpty) = decide (0 < T.length) := by cases T <;> simp
  rw [hT]
  subst hg
  have cj := fun W B v h => join_made (B := B) (e := 9) v T W h (by omega) (by omega)
  generalize joinC T = J at cj ⊢
  have C1 := hid c1
  have CJ := hid cj
  have HR := hid hr
  clear c1 cj hr hk hgl hT
  go_enter Tryd.func14, Tryd.ntmps14
  go_wp2_with fail
  refine (C1.out _ HR.out).mono ?_
  rintro e w1 ⟨⟨v', rfl, ho⟩, hb1⟩
  obtain ⟨ao, cap, rfl⟩ := Reads.strs ho.reads
  go_wp2_with fail
  refine (CJ.out _ _ _ ho).mono ?_
  rintro e w2 ⟨rfl, hb2⟩
  go_wp2_with fail
  go_ret2
  exact ⟨rfl, chain2 hb1 hb1.size hb2⟩
end Go.Proofs.YtoolboafbkikjaaDoor
/-
  Contracts of package field: Without.
-/
namespace Go.Proofs.YtoolboafbkikjaaDoor
open Go.RowKit Go.Pantry

set_option maxHeartbeats 1000000 in
theorem lWithout_any (v vn : Value) (L : List Fld) (ns : List (List UInt8)) (w : World) (hr : Reads2 w v L) (hk : okFs L) (hn : Reads w vn (ns.map strV)) (hns : ns.length ≤ 1000000000 ∧ ∀ n ∈ ns, n.length ≤ 9223372036854775807) :
    Calls Tryd.prog 30 #[v, vn] w fun e w' => MadeFlds 49 w.heap.size (outsF L ns) e w' ∧ Below w.heap.size w w' := by
  obtain ⟨ao, cap, rfl⟩ := hr.form
  obtain ⟨hl, hv⟩ := hk
  have HR := hid hr
  have HV := hid hv
  have HN := hid hn
  have HNS := hid hns
  clear hr hv hn hns
  go_enter Tryd.func30, Tryd.ntmps30
  go_wp2
  go_loopw [5, 10] (fun v' i wr => ∃ (k m : Nat), k ≤ L.length ∧ m ≤ k ∧ i = .int .i64 k ∧ wr.ownsRow w.heap.size 49 2 v' m (fldCells (outsF (L.take k) ns)) ∧ Below w.heap.size w wr) (fun _ i _ => L.length - (intOf i).toNat)
  case atStart => exact ⟨0, 0, Nat.zero_le _, Nat.le_refl _, rfl, World.ownsRow_nil _ _ _ _, Below.refl _ _⟩
  case round =>
    obtain ⟨k, m, hk, hm, rfl, ho, hb⟩ := hrel
    have hs := hb.size
    by_cases hlt : k < L.length
    · obtain ⟨f, hf⟩ : ∃ f, L[k]? = some f := ⟨_, List.getElem?_eq_getElem hlt⟩
      obtain ⟨b, off, rfl, hc1, hc2⟩ := (HR.out.below hb).fld hf
      have hfl := (HV.out f (List.mem_of_getElem? hf)).1
      have HT := hid (take_fld hf)
      clear hf
      have hst : outsF (L.take k ++ [f]) ns = outsF (L.take k) ns ++ if (ns.any fun n => isF n f) then [] else [f] := by
        unfold outsF
        rw [List.filter_append]
        cases h : (ns.any fun n => isF n f) <;> simp only [List.filter_cons, List.filter_nil, h] <;> rfl
      rw [← HT.out] at hst
      obtain ⟨q, hq⟩ : ∃ q, (ns.any fun n => isF n f) = q := ⟨_, rfl⟩
      have cI := fun W h => called_any f vn ns W hfl h HNS.out
      rw [hq] at hst cI
      have CI := hid cI
      have HS := hid hst
      clear cI hst hq
      obtain ⟨W, hW, hbW, hsW, hx1, hx2⟩ := box2 wr f 49
      have hbw := chain2 hb hs hbW
      replace ho := ho.below hbW
      clear hbW hs
      cases q
      · go_wp2_with fail
        rw [← hW]
        clear hW
        refine (CI.out _ (HN.out.below hbw)).mono ?_
        rintro e w2 ⟨rfl, hb2⟩
        have hbn := chain2 hbw hbw.size hb2
        have ho2 := ho.below hb2
        have hs2 := hbn.size
        have hd1 := kept hx1 hb2
        have hd2 := kept hx2 hb2
        clear hb2 hc1 hc2 hb hx1 hx2 ho
        go_wp2_with ((at_builtin; go_must (refine wpList_append_fld _ rfl _ _ 23 rfl w.heap.size 49 Tryd.underlying23 infoFld rfl (by decide) rfl ho2 f rfl (by first | rfl | simp) (by omega) hs2 ?_); intro v' w3 hown3 hb3))
        go_roundw
        case rel => exact ⟨k + 1, m + 1, hlt, by omega, by go_num, by rw [HS.out]; exact hown3, hbn.trans hb3⟩
        case measure => simp [intOf]; omega
      · go_wp2_with fail
        rw [← hW]
        clear hW
        refine (CI.out _ (HN.out.below hbw)).mono ?_
        rintro e w2 ⟨rfl, hb2⟩
        have hbn := chain2 hbw hbw.size hb2
        have ho2 := ho.below hb2
        clear hb2 hc1 hc2 hb hx1 hx2 ho
        go_wp2_with fail
        go_roundw
        case rel => exact ⟨k + 1, m, hlt, by omega, by go_num, by rw [HS.out]; simpa using ho2, hbn⟩
        case measure => simp [intOf]; omega
    · have hk2 : L.take k = L := List.take_of_length_le (by omega)
      rw [hk2] at ho
      clear hk2
      go_wp2
      go_ret
      exact ⟨⟨_, m, rfl, ho⟩, hb⟩
end Go.Proofs.YtoolboafbkikjaaDoor
/-
  Contracts of package sign: quotesEnd, elementEnd.
-/
namespace Go.Proofs.YtoolboafbkikjaaDoor
open Go.RowKit Go.Pantry

theorem quotesEnd_any (s : ByteArray) (i : Nat) (w : World) (hs : s.size ≤ 140737488351232) (hi : i ≤ s.size) :
    Calls Tryd.prog 65 #[.string s, .int .i64 (i : Int)] w fun e w' => e = .returned (.int .i64 ((i + qe (s.data.toList.drop i) : Nat) : Int)) ∧ w = w' := by
  obtain ⟨r, hr⟩ : ∃ r, r = i + qe (s.data.toList.drop i) := ⟨_, rfl⟩
  rw [← hr]
  have HR := hid hr
  clear hr
  go_enter Tryd.func65, Tryd.ntmps65
  go_wp2
  go_loop [1] (fun v => ∃ k : Nat, k ≤ s.size + 1 ∧ v = .int .i64 k ∧ (k ≤ s.size → r = k + qe (s.data.toList.drop k)) ∧ (s.size < k → r = s.size)) (fun v => s.size + 1 - (intOf v).toNat)
  case atStart => exact ⟨i, by omega, rfl, fun _ => HR.out, fun h => by omega⟩
  case round =>
    obtain ⟨k, hk, rfl, h1, h2⟩ := hrel
    have H1 := hid h1
    have H2 := hid h2
    clear h1 h2
    by_cases hlt : k < s.size
    · have hd := hid (drop_cons s k hlt)
      go_wp2
      · have e : s[k] = 34 := byte_yes 34 (z := 34) (by assumption) rfl
        go_ret
        refine ⟨ret_int ?_, rfl⟩
        rw [H1.out (by omega), hd.out, e, qe_quote]; omega
      · have e : s[k] = 92 := byte_yes 92 (z := 92) (by assumption) rfl
        go_round
        case rel =>
          refine ⟨k + 2, by omega, by go_num, fun h => ?_, fun h => ?_⟩
          · rw [H1.out (by omega), hd.out, e, drop_cons s (k + 1) (by omega), qe_back, Nat.add_assoc]; omega
          · rw [H1.out (by omega), hd.out, e, drop_nil s (k + 1) (by omega)]; simp [qe]; omega
        case measure => simp [intOf]; omega
      · have e1 : s[k] ≠ 34 := byte_no 34 (z := 34) (by assumption) rfl
        have e2 : s[k] ≠ 92 := byte_no 92 (z := 92) (by assumption) rfl
        go_round
        case rel =>
          refine ⟨k + 1, by omega, by go_num, fun h => ?_, fun h => by omega⟩
          rw [H1.out (by omega), hd.out, qe_other _ _ e1 e2]; omega
        case measure => simp [intOf]; omega
    · go_wp2
      go_ret
      refine ⟨ret_int ?_, rfl⟩
      by_cases e : k ≤ s.size
      · rw [H1.out e, drop_nil s k hlt]; simp [qe]; omega
      · rw [H2.out (by omega)]

theorem elementEnd_any (s : ByteArray) (i : Nat) (w : World) (hs : s.size ≤ 140737488351232) (hi : i ≤ s.size) :
    Calls Tryd.prog 54 #[.string s, .int .i64 (i : Int)] w fun e w' => e = .returned (.int .i64 ((i + cut false false (s.data.toList.drop i) : Nat) : Int)) ∧ w = w' := by
  obtain ⟨r, hr⟩ : ∃ r, r = i + cut false false (s.data.toList.drop i) := ⟨_, rfl⟩
  rw [← hr]
  have HR := hid hr
  clear hr
  go_enter Tryd.func54, Tryd.ntmps54
  go_wp2
  go_loop [1] (fun v => ∃ k : Nat, k ≤ s.size ∧ v = .int .i64 k ∧ r = k + cut false false (s.data.toList.drop k)) (fun v => s.size - (intOf v).toNat)
  case atStart => exact ⟨i, by omega, rfl, HR.out⟩
  case round =>
    obtain ⟨k, hk, rfl, h1⟩ := hrel
    have H1 := hid h1
    clear h1
    by_cases hlt : k < s.size
    · have hd := hid (drop_cons s k hlt)
      have hq : k + 1 + qe (s.data.toList.drop (k + 1)) ≤ s.size := by
        have := qe_le _ (s.data.toList.drop (k + 1)) (Nat.le_refl _)
        rw [List.length_drop, size_list] at this; omega
      have ek : ((k + 1 : Nat) : Int) = (k : Int) + 1 := by omega
      go_wp2_with (go_at_call 65; rw [← ek]; refine (quotesEnd_any s (k + 1) _ hs (by omega)).mono ?_; rintro e w' ⟨rfl, rfl⟩)
      · have e : s[k] = 34 := byte_yes 34 (z := 34) (by assumption) rfl
        go_round
        case rel =>
          refine ⟨k + 1 + qe (s.data.toList.drop (k + 1)), by omega, by go_num, ?_⟩
          rw [H1.out, hd.out, e, cut_quote, List.drop_drop]; omega
        case measure => simp [intOf]; omega
      · have e1 : s[k] ≠ 44 := byte_ne_yes 44 (z := 44) (by assumption) rfl
        have e2 : s[k] ≠ 34 := byte_no 34 (z := 34) (by assumption) rfl
        go_round
        case rel =>
          refine ⟨k + 1, by omega, by go_num, ?_⟩
          rw [H1.out, hd.out, cut_other _ _ e1 e2]; omega
        case measure => simp [intOf]; omega
      · have e : s[k] = 44 := byte_ne_no 44 (z := 44) (by assumption) rfl
        go_ret
        refine ⟨ret_int ?_, rfl⟩
        rw [H1.out, hd.out, e, cut_comma]; omega
    · go_wp2
      go_ret
      refine ⟨ret_int ?_, rfl⟩
      rw [H1.out, drop_nil s k hlt, cut]; omega

theorem List_any (s : ByteArray) (w : World) (hs : s.size < 4294967296) :
    Calls Tryd.prog 35 #[.string s] w fun e w' => ∃ v, e = .returned v ∧ w'.ownsRow w.heap.size 9 1 v (listL s.data.toList).length ((listL s.data.toList).map strV) ∧ Below w.heap.size w w' := by
  go_enter Tryd.func35, Tryd.ntmps35
  go_wp2
  go_loopw [3, 4] (fun v i wr => ∃ (k : Nat) (E : List (List UInt8)), k ≤ s.size + 1 ∧ i = .int .i64 k ∧ E.length ≤ k ∧ E ++ listL (s.data.toList.drop k) = listL s.data.toList ∧ wr.ownsRow w.heap.size 9 1 v E.length (E.map strV) ∧ Below w.heap.size w wr) (fun _ i _ => s.size + 1 - (intOf i).toNat)
  case atStart => exact ⟨0, [], Nat.zero_le _, rfl, Nat.le_refl _, rfl, World.ownsRow_nil _ _ _ _, Below.refl _ _⟩
  case round =>
    obtain ⟨k, E, hk, rfl, hEk, hE, hown, hb⟩ := hrel
    have HE := hid hE
    clear hE
    have hB := hb.size
    by_cases hlt : k < s.size
    · have hc : k + cut false false (s.data.toList.drop k) ≤ s.size := by
        have := cut_le (s.data.toList.drop k) false false
        rw [List.length_drop, size_list] at this; omega
      obtain ⟨m, hm⟩ : ∃ m, m = k + cut false false (s.data.toList.drop k) := ⟨_, rfl⟩
      have HM := hid hm
      rw [← hm] at hc
      clear hm
      have hkm : k ≤ m := by have := HM.out; omega
      go_wp2_with fail
      refine (elementEnd_any s k _ (by omega) (by omega)).mono ?_
      rw [← HM.out]
      rintro e w' ⟨rfl, rfl⟩
      go_wp2_with fail
      refine (Trim_any _ _ (by rw [ByteArray.size_extract]; unfold maxLen; omega)).mono ?_
      rw [Lib.extract_data]
      obtain ⟨t, ht⟩ : ∃ t, t = trimL ((s.data.toList.drop k).take (m - k)) := ⟨_, rfl⟩
      rw [← ht]
      have HT := hid ht
      clear ht
      rintro e w2 ⟨rfl, hb2⟩
      have hown2 := hown.below hb2
      have hb2' := hb.trans (hb2.mono hB)
      have hB2 := hb2'.size
      clear hown hb hb2 hB
      go_wp2_with ((at_builtin; go_must (refine wpList_append_one _ rfl _ _ 27 rfl w.heap.size 9 Tryd.underlying27 infoStr rfl (by decide) rfl hown2 rfl rfl (by omega) hB2 ?_); intro v' w3 hown3 hg3 hb3))
      · have ht : t ≠ [] := not_empty (by assumption)
        go_roundw
        case rel =>
          refine ⟨m + 1, E ++ [t], by omega, by go_num, by simp; omega, ?_, by simpa using hown3, hb2'.trans hb3⟩
          have HT' := HT.out; have e : m - k = cut false false (s.data.toList.drop k) := by (have := HM.out; omega)
          rw [e] at HT'
          rw [← HE.out, list_step s k hlt, ← HT', if_neg ht, HM.out]; simp [Nat.add_assoc]
        case measure => simp [intOf]; omega
      · have ht : t = [] := is_empty (by assumption)
        go_roundw
        case rel =>
          refine ⟨m + 1, E, by omega, by go_num, by omega, ?_, hown2, hb2'⟩
          have HT' := HT.out; have e : m - k = cut false false (s.data.toList.drop k) := by (have := HM.out; omega)
          rw [e] at HT'
          rw [← HE.out, list_step s k hlt, ← HT', if_pos ht, HM.out]; simp [Nat.add_assoc]
        case measure => simp [intOf]; omega
    · go_wp2
      go_ret
      have e : listL s.data.toList = E := by rw [← HE.out, drop_nil s k hlt, listL_nil, List.append_nil]
      rw [e]
      exact ⟨_, rfl, hown, hb⟩
end Go.Proofs.YtoolboafbkikjaaDoor
/-
  Contracts of package field: Elements.
-/
namespace Go.Proofs.YtoolboafbkikjaaDoor
open Go.RowKit Go.Pantry

theorem lElements_any (v : Value) (L : List Fld) (n : ByteArray) (w : World) (hr : Reads2 w v L) (hk : okFs L) (hn : n.size ≤ 100000) :
    Calls Tryd.prog 13 #[v, .string n] w fun e w' => MadeStrs 9 w.heap.size (elementsF L n.data.toList) e w' ∧ Below w.heap.size w w' := by
  have hgl := getF_len (L := L) (n := n.data.toList) (fun f hf => (hk.2 f hf).2) hk.1
  have c1 := fun W h => lGet_any v L n W h hk hn
  have c2 := fun W => List_any ⟨(getF L n.data.toList).toArray⟩ W (by rw [szL]; omega)
  have he : elementsF L n.data.toList = listL (getF L n.data.toList) := rfl
  rw [dtL, ← he] at c2
  generalize getF L n.data.toList = G at c1 c2
  generalize allF L n.data.toList = T at c1
  have C1 := hid c1
  have C2 := hid c2
  have HR := hid hr
  clear c1 c2 hr he
  go_enter Tryd.func13, Tryd.ntmps13
  go_wp2_with fail
  refine (C1.out _ HR.out).mono ?_
  rintro e w1 ⟨rfl, hb1⟩
  go_wp2_with fail
  refine (C2.out _).mono ?_
  rintro e w2 ⟨v', rfl, ho, hb2⟩
  go_wp2_with fail
  go_ret
  exact ⟨⟨_, rfl, ho.base hb1.size⟩, chain2 hb1 hb1.size hb2⟩
end Go.Proofs.YtoolboafbkikjaaDoor
/-
  Contracts of package field: set, With.
-/
namespace Go.Proofs.YtoolboafbkikjaaDoor
open Go.RowKit Go.Pantry

set_option maxHeartbeats 4000000 in
theorem set_any (v : Value) (L : List Fld) (f : Fld) (w : World) (hr : Reads2 w v L) (hL : ∀ g ∈ L, g.1.length ≤ 100000) (hf1 : f.1.length ≤ 100000) (hn : L.length < 1000000) :
    Calls Tryd.prog 62 #[v, fldV f] w fun e w' => MadeFlds 49 w.heap.size (withF L f) e w' ∧ Below w.heap.size w w' := by
  obtain ⟨ao, cap, rfl⟩ := hr.form
  obtain ⟨W, hW, hbW, hsW, hx1, hx2⟩ := box2 w f 49
  have HR := hid (hr.below hbW)
  have HL := hid hL
  have HX1 := hid hx1
  have HX2 := hid hx2
  have HS := hid hsW
  clear hr hL hx1 hx2 hsW
  go_enter Tryd.func62, Tryd.ntmps62
  go_wp2_with fail
  rw [← hW]
  clear hW
  go_loopw [5, 6, 11] (fun v' d i wr => ∃ (k m : Nat), k ≤ L.length ∧ i = .int .i64 k ∧ d = .bool (runW f (L.take k)).2 ∧ m ≤ k ∧ wr.ownsRow W.heap.size 49 2 v' m (fldCells (runW f (L.take k)).1) ∧ Below W.heap.size W wr) (fun _ _ i _ => L.length - (intOf i).toNat)
  case atStart => exact ⟨0, 0, Nat.zero_le _, rfl, rfl, Nat.le_refl _, World.ownsRow_nil _ _ _ _, Below.refl _ _⟩
  case round =>
    obtain ⟨k, m, hk, rfl, rfl, hm, ho, hb⟩ := hrel
    have hs := hb.size
    have hsw : w.heap.size ≤ wr.heap.size := by have := HS.out; omega
    by_cases hlt : k < L.length
    · obtain ⟨g, hg⟩ : ∃ g, L[k]? = some g := ⟨_, List.getElem?_eq_getElem hlt⟩
      obtain ⟨b, off, rfl, hc1, hc2⟩ := (HR.out.below hb).fld hg
      have hgl := HL.out g (List.mem_of_getElem? hg)
      have HT := hid (take_fld hg)
      clear hg
      have hst := runW_snoc f (L.take k) g
      rw [← HT.out] at hst
      unfold stepW at hst
      have hpr : runW f (L.take k) = ((runW f (L.take k)).1, (runW f (L.take k)).2) := rfl
      rw [hpr] at hst
      clear hpr
      obtain ⟨d, hd⟩ : ∃ d, (runW f (L.take k)).2 = d := ⟨_, rfl⟩
      obtain ⟨M, hM⟩ : ∃ M, (runW f (L.take k)).1 = M := ⟨_, rfl⟩
      obtain ⟨q, hq⟩ : ∃ q, isF f.1 g = q := ⟨_, rfl⟩
      have cI := fun W vn h => called_any g vn [f.1] W hgl h ⟨by simp, by simp; omega⟩
      simp only [any_one, hq] at cI
      simp only [hd, hM, hq] at hst
      rw [hd]
      rw [hM] at ho
      have CI := hid cI
      have HST := hid hst
      clear cI hst hd hM hq
      obtain ⟨V, hV, hbV, hsV, hy1, hy2⟩ := box2 wr g 49
      have hbv := chain2 hb hs hbV
      replace ho := ho.below hbV
      have hz1 := kept HX1.out hbv
      obtain ⟨X, hX⟩ : ∃ X, X = V.alloc (.cells #[strV f.1] 9) := ⟨_, rfl⟩
      have hbX : Below V.heap.size V X := by rw [hX]; exact below_alloc _ _
      have hrX : Reads X (.slice (some ⟨wr.heap.size + 1, 0, none⟩) 1 1) ([f.1].map strV) := by rw [← hsV, hX]; exact reads_one V f.1 9 1
      have hbx := chain2 hbv hbv.size hbX
      replace ho := ho.below hbX
      replace hy1 := kept hy1 hbX
      replace hy2 := kept hy2 hbX
      have hzz : (wr.alloc (.cells #[.string ⟨g.1.toArray⟩, .string ⟨g.2.toArray⟩] 49)).cell? ⟨w.heap.size, 0, none⟩ = some (strV f.1) := by rw [← hV]; exact hz1
      clear hbV hbX hb hs hbv hsV hz1
      go_wp2_with fail
      rw [← hV, ← hX]
      clear hV hX hzz
      refine (CI.out _ _ hrX).mono ?_
      rintro e w3 ⟨rfl, hb3⟩
      have hbn := chain2 hbx hbx.size hb3
      have ho3 := ho.below hb3
      have hsn := hbn.size
      have x1 := kept HX1.out hbn
      have x2 := kept HX2.out hbn
      have hd1 := kept hy1 hb3
      have hd2 := kept hy2 hb3
      clear hb3 ho hrX hy1 hy2 hc1 hc2 hbx
      cases q
      · simp only [Bool.false_eq_true, if_false] at HST
        go_wp2_with ((at_builtin; go_must (refine wpList_append_fld _ rfl _ _ 23 rfl W.heap.size 49 Tryd.underlying23 infoFld rfl (by decide) rfl ho3 g rfl (by first | rfl | simp) (by omega) hsn ?_); intro v' w4 hown4 hb4))
        go_roundw
        case rel => exact ⟨k + 1, m + 1, hlt, by go_num, by rw [HST.out], by omega, by rw [HST.out]; exact hown4, hbn.trans hb4⟩
        case measure => simp [intOf]; omega
      · cases d
        · simp only [Bool.false_eq_true, if_false, if_true] at HST
          go_wp2_with ((at_builtin; go_must (refine wpList_append_fld _ rfl _ _ 23 rfl W.heap.size 49 Tryd.underlying23 infoFld rfl (by decide) rfl ho3 f rfl (by first | rfl | simp) (by omega) hsn ?_); intro v' w4 hown4 hb4))
          go_roundw
          case rel => exact ⟨k + 1, m + 1, hlt, by go_num, by rw [HST.out], by omega, by rw [HST.out]; exact hown4, hbn.trans hb4⟩
          case measure => simp [intOf]; omega
        · simp only [if_true] at HST
          go_wp2_with fail
          go_roundw
          case rel => exact ⟨k + 1, m, hlt, by go_num, by rw [HST.out], by omega, by rw [HST.out]; exact ho3, hbn⟩
          case measure => simp [intOf]; omega
    · have hke : L.take k = L := List.take_of_length_le (by omega)
      rw [hke] at ho ⊢
      clear hke
      have hwf : withF L f = if (runW f L).2 then (runW f L).1 else (runW f L).1 ++ [f] := rfl
      generalize runW f L = p at ho hwf ⊢
      obtain ⟨M, d⟩ := p
      simp only at ho hwf ⊢
      have HWF := hid hwf
      clear hwf
      have x1 := kept HX1.out hb
      have x2 := kept HX2.out hb
      have hbase : w.heap.size ≤ W.heap.size := hbW.size
      cases d
      · go_wp2_with ((at_builtin; go_must (refine wpList_append_fld _ rfl _ _ 23 rfl W.heap.size 49 Tryd.underlying23 infoFld rfl (by decide) rfl ho f rfl (by first | rfl | simp) (by omega) hs ?_); intro v' w4 hown4 hb4))
        go_wp2_with fail
        go_ret
        exact ⟨⟨_, _, rfl, by rw [HWF.out]; exact hown4.base hbase⟩, hbW.trans ((hb.trans hb4).mono hbase)⟩
      · go_wp2_with fail
        go_ret
        exact ⟨⟨_, _, rfl, by rw [HWF.out]; exact ho.base hbase⟩, hbW.trans (hb.mono hbase)⟩

theorem reads_nil (w : World) : Reads w (.slice none 0 0) (([] : List (List UInt8)).map strV) := ⟨none, 0, rfl, fun j u hj => by simp at hj, fun _ => rfl⟩

set_option maxHeartbeats 4000000 in
theorem lWith_any (v vm : Value) (L M : List Fld) (w : World) (hr : Reads2 w v L) (hk : okFs L) (hm : Reads2 w vm M) (hkm : okFs M) :
    Calls Tryd.prog 46 #[v, vm] w fun e w' => MadeFlds 49 w.heap.size (withsF L M) e w' ∧ Below w.heap.size w w' := by
  have c1 := fun W h => lWithout_any v (.slice none 0 0) L [] W h hk (reads_nil W) ⟨by simp, by simp⟩
  rw [outsF_nil] at c1
  obtain ⟨ao, cap, rfl⟩ := hm.form
  have HR := hid hr
  have HM := hid hm
  have C1 := hid c1
  have HK := hid hk
  have HKM := hid hkm
  have hML := hkm.1
  have hLL := hk.1
  clear hr hm c1 hk hkm
  go_enter Tryd.func46, Tryd.ntmps46
  go_wp2_with fail
  refine (C1.out _ HR.out).mono ?_
  rintro e w1 ⟨⟨v0, k0, rfl, ho0⟩, hb1⟩
  go_wp2_with fail
  go_loopw [5, 12] (fun v' i wr => ∃ (k m : Nat), k ≤ M.length ∧ i = .int .i64 k ∧ wr.ownsRow w.heap.size 49 2 v' m (fldCells (withsF L (M.take k))) ∧ Below w.heap.size w wr) (fun _ i _ => M.length - (intOf i).toNat)
  case atStart => exact ⟨0, k0, Nat.zero_le _, rfl, ho0, hb1⟩
  case round =>
    obtain ⟨k, m, hk, rfl, ho, hb⟩ := hrel
    by_cases hlt : k < M.length
    · obtain ⟨f, hf⟩ : ∃ f, M[k]? = some f := ⟨_, List.getElem?_eq_getElem hlt⟩
      obtain ⟨b, off, rfl, hc1, hc2⟩ := (HM.out.below hb).fld hf
      have hfl := (HKM.out.2 f (List.mem_of_getElem? hf)).1
      have HT := hid (take_fld hf)
      clear hf
      have hst := withsF_snoc L (M.take k) f
      rw [← HT.out] at hst
      have hle := withsF_len L (M.take k)
      rw [List.length_take] at hle
      have hsm : ∀ g ∈ withsF L (M.take k), g.1.length ≤ 100000 := fun g hg => by
        rcases withsF_of L _ g hg with h | h
        · exact (HK.out.2 g h).1
        · exact (HKM.out.2 g (List.mem_of_mem_take h)).1
      have cs := fun W h => set_any u5 (withsF L (M.take k)) f W h hsm hfl (by omega)
      rw [← hst] at cs
      have CS := hid cs
      obtain ⟨V, hV, hbV, -, -, -⟩ := box2 wr f 49
      have hbv := chain2 hb hb.size hbV
      have hrd := (ho.below hbV).reads2.2
      clear cs hst hsm hle hb hbV ho
      go_wp2_with fail
      rw [← hV]
      clear hV
      refine (CS.out _ hrd).mono ?_
      rintro e w3 ⟨⟨v3, m3, rfl, ho3⟩, hb3⟩
      have hbn := chain2 hbv hbv.size hb3
      have ho4 := ho3.base hbv.size
      clear hb3 ho3 hrd hc1 hc2
      go_wp2_with fail
      go_roundw
      case rel => exact ⟨k + 1, m3, hlt, by go_num, ho4, hbn⟩
      case measure => simp [intOf]; omega
    · have hke : M.take k = M := List.take_of_length_le (by omega)
      rw [hke] at ho
      clear hke
      go_wp2_with fail
      go_ret
      exact ⟨⟨_, _, rfl, ho⟩, hb⟩
end Go.Proofs.YtoolboafbkikjaaDoor
