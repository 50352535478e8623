/-
  Several texts in one: SignA, SignTok, SignB, SignN, FieldB, FieldR, FieldD, FieldE, SignC, FieldH, Law07S, FieldC, FieldF, RefSignA, RefSignTok, RefFieldM, RefSignB, RefFieldI, RefFieldA.
-/
import Derived.Test.YtongceljdgmbdaaGreatDoorProg
import Derived.Test.YtongceljdgmbdaaGreatDoorShelf
import Derived.Test.YtongceljdgmbdaaGreatDoorPureAll1
import Derived.Test.YtongceljdgmbdaaGreatDoorW7f01
/-
  Contracts of the leaves of package sign: great, digit, tokenSign, Token.
-/
namespace Go.Proofs.YtongceljdgmbdaaGreatDoor
open Go.RowKit Go.Pantry

theorem great_any (c : UInt8) (w : World) :
    Calls Tryz.prog 139 #[.int .u8 (c.toNat : Int)] w fun e w' => e = .returned (.bool (isUp c)) ∧ w = w' := by
  rw [← isUp_int]
  go_enter Tryz.func139, Tryz.ntmps139
  go_wp2
  all_goals go_ret
  all_goals exact ⟨ret_bool (by simp; try omega), rfl⟩

theorem digit_any (c : UInt8) (w : World) :
    Calls Tryz.prog 151 #[.int .u8 (c.toNat : Int)] w fun e w' => e = .returned (.bool (isDig c)) ∧ w = w' := by
  rw [← isDig_int]
  go_enter Tryz.func151, Tryz.ntmps151
  go_wp2
  all_goals go_ret
  all_goals exact ⟨ret_bool (by simp; try omega), rfl⟩

end Go.Proofs.YtongceljdgmbdaaGreatDoor
/-
  Contracts of package sign: tokenSign, Token.
-/
namespace Go.Proofs.YtongceljdgmbdaaGreatDoor
open Go.RowKit Go.Pantry

theorem marks_any (c : UInt8) (w : World) :
    Calls Tryz.prog 167 #[.string ⟨#[33, 35, 36, 37, 38, 39, 42, 43, 45, 46, 94, 95, 124, 96, 126]⟩, .int .u8 (c.toNat : Int)] w fun e w' => ∃ n : Int, e = .returned (.int .i64 n) ∧ Hid (decide (0 ≤ n) = marks.contains c) ∧ w = w' := by
  refine (Tryz.strings_IndexByte _ _ _).mono ?_
  rintro e w' ⟨rfl, rfl⟩
  refine ⟨_, rfl, ?_, rfl⟩
  have e : (c.toNat : Int).toNat.toUInt8 = c := by simp
  rw [e]
  exact indexByte_nonneg marks c

theorem tokenSign_any (c : UInt8) (w : World) :
    Calls Tryz.prog 146 #[.int .u8 (c.toNat : Int)] w fun e w' => e = .returned (.bool (isTok c)) ∧ w = w' := by
  go_enter Tryz.func146, Tryz.ntmps146
  go_wp2_with (first
    | (go_at_call 139; refine (great_any _ _).mono ?_; rintro e w' ⟨rfl, rfl⟩)
    | (go_at_call 151; refine (digit_any _ _).mono ?_; rintro e w' ⟨rfl, rfl⟩)
    | (go_at_call 167; refine (marks_any _ _).mono ?_; rintro e w' ⟨n, rfl, hn, rfl⟩))
  all_goals go_ret
  all_goals refine ⟨ret_bool ?_, rfl⟩
  all_goals rw [isTok_of]
  · rw [isLow_yes (by assumption) (by assumption)]; rfl
  · simp_all
  · simp_all
  · simp_all
  · rw [isLow_no2 (by assumption), hn.out]; simp_all
  · simp_all
  · simp_all
  · simp_all
  · rw [isLow_no1 (by assumption), hn.out]; simp_all

theorem Token_any (s : ByteArray) (w : World) (hs : s.size ≤ maxLen) :
    Calls Tryz.prog 122 #[.string s] w fun e w' => e = .returned (.bool (tokenL s.data.toList)) ∧ w = w' := by
  unfold maxLen at hs
  go_enter Tryz.func122, Tryz.ntmps122
  go_wp2
  go_loop [3] (fun i => ∃ k : Nat, k ≤ s.size ∧ i = .int .i64 k ∧ (s.data.toList.take k).all isTok = true) (fun i => s.size - (intOf i).toNat)
  case atStart => exact ⟨0, Nat.zero_le _, rfl, rfl⟩
  case round =>
    obtain ⟨k, hk, rfl, hall⟩ := hrel
    have HA := hid hall
    clear hall
    by_cases hlt : k < s.size
    · go_wp2_with (go_at_call 146; refine (tokenSign_any _ _).mono ?_; rintro e w' ⟨rfl, rfl⟩)
      · go_ret
        have h : isTok s[k] = false := by simpa using (by assumption : (!isTok s[k]) = true)
        exact ⟨ret_bool (tokenL_no s k hlt h).symm, rfl⟩
      · have h : isTok s[k] = true := by simpa using (by assumption : (!isTok s[k]) = false)
        go_round
        case rel => exact ⟨k + 1, by omega, by go_num, by rw [take_succ_list s k hlt, List.all_append, HA.out]; simp [h]⟩
        case measure => simp [intOf]; omega
    · go_wp2
      go_ret
      exact ⟨ret_bool (by rw [tokenL, Lib.toList_data, ← take_all s k hlt, HA.out]; simp), rfl⟩
end Go.Proofs.YtongceljdgmbdaaGreatDoor
/-
  Contracts of package sign: Trim, Lower, Same.
-/
namespace Go.Proofs.YtongceljdgmbdaaGreatDoor
open Go.RowKit Go.Pantry


theorem Trim_any (s : ByteArray) (w : World) (hs : s.size ≤ maxLen) :
    Calls Tryz.prog 126 #[.string s] w fun e w' => e = .returned (.string ⟨(trimL s.data.toList).toArray⟩) ∧ Below w.heap.size w w' := by
  unfold maxLen at hs
  go_enter Tryz.func126, Tryz.ntmps126
  go_wp2_with (go_at_call 147; refine (Tryz.strings_Trim s ⟨#[32, 9]⟩ _ (by omega) (by decide) (ascii_of_all (by decide))).mono ?_; rintro e w' ⟨rfl, hb⟩)
  go_ret
  exact ⟨rfl, hb⟩

theorem Lower_any (s : ByteArray) (w : World) (hs : s.size ≤ maxLen) :
    Calls Tryz.prog 116 #[.string s] w fun e w' => e = .returned (.string ⟨(lowerL s.data.toList).toArray⟩) ∧ Below w.heap.size w w' := by
  unfold maxLen at hs
  have hcv := fun w' => run_bytes_of_string (P := Tryz.prog) w' 9 27 5 s Tryz.underlying9 Tryz.underlying27 Tryz.underlying5
  go_enter Tryz.func116, Tryz.ntmps116
  go_wp2
  clear hcv
  go_loopw [10] (fun i wr => ∃ k : Nat, k ≤ s.size ∧ i = .int .i64 k ∧ bytesAt wr w.heap.size (lowerL (s.data.toList.take k) ++ s.data.toList.drop k) ∧ Below w.heap.size w wr ∧ w.heap.size < wr.heap.size) (fun i _ => s.size - (intOf i).toNat)
  case atStart => exact ⟨0, Nat.zero_le _, rfl, bytesAt_row w s _ _, ((Below.refl _ _).alloc (Nat.le_refl _) _).drew, by simp⟩
  case round =>
    obtain ⟨k, hk, rfl, hby, hb, hsz⟩ := hrel
    have HY := hid hby
    clear hby
    by_cases hlt : k < s.size
    · have hcell : wr.cell? ⟨w.heap.size, k, none⟩ = some (.int .u8 (s[k].toNat : Int)) := HY.out.cell k _ (lower_mid s k hlt)
      have hfree : wr.frozen? ⟨w.heap.size, k, none⟩ = false := HY.out.free k (lower_len s k hlt)
      go_wp2_with (go_at_call 139; refine (great_any _ _).mono ?_; rintro e w' ⟨rfl, rfl⟩)
      · have hu : isUp s[k] = true := by assumption
        go_roundw
        case rel =>
          refine ⟨k + 1, by omega, by go_num, ?_, hb.setCell (by simp) _, by simpa [World.setCell] using hsz⟩
          rw [low_int hu, ← lower_step s k hlt]
          exact HY.out.set k (lower_len s k hlt) _
        case measure => simp [intOf]; omega
      · have hu : isUp s[k] = false := by assumption
        go_roundw
        case rel => exact ⟨k + 1, by omega, by go_num, by rw [← lower_same s k hlt hu]; exact HY.out, hb, hsz⟩
        case measure => simp [intOf]; omega
    · have hback := HY.out.back 27 9 5 s.size (grownCap w s.size 0 5) (by simp [lowerL]; omega) Tryz.underlying27 Tryz.underlying5 Tryz.underlying9
      go_wp2
      go_ret
      refine ⟨ret_str ?_, hb⟩
      rw [take_all s k hlt, drop_nil s k hlt, List.append_nil]

theorem Same_any (s t : ByteArray) (w : World) (hs : s.size ≤ maxLen) (ht : t.size ≤ maxLen) :
    Calls Tryz.prog 82 #[.string s, .string t] w fun e w' => e = .returned (.bool (lowerL s.data.toList == lowerL t.data.toList)) ∧ Below w.heap.size w w' := by
  go_enter Tryz.func82, Tryz.ntmps82
  go_wp2_with fail
  refine (Lower_any _ _ hs).mono ?_
  rintro e w1 ⟨rfl, hb1⟩
  go_wp2_with fail
  refine (Lower_any _ _ ht).mono ?_
  rintro e w2 ⟨rfl, hb2⟩
  go_wp2_with fail
  go_ret
  refine ⟨ret_bool ?_, hb1.trans (hb2.mono hb1.size)⟩
  simp
end Go.Proofs.YtongceljdgmbdaaGreatDoor
/-
  Contract of package sign: Number.
-/
namespace Go.Proofs.YtongceljdgmbdaaGreatDoor
open Go.RowKit Go.Pantry

theorem Number_any (s : ByteArray) (w : World) (hs : s.size ≤ 140737488351232) :
    Calls Tryz.prog 132 #[.string s] w fun e w' => e = .returned (.tuple #[.int .i64 (((numberL s.data.toList).getD 0 : Nat) : Int), .bool (numberL s.data.toList).isSome]) ∧ w = w' := by
  go_enter Tryz.func132, Tryz.ntmps132
  go_wp2
  go_loop [4, 5] (fun n i => ∃ k m : Nat, k ≤ s.size ∧ i = .int .i64 k ∧ n = .int .i64 m ∧ m ≤ 2147483648 ∧ m = min (valL (s.data.toList.take k)) 2147483648 ∧ (s.data.toList.take k).all isDig = true) (fun _ i => s.size - (intOf i).toNat)
  case atStart => exact ⟨0, 0, Nat.zero_le _, rfl, rfl, by omega, rfl, rfl⟩
  case round =>
    obtain ⟨k, m, hk, rfl, rfl, hm, hv, hall⟩ := hrel
    have HV := hid hv
    have HA := hid hall
    clear hv hall
    by_cases hlt : k < s.size
    · go_wp2_with (go_at_call 151; refine (digit_any _ _).mono ?_; rintro e w' ⟨rfl, rfl⟩)
      · go_ret2
        have h : isDig s[k] = false := by simpa using (by assumption : (!isDig s[k]) = true)
        exact ⟨by rw [numberL_no s k hlt h]; rfl, rfl⟩
      · have h : isDig s[k] = true := by simpa using (by assumption : (!isDig s[k]) = false)
        go_round
        case rel =>
          refine ⟨k + 1, min (valL (s.data.toList.take (k + 1))) 2147483648, by omega, by go_num, ?_, by omega, rfl, by rw [take_succ_list s k hlt, List.all_append, HA.out]; simp [h]⟩
          rw [take_succ_list s k hlt, number_step _ _ _ h HV.out]
        case measure => simp [intOf]; omega
    · go_wp2
      go_ret2
      have hy := numberL_yes s.data.toList m (by rw [← take_all s k hlt]; exact HA.out) (by rw [← take_all s k hlt]; exact HV.out)
      refine ⟨?_, rfl⟩
      rw [hy.1, hy.2, Lib.toList_data]; rfl
end Go.Proofs.YtongceljdgmbdaaGreatDoor
/-
  Contracts of package field: called.
-/
namespace Go.Proofs.YtongceljdgmbdaaGreatDoor
open Go.RowKit Go.Pantry

/-- fields that can be gone through with -/
def okFs (L : List Fld) : Prop := L.length ≤ 1000 ∧ ∀ f ∈ L, f.1.length ≤ 100000 ∧ f.2.length ≤ 100000

theorem infoFld : (Tryz.prog.info? 104).map (fun i => (i.zero, i.size, i.bytes)) = some (some (.agg #[.string ⟨#[]⟩, .string ⟨#[]⟩]), 2, 32) := by kernel_rfl

theorem called_any (f : Fld) (vn : Value) (ns : List (List UInt8)) (w : World) (h : f.1.length ≤ 100000) (hn : Reads w vn (ns.map strV)) (hns : ns.length ≤ 1000 ∧ ∀ n ∈ ns, n.length ≤ 9223372036854775807) :
    Calls Tryz.prog 50 #[fldV f, vn] w fun e w' => e = .returned (.bool (ns.any fun n => isF n f)) ∧ Below w.heap.size w w' := by
  obtain ⟨a, b⟩ := f
  obtain ⟨hl, hns⟩ := hns
  simp only at h
  obtain ⟨ao, cap, rfl⟩ := Reads.strs hn
  obtain ⟨r, hr⟩ : ∃ r, (ns.any fun n => isF n (a, b)) = r := ⟨_, rfl⟩
  rw [hr]
  have HN := hid hn
  have HNS := hid hns
  have HRR := hid hr
  clear hn hns hr
  go_enter Tryz.func50, Tryz.ntmps50
  go_wp2_with fail
  have hbW := below_alloc w (.cells #[strV a, strV b] 104)
  have hx : (w.alloc (.cells #[strV a, strV b] 104)).cell? ⟨w.heap.size, 0, none⟩ = some (strV a) := by rw [World.cell?_alloc_at _ _ _ _ rfl]; rfl
  generalize w.alloc (.cells #[strV a, strV b] 104) = W at hbW hx ⊢
  have HX := hid hx
  clear hx
  go_loopw [9] (fun i wr => ∃ (k : Nat), k ≤ ns.length ∧ i = .int .i64 k ∧ ((ns.take k).any fun n => isF n (a, b)) = false ∧ Below W.heap.size W wr) (fun i _ => ns.length - (intOf i).toNat)
  case atStart => exact ⟨0, Nat.zero_le _, rfl, rfl, Below.refl _ _⟩
  case round =>
    obtain ⟨k, hk, rfl, ha, hb⟩ := hrel
    have HA := hid ha
    clear ha
    by_cases hlt : k < ns.length
    · obtain ⟨n, hn⟩ : ∃ n, ns[k]? = some n := ⟨_, List.getElem?_eq_getElem hlt⟩
      obtain ⟨b', off, rfl, hc⟩ := Reads.str (HN.out.below (hbW.trans (hb.mono hbW.size))) hn
      have x1 := (hb.cell (p := ⟨w.heap.size, 0, none⟩) (World.block_lt_of_cell? W _ HX.out)).trans HX.out
      have hnl := HNS.out n (List.mem_of_getElem? hn)
      have HM := hid (List.mem_of_getElem? hn)
      have HT := hid (take_str hn)
      clear hn
      have cs := fun W => Same_any ⟨a.toArray⟩ ⟨n.toArray⟩ W (by rw [szL]; unfold maxLen; omega) (by rw [szL]; unfold maxLen; omega)
      rw [dtL, dtL] at cs
      obtain ⟨q, hq⟩ : ∃ q, (lowerL a == lowerL n) = q := ⟨_, rfl⟩
      rw [hq] at cs
      have CS := hid cs
      have HQ : Hid (isF n (a, b) = q) := hid hq
      clear cs hq
      cases q
      · go_wp2_with fail
        refine (CS.out _).mono ?_
        rintro e w2 ⟨rfl, hb2⟩
        go_wp2_with fail
        go_roundw
        case rel => exact ⟨k + 1, hlt, by go_num, by rw [HT.out, List.any_append, HA.out]; simp [HQ.out], chain2 hb hb.size hb2⟩
        case measure => simp [intOf]; omega
      · obtain rfl : r = true := by rw [← HRR.out]; exact List.any_eq_true.2 ⟨n, HM.out, HQ.out⟩
        go_wp2_with fail
        refine (CS.out _).mono ?_
        rintro e w2 ⟨rfl, hb2⟩
        go_wp2_with fail
        go_ret
        exact ⟨rfl, hbW.trans ((chain2 hb hb.size hb2).mono hbW.size)⟩
    · have hke : ns.take k = ns := List.take_of_length_le (by omega)
      obtain rfl : r = false := by rw [← HRR.out, ← hke]; exact HA.out
      clear hke
      go_wp2_with fail
      go_ret
      exact ⟨rfl, hbW.trans (hb.mono hbW.size)⟩
end Go.Proofs.YtongceljdgmbdaaGreatDoor
/-
  Contracts of package field: valueByte, rightValue, Right of a field and of fields.
-/
namespace Go.Proofs.YtongceljdgmbdaaGreatDoor
open Go.RowKit Go.Pantry

theorem valueByte_any (c : UInt8) (w : World) :
    Calls Tryz.prog 175 #[.int .u8 (c.toNat : Int)] w fun e w' => e = .returned (.bool (okV c)) ∧ w = w' := by
  rw [okV_int]
  go_enter Tryz.func175, Tryz.ntmps175
  go_wp2
  all_goals go_ret
  all_goals exact ⟨ret_bool (by rw [Bool.eq_iff_iff]; simp_all; try omega), rfl⟩

theorem rightValue_any (s : ByteArray) (w : World) (hs : s.size ≤ maxLen) :
    Calls Tryz.prog 148 #[.string s] w fun e w' => e = .returned (.bool (decide (s.size ≤ 1024) && (trimL s.data.toList == s.data.toList) && s.data.toList.all okV)) ∧ Below w.heap.size w w' := by
  have c2 := fun W => Trim_any s W hs
  have C2 := hid c2
  clear c2
  unfold maxLen at hs
  by_cases h1 : (1024 : Int) < (s.size : Int)
  · have hno : decide (s.size ≤ 1024) = false := decide_eq_false (by omega)
    rw [hno]
    clear hno
    go_enter Tryz.func148, Tryz.ntmps148
    go_wp2_with fail
    go_ret
    exact ⟨rfl, Below.refl _ _⟩
  · have hyes : decide (s.size ≤ 1024) = true := decide_eq_true (by omega)
    rw [hyes]
    have h1' : (s.size : Int) ≤ 1024 := by omega
    clear hyes h1
    obtain ⟨T, hT⟩ : ∃ T, trimL s.data.toList = T := ⟨_, rfl⟩
    rw [hT] at C2 ⊢
    clear hT
    cases hq : (T == s.data.toList)
    · have e1 : (T == s.toList) = false := by rw [Lib.toList_data]; exact hq
      have e2 : (T != s.toList) = true := by rw [bne, e1]; rfl
      clear hq
      go_enter Tryz.func148, Tryz.ntmps148
      go_wp2_with fail
      refine (C2.out _).mono ?_
      rintro e w1 ⟨rfl, hb1⟩
      go_wp2_with fail
      go_ret
      exact ⟨rfl, hb1⟩
    · have e1 : (T == s.toList) = true := by rw [Lib.toList_data]; exact hq
      have e2 : (T != s.toList) = false := by rw [bne, e1]; rfl
      obtain ⟨r, hr⟩ : ∃ r, s.data.toList.all okV = r := ⟨_, rfl⟩
      rw [hr]
      have HRR := hid hr
      clear hq hr
      simp only [Bool.true_and]
      go_enter Tryz.func148, Tryz.ntmps148
      go_wp2_with fail
      refine (C2.out _).mono ?_
      rintro e w1 ⟨rfl, hb1⟩
      go_wp2_with fail
      clear e1 e2
      go_loop [3] (fun i => ∃ k : Nat, k ≤ s.size ∧ i = .int .i64 k ∧ (s.data.toList.take k).all okV = true) (fun i => s.size - (intOf i).toNat)
      case atStart => exact ⟨0, Nat.zero_le _, rfl, rfl⟩
      case round =>
        obtain ⟨k, hk, rfl, hall⟩ := hrel
        have HA := hid hall
        clear hall
        by_cases hlt : k < s.size
        · have cv := fun W => valueByte_any s[k] W
          obtain ⟨q, hq⟩ : ∃ q, okV s[k] = q := ⟨_, rfl⟩
          rw [hq] at cv
          have CV := hid cv
          have HQ := hid hq
          clear cv hq
          cases q
          · have hno : r = false := by
              rw [← HRR.out]
              exact List.all_eq_false.2 ⟨s[k], by have := List.getElem_mem (l := s.data.toList) (n := k) (by rw [size_list]; exact hlt); exact this, by rw [HQ.out]; simp⟩
            subst hno
            go_wp2_with (go_at_call 175; refine (CV.out _).mono ?_; rintro e w' ⟨rfl, rfl⟩)
            go_ret
            exact ⟨rfl, hb1⟩
          · go_wp2_with (go_at_call 175; refine (CV.out _).mono ?_; rintro e w' ⟨rfl, rfl⟩)
            go_round
            case rel => exact ⟨k + 1, hlt, by go_num, by rw [take_succ_list s k hlt, List.all_append, HA.out]; simp [HQ.out]⟩
            case measure => simp [intOf]; omega
        · have hke := take_all s k hlt
          have hyes : r = true := by rw [← HRR.out, ← hke]; exact HA.out
          subst hyes
          clear hke
          go_wp2_with fail
          go_ret
          exact ⟨rfl, hb1⟩
theorem fRight_any (f : Fld) (w : World) (h : f.1.length ≤ 100000 ∧ f.2.length ≤ 100000) :
    Calls Tryz.prog 128 #[fldV f] w fun e w' => e = .returned (.bool (rightF f)) ∧ Below w.heap.size w w' := by
  obtain ⟨a, b⟩ := f
  obtain ⟨h1, h2⟩ := h
  simp only at h1 h2
  have hrf : rightF (a, b) = (tokenL a && decide (a.length ≤ 64) && (decide (b.length ≤ 1024) && (trimL b == b) && b.all okV)) := by
    unfold rightF
    simp only [Bool.and_assoc]
  obtain ⟨r, hr⟩ : ∃ r, rightF (a, b) = r := ⟨_, rfl⟩
  rw [hr] at hrf ⊢
  have c1 := fun W => Token_any ⟨a.toArray⟩ W (by rw [szL]; unfold maxLen; omega)
  have c2 := fun W => rightValue_any ⟨b.toArray⟩ W (by rw [szL]; unfold maxLen; omega)
  rw [dtL] at c1 c2
  rw [szL] at c2
  generalize (decide (b.length ≤ 1024) && (trimL b == b) && b.all okV) = v at hrf c2
  have C1 := hid c1
  have C2 := hid c2
  have hsz : (⟨a.toArray⟩ : ByteArray).size = a.length := szL a
  have HF := hid hrf
  clear c1 c2 hr hrf
  have hsI : (((⟨a.toArray⟩ : ByteArray).size : Nat) : Int) = (a.length : Int) := by rw [hsz]
  by_cases h64 : (a.length : Int) ≤ 64
  · obtain ⟨t, ht⟩ : ∃ t, tokenL a = t := ⟨_, rfl⟩
    rw [ht] at C1 HF
    have HF' : Hid (r = (t && v)) := by have h := HF.out; rw [decide_eq_true (by omega)] at h; simpa using hid h
    clear HF ht
    cases t
    · obtain rfl : r = false := HF'.out
      go_enter Tryz.func128, Tryz.ntmps128
      go_wp2_with fail
      refine (C1.out _).mono ?_
      rintro e w1 ⟨rfl, rfl⟩
      go_wp2_with fail
      go_ret
      exact ⟨rfl, below_alloc _ _⟩
    · obtain rfl : r = v := HF'.out
      go_enter Tryz.func128, Tryz.ntmps128
      go_wp2_with fail
      refine (C1.out _).mono ?_
      rintro e w1 ⟨rfl, rfl⟩
      go_wp2_with fail
      refine (C2.out _).mono ?_
      rintro e w2 ⟨rfl, hb⟩
      go_wp2_with fail
      go_ret
      exact ⟨rfl, (below_alloc _ _).trans (hb.mono (by simp))⟩
  · obtain rfl : r = false := by have h := HF.out; rw [decide_eq_false (by omega)] at h; simpa using h
    clear HF
    go_enter Tryz.func128, Tryz.ntmps128
    go_wp2_with fail
    go_ret
    exact ⟨rfl, below_alloc _ _⟩

theorem lRight_any (v : Value) (L : List Fld) (w : World) (hr : Reads2 w v L) (hk : okFs L) :
    Calls Tryz.prog 109 #[v] w fun e w' => e = .returned (.bool (rightFs L)) ∧ Below w.heap.size w w' := by
  obtain ⟨ao, cap, rfl⟩ := hr.form
  obtain ⟨hl, hv⟩ := hk
  have HR := hid hr
  have HV := hid hv
  have hrf : rightFs L = (decide (L.length ≤ 64) && L.all rightF) := rfl
  obtain ⟨r, hrr⟩ : ∃ r, rightFs L = r := ⟨_, rfl⟩
  rw [hrr] at hrf ⊢
  have HF := hid hrf
  clear hr hv hrr hrf
  by_cases h64 : (64 : Int) < (L.length : Int)
  · have hno : r = false := by rw [HF.out, decide_eq_false (by omega)]; rfl
    subst hno
    go_enter Tryz.func109, Tryz.ntmps109
    go_wp2
    go_ret
    exact ⟨rfl, Below.refl _ _⟩
  · have h64' : (L.length : Int) ≤ 64 := by omega
    have hall : r = L.all rightF := by rw [HF.out, decide_eq_true (by omega)]; rfl
    have HA := hid hall
    clear h64 hall
    go_enter Tryz.func109, Tryz.ntmps109
    go_wp2
    go_loopw [10] (fun i wr => ∃ (k : Nat), k ≤ L.length ∧ i = .int .i64 k ∧ (L.take k).all rightF = true ∧ Below w.heap.size w wr) (fun i _ => L.length - (intOf i).toNat)
    case atStart => exact ⟨0, Nat.zero_le _, rfl, rfl, Below.refl _ _⟩
    case round =>
      obtain ⟨k, hk, rfl, hak, hb⟩ := hrel
      have HK := hid hak
      clear hak
      by_cases hlt : k < L.length
      · obtain ⟨f, hf⟩ : ∃ f, L[k]? = some f := ⟨_, List.getElem?_eq_getElem hlt⟩
        obtain ⟨b, off, rfl, hc1, hc2⟩ := (HR.out.below hb).fld hf
        have hfv := HV.out f (List.mem_of_getElem? hf)
        have HM := hid (List.mem_of_getElem? hf)
        have HT := hid (take_fld hf)
        clear hf
        have cI := fun W => fRight_any f W hfv
        obtain ⟨q, hq⟩ : ∃ q, rightF f = q := ⟨_, rfl⟩
        rw [hq] at cI
        have CI := hid cI
        have HQ := hid hq
        clear cI hq hfv
        obtain ⟨W, hW, hbW, -, -, -⟩ := box2 wr f 104
        replace hb := chain2 hb hb.size hbW
        clear hbW
        cases q
        · have hno : r = false := by rw [HA.out]; exact List.all_eq_false.2 ⟨f, HM.out, by rw [HQ.out]; simp⟩
          subst hno
          go_wp2_with fail
          rw [← hW]
          clear hW
          refine (CI.out _).mono ?_
          rintro e w2 ⟨rfl, hb2⟩
          go_wp2_with fail
          go_ret
          exact ⟨rfl, chain2 hb hb.size hb2⟩
        · go_wp2_with fail
          rw [← hW]
          clear hW
          refine (CI.out _).mono ?_
          rintro e w2 ⟨rfl, hb2⟩
          go_wp2_with fail
          go_roundw
          case rel => exact ⟨k + 1, hlt, by go_num, by rw [HT.out, List.all_append, HK.out]; simp [HQ.out], chain2 hb hb.size hb2⟩
          case measure => simp [intOf]; omega
      · have hyes : r = true := by rw [HA.out, ← List.take_of_length_le (show L.length ≤ k by omega)]; exact HK.out
        subst hyes
        go_wp2
        go_ret
        exact ⟨rfl, hb⟩
end Go.Proofs.YtongceljdgmbdaaGreatDoor
/-
  Contracts of package field: All.
-/
namespace Go.Proofs.YtongceljdgmbdaaGreatDoor
open Go.RowKit Go.Pantry

set_option maxHeartbeats 1000000 in
theorem lAll_any (v : Value) (L : List Fld) (n : ByteArray) (w : World) (hr : Reads2 w v L) (hk : okFs L) (hn : n.size ≤ 100000) :
    Calls Tryz.prog 129 #[v, .string n] w fun e w' => MadeStrs 9 w.heap.size (allF L n.data.toList) e w' ∧ Below w.heap.size w w' := by
  obtain ⟨ao, cap, rfl⟩ := hr.form
  obtain ⟨N, rfl⟩ := as_list n
  rw [szL] at hn
  rw [dtL]
  obtain ⟨hl, hv⟩ := hk
  have HR := hid hr
  have HV := hid hv
  clear hr hv
  go_enter Tryz.func129, Tryz.ntmps129
  go_wp2
  go_loopw [5, 10] (fun v' i wr => ∃ (k m : Nat), k ≤ L.length ∧ m ≤ k ∧ m = (allF (L.take k) N).length ∧ i = .int .i64 k ∧ wr.ownsRow w.heap.size 9 1 v' m ((allF (L.take k) N).map strV) ∧ Below w.heap.size w wr) (fun _ i _ => L.length - (intOf i).toNat)
  case atStart => exact ⟨0, 0, Nat.zero_le _, Nat.le_refl _, rfl, rfl, World.ownsRow_nil _ _ _ _, Below.refl _ _⟩
  case round =>
    obtain ⟨k, m, hk, hm, hml, rfl, ho, hb⟩ := hrel
    have HML := hid hml
    clear hml
    by_cases hlt : k < L.length
    · obtain ⟨f, hf⟩ : ∃ f, L[k]? = some f := ⟨_, List.getElem?_eq_getElem hlt⟩
      obtain ⟨b, off, rfl, hc1, hc2⟩ := (HR.out.below hb).fld hf
      have hfl := (HV.out f (List.mem_of_getElem? hf)).1
      have HT := hid (take_fld hf)
      clear hf
      have hst := allF_snoc (L.take k) N f
      rw [← HT.out] at hst
      obtain ⟨q, hq⟩ : ∃ q, isF N f = q := ⟨_, rfl⟩
      have cI := fun W vn h => called_any f vn [N] W hfl h ⟨by simp, by simp; omega⟩
      simp only [any_one, hq] at cI
      rw [hq] at hst
      have CI := hid cI
      have HS := hid hst
      clear cI hst hq
      obtain ⟨W, hW, hbW, hsW, hx1, hx2⟩ := box2 wr f 104
      have hbw := chain2 hb hb.size hbW
      replace ho := ho.below hbW
      obtain ⟨X, hX⟩ : ∃ X, X = W.alloc (.cells #[strV N] 9) := ⟨_, rfl⟩
      have hbX : Below W.heap.size W X := by rw [hX]; exact below_alloc _ _
      have hrX : Reads X (.slice (some ⟨wr.heap.size + 1, 0, none⟩) 1 1) ([N].map strV) := by rw [← hsW, hX]; exact reads_one W N 9 1
      have hbx := chain2 hbw hbw.size hbX
      replace ho := ho.below hbX
      replace hx2 := kept hx2 hbX
      clear hbW hbw hbX hb hx1 hsW
      cases q
      · go_wp2_with fail
        rw [← hW, ← hX]
        clear hW hX
        refine (CI.out _ _ hrX).mono ?_
        rintro e w2 ⟨rfl, hb2⟩
        have hbn := chain2 hbx hbx.size hb2
        have ho2 := ho.below hb2
        clear hb2 hc1 hc2 hx2 ho hrX
        go_wp2_with fail
        go_roundw
        case rel => exact ⟨k + 1, m, hlt, by omega, by rw [HS.out, HML.out]; simp, by go_num, by rw [HS.out]; simpa using ho2, hbn⟩
        case measure => simp [intOf]; omega
      · go_wp2_with fail
        rw [← hW, ← hX]
        clear hW hX
        refine (CI.out _ _ hrX).mono ?_
        rintro e w2 ⟨rfl, hb2⟩
        have hbn := chain2 hbx hbx.size hb2
        have ho2 := ho.below hb2
        have hs2 := hbn.size
        have hd2 := kept hx2 hb2
        clear hb2 hc1 hc2 hx2 ho hrX
        go_wp2_with ((at_builtin; go_must (refine wpList_append_one _ rfl _ _ 115 rfl w.heap.size 9 Tryz.underlying115 infoStr rfl (by decide) rfl ho2 rfl (by first | rfl | simp) (by omega) hs2 ?_); intro v' w3 hown3 hg3 hb3))
        go_roundw
        case rel => exact ⟨k + 1, m + 1, hlt, by omega, by rw [HS.out, HML.out]; simp, by go_num, by rw [HS.out]; simpa using hown3, hbn.trans hb3⟩
        case measure => simp [intOf]; omega
    · have hk2 : L.take k = L := List.take_of_length_le (by omega)
      have HM2 : Hid (m = (allF L N).length) := by have h := HML.out; rw [hk2] at h; exact hid h
      rw [hk2] at ho
      clear hk2
      go_wp2
      go_ret
      exact ⟨⟨_, rfl, by rw [← HM2.out]; exact ho⟩, hb⟩
end Go.Proofs.YtongceljdgmbdaaGreatDoor
/-
  Contracts of package field: Get.
-/
namespace Go.Proofs.YtongceljdgmbdaaGreatDoor
open Go.RowKit Go.Pantry

theorem joinC_inter : ∀ l : List (List UInt8), Lib.join l [44, 32] = joinC l
  | [] => rfl
  | [a] => by simp [Lib.join, joinC]
  | a :: b :: r => by
    have h := joinC_inter (b :: r)
    unfold Lib.join at h ⊢
    show [44, 32].intercalate (a :: b :: r) = a ++ 44 :: 32 :: joinC (b :: r)
    rw [← h]
    simp [List.intercalate]
/-- strings.Join of a slice that the call made, with ", " -/
theorem join_made {B : Nat} {e : TypeId} (v : Value) (l : List (List UInt8)) (w : World) (ho : w.ownsRow B e 1 v l.length (l.map strV)) (hl : l.length ≤ 140737488355328) (hj : (joinC l).length ≤ 140737488355328) :
    Calls Tryz.prog 130 #[v, .string ⟨#[44, 32]⟩] w fun e w' => e = .returned (strV (joinC l)) ∧ Below w.heap.size w w' := by
  rcases ho.2 with ⟨rfl, hn⟩ | ⟨g, cap, cur, rfl, hb, hg, hnc, hcm, hcs, htake⟩
  · have : l = [] := List.eq_nil_of_length_eq_zero hn
    subst this
    refine (Tryz.strings_Join_none none 0 ⟨#[44, 32]⟩ w).mono ?_
    rintro e w' ⟨rfl, rfl⟩
    exact ⟨rfl, Below.refl _ _⟩
  · have hx : (l.map fun x => (⟨x.toArray⟩ : ByteArray)).map (·.data.toList) = l := by rw [List.map_map]; exact List.map_id' _
    have hxl : (l.map fun x => (⟨x.toArray⟩ : ByteArray)).length = l.length := by simp
    have c := Tryz.strings_Join g 0 cap (l.map fun x => (⟨x.toArray⟩ : ByteArray)) ⟨#[44, 32]⟩ w (fun j x hx => by
        have h1 := ho.row.cell j (.string x) (by
          rw [List.getElem?_map, Option.map_eq_some_iff] at hx
          obtain ⟨y, hy, rfl⟩ := hx
          rw [List.getElem?_map, hy]; rfl)
        rw [Nat.zero_add]; exact h1) (Array.getElem?_eq_some_iff.1 hg).1 (by omega) (by omega) (by
        rw [hx]
        show (Lib.join l [44, 32]).length ≤ _
        rw [joinC_inter]; exact hj)
    rw [hx, hxl] at c
    refine c.mono ?_
    rintro e w' ⟨rfl, hb'⟩
    refine ⟨?_, hb'⟩
    show Ending.returned (strV (Lib.join l [44, 32])) = _
    rw [joinC_inter]

theorem lGet_any (v : Value) (L : List Fld) (n : ByteArray) (w : World) (hr : Reads2 w v L) (hk : okFs L) (hn : n.size ≤ 100000) :
    Calls Tryz.prog 94 #[v, .string n] w fun e w' => e = .returned (.tuple #[strV (getF L n.data.toList), .bool (!(allF L n.data.toList).isEmpty)]) ∧ Below w.heap.size w w' := by
  have c1 := fun W h => lAll_any v L n W h hk hn
  have hg : getF L n.data.toList = joinC (allF L n.data.toList) := rfl
  have hgl := getF_len (L := L) (n := n.data.toList) (fun f hf => (hk.2 f hf).2) hk.1
  have hal := allF_len L n.data.toList
  have hk1 := hk.1
  generalize allF L n.data.toList = T at c1 hg hal ⊢
  generalize getF L n.data.toList = G at hg hgl ⊢
  have hT : (!T.isEmpty) = decide (0 < T.length) := by cases T <;> simp
  rw [hT]
  subst hg
  have cj := fun W B v h => join_made (B := B) (e := 9) v T W h (by omega) (by omega)
  generalize joinC T = J at cj ⊢
  have C1 := hid c1
  have CJ := hid cj
  have HR := hid hr
  clear c1 cj hr hk hgl hT
  go_enter Tryz.func94, Tryz.ntmps94
  go_wp2_with fail
  refine (C1.out _ HR.out).mono ?_
  rintro e w1 ⟨⟨v', rfl, ho⟩, hb1⟩
  obtain ⟨ao, cap, rfl⟩ := Reads.strs ho.reads
  go_wp2_with fail
  refine (CJ.out _ _ _ ho).mono ?_
  rintro e w2 ⟨rfl, hb2⟩
  go_wp2_with fail
  go_ret2
  exact ⟨rfl, chain2 hb1 hb1.size hb2⟩
end Go.Proofs.YtongceljdgmbdaaGreatDoor
/-
  Contracts of package sign: quotesEnd, elementEnd.
-/
namespace Go.Proofs.YtongceljdgmbdaaGreatDoor
open Go.RowKit Go.Pantry

theorem quotesEnd_any (s : ByteArray) (i : Nat) (w : World) (hs : s.size ≤ 140737488351232) (hi : i ≤ s.size) :
    Calls Tryz.prog 177 #[.string s, .int .i64 (i : Int)] w fun e w' => e = .returned (.int .i64 ((i + qe (s.data.toList.drop i) : Nat) : Int)) ∧ w = w' := by
  obtain ⟨r, hr⟩ : ∃ r, r = i + qe (s.data.toList.drop i) := ⟨_, rfl⟩
  rw [← hr]
  have HR := hid hr
  clear hr
  go_enter Tryz.func177, Tryz.ntmps177
  go_wp2
  go_loop [1] (fun v => ∃ k : Nat, k ≤ s.size + 1 ∧ v = .int .i64 k ∧ (k ≤ s.size → r = k + qe (s.data.toList.drop k)) ∧ (s.size < k → r = s.size)) (fun v => s.size + 1 - (intOf v).toNat)
  case atStart => exact ⟨i, by omega, rfl, fun _ => HR.out, fun h => by omega⟩
  case round =>
    obtain ⟨k, hk, rfl, h1, h2⟩ := hrel
    have H1 := hid h1
    have H2 := hid h2
    clear h1 h2
    by_cases hlt : k < s.size
    · have hd := hid (drop_cons s k hlt)
      go_wp2
      · have e : s[k] = 34 := byte_yes 34 (z := 34) (by assumption) rfl
        go_ret
        refine ⟨ret_int ?_, rfl⟩
        rw [H1.out (by omega), hd.out, e, qe_quote]; omega
      · have e : s[k] = 92 := byte_yes 92 (z := 92) (by assumption) rfl
        go_round
        case rel =>
          refine ⟨k + 2, by omega, by go_num, fun h => ?_, fun h => ?_⟩
          · rw [H1.out (by omega), hd.out, e, drop_cons s (k + 1) (by omega), qe_back, Nat.add_assoc]; omega
          · rw [H1.out (by omega), hd.out, e, drop_nil s (k + 1) (by omega)]; simp [qe]; omega
        case measure => simp [intOf]; omega
      · have e1 : s[k] ≠ 34 := byte_no 34 (z := 34) (by assumption) rfl
        have e2 : s[k] ≠ 92 := byte_no 92 (z := 92) (by assumption) rfl
        go_round
        case rel =>
          refine ⟨k + 1, by omega, by go_num, fun h => ?_, fun h => by omega⟩
          rw [H1.out (by omega), hd.out, qe_other _ _ e1 e2]; omega
        case measure => simp [intOf]; omega
    · go_wp2
      go_ret
      refine ⟨ret_int ?_, rfl⟩
      by_cases e : k ≤ s.size
      · rw [H1.out e, drop_nil s k hlt]; simp [qe]; omega
      · rw [H2.out (by omega)]

theorem elementEnd_any (s : ByteArray) (i : Nat) (w : World) (hs : s.size ≤ 140737488351232) (hi : i ≤ s.size) :
    Calls Tryz.prog 150 #[.string s, .int .i64 (i : Int)] w fun e w' => e = .returned (.int .i64 ((i + cut false false (s.data.toList.drop i) : Nat) : Int)) ∧ w = w' := by
  obtain ⟨r, hr⟩ : ∃ r, r = i + cut false false (s.data.toList.drop i) := ⟨_, rfl⟩
  rw [← hr]
  have HR := hid hr
  clear hr
  go_enter Tryz.func150, Tryz.ntmps150
  go_wp2
  go_loop [1] (fun v => ∃ k : Nat, k ≤ s.size ∧ v = .int .i64 k ∧ r = k + cut false false (s.data.toList.drop k)) (fun v => s.size - (intOf v).toNat)
  case atStart => exact ⟨i, by omega, rfl, HR.out⟩
  case round =>
    obtain ⟨k, hk, rfl, h1⟩ := hrel
    have H1 := hid h1
    clear h1
    by_cases hlt : k < s.size
    · have hd := hid (drop_cons s k hlt)
      have hq : k + 1 + qe (s.data.toList.drop (k + 1)) ≤ s.size := by
        have := qe_le _ (s.data.toList.drop (k + 1)) (Nat.le_refl _)
        rw [List.length_drop, size_list] at this; omega
      have ek : ((k + 1 : Nat) : Int) = (k : Int) + 1 := by omega
      go_wp2_with (go_at_call 177; rw [← ek]; refine (quotesEnd_any s (k + 1) _ hs (by omega)).mono ?_; rintro e w' ⟨rfl, rfl⟩)
      · have e : s[k] = 34 := byte_yes 34 (z := 34) (by assumption) rfl
        go_round
        case rel =>
          refine ⟨k + 1 + qe (s.data.toList.drop (k + 1)), by omega, by go_num, ?_⟩
          rw [H1.out, hd.out, e, cut_quote, List.drop_drop]; omega
        case measure => simp [intOf]; omega
      · have e1 : s[k] ≠ 44 := byte_ne_yes 44 (z := 44) (by assumption) rfl
        have e2 : s[k] ≠ 34 := byte_no 34 (z := 34) (by assumption) rfl
        go_round
        case rel =>
          refine ⟨k + 1, by omega, by go_num, ?_⟩
          rw [H1.out, hd.out, cut_other _ _ e1 e2]; omega
        case measure => simp [intOf]; omega
      · have e : s[k] = 44 := byte_ne_no 44 (z := 44) (by assumption) rfl
        go_ret
        refine ⟨ret_int ?_, rfl⟩
        rw [H1.out, hd.out, e, cut_comma]; omega
    · go_wp2
      go_ret
      refine ⟨ret_int ?_, rfl⟩
      rw [H1.out, drop_nil s k hlt, cut]; omega

theorem List_any (s : ByteArray) (w : World) (hs : s.size < 4294967296) :
    Calls Tryz.prog 131 #[.string s] w fun e w' => ∃ v, e = .returned v ∧ w'.ownsRow w.heap.size 9 1 v (listL s.data.toList).length ((listL s.data.toList).map strV) ∧ Below w.heap.size w w' := by
  go_enter Tryz.func131, Tryz.ntmps131
  go_wp2
  go_loopw [3, 4] (fun v i wr => ∃ (k : Nat) (E : List (List UInt8)), k ≤ s.size + 1 ∧ i = .int .i64 k ∧ E.length ≤ k ∧ E ++ listL (s.data.toList.drop k) = listL s.data.toList ∧ wr.ownsRow w.heap.size 9 1 v E.length (E.map strV) ∧ Below w.heap.size w wr) (fun _ i _ => s.size + 1 - (intOf i).toNat)
  case atStart => exact ⟨0, [], Nat.zero_le _, rfl, Nat.le_refl _, rfl, World.ownsRow_nil _ _ _ _, Below.refl _ _⟩
  case round =>
    obtain ⟨k, E, hk, rfl, hEk, hE, hown, hb⟩ := hrel
    have HE := hid hE
    clear hE
    have hB := hb.size
    by_cases hlt : k < s.size
    · have hc : k + cut false false (s.data.toList.drop k) ≤ s.size := by
        have := cut_le (s.data.toList.drop k) false false
        rw [List.length_drop, size_list] at this; omega
      obtain ⟨m, hm⟩ : ∃ m, m = k + cut false false (s.data.toList.drop k) := ⟨_, rfl⟩
      have HM := hid hm
      rw [← hm] at hc
      clear hm
      have hkm : k ≤ m := by have := HM.out; omega
      go_wp2_with fail
      refine (elementEnd_any s k _ (by omega) (by omega)).mono ?_
      rw [← HM.out]
      rintro e w' ⟨rfl, rfl⟩
      go_wp2_with fail
      refine (Trim_any _ _ (by rw [ByteArray.size_extract]; unfold maxLen; omega)).mono ?_
      rw [Lib.extract_data]
      obtain ⟨t, ht⟩ : ∃ t, t = trimL ((s.data.toList.drop k).take (m - k)) := ⟨_, rfl⟩
      rw [← ht]
      have HT := hid ht
      clear ht
      rintro e w2 ⟨rfl, hb2⟩
      have hown2 := hown.below hb2
      have hb2' := hb.trans (hb2.mono hB)
      have hB2 := hb2'.size
      clear hown hb hb2 hB
      go_wp2_with ((at_builtin; go_must (refine wpList_append_one _ rfl _ _ 115 rfl w.heap.size 9 Tryz.underlying115 infoStr rfl (by decide) rfl hown2 rfl rfl (by omega) hB2 ?_); intro v' w3 hown3 hg3 hb3))
      · have ht : t ≠ [] := not_empty (by assumption)
        go_roundw
        case rel =>
          refine ⟨m + 1, E ++ [t], by omega, by go_num, by simp; omega, ?_, by simpa using hown3, hb2'.trans hb3⟩
          have HT' := HT.out; have e : m - k = cut false false (s.data.toList.drop k) := by (have := HM.out; omega)
          rw [e] at HT'
          rw [← HE.out, list_step s k hlt, ← HT', if_neg ht, HM.out]; simp [Nat.add_assoc]
        case measure => simp [intOf]; omega
      · have ht : t = [] := is_empty (by assumption)
        go_roundw
        case rel =>
          refine ⟨m + 1, E, by omega, by go_num, by omega, ?_, hown2, hb2'⟩
          have HT' := HT.out; have e : m - k = cut false false (s.data.toList.drop k) := by (have := HM.out; omega)
          rw [e] at HT'
          rw [← HE.out, list_step s k hlt, ← HT', if_pos ht, HM.out]; simp [Nat.add_assoc]
        case measure => simp [intOf]; omega
    · go_wp2
      go_ret
      have e : listL s.data.toList = E := by rw [← HE.out, drop_nil s k hlt, listL_nil, List.append_nil]
      rw [e]
      exact ⟨_, rfl, hown, hb⟩
end Go.Proofs.YtongceljdgmbdaaGreatDoor
/-
  Contracts of package field: Elements.
-/
namespace Go.Proofs.YtongceljdgmbdaaGreatDoor
open Go.RowKit Go.Pantry

theorem lElements_any (v : Value) (L : List Fld) (n : ByteArray) (w : World) (hr : Reads2 w v L) (hk : okFs L) (hn : n.size ≤ 100000) :
    Calls Tryz.prog 96 #[v, .string n] w fun e w' => MadeStrs 9 w.heap.size (elementsF L n.data.toList) e w' ∧ Below w.heap.size w w' := by
  have hgl := getF_len (L := L) (n := n.data.toList) (fun f hf => (hk.2 f hf).2) hk.1
  have c1 := fun W h => lGet_any v L n W h hk hn
  have c2 := fun W => List_any ⟨(getF L n.data.toList).toArray⟩ W (by rw [szL]; omega)
  have he : elementsF L n.data.toList = listL (getF L n.data.toList) := rfl
  rw [dtL, ← he] at c2
  generalize getF L n.data.toList = G at c1 c2
  generalize allF L n.data.toList = T at c1
  have C1 := hid c1
  have C2 := hid c2
  have HR := hid hr
  clear c1 c2 hr he
  go_enter Tryz.func96, Tryz.ntmps96
  go_wp2_with fail
  refine (C1.out _ HR.out).mono ?_
  rintro e w1 ⟨rfl, hb1⟩
  go_wp2_with fail
  refine (C2.out _).mono ?_
  rintro e w2 ⟨v', rfl, ho, hb2⟩
  go_wp2_with fail
  go_ret
  exact ⟨⟨_, rfl, ho.base hb1.size⟩, chain2 hb1 hb1.size hb2⟩
end Go.Proofs.YtongceljdgmbdaaGreatDoor
/-
  The statements of layer 7: small.
-/
namespace Go.Proofs.YtongceljdgmbdaaGreatDoor
open Go.RowKit Go.Pantry

/-- can fields be gone through with? -/
def smallF (L : List Fld) : Bool := L.all (fun f => decide (f.1.length ≤ 200) && decide (f.2.length ≤ 1100)) && decide (L.length ≤ 70)
set_option maxHeartbeats 4000000 in
theorem small_any (v : Value) (L : List Fld) (w : World) (hr : Reads2 w v L) (hn : (L.length : Int) ≤ 9223372036854775807) :
    Calls Tryz.prog 23 #[v] w fun e w' => e = .returned (.bool (smallF L)) ∧ Below w.heap.size w w' := by
  obtain ⟨ao, cap, rfl⟩ := hr.form
  have HR := hid hr
  have hrf : smallF L = (L.all (fun f => decide (f.1.length ≤ 200) && decide (f.2.length ≤ 1100)) && decide (L.length ≤ 70)) := rfl
  obtain ⟨r, hrr⟩ : ∃ r, smallF L = r := ⟨_, rfl⟩
  rw [hrr] at hrf ⊢
  have HF := hid hrf
  clear hr hrr hrf
  go_enter Tryz.func23, Tryz.ntmps23
  go_wp2
  go_loopw [7] (fun i wr => ∃ (k : Nat), k ≤ L.length ∧ i = .int .i64 k ∧ (L.take k).all (fun f => decide (f.1.length ≤ 200) && decide (f.2.length ≤ 1100)) = true ∧ Below w.heap.size w wr) (fun i _ => L.length - (intOf i).toNat)
  case atStart => exact ⟨0, Nat.zero_le _, rfl, rfl, Below.refl _ _⟩
  case round =>
    obtain ⟨k, hk, rfl, hak, hb⟩ := hrel
    have HK := hid hak
    clear hak
    by_cases hlt : k < L.length
    · obtain ⟨f, hf⟩ : ∃ f, L[k]? = some f := ⟨_, List.getElem?_eq_getElem hlt⟩
      obtain ⟨b, off, rfl, hc1, hc2⟩ := (HR.out.below hb).fld hf
      have HM := hid (List.mem_of_getElem? hf)
      have HT := hid (take_fld hf)
      clear hf
      by_cases p1 : (200 : Int) < (f.1.length : Int)
      · have d1 : decide ((200 : Int) < (f.1.length : Int)) = true := decide_eq_true p1
        have hno : r = false := by
          rw [HF.out]
          rw [List.all_eq_false.2 ⟨f, HM.out, by simp; omega⟩]; rfl
        subst hno
        go_wp2_with fail
        go_ret
        exact ⟨rfl, chain2 hb hb.size (below_alloc _ _)⟩
      · by_cases p2 : (1100 : Int) < (f.2.length : Int)
        · have d1 : decide ((200 : Int) < (f.1.length : Int)) = false := decide_eq_false p1
          have d2 : decide ((1100 : Int) < (f.2.length : Int)) = true := decide_eq_true p2
          have hno : r = false := by
            rw [HF.out]
            rw [List.all_eq_false.2 ⟨f, HM.out, by simp; omega⟩]; rfl
          subst hno
          go_wp2_with fail
          go_ret
          exact ⟨rfl, chain2 hb hb.size (below_alloc _ _)⟩
        · have d1 : decide ((200 : Int) < (f.1.length : Int)) = false := decide_eq_false p1
          have d2 : decide ((1100 : Int) < (f.2.length : Int)) = false := decide_eq_false p2
          have p1' : (f.1.length : Int) ≤ 200 := by omega
          have p2' : (f.2.length : Int) ≤ 1100 := by omega
          go_wp2_with fail
          go_roundw
          case rel => exact ⟨k + 1, hlt, by go_num, by rw [HT.out, List.all_append, HK.out]; simp; omega, chain2 hb hb.size (below_alloc _ _)⟩
          case measure => simp [intOf]; omega
    · have hyes : r = decide (L.length ≤ 70) := by
        have h := HK.out
        rw [List.take_of_length_le (show L.length ≤ k by omega)] at h
        rw [HF.out, h]; rfl
      have HY := hid hyes
      clear hyes
      by_cases p : (L.length : Int) ≤ 70
      · have d : decide ((L.length : Int) ≤ 70) = true := decide_eq_true p
        have hr1 : r = true := by rw [HY.out]; exact decide_eq_true (by omega)
        subst hr1
        go_wp2_with fail
        go_ret
        exact ⟨rfl, hb⟩
      · have d : decide ((L.length : Int) ≤ 70) = false := decide_eq_false p
        have hr1 : r = false := by rw [HY.out]; exact decide_eq_false (by omega)
        subst hr1
        go_wp2_with fail
        go_ret
        exact ⟨rfl, hb⟩
theorem smallF_ok {L : List Fld} (h : smallF L = true) : okFs L ∧ L.length ≤ 70 ∧ ∀ f ∈ L, f.1.length ≤ 200 ∧ f.2.length ≤ 1100 := by
  unfold smallF at h
  simp only [Bool.and_eq_true, decide_eq_true_eq, List.all_eq_true] at h
  exact ⟨⟨by omega, fun f hf => by have := h.1 f hf; omega⟩, h.2, h.1⟩
end Go.Proofs.YtongceljdgmbdaaGreatDoor
/-
  Contracts of package field: Without.
-/
namespace Go.Proofs.YtongceljdgmbdaaGreatDoor
open Go.RowKit Go.Pantry

set_option maxHeartbeats 1000000 in
theorem lWithout_any (v vn : Value) (L : List Fld) (ns : List (List UInt8)) (w : World) (hr : Reads2 w v L) (hk : okFs L) (hn : Reads w vn (ns.map strV)) (hns : ns.length ≤ 1000 ∧ ∀ n ∈ ns, n.length ≤ 9223372036854775807) :
    Calls Tryz.prog 26 #[v, vn] w fun e w' => MadeFlds 104 w.heap.size (outsF L ns) e w' ∧ Below w.heap.size w w' := by
  obtain ⟨ao, cap, rfl⟩ := hr.form
  obtain ⟨hl, hv⟩ := hk
  have HR := hid hr
  have HV := hid hv
  have HN := hid hn
  have HNS := hid hns
  clear hr hv hn hns
  go_enter Tryz.func26, Tryz.ntmps26
  go_wp2
  go_loopw [5, 10] (fun v' i wr => ∃ (k m : Nat), k ≤ L.length ∧ m ≤ k ∧ i = .int .i64 k ∧ wr.ownsRow w.heap.size 104 2 v' m (fldCells (outsF (L.take k) ns)) ∧ Below w.heap.size w wr) (fun _ i _ => L.length - (intOf i).toNat)
  case atStart => exact ⟨0, 0, Nat.zero_le _, Nat.le_refl _, rfl, World.ownsRow_nil _ _ _ _, Below.refl _ _⟩
  case round =>
    obtain ⟨k, m, hk, hm, rfl, ho, hb⟩ := hrel
    have hs := hb.size
    by_cases hlt : k < L.length
    · obtain ⟨f, hf⟩ : ∃ f, L[k]? = some f := ⟨_, List.getElem?_eq_getElem hlt⟩
      obtain ⟨b, off, rfl, hc1, hc2⟩ := (HR.out.below hb).fld hf
      have hfl := (HV.out f (List.mem_of_getElem? hf)).1
      have HT := hid (take_fld hf)
      clear hf
      have hst : outsF (L.take k ++ [f]) ns = outsF (L.take k) ns ++ if (ns.any fun n => isF n f) then [] else [f] := by
        unfold outsF
        rw [List.filter_append]
        cases h : (ns.any fun n => isF n f) <;> simp only [List.filter_cons, List.filter_nil, h] <;> rfl
      rw [← HT.out] at hst
      obtain ⟨q, hq⟩ : ∃ q, (ns.any fun n => isF n f) = q := ⟨_, rfl⟩
      have cI := fun W h => called_any f vn ns W hfl h HNS.out
      rw [hq] at hst cI
      have CI := hid cI
      have HS := hid hst
      clear cI hst hq
      obtain ⟨W, hW, hbW, hsW, hx1, hx2⟩ := box2 wr f 104
      have hbw := chain2 hb hs hbW
      replace ho := ho.below hbW
      clear hbW hs
      cases q
      · go_wp2_with fail
        rw [← hW]
        clear hW
        refine (CI.out _ (HN.out.below hbw)).mono ?_
        rintro e w2 ⟨rfl, hb2⟩
        have hbn := chain2 hbw hbw.size hb2
        have ho2 := ho.below hb2
        have hs2 := hbn.size
        have hd1 := kept hx1 hb2
        have hd2 := kept hx2 hb2
        clear hb2 hc1 hc2 hb hx1 hx2 ho
        go_wp2_with ((at_builtin; go_must (refine wpList_append_fld _ rfl _ _ 36 rfl w.heap.size 104 Tryz.underlying36 infoFld rfl (by decide) rfl ho2 f rfl (by first | rfl | simp) (by omega) hs2 ?_); intro v' w3 hown3 hb3))
        go_roundw
        case rel => exact ⟨k + 1, m + 1, hlt, by omega, by go_num, by rw [HS.out]; exact hown3, hbn.trans hb3⟩
        case measure => simp [intOf]; omega
      · go_wp2_with fail
        rw [← hW]
        clear hW
        refine (CI.out _ (HN.out.below hbw)).mono ?_
        rintro e w2 ⟨rfl, hb2⟩
        have hbn := chain2 hbw hbw.size hb2
        have ho2 := ho.below hb2
        clear hb2 hc1 hc2 hb hx1 hx2 ho
        go_wp2_with fail
        go_roundw
        case rel => exact ⟨k + 1, m, hlt, by omega, by go_num, by rw [HS.out]; simpa using ho2, hbn⟩
        case measure => simp [intOf]; omega
    · have hk2 : L.take k = L := List.take_of_length_le (by omega)
      rw [hk2] at ho
      clear hk2
      go_wp2
      go_ret
      exact ⟨⟨_, m, rfl, ho⟩, hb⟩
end Go.Proofs.YtongceljdgmbdaaGreatDoor
/-
  Contracts of package field: set, With.
-/
namespace Go.Proofs.YtongceljdgmbdaaGreatDoor
open Go.RowKit Go.Pantry

set_option maxHeartbeats 4000000 in
theorem set_any (v : Value) (L : List Fld) (f : Fld) (w : World) (hr : Reads2 w v L) (hL : ∀ g ∈ L, g.1.length ≤ 100000) (hf1 : f.1.length ≤ 100000) (hn : L.length < 1000000) :
    Calls Tryz.prog 70 #[v, fldV f] w fun e w' => MadeFlds 104 w.heap.size (withF L f) e w' ∧ Below w.heap.size w w' := by
  obtain ⟨ao, cap, rfl⟩ := hr.form
  obtain ⟨W, hW, hbW, hsW, hx1, hx2⟩ := box2 w f 104
  have HR := hid (hr.below hbW)
  have HL := hid hL
  have HX1 := hid hx1
  have HX2 := hid hx2
  have HS := hid hsW
  clear hr hL hx1 hx2 hsW
  go_enter Tryz.func70, Tryz.ntmps70
  go_wp2_with fail
  rw [← hW]
  clear hW
  go_loopw [5, 6, 11] (fun v' d i wr => ∃ (k m : Nat), k ≤ L.length ∧ i = .int .i64 k ∧ d = .bool (runW f (L.take k)).2 ∧ m ≤ k ∧ wr.ownsRow W.heap.size 104 2 v' m (fldCells (runW f (L.take k)).1) ∧ Below W.heap.size W wr) (fun _ _ i _ => L.length - (intOf i).toNat)
  case atStart => exact ⟨0, 0, Nat.zero_le _, rfl, rfl, Nat.le_refl _, World.ownsRow_nil _ _ _ _, Below.refl _ _⟩
  case round =>
    obtain ⟨k, m, hk, rfl, rfl, hm, ho, hb⟩ := hrel
    have hs := hb.size
    have hsw : w.heap.size ≤ wr.heap.size := by have := HS.out; omega
    by_cases hlt : k < L.length
    · obtain ⟨g, hg⟩ : ∃ g, L[k]? = some g := ⟨_, List.getElem?_eq_getElem hlt⟩
      obtain ⟨b, off, rfl, hc1, hc2⟩ := (HR.out.below hb).fld hg
      have hgl := HL.out g (List.mem_of_getElem? hg)
      have HT := hid (take_fld hg)
      clear hg
      have hst := runW_snoc f (L.take k) g
      rw [← HT.out] at hst
      unfold stepW at hst
      have hpr : runW f (L.take k) = ((runW f (L.take k)).1, (runW f (L.take k)).2) := rfl
      rw [hpr] at hst
      clear hpr
      obtain ⟨d, hd⟩ : ∃ d, (runW f (L.take k)).2 = d := ⟨_, rfl⟩
      obtain ⟨M, hM⟩ : ∃ M, (runW f (L.take k)).1 = M := ⟨_, rfl⟩
      obtain ⟨q, hq⟩ : ∃ q, isF f.1 g = q := ⟨_, rfl⟩
      have cI := fun W vn h => called_any g vn [f.1] W hgl h ⟨by simp, by simp; omega⟩
      simp only [any_one, hq] at cI
      simp only [hd, hM, hq] at hst
      rw [hd]
      rw [hM] at ho
      have CI := hid cI
      have HST := hid hst
      clear cI hst hd hM hq
      obtain ⟨V, hV, hbV, hsV, hy1, hy2⟩ := box2 wr g 104
      have hbv := chain2 hb hs hbV
      replace ho := ho.below hbV
      have hz1 := kept HX1.out hbv
      obtain ⟨X, hX⟩ : ∃ X, X = V.alloc (.cells #[strV f.1] 9) := ⟨_, rfl⟩
      have hbX : Below V.heap.size V X := by rw [hX]; exact below_alloc _ _
      have hrX : Reads X (.slice (some ⟨wr.heap.size + 1, 0, none⟩) 1 1) ([f.1].map strV) := by rw [← hsV, hX]; exact reads_one V f.1 9 1
      have hbx := chain2 hbv hbv.size hbX
      replace ho := ho.below hbX
      replace hy1 := kept hy1 hbX
      replace hy2 := kept hy2 hbX
      have hzz : (wr.alloc (.cells #[.string ⟨g.1.toArray⟩, .string ⟨g.2.toArray⟩] 104)).cell? ⟨w.heap.size, 0, none⟩ = some (strV f.1) := by rw [← hV]; exact hz1
      clear hbV hbX hb hs hbv hsV hz1
      go_wp2_with fail
      rw [← hV, ← hX]
      clear hV hX hzz
      refine (CI.out _ _ hrX).mono ?_
      rintro e w3 ⟨rfl, hb3⟩
      have hbn := chain2 hbx hbx.size hb3
      have ho3 := ho.below hb3
      have hsn := hbn.size
      have x1 := kept HX1.out hbn
      have x2 := kept HX2.out hbn
      have hd1 := kept hy1 hb3
      have hd2 := kept hy2 hb3
      clear hb3 ho hrX hy1 hy2 hc1 hc2 hbx
      cases q
      · simp only [Bool.false_eq_true, if_false] at HST
        go_wp2_with ((at_builtin; go_must (refine wpList_append_fld _ rfl _ _ 36 rfl W.heap.size 104 Tryz.underlying36 infoFld rfl (by decide) rfl ho3 g rfl (by first | rfl | simp) (by omega) hsn ?_); intro v' w4 hown4 hb4))
        go_roundw
        case rel => exact ⟨k + 1, m + 1, hlt, by go_num, by rw [HST.out], by omega, by rw [HST.out]; exact hown4, hbn.trans hb4⟩
        case measure => simp [intOf]; omega
      · cases d
        · simp only [Bool.false_eq_true, if_false, if_true] at HST
          go_wp2_with ((at_builtin; go_must (refine wpList_append_fld _ rfl _ _ 36 rfl W.heap.size 104 Tryz.underlying36 infoFld rfl (by decide) rfl ho3 f rfl (by first | rfl | simp) (by omega) hsn ?_); intro v' w4 hown4 hb4))
          go_roundw
          case rel => exact ⟨k + 1, m + 1, hlt, by go_num, by rw [HST.out], by omega, by rw [HST.out]; exact hown4, hbn.trans hb4⟩
          case measure => simp [intOf]; omega
        · simp only [if_true] at HST
          go_wp2_with fail
          go_roundw
          case rel => exact ⟨k + 1, m, hlt, by go_num, by rw [HST.out], by omega, by rw [HST.out]; exact ho3, hbn⟩
          case measure => simp [intOf]; omega
    · have hke : L.take k = L := List.take_of_length_le (by omega)
      rw [hke] at ho ⊢
      clear hke
      have hwf : withF L f = if (runW f L).2 then (runW f L).1 else (runW f L).1 ++ [f] := rfl
      generalize runW f L = p at ho hwf ⊢
      obtain ⟨M, d⟩ := p
      simp only at ho hwf ⊢
      have HWF := hid hwf
      clear hwf
      have x1 := kept HX1.out hb
      have x2 := kept HX2.out hb
      have hbase : w.heap.size ≤ W.heap.size := hbW.size
      cases d
      · go_wp2_with ((at_builtin; go_must (refine wpList_append_fld _ rfl _ _ 36 rfl W.heap.size 104 Tryz.underlying36 infoFld rfl (by decide) rfl ho f rfl (by first | rfl | simp) (by omega) hs ?_); intro v' w4 hown4 hb4))
        go_wp2_with fail
        go_ret
        exact ⟨⟨_, _, rfl, by rw [HWF.out]; exact hown4.base hbase⟩, hbW.trans ((hb.trans hb4).mono hbase)⟩
      · go_wp2_with fail
        go_ret
        exact ⟨⟨_, _, rfl, by rw [HWF.out]; exact ho.base hbase⟩, hbW.trans (hb.mono hbase)⟩

theorem reads_nil (w : World) : Reads w (.slice none 0 0) (([] : List (List UInt8)).map strV) := ⟨none, 0, rfl, fun j u hj => by simp at hj, fun _ => rfl⟩

set_option maxHeartbeats 4000000 in
theorem lWith_any (v vm : Value) (L M : List Fld) (w : World) (hr : Reads2 w v L) (hk : okFs L) (hm : Reads2 w vm M) (hkm : okFs M) :
    Calls Tryz.prog 42 #[v, vm] w fun e w' => MadeFlds 104 w.heap.size (withsF L M) e w' ∧ Below w.heap.size w w' := by
  have c1 := fun W h => lWithout_any v (.slice none 0 0) L [] W h hk (reads_nil W) ⟨by simp, by simp⟩
  rw [outsF_nil] at c1
  obtain ⟨ao, cap, rfl⟩ := hm.form
  have HR := hid hr
  have HM := hid hm
  have C1 := hid c1
  have HK := hid hk
  have HKM := hid hkm
  have hML := hkm.1
  have hLL := hk.1
  clear hr hm c1 hk hkm
  go_enter Tryz.func42, Tryz.ntmps42
  go_wp2_with fail
  refine (C1.out _ HR.out).mono ?_
  rintro e w1 ⟨⟨v0, k0, rfl, ho0⟩, hb1⟩
  go_wp2_with fail
  go_loopw [5, 12] (fun v' i wr => ∃ (k m : Nat), k ≤ M.length ∧ i = .int .i64 k ∧ wr.ownsRow w.heap.size 104 2 v' m (fldCells (withsF L (M.take k))) ∧ Below w.heap.size w wr) (fun _ i _ => M.length - (intOf i).toNat)
  case atStart => exact ⟨0, k0, Nat.zero_le _, rfl, ho0, hb1⟩
  case round =>
    obtain ⟨k, m, hk, rfl, ho, hb⟩ := hrel
    by_cases hlt : k < M.length
    · obtain ⟨f, hf⟩ : ∃ f, M[k]? = some f := ⟨_, List.getElem?_eq_getElem hlt⟩
      obtain ⟨b, off, rfl, hc1, hc2⟩ := (HM.out.below hb).fld hf
      have hfl := (HKM.out.2 f (List.mem_of_getElem? hf)).1
      have HT := hid (take_fld hf)
      clear hf
      have hst := withsF_snoc L (M.take k) f
      rw [← HT.out] at hst
      have hle := withsF_len L (M.take k)
      rw [List.length_take] at hle
      have hsm : ∀ g ∈ withsF L (M.take k), g.1.length ≤ 100000 := fun g hg => by
        rcases withsF_of L _ g hg with h | h
        · exact (HK.out.2 g h).1
        · exact (HKM.out.2 g (List.mem_of_mem_take h)).1
      have cs := fun W h => set_any u5 (withsF L (M.take k)) f W h hsm hfl (by omega)
      rw [← hst] at cs
      have CS := hid cs
      obtain ⟨V, hV, hbV, -, -, -⟩ := box2 wr f 104
      have hbv := chain2 hb hb.size hbV
      have hrd := (ho.below hbV).reads2.2
      clear cs hst hsm hle hb hbV ho
      go_wp2_with fail
      rw [← hV]
      clear hV
      refine (CS.out _ hrd).mono ?_
      rintro e w3 ⟨⟨v3, m3, rfl, ho3⟩, hb3⟩
      have hbn := chain2 hbv hbv.size hb3
      have ho4 := ho3.base hbv.size
      clear hb3 ho3 hrd hc1 hc2
      go_wp2_with fail
      go_roundw
      case rel => exact ⟨k + 1, m3, hlt, by go_num, ho4, hbn⟩
      case measure => simp [intOf]; omega
    · have hke : M.take k = M := List.take_of_length_le (by omega)
      rw [hke] at ho
      clear hke
      go_wp2_with fail
      go_ret
      exact ⟨⟨_, _, rfl, ho⟩, hb⟩
end Go.Proofs.YtongceljdgmbdaaGreatDoor
/-
  Contracts of the document's answers of layer 1: Letter, Sign, Token, blank, Trim.
-/
namespace Go.Proofs.YtongceljdgmbdaaGreatDoor
open Go.RowKit Go.Pantry

theorem refblank_any (c : UInt8) (w : World) :
    Calls Tryz.prog 115 #[.int .u8 (c.toNat : Int)] w fun e w' => e = .returned (.bool (isBl c)) ∧ w = w' := by
  go_enter Tryz.func115, Tryz.ntmps115
  go_wp2
  all_goals go_ret
  all_goals exact ⟨ret_bool (by rw [Bool.eq_iff_iff]; simp [isBl]; omega), rfl⟩

theorem refTrim_any (s : ByteArray) (w : World) (hs : s.size ≤ maxLen) :
    Calls Tryz.prog 80 #[.string s] w fun e w' => e = .returned (.string ⟨(trimL s.data.toList).toArray⟩) ∧ w = w' := by
  unfold maxLen at hs
  go_enter Tryz.func80, Tryz.ntmps80
  go_wp2
  go_loop [3] (fun i => ∃ k : Nat, k ≤ s.size ∧ i = .int .i64 k ∧ ∀ (j : Nat) x, j < k → s.data.toList[j]? = some x → isBl x = true) (fun i => s.size - (intOf i).toNat)
  case atStart => exact ⟨0, Nat.zero_le _, rfl, fun j x hj => absurd hj (Nat.not_lt_zero _)⟩
  case round =>
    obtain ⟨k, hk, rfl, hall⟩ := hrel
    have HA := hid hall
    clear hall
    go_wp2_with (go_at_call 115; refine (refblank_any _ _).mono ?_; rintro e w' ⟨rfl, rfl⟩)
    · have h : isBl s[k] = true := by assumption
      go_round
      case rel => exact ⟨k + 1, by omega, by go_num, by
        intro j x hj hx
        by_cases e : j < k
        · exact HA.out j x e hx
        · obtain ⟨_, rfl⟩ := some_list s j x hx
          obtain rfl : j = k := by omega
          exact h⟩
      case measure => simp [intOf]; omega
    all_goals
      have HS : Hid (∀ x, s.data.toList[k]? = some x → isBl x = false) := by
        intro x hx
        obtain ⟨_, rfl⟩ := some_list s k x hx
        first | assumption | omega
      (try (rename isBl s[k] = false => h0; clear h0))
      go_loop [4] (fun i => ∃ m : Nat, k ≤ m ∧ m ≤ s.size ∧ i = .int .i64 m ∧ ∀ (j : Nat) x, m ≤ j → s.data.toList[j]? = some x → isBl x = true) (fun i => (intOf i).toNat - k)
      case atStart => exact ⟨s.size, by omega, Nat.le_refl _, rfl, fun j x hj hx => by obtain ⟨_, _⟩ := some_list s j x hx; omega⟩
      case round =>
        obtain ⟨m, hm1, hm2, rfl, hall⟩ := hrel
        have HB := hid hall
        clear hall
        go_wp2_with (go_at_call 115; refine (refblank_any _ _).mono ?_; rintro e w' ⟨rfl, rfl⟩)
        all_goals first
          | (have h : isBl s[m - 1] = true := by assumption
             go_round
             case rel => exact ⟨m - 1, by omega, by omega, by go_num, fun j x hj hx => by
               by_cases e : m ≤ j
               · exact HB.out j x e hx
               · obtain ⟨_, rfl⟩ := some_list s j x hx
                 obtain rfl : j = m - 1 := by omega
                 exact h⟩
             case measure => simp [intOf]; omega)
          | (go_ret
             refine ⟨ret_str ?_, rfl⟩
             rw [Lib.extract_eq, trim_of _ k m hm1 (by rw [size_list]; exact hm2) HA.out HB.out (fun _ => HS.out) (fun _ x hx => by
               obtain ⟨_, rfl⟩ := some_list s (m - 1) x hx
               first | assumption | omega)])
end Go.Proofs.YtongceljdgmbdaaGreatDoor
/-
  The document's answers of layer 1: Letter, Sign, Token.
-/
namespace Go.Proofs.YtongceljdgmbdaaGreatDoor
open Go.RowKit Go.Pantry

theorem refLetter_any (c : UInt8) (w : World) :
    Calls Tryz.prog 138 #[.int .u8 (c.toNat : Int)] w fun e w' => e = .returned (.bool (isLow c || isUp c || isDig c)) ∧ w = w' := by
  go_enter Tryz.func138, Tryz.ntmps138
  go_wp2
  all_goals go_ret
  all_goals exact ⟨ret_bool (by rw [Bool.eq_iff_iff]; simp [isLow, isUp, isDig]; omega), rfl⟩

theorem refSign_any (c : UInt8) (w : World) :
    Calls Tryz.prog 114 #[.int .u8 (c.toNat : Int)] w fun e w' => e = .returned (.bool (isTok c)) ∧ w = w' := by
  go_enter Tryz.func114, Tryz.ntmps114
  go_wp2_with (go_at_call 138; refine (refLetter_any _ _).mono ?_; rintro e w' ⟨rfl, rfl⟩)
  all_goals go_ret
  all_goals exact ⟨ret_bool (by simp only [beq_iff_eq, beq_eq_false_iff_ne] at *; rw [Bool.eq_iff_iff, isTok_of, marks_int]; simp [isLow, isUp, isDig]; omega), rfl⟩

theorem refToken_any (s : ByteArray) (w : World) (hs : s.size ≤ maxLen) :
    Calls Tryz.prog 77 #[.string s] w fun e w' => e = .returned (.bool (tokenL s.data.toList)) ∧ w = w' := by
  unfold maxLen at hs
  go_enter Tryz.func77, Tryz.ntmps77
  go_wp2
  go_loop [3] (fun i => ∃ k : Nat, k ≤ s.size ∧ i = .int .i64 k ∧ (s.data.toList.take k).all isTok = true) (fun i => s.size - (intOf i).toNat)
  case atStart => exact ⟨0, Nat.zero_le _, rfl, rfl⟩
  case round =>
    obtain ⟨k, hk, rfl, hall⟩ := hrel
    have HA := hid hall
    clear hall
    by_cases hlt : k < s.size
    · go_wp2_with (go_at_call 114; refine (refSign_any _ _).mono ?_; rintro e w' ⟨rfl, rfl⟩)
      · go_ret
        have h : isTok s[k] = false := by simpa using (by assumption : (!isTok s[k]) = true)
        exact ⟨ret_bool (tokenL_no s k hlt h).symm, rfl⟩
      · have h : isTok s[k] = true := by simpa using (by assumption : (!isTok s[k]) = false)
        go_round
        case rel => exact ⟨k + 1, by omega, by go_num, by rw [take_succ_list s k hlt, List.all_append, HA.out]; simp [h]⟩
        case measure => simp [intOf]; omega
    · go_wp2
      go_ret
      refine ⟨ret_bool ?_, rfl⟩
      have e : s.data.toList.all isTok = true := by rw [← take_all s k hlt]; exact HA.out
      rw [tokenL, e, Bool.true_and, not_isEmpty_int]; simp
end Go.Proofs.YtongceljdgmbdaaGreatDoor
/-
  Contract of pantrymade.Fields.
-/
namespace Go.Proofs.YtongceljdgmbdaaGreatDoor
open Go.RowKit Go.Pantry

set_option maxHeartbeats 1000000 in
theorem Fields_any (v : Value) (L : List Fld) (w : World) (hr : Reads2 w v L) (hn : L.length < 1000000) :
    Calls Tryz.prog 37 #[v] w fun e w' => ∃ v', e = .returned v' ∧ w'.ownsRow w.heap.size 112 2 v' L.length (fldCells L) ∧ Below w.heap.size w w' := by
  obtain ⟨ao, cap, rfl⟩ := hr.form
  have HR := hid hr
  clear hr
  go_enter Tryz.func37, Tryz.ntmps37
  go_wp2
  go_loopw [3, 8] (fun v' i wr => ∃ (k : Nat), k ≤ L.length ∧ i = .int .i64 k ∧ wr.ownsRow w.heap.size 112 2 v' k (fldCells (L.take k)) ∧ Below w.heap.size w wr) (fun _ i _ => L.length - (intOf i).toNat)
  case atStart => exact ⟨0, Nat.zero_le _, rfl, World.ownsRow_nil _ _ _ _, Below.refl _ _⟩
  case round =>
    obtain ⟨k, hk, rfl, ho, hb⟩ := hrel
    have hs := hb.size
    by_cases hlt : k < L.length
    · obtain ⟨f, hf⟩ : ∃ f, L[k]? = some f := ⟨_, List.getElem?_eq_getElem hlt⟩
      obtain ⟨b, off, rfl, hc1, hc2⟩ := (HR.out.below hb).fld hf
      have HT := hid (take_fld hf)
      clear hf
      have ho1 := ho.alloc (.cells #[strV f.1, strV f.2] 104)
      have hb1 := hb.trans ((below_alloc wr (.cells #[strV f.1, strV f.2] 104)).mono hs)
      have hs1 := hb1.size
      go_wp2_with ((at_builtin; go_must (refine wpList_append_fld _ rfl _ _ 45 rfl w.heap.size 112 Tryz.underlying45 infoFld3 rfl (by decide) rfl ho1 f rfl (by first | rfl | simp) (by omega) hs1 ?_); intro v' w3 hown3 hb3))
      go_roundw
      case rel => exact ⟨k + 1, hlt, by go_num, by rw [HT.out]; exact hown3, hb1.trans hb3⟩
      case measure => simp [intOf]; omega
    · have hk2 : k = L.length := by omega
      subst hk2
      rw [List.take_length] at ho
      go_wp2
      go_ret
      exact ⟨_, rfl, ho, hb⟩
end Go.Proofs.YtongceljdgmbdaaGreatDoor
/-
  Contracts of the document's answers of layer 1: Lower.
-/
namespace Go.Proofs.YtongceljdgmbdaaGreatDoor
open Go.RowKit Go.Pantry


set_option maxRecDepth 4000 in
theorem refLower_any (s : ByteArray) (w : World) (hs : s.size < 4294967296) :
    Calls Tryz.prog 102 #[.string s] w fun e w' => e = .returned (.string ⟨(lowerL s.data.toList).toArray⟩) ∧ Below w.heap.size w w' := by
  go_enter Tryz.func102, Tryz.ntmps102
  go_wp2
  go_loopw [3, 4] (fun v i wr => ∃ k : Nat, k ≤ s.size ∧ i = .int .i64 k ∧ wr.ownsRow w.heap.size 5 1 v k ((lowerL (s.data.toList.take k)).map byteV) ∧ Below w.heap.size w wr) (fun _ i _ => s.size - (intOf i).toNat)
  case atStart => exact ⟨0, Nat.zero_le _, rfl, World.ownsRow_nil _ _ _ _, Below.refl _ _⟩
  case round =>
    obtain ⟨k, hk, rfl, hown, hb⟩ := hrel
    have hB := hb.size
    have hcv := ownsRow_string hown 27 9 Tryz.underlying27 Tryz.underlying5 Tryz.underlying9
    go_wp2_with ((at_builtin; refine wpList_append_one _ rfl _ _ 27 rfl w.heap.size 5 Tryz.underlying27 infoU8 rfl (by decide) rfl hown rfl rfl (by omega) hB ?_; intro v' w1 hown1 hg1 hb1))
    iterate 3
      · go_roundw
        case rel =>
          have hlt : k < s.size := by assumption
          refine ⟨k + 1, by omega, by go_num, ?_, hb.trans hb1⟩
          rw [take_succ_list s k hlt, lower_snoc, List.map_append]
          have e := low_any s[k]
          first
            | (rw [if_pos (by omega)] at e; simpa [byteV, e] using hown1)
            | (rw [if_neg (by omega)] at e; simpa [byteV, e] using hown1)
        case measure => simp [intOf]; omega
    · have hlt : ¬ k < s.size := by assumption
      go_ret
      refine ⟨ret_str ?_, hb⟩
      rw [take_all s k hlt]
end Go.Proofs.YtongceljdgmbdaaGreatDoor
/-
  Contract of the document's answers of layer 3: Is.
-/
namespace Go.Proofs.YtongceljdgmbdaaGreatDoor
open Go.RowKit Go.Pantry

theorem refIs_any (f : Fld) (n : ByteArray) (w : World) (h1 : f.1.length < 4294967296) (h2 : n.size < 4294967296) :
    Calls Tryz.prog 75 #[fldV f, .string n] w fun e w' => e = .returned (.bool (isF n.data.toList f)) ∧ Below w.heap.size w w' := by
  obtain ⟨a, b⟩ := f
  have c1 := fun W => refLower_any ⟨a.toArray⟩ W (by rw [szL]; exact h1)
  rw [dtL] at c1
  have c2 := fun W => refLower_any n W h2
  have C1 := hid c1
  have C2 := hid c2
  clear c1 c2
  go_enter Tryz.func75, Tryz.ntmps75
  go_wp2_with fail
  refine (C1.out _).mono ?_
  rintro e w1 ⟨rfl, hb1⟩
  go_wp2_with fail
  refine (C2.out _).mono ?_
  rintro e w2 ⟨rfl, hb2⟩
  go_wp2_with fail
  go_ret
  exact ⟨rfl, chain2 ((below_alloc _ _).trans (hb1.mono (by simp))) (Nat.le_trans (by simp) hb1.size) hb2⟩

end Go.Proofs.YtongceljdgmbdaaGreatDoor
/-
  Contract of the document's answers of layer 3: Without.
-/
namespace Go.Proofs.YtongceljdgmbdaaGreatDoor
open Go.RowKit Go.Pantry

set_option maxHeartbeats 1000000 in
theorem refWithout_any (v : Value) (L : List Fld) (n : ByteArray) (w : World) (hr : Reads2 w v L) (hL : ∀ f ∈ L, f.1.length < 4294967296) (hn : L.length < 1000000) (h2 : n.size < 4294967296) :
    Calls Tryz.prog 46 #[v, .string n] w fun e w' => MadeFlds 112 w.heap.size (outF L n.data.toList) e w' ∧ Below w.heap.size w w' := by
  obtain ⟨ao, cap, rfl⟩ := hr.form
  have HR := hid hr
  have HL := hid hL
  clear hr hL
  go_enter Tryz.func46, Tryz.ntmps46
  go_wp2
  go_loopw [5, 6] (fun v' i wr => ∃ (k m : Nat), k ≤ L.length ∧ m ≤ k ∧ i = .int .i64 k ∧ wr.ownsRow w.heap.size 112 2 v' m (fldCells (outF (L.take k) n.data.toList)) ∧ Below w.heap.size w wr) (fun _ i _ => L.length - (intOf i).toNat)
  case atStart => exact ⟨0, 0, Nat.zero_le _, Nat.le_refl _, rfl, World.ownsRow_nil _ _ _ _, Below.refl _ _⟩
  case round =>
    obtain ⟨k, m, hk, hm, rfl, ho, hb⟩ := hrel
    have hs := hb.size
    by_cases hlt : k < L.length
    · obtain ⟨f, hf⟩ : ∃ f, L[k]? = some f := ⟨_, List.getElem?_eq_getElem hlt⟩
      obtain ⟨b, off, rfl, hc1, hc2⟩ := (HR.out.below hb).fld hf
      have hfl := HL.out f (List.mem_of_getElem? hf)
      have HT := hid (take_fld hf)
      clear hf
      have hst := outF_snoc (L.take k) n.data.toList f
      rw [← HT.out] at hst
      obtain ⟨q, hq⟩ : ∃ q, isF n.data.toList f = q := ⟨_, rfl⟩
      have cI := fun W => refIs_any f n W hfl h2
      rw [hq] at hst cI
      have CI := hid cI
      have HS := hid hst
      clear cI hst hq
      cases q
      · go_wp2_with fail
        refine (CI.out _).mono ?_
        rintro e w2 ⟨rfl, hb2⟩
        have hbn := chain2 hb hs hb2
        have ho2 := ho.below hb2
        have hs2 := hbn.size
        obtain ⟨b', off', hbo, hd1, hd2⟩ := (HR.out.below hbn).fld (j := k) (p := f) (by have := HT.out; exact fld_of_take hlt this)
        cases hbo
        clear hb2 hc1 hc2 hb hs ho
        go_wp2_with ((at_builtin; go_must (refine wpList_append_fld _ rfl _ _ 45 rfl w.heap.size 112 Tryz.underlying45 infoFld3 rfl (by decide) rfl ho2 f rfl (by first | rfl | simp) (by omega) hs2 ?_); intro v' w3 hown3 hb3))
        go_roundw
        case rel => exact ⟨k + 1, m + 1, hlt, by omega, by go_num, by rw [HS.out]; exact hown3, hbn.trans hb3⟩
        case measure => simp [intOf]; omega
      · go_wp2_with fail
        refine (CI.out _).mono ?_
        rintro e w2 ⟨rfl, hb2⟩
        have hbn := chain2 hb hs hb2
        have ho2 := ho.below hb2
        clear hb2 hc1 hc2 hb hs ho
        go_wp2_with fail
        go_roundw
        case rel => exact ⟨k + 1, m, hlt, by omega, by go_num, by rw [HS.out]; simpa using ho2, hbn⟩
        case measure => simp [intOf]; omega
    · have hk2 : L.take k = L := List.take_of_length_le (by omega)
      rw [hk2] at ho
      clear hk2
      go_wp2
      go_ret
      exact ⟨⟨_, m, rfl, ho⟩, hb⟩
end Go.Proofs.YtongceljdgmbdaaGreatDoor
