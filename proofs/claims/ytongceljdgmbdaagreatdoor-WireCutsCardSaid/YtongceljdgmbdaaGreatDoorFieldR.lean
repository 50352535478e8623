/-
  Contracts of package field: valueByte, rightValue, Right of a field and of fields.
-/
import Derived.Test.YtongceljdgmbdaaGreatDoorSignTok
import Derived.Test.YtongceljdgmbdaaGreatDoorFieldB
namespace Go.Proofs.YtongceljdgmbdaaGreatDoor
open Go.RowKit Go.Pantry

theorem valueByte_any (c : UInt8) (w : World) :
    Calls Tryz.prog 175 #[.int .u8 (c.toNat : Int)] w fun e w' => e = .returned (.bool (okV c)) ∧ w = w' := by
  rw [okV_int]
  go_enter Tryz.func175, Tryz.ntmps175
  go_wp2
  all_goals go_ret
  all_goals exact ⟨ret_bool (by rw [Bool.eq_iff_iff]; simp_all; try omega), rfl⟩

theorem rightValue_any (s : ByteArray) (w : World) (hs : s.size ≤ maxLen) :
    Calls Tryz.prog 148 #[.string s] w fun e w' => e = .returned (.bool (decide (s.size ≤ 1024) && (trimL s.data.toList == s.data.toList) && s.data.toList.all okV)) ∧ Below w.heap.size w w' := by
  have c2 := fun W => Trim_any s W hs
  have C2 := hid c2
  clear c2
  unfold maxLen at hs
  by_cases h1 : (1024 : Int) < (s.size : Int)
  · have hno : decide (s.size ≤ 1024) = false := decide_eq_false (by omega)
    rw [hno]
    clear hno
    go_enter Tryz.func148, Tryz.ntmps148
    go_wp2_with fail
    go_ret
    exact ⟨rfl, Below.refl _ _⟩
  · have hyes : decide (s.size ≤ 1024) = true := decide_eq_true (by omega)
    rw [hyes]
    have h1' : (s.size : Int) ≤ 1024 := by omega
    clear hyes h1
    obtain ⟨T, hT⟩ : ∃ T, trimL s.data.toList = T := ⟨_, rfl⟩
    rw [hT] at C2 ⊢
    clear hT
    cases hq : (T == s.data.toList)
    · have e1 : (T == s.toList) = false := by rw [Lib.toList_data]; exact hq
      have e2 : (T != s.toList) = true := by rw [bne, e1]; rfl
      clear hq
      go_enter Tryz.func148, Tryz.ntmps148
      go_wp2_with fail
      refine (C2.out _).mono ?_
      rintro e w1 ⟨rfl, hb1⟩
      go_wp2_with fail
      go_ret
      exact ⟨rfl, hb1⟩
    · have e1 : (T == s.toList) = true := by rw [Lib.toList_data]; exact hq
      have e2 : (T != s.toList) = false := by rw [bne, e1]; rfl
      obtain ⟨r, hr⟩ : ∃ r, s.data.toList.all okV = r := ⟨_, rfl⟩
      rw [hr]
      have HRR := hid hr
      clear hq hr
      simp only [Bool.true_and]
      go_enter Tryz.func148, Tryz.ntmps148
      go_wp2_with fail
      refine (C2.out _).mono ?_
      rintro e w1 ⟨rfl, hb1⟩
      go_wp2_with fail
      clear e1 e2
      go_loop [3] (fun i => ∃ k : Nat, k ≤ s.size ∧ i = .int .i64 k ∧ (s.data.toList.take k).all okV = true) (fun i => s.size - (intOf i).toNat)
      case atStart => exact ⟨0, Nat.zero_le _, rfl, rfl⟩
      case round =>
        obtain ⟨k, hk, rfl, hall⟩ := hrel
        have HA := hid hall
        clear hall
        by_cases hlt : k < s.size
        · have cv := fun W => valueByte_any s[k] W
          obtain ⟨q, hq⟩ : ∃ q, okV s[k] = q := ⟨_, rfl⟩
          rw [hq] at cv
          have CV := hid cv
          have HQ := hid hq
          clear cv hq
          cases q
          · have hno : r = false := by
              rw [← HRR.out]
              exact List.all_eq_false.2 ⟨s[k], by have := List.getElem_mem (l := s.data.toList) (n := k) (by rw [size_list]; exact hlt); exact this, by rw [HQ.out]; simp⟩
            subst hno
            go_wp2_with (go_at_call 175; refine (CV.out _).mono ?_; rintro e w' ⟨rfl, rfl⟩)
            go_ret
            exact ⟨rfl, hb1⟩
          · go_wp2_with (go_at_call 175; refine (CV.out _).mono ?_; rintro e w' ⟨rfl, rfl⟩)
            go_round
            case rel => exact ⟨k + 1, hlt, by go_num, by rw [take_succ_list s k hlt, List.all_append, HA.out]; simp [HQ.out]⟩
            case measure => simp [intOf]; omega
        · have hke := take_all s k hlt
          have hyes : r = true := by rw [← HRR.out, ← hke]; exact HA.out
          subst hyes
          clear hke
          go_wp2_with fail
          go_ret
          exact ⟨rfl, hb1⟩
theorem fRight_any (f : Fld) (w : World) (h : f.1.length ≤ 100000 ∧ f.2.length ≤ 100000) :
    Calls Tryz.prog 128 #[fldV f] w fun e w' => e = .returned (.bool (rightF f)) ∧ Below w.heap.size w w' := by
  obtain ⟨a, b⟩ := f
  obtain ⟨h1, h2⟩ := h
  simp only at h1 h2
  have hrf : rightF (a, b) = (tokenL a && decide (a.length ≤ 64) && (decide (b.length ≤ 1024) && (trimL b == b) && b.all okV)) := by
    unfold rightF
    simp only [Bool.and_assoc]
  obtain ⟨r, hr⟩ : ∃ r, rightF (a, b) = r := ⟨_, rfl⟩
  rw [hr] at hrf ⊢
  have c1 := fun W => Token_any ⟨a.toArray⟩ W (by rw [szL]; unfold maxLen; omega)
  have c2 := fun W => rightValue_any ⟨b.toArray⟩ W (by rw [szL]; unfold maxLen; omega)
  rw [dtL] at c1 c2
  rw [szL] at c2
  generalize (decide (b.length ≤ 1024) && (trimL b == b) && b.all okV) = v at hrf c2
  have C1 := hid c1
  have C2 := hid c2
  have hsz : (⟨a.toArray⟩ : ByteArray).size = a.length := szL a
  have HF := hid hrf
  clear c1 c2 hr hrf
  have hsI : (((⟨a.toArray⟩ : ByteArray).size : Nat) : Int) = (a.length : Int) := by rw [hsz]
  by_cases h64 : (a.length : Int) ≤ 64
  · obtain ⟨t, ht⟩ : ∃ t, tokenL a = t := ⟨_, rfl⟩
    rw [ht] at C1 HF
    have HF' : Hid (r = (t && v)) := by have h := HF.out; rw [decide_eq_true (by omega)] at h; simpa using hid h
    clear HF ht
    cases t
    · obtain rfl : r = false := HF'.out
      go_enter Tryz.func128, Tryz.ntmps128
      go_wp2_with fail
      refine (C1.out _).mono ?_
      rintro e w1 ⟨rfl, rfl⟩
      go_wp2_with fail
      go_ret
      exact ⟨rfl, below_alloc _ _⟩
    · obtain rfl : r = v := HF'.out
      go_enter Tryz.func128, Tryz.ntmps128
      go_wp2_with fail
      refine (C1.out _).mono ?_
      rintro e w1 ⟨rfl, rfl⟩
      go_wp2_with fail
      refine (C2.out _).mono ?_
      rintro e w2 ⟨rfl, hb⟩
      go_wp2_with fail
      go_ret
      exact ⟨rfl, (below_alloc _ _).trans (hb.mono (by simp))⟩
  · obtain rfl : r = false := by have h := HF.out; rw [decide_eq_false (by omega)] at h; simpa using h
    clear HF
    go_enter Tryz.func128, Tryz.ntmps128
    go_wp2_with fail
    go_ret
    exact ⟨rfl, below_alloc _ _⟩

theorem lRight_any (v : Value) (L : List Fld) (w : World) (hr : Reads2 w v L) (hk : okFs L) :
    Calls Tryz.prog 109 #[v] w fun e w' => e = .returned (.bool (rightFs L)) ∧ Below w.heap.size w w' := by
  obtain ⟨ao, cap, rfl⟩ := hr.form
  obtain ⟨hl, hv⟩ := hk
  have HR := hid hr
  have HV := hid hv
  have hrf : rightFs L = (decide (L.length ≤ 64) && L.all rightF) := rfl
  obtain ⟨r, hrr⟩ : ∃ r, rightFs L = r := ⟨_, rfl⟩
  rw [hrr] at hrf ⊢
  have HF := hid hrf
  clear hr hv hrr hrf
  by_cases h64 : (64 : Int) < (L.length : Int)
  · have hno : r = false := by rw [HF.out, decide_eq_false (by omega)]; rfl
    subst hno
    go_enter Tryz.func109, Tryz.ntmps109
    go_wp2
    go_ret
    exact ⟨rfl, Below.refl _ _⟩
  · have h64' : (L.length : Int) ≤ 64 := by omega
    have hall : r = L.all rightF := by rw [HF.out, decide_eq_true (by omega)]; rfl
    have HA := hid hall
    clear h64 hall
    go_enter Tryz.func109, Tryz.ntmps109
    go_wp2
    go_loopw [10] (fun i wr => ∃ (k : Nat), k ≤ L.length ∧ i = .int .i64 k ∧ (L.take k).all rightF = true ∧ Below w.heap.size w wr) (fun i _ => L.length - (intOf i).toNat)
    case atStart => exact ⟨0, Nat.zero_le _, rfl, rfl, Below.refl _ _⟩
    case round =>
      obtain ⟨k, hk, rfl, hak, hb⟩ := hrel
      have HK := hid hak
      clear hak
      by_cases hlt : k < L.length
      · obtain ⟨f, hf⟩ : ∃ f, L[k]? = some f := ⟨_, List.getElem?_eq_getElem hlt⟩
        obtain ⟨b, off, rfl, hc1, hc2⟩ := (HR.out.below hb).fld hf
        have hfv := HV.out f (List.mem_of_getElem? hf)
        have HM := hid (List.mem_of_getElem? hf)
        have HT := hid (take_fld hf)
        clear hf
        have cI := fun W => fRight_any f W hfv
        obtain ⟨q, hq⟩ : ∃ q, rightF f = q := ⟨_, rfl⟩
        rw [hq] at cI
        have CI := hid cI
        have HQ := hid hq
        clear cI hq hfv
        obtain ⟨W, hW, hbW, -, -, -⟩ := box2 wr f 104
        replace hb := chain2 hb hb.size hbW
        clear hbW
        cases q
        · have hno : r = false := by rw [HA.out]; exact List.all_eq_false.2 ⟨f, HM.out, by rw [HQ.out]; simp⟩
          subst hno
          go_wp2_with fail
          rw [← hW]
          clear hW
          refine (CI.out _).mono ?_
          rintro e w2 ⟨rfl, hb2⟩
          go_wp2_with fail
          go_ret
          exact ⟨rfl, chain2 hb hb.size hb2⟩
        · go_wp2_with fail
          rw [← hW]
          clear hW
          refine (CI.out _).mono ?_
          rintro e w2 ⟨rfl, hb2⟩
          go_wp2_with fail
          go_roundw
          case rel => exact ⟨k + 1, hlt, by go_num, by rw [HT.out, List.all_append, HK.out]; simp [HQ.out], chain2 hb hb.size hb2⟩
          case measure => simp [intOf]; omega
      · have hyes : r = true := by rw [HA.out, ← List.take_of_length_le (show L.length ≤ k by omega)]; exact HK.out
        subst hyes
        go_wp2
        go_ret
        exact ⟨rfl, hb⟩
end Go.Proofs.YtongceljdgmbdaaGreatDoor
