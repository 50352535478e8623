/-
  Several texts in one: RefFieldF, RefFieldG.
-/
import Derived.Test.YtdkhkeffheleeaaDoorF1405
import Derived.Test.YtdkhkeffheleeaaDoorF1402
import Derived.Deep.QuietTactic
import Derived.BigQuiet
set_option linter.unusedVariables false
set_option linter.unusedSimpArgs false
/-
  Contracts of the document's answers of layer 3: Right, of a field and of fields.
-/
namespace Go.Proofs.YtdkhkeffheleeaaDoor
open Go.RowKit Go.Pantry

/-- the four tests ahead of the bytes -/
def rightH (a b : ByteArray) : Bool := tokenL a.data.toList && decide (a.size ≤ 64) && decide (b.size ≤ 1024) && trimL b.data.toList == b.data.toList
theorem rightF_of (a b : ByteArray) : rightF (a.data.toList, b.data.toList) = (rightH a b && b.data.toList.all okV) := by
  unfold rightF rightH
  rw [size_list, size_list]

set_option maxHeartbeats 4000000 in
theorem refRight_no (a b : ByteArray) (w : World) (ha : a.size < 4294967296) (hb : b.size < 4294967296) (hh : rightH a b = false) :
    Calls Tryd.prog 57 #[.agg #[.string a, .string b]] w fun e w' => e = .returned (.bool false) ∧ Below w.heap.size w w' := by
  have c1 := fun W => (refToken_any a W (by unfold maxLen; omega)).mono (fun _ _ h => (⟨h.1, h.2.symm⟩ : _ ∧ _))
  have c2 := fun W => (refTrim_any b W (by unfold maxLen; omega)).mono (fun _ _ h => (⟨h.1, h.2.symm⟩ : _ ∧ _))
  have hcase : tokenL a.data.toList = false ∨ (tokenL a.data.toList = true ∧ (64 : Int) < (a.size : Int)) ∨ (tokenL a.data.toList = true ∧ (a.size : Int) ≤ 64 ∧ (1024 : Int) < (b.size : Int)) ∨ (tokenL a.data.toList = true ∧ (a.size : Int) ≤ 64 ∧ (b.size : Int) ≤ 1024 ∧ (trimL b.data.toList == b.data.toList) = false) := by
    unfold rightH at hh
    cases ht : tokenL a.data.toList
    · exact .inl rfl
    · by_cases h1 : a.size ≤ 64
      · by_cases h2 : b.size ≤ 1024
        · right; right; right
          refine ⟨rfl, by omega, by omega, ?_⟩
          rw [ht] at hh
          simp only [h1, h2, decide_true, Bool.true_and] at hh
          exact hh
        · exact .inr (.inr (.inl ⟨rfl, by omega, by omega⟩))
      · exact .inr (.inl ⟨rfl, by omega⟩)
  clear hh
  rcases hcase with ht | ⟨ht, h1⟩ | ⟨ht, h1, h2⟩ | ⟨ht, h1, h2, h3⟩
  · rw [ht] at c1
    have C1 := hid c1
    have C2 := hid c2
    clear c1 c2 ht
    go_enter Tryd.func57, Tryd.ntmps57
    go_wp2_with fail
    go_quiet ((first | (go_at_call 55; with_reducible exact Calls.quiet_of_same (C1.out _)) | (go_at_call 70; with_reducible exact Calls.quiet_of_same (C2.out _))))
    go_wp2_with fail
    go_ret
    exact ⟨rfl, (below_alloc _ _).trans ((drewN_below2 _ _).mono (by simp))⟩
  · rw [ht] at c1
    have C1 := hid c1
    have C2 := hid c2
    have d1 : decide ((64 : Int) < (a.size : Int)) = true := decide_eq_true h1
    clear c1 c2 ht
    go_enter Tryd.func57, Tryd.ntmps57
    go_wp2_with fail
    go_quiet ((first | (go_at_call 55; with_reducible exact Calls.quiet_of_same (C1.out _)) | (go_at_call 70; with_reducible exact Calls.quiet_of_same (C2.out _))))
    go_wp2_with fail
    go_ret
    exact ⟨rfl, (below_alloc _ _).trans ((drewN_below2 _ _).mono (by simp))⟩
  · rw [ht] at c1
    have C1 := hid c1
    have C2 := hid c2
    have d1 : decide ((64 : Int) < (a.size : Int)) = false := decide_eq_false (by omega)
    have d2 : decide ((1024 : Int) < (b.size : Int)) = true := decide_eq_true h2
    clear c1 c2 ht
    go_enter Tryd.func57, Tryd.ntmps57
    go_wp2_with fail
    go_quiet ((first | (go_at_call 55; with_reducible exact Calls.quiet_of_same (C1.out _)) | (go_at_call 70; with_reducible exact Calls.quiet_of_same (C2.out _))))
    go_wp2_with fail
    go_ret
    exact ⟨rfl, (below_alloc _ _).trans ((drewN_below2 _ _).mono (by simp))⟩
  · rw [ht] at c1
    have C1 := hid c1
    have C2 := hid c2
    have d1 : decide ((64 : Int) < (a.size : Int)) = false := decide_eq_false (by omega)
    have d2 : decide ((1024 : Int) < (b.size : Int)) = false := decide_eq_false (by omega)
    have e1 : (trimL b.data.toList == b.toList) = false := by rw [Lib.toList_data]; exact h3
    have e2 : (trimL b.data.toList != b.toList) = true := by rw [bne, e1]; rfl
    clear c1 c2 ht h3
    go_enter Tryd.func57, Tryd.ntmps57
    go_wp2_with fail
    go_quiet ((first | (go_at_call 55; with_reducible exact Calls.quiet_of_same (C1.out _)) | (go_at_call 70; with_reducible exact Calls.quiet_of_same (C2.out _))))
    go_wp2_with fail
    go_ret
    exact ⟨rfl, (below_alloc _ _).trans ((drewN_below2 _ _).mono (by simp))⟩

set_option maxHeartbeats 4000000 in
theorem refRight_head (a b : ByteArray) (w : World) (hh : rightH a b = true) :
    Calls Tryd.prog 57 #[.agg #[.string a, .string b]] w fun e w' => e = .returned (.bool (b.data.toList.all okV)) ∧ Below w.heap.size w w' := by
  have hp : tokenL a.data.toList = true ∧ a.size ≤ 64 ∧ b.size ≤ 1024 ∧ (trimL b.data.toList == b.data.toList) = true := by
    unfold rightH at hh
    simp only [Bool.and_eq_true, decide_eq_true_eq] at hh
    exact ⟨hh.1.1.1, hh.1.1.2, hh.1.2, hh.2⟩
  clear hh
  obtain ⟨ht, h1, h2, h3⟩ := hp
  obtain ⟨r, hr⟩ : ∃ r, b.data.toList.all okV = r := ⟨_, rfl⟩
  rw [hr]
  have HRR := hid hr
  clear hr
  have c1 := fun W => (refToken_any a W (by unfold maxLen; omega)).mono (fun _ _ h => (⟨h.1, h.2.symm⟩ : _ ∧ _))
  have c2 := fun W => (refTrim_any b W (by unfold maxLen; omega)).mono (fun _ _ h => (⟨h.1, h.2.symm⟩ : _ ∧ _))
  rw [ht] at c1
  have C1 := hid c1
  have C2 := hid c2
  have d1 : decide ((64 : Int) < (a.size : Int)) = false := decide_eq_false (by omega)
  have d2 : decide ((1024 : Int) < (b.size : Int)) = false := decide_eq_false (by omega)
  have e1 : (trimL b.data.toList == b.toList) = true := by rw [Lib.toList_data]; exact h3
  have e2 : (trimL b.data.toList != b.toList) = false := by rw [bne, e1]; rfl
  obtain ⟨W0, hW⟩ : ∃ W0, W0 = w.alloc (.cells #[.string a, .string b] 74) := ⟨_, rfl⟩
  have hb0 : Below w.heap.size w W0 := by rw [hW]; exact below_alloc _ _
  have hx1 : W0.cell? ⟨w.heap.size, 0, none⟩ = some (.string a) := by rw [hW, World.cell?_alloc_at _ _ _ _ rfl]; rfl
  have hx2 : W0.cell? ⟨w.heap.size, 1, none⟩ = some (.string b) := by rw [hW, World.cell?_alloc_at _ _ _ _ rfl]; rfl
  clear c1 c2 ht h3
  go_enter Tryd.func57, Tryd.ntmps57
  go_wp2_with fail
  rw [← hW]
  clear hW
  go_quiet ((first | (go_at_call 55; with_reducible exact Calls.quiet_of_same (C1.out _)) | (go_at_call 70; with_reducible exact Calls.quiet_of_same (C2.out _))))
  have hb1 := chain2 hb0 hb0.size (drewN_below2 W0 nq)
  have hy2 : (W0.drewN nq).cell? ⟨w.heap.size, 1, none⟩ = some (.string b) := hx2
  generalize W0.drewN nq = w1 at hb1 hy2 ⊢
  clear hx1 hx2 e1 e2 d1 d2 hb0
  go_wp2_with fail
  go_loop [3] (fun i => ∃ k : Nat, k ≤ b.size ∧ i = .int .i64 k ∧ (b.data.toList.take k).all okV = true) (fun i => b.size - (intOf i).toNat)
  case atStart => exact ⟨0, Nat.zero_le _, rfl, rfl⟩
  case round =>
    obtain ⟨k, hk, rfl, hall⟩ := hrel
    have HA := hid hall
    clear hall
    by_cases hlt : k < b.size
    · cases hq : okV b[k]
      · have hcs : ((b[k].toNat : Int) < 32 ∧ ((b[k].toNat : Int) == 9) = false) ∨ ((32 : Int) ≤ (b[k].toNat : Int) ∧ ((b[k].toNat : Int) == 127) = true) := by
          rw [okV_int] at hq
          simp at hq ⊢
          omega
        have HO := hid hq
        clear hq
        rcases hcs with ⟨p1, p2⟩ | ⟨p1, p2⟩
        · have p3 : ((b[k].toNat : Int) != 9) = true := by rw [bne, p2]; rfl
          have hno : r = false := by
            rw [← HRR.out]
            exact List.all_eq_false.2 ⟨b[k], by have := List.getElem_mem (l := b.data.toList) (n := k) (by rw [size_list]; exact hlt); exact this, by rw [HO.out]; simp⟩
          subst hno
          go_wp2_with fail
          go_ret
          exact ⟨rfl, hb1⟩
        · have hno : r = false := by
            rw [← HRR.out]
            exact List.all_eq_false.2 ⟨b[k], by have := List.getElem_mem (l := b.data.toList) (n := k) (by rw [size_list]; exact hlt); exact this, by rw [HO.out]; simp⟩
          subst hno
          go_wp2_with fail
          go_ret
          exact ⟨rfl, hb1⟩
      · have hcs : ((b[k].toNat : Int) < 32 ∧ ((b[k].toNat : Int) == 9) = true ∧ ((b[k].toNat : Int) == 127) = false) ∨ ((32 : Int) ≤ (b[k].toNat : Int) ∧ ((b[k].toNat : Int) == 127) = false) := by
          rw [okV_int] at hq
          simp at hq ⊢
          omega
        have HO := hid hq
        clear hq
        rcases hcs with ⟨p1, p2, p4⟩ | ⟨p1, p2⟩
        · have p3 : ((b[k].toNat : Int) != 9) = false := by rw [bne, p2]; rfl
          go_wp2_with fail
          go_round
          case rel => exact ⟨k + 1, hlt, by go_num, by rw [take_succ_list b k hlt, List.all_append, HA.out]; simp [HO.out]⟩
          case measure => simp [intOf]; omega
        · go_wp2_with fail
          go_round
          case rel => exact ⟨k + 1, hlt, by go_num, by rw [take_succ_list b k hlt, List.all_append, HA.out]; simp [HO.out]⟩
          case measure => simp [intOf]; omega
    · have hke := take_all b k hlt
      have hyes : r = true := by rw [← HRR.out, ← hke]; exact HA.out
      subst hyes
      clear hke
      go_wp2_with fail
      go_ret
      exact ⟨rfl, hb1⟩
theorem refRight_any (f : Fld) (w : World) (h1 : f.1.length < 4294967296) (h2 : f.2.length < 4294967296) :
    Calls Tryd.prog 57 #[fldV f] w fun e w' => e = .returned (.bool (rightF f)) ∧ Below w.heap.size w w' := by
  obtain ⟨a, b⟩ := f
  have e := rightF_of ⟨a.toArray⟩ ⟨b.toArray⟩
  rw [dtL, dtL] at e
  cases hh : rightH ⟨a.toArray⟩ ⟨b.toArray⟩
  · have := refRight_no ⟨a.toArray⟩ ⟨b.toArray⟩ w (by rw [szL]; exact h1) (by rw [szL]; exact h2) hh
    rw [e, hh]
    exact this
  · have := refRight_head ⟨a.toArray⟩ ⟨b.toArray⟩ w hh
    rw [dtL] at this
    rw [e, hh]
    exact this
end Go.Proofs.YtdkhkeffheleeaaDoor
/-
  Contracts of layer 3: the document's Right of fields.
-/
namespace Go.Proofs.YtdkhkeffheleeaaDoor
open Go.RowKit Go.Pantry

set_option maxHeartbeats 4000000 in
theorem refRights_any (v : Value) (L : List Fld) (w : World) (hr : Reads2 w v L) (hL : ∀ f ∈ L, f.1.length < 4294967296) (hV : ∀ f ∈ L, f.2.length < 4294967296) (hn : L.length < 1000000) :
    Calls Tryd.prog 32 #[v] w fun e w' => e = .returned (.bool (rightFs L)) ∧ Below w.heap.size w w' := by
  obtain ⟨ao, cap, rfl⟩ := hr.form
  have HR := hid hr
  have HL := hid hL
  have HV := hid hV
  have hrf : rightFs L = (decide (L.length ≤ 64) && L.all rightF) := rfl
  obtain ⟨r, hrr⟩ : ∃ r, rightFs L = r := ⟨_, rfl⟩
  rw [hrr] at hrf ⊢
  have HF := hid hrf
  clear hr hL hV hrr hrf
  by_cases h64 : (64 : Int) < (L.length : Int)
  · have hno : r = false := by rw [HF.out, decide_eq_false (by omega)]; rfl
    subst hno
    go_enter Tryd.func32, Tryd.ntmps32
    go_wp2
    go_ret
    exact ⟨rfl, Below.refl _ _⟩
  · have h64' : (L.length : Int) ≤ 64 := by omega
    have hd : decide ((64 : Int) < (L.length : Int)) = false := decide_eq_false h64
    have hall : r = L.all rightF := by rw [HF.out, decide_eq_true (by omega)]; rfl
    have HA := hid hall
    clear h64 hall
    go_enter Tryd.func32, Tryd.ntmps32
    go_wp2
    go_loopw [3] (fun i wr => ∃ (k : Nat), k ≤ L.length ∧ i = .int .i64 k ∧ (L.take k).all rightF = true ∧ Below w.heap.size w wr) (fun i _ => L.length - (intOf i).toNat)
    case atStart => exact ⟨0, Nat.zero_le _, rfl, rfl, Below.refl _ _⟩
    case round =>
      obtain ⟨k, hk, rfl, hak, hb⟩ := hrel
      have HK := hid hak
      clear hak
      by_cases hlt : k < L.length
      · obtain ⟨f, hf⟩ : ∃ f, L[k]? = some f := ⟨_, List.getElem?_eq_getElem hlt⟩
        obtain ⟨b, off, rfl, hc1, hc2⟩ := (HR.out.below hb).fld hf
        have hfl := HL.out f (List.mem_of_getElem? hf)
        have hfv := HV.out f (List.mem_of_getElem? hf)
        have HM := hid (List.mem_of_getElem? hf)
        have HT := hid (take_fld hf)
        clear hf
        have cI := fun W => refRight_any f W hfl hfv
        obtain ⟨q, hq⟩ : ∃ q, rightF f = q := ⟨_, rfl⟩
        rw [hq] at cI
        have CI := hid cI
        have HQ := hid hq
        clear cI hq
        cases q
        · have hno : r = false := by rw [HA.out]; exact List.all_eq_false.2 ⟨f, HM.out, by rw [HQ.out]; simp⟩
          subst hno
          go_wp2_with fail
          refine (CI.out _).mono ?_
          rintro e w2 ⟨rfl, hb2⟩
          go_wp2_with fail
          go_ret
          exact ⟨rfl, chain2 hb hb.size hb2⟩
        · go_wp2_with fail
          refine (CI.out _).mono ?_
          rintro e w2 ⟨rfl, hb2⟩
          go_wp2_with fail
          go_roundw
          case rel => exact ⟨k + 1, hlt, by go_num, by rw [HT.out, List.all_append, HK.out]; simp [HQ.out], chain2 hb hb.size hb2⟩
          case measure => simp [intOf]; omega
      · have hyes : r = true := by rw [HA.out, ← List.take_of_length_le (show L.length ≤ k by omega)]; exact HK.out
        subst hyes
        go_wp2
        go_ret
        exact ⟨rfl, hb⟩
end Go.Proofs.YtdkhkeffheleeaaDoor
