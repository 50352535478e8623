/-
  The document's answers of layer 5: fields.
-/
import Derived.Test.YtfoghjhdjmapnaaGreatDoorRef5E
import Derived.Test.YtfoghjhdjmapnaaGreatDoorRefClean
import Derived.Test.YtfoghjhdjmapnaaGreatDoorHeadF
import Derived.Test.YtfoghjhdjmapnaaGreatDoorBase2
import Derived.Test.YtfoghjhdjmapnaaGreatDoorInfo3
namespace Go.Proofs.YtfoghjhdjmapnaaGreatDoor
open Go.RowKit Go.Pantry

set_option maxRecDepth 100000 in
set_option maxHeartbeats 16000000 in
theorem refFields_any (v : Value) (l : List (List UInt8)) (w : World) (hr : Reads w v (l.map strV)) (hl : l.length < 4294967296) (ha : ∀ a ∈ l, a.length ≤ 100000) :
    Calls Tryz.prog 21 #[v] w fun e w' => FldsRead 80 w.heap.size (fldsL 0 l) e w' ∧ Below w.heap.size w w' := by
  obtain ⟨ao, cap, rfl⟩ := Reads.strs hr
  have HR := hid hr
  have HL := hid ha
  obtain ⟨R, hR⟩ : ∃ R, fldsL 0 l = R := ⟨_, rfl⟩
  rw [hR]
  have HRR := hid hR
  clear hr ha hR
  go_enter Tryz.func21, Tryz.ntmps21
  go_wp2
  go_loopw [4, 5] (fun v' i wr => ∃ (k : Nat) (acc : List Fld), k ≤ l.length ∧ k ≤ 64 ∧ acc.length = k ∧ i = .int .i64 k ∧ R = addL acc (fldsL k (l.drop k)) ∧ wr.ownsRow w.heap.size 80 2 v' k (fldCells acc) ∧ Below w.heap.size w wr) (fun _ i _ => l.length - (intOf i).toNat)
  case atStart =>
    refine ⟨0, [], Nat.zero_le _, by omega, rfl, rfl, ?_, World.ownsRow_nil _ _ _ _, Below.refl _ _⟩
    rw [← HRR.out, List.drop_zero]
    unfold addL
    cases fldsL 0 l <;> rfl
  case round =>
    obtain ⟨k, acc, hk, hk64, hacc, rfl, hRk, ho, hb⟩ := hrel
    have HRK := hid hRk
    have HA := hid hacc
    clear hRk hacc
    have hs := hb.size
    by_cases hlt : k < l.length
    · obtain ⟨a, hx⟩ : ∃ a, l[k]? = some a := ⟨_, List.getElem?_eq_getElem hlt⟩
      have hdr : l.drop k = a :: l.drop (k + 1) := by
        rw [List.drop_eq_getElem_cons hlt]
        obtain ⟨_, e⟩ := List.getElem?_eq_some_iff.1 hx
        rw [e]
      have hal := HL.out a (List.mem_of_getElem? hx)
      obtain ⟨b, off, cap', hv, hc⟩ := (HR.out.below hb).at_some (by rw [List.length_map]; omega)
      have hcell := hc k (strV a) (by rw [List.getElem?_map, hx]; rfl)
      rw [List.length_map] at hv
      cases hv
      have HD := hid hdr
      clear hx hdr hc
      obtain ⟨aov, capv, rfl⟩ := ownsRow_form ho
      have c1 := fun W => refFind_any a [58] 0 W (by decide) (by omega) (by decide) (Nat.zero_le _)
      have hfl : fldL k a = match findL [58] a with
        | none => .error 21
        | some j => if tokenL (a.take j) && (trimL (a.drop (j + 1))).all okV then (if 64 < j ∨ 1024 < (trimL (a.drop (j + 1))).length ∨ 64 ≤ k then .error 22 else .ok (a.take j, trimL (a.drop (j + 1)))) else .error 21 := rfl
      cases hf : findL [58] a with
      | none =>
        have e1 : findI [58] a 0 = -1 := by unfold findI; rw [List.drop_zero, hf]
        rw [hf] at hfl
        have hRe : R = .error 21 := by rw [HRK.out, HD.out]; exact addL_err acc k a _ 21 hfl
        rw [e1] at c1
        have C1 := hid c1
        subst hRe
        clear hf hfl c1 e1
        go_wp2_with fail
        refine (C1.out _).mono ?_
        rintro e w' ⟨rfl, rfl⟩
        go_wp2_with fail
        go_ret2
        exact ⟨⟨by decide, rfl⟩, hb⟩
      | some j =>
        have e1 : findI [58] a 0 = (j : Int) := by unfold findI; rw [List.drop_zero, hf]; simp
        have hjl : j + 1 ≤ a.length := findL_lt (by decide) hf
        rw [hf] at hfl
        simp only at hfl
        rw [e1] at c1
        have tl := trim_len (a.drop (j + 1))
        rw [List.length_drop] at tl
        have htk : (a.take j).length = j := by rw [List.length_take]; omega
        have ex1 := extract_mid a 0 j
        rw [Nat.zero_add, List.drop_zero] at ex1
        have ex2 := extract_mid a (j + 1) (a.length - (j + 1))
        rw [show j + 1 + (a.length - (j + 1)) = a.length by omega, List.take_of_length_le (by rw [List.length_drop]; omega)] at ex2
        have c2 := fun W => refToken_any ⟨(a.take j).toArray⟩ W (by rw [szL]; unfold maxLen; omega)
        have c3 := fun W => refTrim_any ⟨(a.drop (j + 1)).toArray⟩ W (by rw [szL, List.length_drop]; unfold maxLen; omega)
        have c4 := fun W => refClean_any ⟨(trimL (a.drop (j + 1))).toArray⟩ W (by rw [szL]; unfold maxLen; omega)
        rw [dtL] at c2 c3 c4
        generalize a.take j = nm at c2 hfl ex1 htk
        generalize trimL (a.drop (j + 1)) = vl at c3 c4 hfl tl
        generalize a.drop (j + 1) = dd at c3 ex2
        generalize tokenL nm = q1 at c2 hfl
        generalize vl.all okV = q2 at c4 hfl
        have C1 := hid c1
        have C2 := hid c2
        have C3 := hid c3
        have C4 := hid c4
        have HF := hid hfl
        have hja : (j : Int) ≤ (a.length : Int) := by omega
        have hjb : ((j : Int) + 1) ≤ (a.length : Int) := by omega
        have hw1 : IntKind.i64.wrap ((j : Int) + 1) = ((j + 1 : Nat) : Int) := IntWalk.i64_in _ (by omega)
        clear c1 c2 c3 c4 hf hfl e1 htk
        cases q1 with
        | false =>
          have hRe : R = .error 21 := by rw [HRK.out, HD.out]; exact addL_err acc k a _ 21 HF.out
          subst hRe
          clear HF
          go_wp2_with (first | (go_at_call 17; refine (C1.out _).mono ?_; rintro e w' ⟨rfl, rfl⟩) | (go_at_call 41; refine (C2.out _).mono ?_; rintro e w' ⟨rfl, rfl⟩))
          go_ret2
          exact ⟨⟨by decide, rfl⟩, hb⟩
        | true =>
          cases q2 with
          | false =>
            have hRe : R = .error 21 := by rw [HRK.out, HD.out]; exact addL_err acc k a _ 21 HF.out
            subst hRe
            clear HF
            go_wp2_with (first | (go_at_call 17; refine (C1.out _).mono ?_; rintro e w' ⟨rfl, rfl⟩) | (go_at_call 41; refine (C2.out _).mono ?_; rintro e w' ⟨rfl, rfl⟩) | (go_at_call 40; refine (C3.out _).mono ?_; rintro e w' ⟨rfl, rfl⟩) | (go_at_call 39; refine (C4.out _).mono ?_; rintro e w' ⟨rfl, rfl⟩))
            go_ret2
            exact ⟨⟨by decide, rfl⟩, hb⟩
          | true =>
            have hf2 := HF.out
            rw [if_pos (show (true && true) = true from rfl)] at hf2
            have HF2 := hid hf2
            clear HF hf2
            by_cases h64 : (64 : Int) < (j : Int)
            · have hRe : R = .error 22 := by rw [HRK.out, HD.out]; exact addL_err acc k a _ 22 (by rw [HF2.out, if_pos (.inl (by omega))])
              subst hRe
              clear HF2
              have d1 : decide ((64 : Int) < (j : Int)) = true := decide_eq_true h64
              go_wp2_with (first | (go_at_call 17; refine (C1.out _).mono ?_; rintro e w' ⟨rfl, rfl⟩) | (go_at_call 41; refine (C2.out _).mono ?_; rintro e w' ⟨rfl, rfl⟩) | (go_at_call 40; refine (C3.out _).mono ?_; rintro e w' ⟨rfl, rfl⟩) | (go_at_call 39; refine (C4.out _).mono ?_; rintro e w' ⟨rfl, rfl⟩))
              go_ret2
              exact ⟨⟨by decide, rfl⟩, hb⟩
            · have d1 : decide ((64 : Int) < (j : Int)) = false := decide_eq_false h64
              by_cases h1024 : (1024 : Int) < (vl.length : Int)
              · have hRe : R = .error 22 := by rw [HRK.out, HD.out]; exact addL_err acc k a _ 22 (by rw [HF2.out, if_pos (.inr (.inl (by omega)))])
                subst hRe
                clear HF2
                have d2 : decide ((1024 : Int) < (vl.length : Int)) = true := decide_eq_true h1024
                go_wp2_with (first | (go_at_call 17; refine (C1.out _).mono ?_; rintro e w' ⟨rfl, rfl⟩) | (go_at_call 41; refine (C2.out _).mono ?_; rintro e w' ⟨rfl, rfl⟩) | (go_at_call 40; refine (C3.out _).mono ?_; rintro e w' ⟨rfl, rfl⟩) | (go_at_call 39; refine (C4.out _).mono ?_; rintro e w' ⟨rfl, rfl⟩))
                go_ret2
                exact ⟨⟨by decide, rfl⟩, hb⟩
              · have d2 : decide ((1024 : Int) < (vl.length : Int)) = false := decide_eq_false h1024
                by_cases hk65 : (64 : Int) ≤ (k : Int)
                · have hRe : R = .error 22 := by rw [HRK.out, HD.out]; exact addL_err acc k a _ 22 (by rw [HF2.out, if_pos (.inr (.inr (by omega)))])
                  subst hRe
                  clear HF2
                  have d3 : decide ((64 : Int) ≤ (k : Int)) = true := decide_eq_true hk65
                  go_wp2_with (first | (go_at_call 17; refine (C1.out _).mono ?_; rintro e w' ⟨rfl, rfl⟩) | (go_at_call 41; refine (C2.out _).mono ?_; rintro e w' ⟨rfl, rfl⟩) | (go_at_call 40; refine (C3.out _).mono ?_; rintro e w' ⟨rfl, rfl⟩) | (go_at_call 39; refine (C4.out _).mono ?_; rintro e w' ⟨rfl, rfl⟩))
                  go_ret2
                  exact ⟨⟨by decide, rfl⟩, hb⟩
                · have d3 : decide ((64 : Int) ≤ (k : Int)) = false := decide_eq_false hk65
                  have hRs : R = addL (acc ++ [(nm, vl)]) (fldsL (k + 1) (l.drop (k + 1))) := by rw [HRK.out, HD.out]; exact addL_step acc k a _ (nm, vl) (by rw [HF2.out, if_neg (by omega)])
                  have HRS := hid hRs
                  clear hRs HF2 h64 h1024
                  go_wp2_with (first | (go_at_call 17; refine (C1.out _).mono ?_; rintro e w' ⟨rfl, rfl⟩) | (go_at_call 41; refine (C2.out _).mono ?_; rintro e w' ⟨rfl, rfl⟩) | (go_at_call 40; refine (C3.out _).mono ?_; rintro e w' ⟨rfl, rfl⟩) | (go_at_call 39; refine (C4.out _).mono ?_; rintro e w' ⟨rfl, rfl⟩) | (at_builtin; go_must (refine wpList_append_fld _ rfl _ _ 33 rfl w.heap.size 80 Tryz.underlying33 infoFld3 rfl (by decide) rfl ho (nm, vl) rfl (by first | rfl | simp) (by omega) hs ?_); intro v2 w3 hown3 hb3))
                  go_roundw
                  case rel => exact ⟨k + 1, acc ++ [(nm, vl)], hlt, by omega, by rw [List.length_append, HA.out]; rfl, by go_num, HRS.out, hown3, hb.trans hb3⟩
                  case measure => simp [intOf]; omega
    · have hke : k = l.length := by omega
      have hRe : R = .ok acc := by
        rw [HRK.out, hke, List.drop_length]
        unfold addL fldsL
        simp
      subst hRe
      rw [← HA.out] at ho
      go_wp2_with fail
      go_ret2
      exact ⟨⟨_, rfl, ho⟩, hb⟩
end Go.Proofs.YtfoghjhdjmapnaaGreatDoor
