/-
  Contract of package head: readFields.
-/
import Derived.Test.YtongceljdgmbdaaGreatDoorHeadE
namespace Go.Proofs.YtongceljdgmbdaaGreatDoor
open Go.RowKit Go.Pantry

theorem fldL_code (i : Nat) (a : List UInt8) : (codeF a = 0 ∧ fldL i a = if 64 ≤ i then .error 22 else .ok (nmF a, vlF a)) ∨ ((codeF a = 21 ∨ codeF a = 22) ∧ fldL i a = .error (codeF a).toNat) := by
  unfold codeF judgeZ fmF nmF vlF fldL cutT
  cases hf : findL [58] a with
  | none => right; exact ⟨.inl rfl, rfl⟩
  | some k =>
    have hk := (findL_some hf).1
    simp only [List.length_cons, List.length_nil, Nat.zero_add, Bool.true_and]
    have hl : (a.take k).length = k := by rw [List.length_take]; omega
    have hid := trimL_idem (a.drop (k + 1))
    generalize trimL (a.drop (k + 1)) = v at hid ⊢
    generalize a.take k = n at hl ⊢
    have hr : rightF (n, v) = (tokenL n && decide (n.length ≤ 64) && decide (v.length ≤ 1024) && trimL v == v && v.all okV) := rfl
    rw [hr, hid, hl]
    cases tokenL n with
    | false => right; exact ⟨.inl rfl, rfl⟩
    | true =>
      cases v.all okV with
      | false => right; exact ⟨.inl rfl, rfl⟩
      | true =>
        by_cases h1 : k ≤ 64
        · by_cases h2 : v.length ≤ 1024
          · left
            have e : (true && decide (k ≤ 64) && decide (v.length ≤ 1024) && v == v && true) = true := by simp [h1, h2]
            rw [e]
            refine ⟨rfl, ?_⟩
            by_cases h3 : 64 ≤ i
            · simp [h3]
            · rw [if_pos (show (true && true) = true from rfl), if_neg (by omega), if_neg h3]
          · right
            have e : (true && decide (k ≤ 64) && decide (v.length ≤ 1024) && v == v && true) = false := by simp [h2]
            rw [e]
            refine ⟨.inr rfl, ?_⟩
            rw [if_pos (show (true && true) = true from rfl), if_pos (by omega)]; rfl
        · right
          have e : (true && decide (k ≤ 64) && decide (v.length ≤ 1024) && v == v && true) = false := by simp [h1]
          rw [e]
          refine ⟨.inr rfl, ?_⟩
          rw [if_pos (show (true && true) = true from rfl), if_pos (by omega)]; rfl
/-- what readFields tells -/
def FldsRead (t : TypeId) (B : Nat) (x : Except Nat (List Fld)) (e : Ending) (w' : World) : Prop := match x with
  | .ok L => ∃ v', e = .returned (.tuple #[v', .int .i64 0]) ∧ w'.ownsRow B t 2 v' L.length (fldCells L)
  | .error k => k ≠ 0 ∧ e = .returned (.tuple #[.slice none 0 0, .int .i64 (k : Int)])
def addL (acc : List Fld) (x : Except Nat (List Fld)) : Except Nat (List Fld) := match x with | .error e => .error e | .ok L => .ok (acc ++ L)
theorem addL_err (acc : List Fld) (k : Nat) (a : List UInt8) (r : List (List UInt8)) (e : Nat) (h : fldL k a = .error e) : addL acc (fldsL k (a :: r)) = .error e := by
  unfold addL fldsL; rw [h]
theorem addL_step (acc : List Fld) (k : Nat) (a : List UInt8) (r : List (List UInt8)) (f : Fld) (h : fldL k a = .ok f) : addL acc (fldsL k (a :: r)) = addL (acc ++ [f]) (fldsL (k + 1) r) := by
  unfold addL
  rw [fldsL, h]
  cases fldsL (k + 1) r with
  | error e => rfl
  | ok L => simp
theorem ownsRow_form {w : World} {B : Nat} {e : TypeId} {v : Value} {n : Nat} {L : List Fld} (h : w.ownsRow B e 2 v n (fldCells L)) : ∃ ao c, v = .slice ao n c := by
  obtain ⟨e1, h2⟩ := h.reads2
  obtain ⟨ao, c, rfl⟩ := h2.form
  exact ⟨ao, c, by rw [e1]⟩
set_option maxHeartbeats 4000000 in
theorem readFields_any (v : Value) (l : List (List UInt8)) (w : World) (hr : Reads w v (l.map strV)) (hl : l.length < 4294967296) (ha : ∀ a ∈ l, a.length ≤ 100000) (hm : MaxOk w) :
    Calls Tryz.prog 59 #[v] w fun e w' => FldsRead 104 w.heap.size (fldsL 0 l) e w' ∧ Below w.heap.size w w' := by
  obtain ⟨ao, cap, rfl⟩ := Reads.strs hr
  have HR := hid hr
  have HL := hid ha
  have HM := hid hm
  obtain ⟨R, hR⟩ : ∃ R, fldsL 0 l = R := ⟨_, rfl⟩
  rw [hR]
  have HRR := hid hR
  clear hr ha hm hR
  go_enter Tryz.func59, Tryz.ntmps59
  go_wp2
  go_loopw [4, 11] (fun v' i wr => ∃ (k : Nat) (acc : List Fld), k ≤ l.length ∧ k ≤ 64 ∧ acc.length = k ∧ i = .int .i64 k ∧ R = addL acc (fldsL k (l.drop k)) ∧ wr.ownsRow w.heap.size 104 2 v' k (fldCells acc) ∧ Below w.heap.size w wr) (fun _ i _ => l.length - (intOf i).toNat)
  case atStart =>
    refine ⟨0, [], Nat.zero_le _, by omega, rfl, rfl, ?_, World.ownsRow_nil _ _ _ _, Below.refl _ _⟩
    rw [← HRR.out, List.drop_zero]
    unfold addL
    cases fldsL 0 l <;> rfl
  case round =>
    obtain ⟨k, acc, hk, hk64, hacc, rfl, hRk, ho, hb⟩ := hrel
    have HRK := hid hRk
    have HA := hid hacc
    clear hRk hacc
    have hs := hb.size
    by_cases hlt : k < l.length
    · obtain ⟨a, hx⟩ : ∃ a, l[k]? = some a := ⟨_, List.getElem?_eq_getElem hlt⟩
      have hdr : l.drop k = a :: l.drop (k + 1) := by
        rw [List.drop_eq_getElem_cons hlt]
        obtain ⟨_, e⟩ := List.getElem?_eq_some_iff.1 hx
        rw [e]
      have hal := HL.out a (List.mem_of_getElem? hx)
      obtain ⟨b, off, cap', hv, hc⟩ := (HR.out.below hb).at_some (by rw [List.length_map]; omega)
      have hcell := hc k (strV a) (by rw [List.getElem?_map, hx]; rfl)
      rw [List.length_map] at hv
      cases hv
      have HD := hid hdr
      clear hx hdr hc
      have c1 := fun W h => readField_any a W h hal
      have hfl := fldL_code k a
      obtain ⟨code, hcode⟩ : ∃ c, codeF a = c := ⟨_, rfl⟩
      rw [hcode] at c1 hfl
      generalize nmF a = nm at c1 hfl
      generalize vlF a = vl at c1 hfl
      have C1 := hid c1
      have HF := hid hfl
      clear c1 hfl hcode hal
      by_cases h0 : code = 0
      · subst h0
        have hf2 : fldL k a = if 64 ≤ k then .error 22 else .ok (nm, vl) := by
          rcases HF.out with h | ⟨h, _⟩
          · exact h.2
          · rcases h with h | h <;> cases h
        have HF2 := hid hf2
        clear hf2 HF
        by_cases h64 : k = 64
        · subst h64
          have hRe : R = .error 22 := by rw [HRK.out, HD.out]; exact addL_err acc 64 a _ 22 (by rw [HF2.out]; rfl)
          subst hRe
          obtain ⟨aov, capv, rfl⟩ := ownsRow_form ho
          go_wp2_with fail
          refine (C1.out _ (HM.out.below hb)).mono ?_
          rintro e w1 ⟨rfl, hb1⟩
          go_wp2_with fail
          go_ret2
          exact ⟨⟨by decide, rfl⟩, chain2 (chain2 hb hs hb1) (chain2 hb hs hb1).size (below_alloc _ _)⟩
        · have hk' : (k : Int) < 64 := by omega
          have hne : ((k : Int) == 64) = false := by simp; omega
          have hRs : R = addL (acc ++ [(nm, vl)]) (fldsL (k + 1) (l.drop (k + 1))) := by rw [HRK.out, HD.out]; exact addL_step acc k a _ (nm, vl) (by rw [HF2.out, if_neg (by omega)])
          have HRS := hid hRs
          obtain ⟨aov, capv, rfl⟩ := ownsRow_form ho
          clear hRs h64
          go_wp2_with fail
          refine (C1.out _ (HM.out.below hb)).mono ?_
          rintro e w1 ⟨rfl, hb1⟩
          have hbn := chain2 hb hs hb1
          have ho1 := ho.below hb1
          have ho2 := ho1.alloc (.cells #[strV nm, strV vl] 104)
          have hbw := hbn.trans ((below_alloc w1 (.cells #[strV nm, strV vl] 104)).mono hbn.size)
          have hs2 := hbw.size
          clear hb1 hb hs ho ho1 hbn hcell
          go_wp2_with ((at_builtin; go_must (refine wpList_append_fld _ rfl _ _ 36 rfl w.heap.size 104 Tryz.underlying36 infoFld rfl (by decide) rfl ho2 (nm, vl) rfl (by first | rfl | simp) (by omega) hs2 ?_); intro v2 w3 hown3 hb3))
          go_roundw
          case rel => exact ⟨k + 1, acc ++ [(nm, vl)], hlt, by omega, by rw [List.length_append, HA.out]; rfl, by go_num, HRS.out, hown3, hbw.trans hb3⟩
          case measure => simp [intOf]; omega
      · have hq : code = 21 ∨ code = 22 := by
          rcases HF.out with h | h
          · exact absurd h.1 h0
          · exact h.1
        have hRe : R = .error code.toNat := by
          rw [HRK.out, HD.out]
          refine addL_err acc k a _ _ ?_
          rcases HF.out with h | h
          · exact absurd h.1 h0
          · exact h.2
        subst hRe
        have hn1 : (code == 0) = false := by simpa using h0
        have hn2 : (code != 0) = true := by simpa using h0
        have hcz : ((code.toNat : Nat) : Int) = code := by omega
        have hcn : code.toNat ≠ 0 := by omega
        have HQ := hid (And.intro hcz hcn)
        clear hq h0 hcz hcn HF
        go_wp2_with fail
        refine (C1.out _ (HM.out.below hb)).mono ?_
        rintro e w1 ⟨rfl, hb1⟩
        go_wp2_with fail
        go_ret2
        exact ⟨⟨HQ.out.2, by rw [HQ.out.1]; rfl⟩, chain2 (chain2 hb hs hb1) (chain2 hb hs hb1).size (below_alloc _ _)⟩
    · have hke : k = l.length := by omega
      have hRe : R = .ok acc := by
        rw [HRK.out, hke, List.drop_length]
        unfold addL fldsL
        simp
      subst hRe
      rw [← HA.out] at ho
      go_wp2_with fail
      go_ret2
      exact ⟨⟨_, rfl, ho⟩, hb⟩
end Go.Proofs.YtongceljdgmbdaaGreatDoor
