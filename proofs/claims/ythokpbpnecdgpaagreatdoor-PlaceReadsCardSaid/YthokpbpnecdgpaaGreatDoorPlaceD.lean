/-
  Contract of package place: clean.
-/
import Derived.Test.YthokpbpnecdgpaaGreatDoorPlaceQ
import Derived.Test.YthokpbpnecdgpaaGreatDoorAppStr
namespace Go.Pantry
open Go.RowKit
theorem clean_at {s : List UInt8} {k : Nat} {c : UInt8} (h : s[k]? = some c) : s.drop k = c :: s.drop (k + 1) := by
  obtain ⟨hlt, hg⟩ := List.getElem?_eq_some_iff.1 h
  have h3 := List.drop_eq_getElem_cons hlt
  rwa [hg] at h3
/-- so much is cleaned: the rest's answer decides -/
def CleanJ (s out : List UInt8) (k : Nat) (o : Option (List UInt8)) : Prop := o = (cleanL (s.drop k)).map (out ++ ·)
theorem CleanJ.start (s : List UInt8) : CleanJ s [] 0 (cleanL s) := by
  unfold CleanJ; rw [List.drop_zero]; cases cleanL s <;> rfl
theorem CleanJ.bad {s out : List UInt8} {k : Nat} {o : Option (List UInt8)} {c : UInt8} (h : CleanJ s out k o) (hk : s[k]? = some c) (hb : badC c = true) : o = none := by
  rw [h, clean_at hk, cleanL_bad _ hb]; rfl
theorem CleanJ.plain {s out : List UInt8} {k : Nat} {o : Option (List UInt8)} {c : UInt8} (h : CleanJ s out k o) (hk : s[k]? = some c) (hb : badC c = false) (h37 : c ≠ 37) : CleanJ s (out ++ [c]) (k + 1) o := by
  unfold CleanJ
  rw [h, clean_at hk, cleanL_plain _ hb h37]
  cases cleanL (s.drop (k + 1)) <;> simp
theorem CleanJ.esc {s out f : List UInt8} {k : Nat} {o : Option (List UInt8)} (h : CleanJ s out k o) (hk : s[k]? = some 37) (hf : digL (s.drop (k + 1)) = some f) : CleanJ s (out ++ f) (k + 3) o ∧ k + 3 ≤ s.length ∧ f.length ≤ 3 := by
  match hd : s.drop (k + 1), hf with
  | a :: b :: r, hf =>
    have hr : s.drop (k + 3) = r := by
      have : (s.drop (k + 1)).drop 2 = r := by rw [hd]; rfl
      rwa [List.drop_drop] at this
    have hlen : (s.drop (k + 1)).length = r.length + 2 := by rw [hd]; rfl
    rw [List.length_drop] at hlen
    simp only [digL] at hf
    cases ha : hexV a with
    | none => rw [ha] at hf; cases hf
    | some x =>
      cases hb : hexV b with
      | none => rw [ha, hb] at hf; cases hf
      | some y =>
        rw [ha, hb] at hf
        cases hf
        refine ⟨?_, by omega, ?_⟩
        · unfold CleanJ
          rw [h, clean_at hk, hd, cleanL_esc _ ha hb, hr]
          cases cleanL r <;> simp
        · unfold escB; split <;> simp
theorem CleanJ.wrong {s out : List UInt8} {k : Nat} {o : Option (List UInt8)} (h : CleanJ s out k o) (hk : s[k]? = some 37) (hf : digL (s.drop (k + 1)) = none) : o = none := by
  rw [h, clean_at hk]
  match hd : s.drop (k + 1), hf with
  | [], _ => rw [cleanL_short0]; rfl
  | [a], _ => rw [show cleanL [37, a] = none from by rw [cleanL]; simp]; rfl
  | a :: b :: r, hf =>
    simp only [digL] at hf
    cases ha : hexV a with
    | none => rw [cleanL_esc1 _ ha]; rfl
    | some x =>
      cases hb : hexV b with
      | none => rw [cleanL_esc2 _ hb]; rfl
      | some y => rw [ha, hb] at hf; cases hf
theorem CleanJ.done {s out : List UInt8} {k : Nat} {o : Option (List UInt8)} (h : CleanJ s out k o) (hk : s.length ≤ k) : o = some out := by
  rw [h, List.drop_eq_nil_of_le hk, cleanL_nil]; simp
end Go.Pantry
namespace Go.Proofs.YthokpbpnecdgpaaGreatDoor
open Go.RowKit Go.Pantry

set_option maxRecDepth 100000 in
theorem clean_any (s : ByteArray) (w : World) (hs : s.size ≤ 100000) (hE : ErrOk w) :
    Calls Tryz.prog 11 #[.string s] w fun e w' => e = .returned (.tuple #[strV ((cleanL s.data.toList).getD []), .bool (cleanL s.data.toList).isSome]) ∧ Below w.heap.size w w' := by
  have h0 := CleanJ.start s.data.toList
  obtain ⟨R, hR⟩ : ∃ R, cleanL s.data.toList = R := ⟨_, rfl⟩
  rw [hR] at h0 ⊢
  clear hR
  have H0 := hid h0
  have HE := hid hE
  clear h0 hE
  go_enter Tryz.func11, Tryz.ntmps11
  go_wp2
  go_loopw [4, 5] (fun v i wr => ∃ (k : Nat) (out : List UInt8), k ≤ s.size ∧ i = .int .i64 k ∧ wr.ownsRow w.heap.size 5 1 v out.length (out.map byteV) ∧ out.length ≤ k ∧ CleanJ s.data.toList out k R ∧ Below w.heap.size w wr) (fun _ i _ => s.size - (intOf i).toNat)
  case atStart => exact ⟨0, [], Nat.zero_le _, rfl, World.ownsRow_nil _ _ _ _, Nat.le_refl _, H0.out, Below.refl _ _⟩
  case round =>
    obtain ⟨k, out, hk, rfl, ho, hlen, hj, hb⟩ := hrel
    have HJ := hid hj
    have HO := hid ho
    clear hj ho
    by_cases hlt : k < s.size
    · obtain ⟨c, hc⟩ : ∃ c, s[k] = c := ⟨_, rfl⟩
      have hkc : s.data.toList[k]? = some c := by rw [← hc]; exact Lib.data_getElem? s k hlt
      have hci : ((s[k]'hlt).toNat : Int) = (c.toNat : Int) := by rw [hc]
      have hsz2 : w.heap.size ≤ wr.heap.size := hb.size
      have hk1 : k + 1 ≤ s.size := hlt
      by_cases hbad : badC c = true
      · have hr := HJ.out.bad hkc hbad
        have e : decide ((c.toNat : Int) < 33) = true ∨ (decide ((c.toNat : Int) < 33) = false ∧ decide (126 < (c.toNat : Int)) = true) ∨ (decide ((c.toNat : Int) < 33) = false ∧ decide (126 < (c.toNat : Int)) = false ∧ ((c.toNat : Int) == 35) = true) := by
          unfold badC at hbad
          rw [byte_beq c 35 (z := 35) rfl] at hbad
          simp only [Bool.or_eq_true, decide_eq_true_eq] at hbad
          simp only [decide_eq_true_eq, decide_eq_false_iff_not]
          by_cases h1 : c.toNat < 33
          · left; omega
          · by_cases h2 : 126 < c.toNat
            · right; left; constructor <;> omega
            · right; right
              refine ⟨by omega, by omega, ?_⟩
              rcases hbad with (h | h) | h
              · exact absurd h h1
              · exact absurd h h2
              · exact h
        subst hr
        clear hbad hkc hc HJ
        rcases e with e | ⟨e, e2⟩ | ⟨e, e2, e3⟩
        all_goals
          go_wp2
          go_ret2
          exact ⟨rfl, hb⟩
      · have hbad' : badC c = false := by simpa using hbad
        have e : decide ((c.toNat : Int) < 33) = false ∧ decide (126 < (c.toNat : Int)) = false ∧ ((c.toNat : Int) == 35) = false := by
          have h := hbad'
          unfold badC at h
          rw [byte_beq c 35 (z := 35) rfl] at h
          simp only [Bool.or_eq_false_iff, decide_eq_false_iff_not] at h
          simp only [decide_eq_false_iff_not]
          exact ⟨by omega, by omega, h.2⟩
        obtain ⟨e1, e2, e3⟩ := e
        by_cases h37 : c = 37
        · subst h37
          obtain ⟨D, hD⟩ : ∃ D, s.extract (k + 1) s.size = D := ⟨_, rfl⟩
          have hDl : D.data.toList = s.data.toList.drop (k + 1) := by
            rw [← hD, Lib.extract_eq, ← size_list]
            show (s.data.toList.drop (k + 1)).take _ = _
            exact List.take_of_length_le (by rw [List.length_drop]; exact Nat.le_refl _)
          have hDs : D.size < 4294967281 := by
            rw [← size_list, hDl, List.length_drop, size_list]; omega
          have C := fun W hW => ofDigits_any D W hDs hW
          rw [hDl] at C
          have he4 : (((37 : UInt8).toNat : Int) != 37) = false := by decide
          cases hdg : digL (s.data.toList.drop (k + 1)) with
          | none =>
            have hr := HJ.out.wrong hkc hdg
            subst hr
            rw [hdg] at C
            have HC := hid C
            have HE2 := hid (HE.out.below hb)
            clear C hdg hDl hDs hkc hc hbad hbad' HJ
            go_wp2_with (go_at_call 29; refine (HC.out _ HE2.out).mono ?_; rintro e w1 ⟨rfl, hb1⟩)
            go_ret2
            exact ⟨rfl, hb.trans (hb1.mono hb.size)⟩
          | some f =>
            have hstep := HJ.out.esc hkc hdg
            obtain ⟨hs1, hs2, hs3⟩ := hstep
            rw [size_list] at hs2
            have HS1 := hid hs1
            rw [hdg] at C
            have HC := hid C
            have HE2 := hid (HE.out.below hb)
            clear C hdg hDl hDs hkc hc hbad hbad' HJ hs1
            go_wp2_with (first
              | (go_at_call 29; refine (HC.out _ HE2.out).mono ?_; rintro e w1 ⟨rfl, hb1⟩; have ho1 := HO.out.below hb1)
              | (at_builtin; refine wpList_append_str _ rfl _ _ 48 9 rfl w.heap.size 5 Tryz.underlying48 Tryz.underlying9 infoU8 rfl ho1 rfl (by omega) (by have := hb1.size; omega) ?_; intro v2 w2 ho2 hb2))
            go_roundw
            case rel => exact ⟨k + 3, out ++ f, hs2, by go_num, row_text ho2 rfl, by simp; omega, HS1.out, (hb.trans (hb1.mono hb.size)).trans hb2⟩
            case measure => simp [intOf]; omega
        · have he4 : ((c.toNat : Int) != 37) = true := by
            rw [bne_iff_ne]; intro e; exact h37 (UInt8.toNat_inj.1 (by simpa using (by omega : c.toNat = 37)))
          have hs1 := HJ.out.plain hkc hbad' h37
          have HS1 := hid hs1
          have ho1 := HO.out.below (below_alloc wr (.cells #[.int .u8 (c.toNat : Int)] 5))
          clear hs1 hkc hc hbad hbad' HJ h37
          go_wp2_with (at_builtin; refine wpList_append_one _ rfl _ _ 48 rfl w.heap.size 5 Tryz.underlying48 infoU8 rfl (by decide) rfl HO.out rfl (by first | rfl | simp) (by omega) hsz2 ?_; intro v2 w2 ho2 hg2 hb2)
          go_roundw
          case rel => exact ⟨k + 1, out ++ [c], hk1, by go_num, by simpa using ho2, by simp; omega, HS1.out, hb.trans hb2⟩
          case measure => simp [intOf]; omega
    · have hr := HJ.out.done (by rw [size_list]; omega)
      subst hr
      have hcv := ownsRow_string (P := Tryz.prog) HO.out 48 9 Tryz.underlying48 Tryz.underlying5 Tryz.underlying9
      go_wp2
      go_ret2
      exact ⟨rfl, hb⟩
end Go.Proofs.YthokpbpnecdgpaaGreatDoor
