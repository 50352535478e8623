/-
  Several texts in one: SignGr, SignLw, SignLow, SignB, FieldB, FieldD, FieldE, RefSignA, RefSignTok, RefSignC, RefFieldEl, RefFieldE, SignA, SignTok, SignC, SignN, SignD, FieldH, FieldI.
-/
import Derived.Test.YtejdlplgkmelkaaGreatDoorProg
import Derived.Test.YtejdlplgkmelkaaGreatDoorShelf
import Derived.Test.YtejdlplgkmelkaaGreatDoorPureAll1
import Derived.Test.YtejdlplgkmelkaaGreatDoorF1202
set_option linter.unusedVariables false
set_option linter.unusedSimpArgs false
/-
  Contracts of the leaves of package sign: great.
-/
namespace Go.Proofs.YtejdlplgkmelkaaGreatDoor
open Go.RowKit Go.Pantry

theorem great_any (c : UInt8) (w : World) :
    Calls Tryz.prog 77 #[.int .u8 (c.toNat : Int)] w fun e w' => e = .returned (.bool (isUp c)) ∧ w = w' := by
  rw [← isUp_int]
  go_enter Tryz.func77, Tryz.ntmps77
  go_wp2
  all_goals go_ret
  all_goals exact ⟨ret_bool (by simp; try omega), rfl⟩

end Go.Proofs.YtejdlplgkmelkaaGreatDoor
/-
  Contract of package sign: Lower.
-/
namespace Go.Proofs.YtejdlplgkmelkaaGreatDoor
open Go.RowKit Go.Pantry

theorem Lower_any (s : ByteArray) (w : World) (hs : s.size ≤ maxLen) :
    Calls Tryz.prog 53 #[.string s] w fun e w' => e = .returned (.string ⟨(lowerL s.data.toList).toArray⟩) ∧ Below w.heap.size w w' := by
  unfold maxLen at hs
  have hcv := fun w' => run_bytes_of_string (P := Tryz.prog) w' 9 83 5 s Tryz.underlying9 Tryz.underlying83 Tryz.underlying5
  go_enter Tryz.func53, Tryz.ntmps53
  go_wp2
  clear hcv
  go_loopw [10] (fun i wr => ∃ k : Nat, k ≤ s.size ∧ i = .int .i64 k ∧ bytesAt wr w.heap.size (lowerL (s.data.toList.take k) ++ s.data.toList.drop k) ∧ Below w.heap.size w wr ∧ w.heap.size < wr.heap.size) (fun i _ => s.size - (intOf i).toNat)
  case atStart => exact ⟨0, Nat.zero_le _, rfl, bytesAt_row w s _ _, ((Below.refl _ _).alloc (Nat.le_refl _) _).drew, by simp⟩
  case round =>
    obtain ⟨k, hk, rfl, hby, hb, hsz⟩ := hrel
    have HY := hid hby
    clear hby
    by_cases hlt : k < s.size
    · have hcell : wr.cell? ⟨w.heap.size, k, none⟩ = some (.int .u8 (s[k].toNat : Int)) := HY.out.cell k _ (lower_mid s k hlt)
      have hfree : wr.frozen? ⟨w.heap.size, k, none⟩ = false := HY.out.free k (lower_len s k hlt)
      go_wp2_with (go_at_call 77; refine (great_any _ _).mono ?_; rintro e w' ⟨rfl, rfl⟩)
      · have hu : isUp s[k] = true := by assumption
        go_roundw
        case rel =>
          refine ⟨k + 1, by omega, by go_num, ?_, hb.setCell (by simp) _, by simpa [World.setCell] using hsz⟩
          rw [low_int hu, ← lower_step s k hlt]
          exact HY.out.set k (lower_len s k hlt) _
        case measure => simp [intOf]; omega
      · have hu : isUp s[k] = false := by assumption
        go_roundw
        case rel => exact ⟨k + 1, by omega, by go_num, by rw [← lower_same s k hlt hu]; exact HY.out, hb, hsz⟩
        case measure => simp [intOf]; omega
    · have hback := HY.out.back 83 9 5 s.size (grownCap w s.size 0 5) (by simp [lowerL]; omega) Tryz.underlying83 Tryz.underlying5 Tryz.underlying9
      go_wp2
      go_ret
      refine ⟨ret_str ?_, hb⟩
      rw [take_all s k hlt, drop_nil s k hlt, List.append_nil]
end Go.Proofs.YtejdlplgkmelkaaGreatDoor
/-
  Contract of package sign: Same.
-/
namespace Go.Proofs.YtejdlplgkmelkaaGreatDoor
open Go.RowKit Go.Pantry

theorem Same_any (s t : ByteArray) (w : World) (hs : s.size ≤ maxLen) (ht : t.size ≤ maxLen) :
    Calls Tryz.prog 76 #[.string s, .string t] w fun e w' => e = .returned (.bool (lowerL s.data.toList == lowerL t.data.toList)) ∧ Below w.heap.size w w' := by
  go_enter Tryz.func76, Tryz.ntmps76
  go_wp2_with fail
  refine (Lower_any _ _ hs).mono ?_
  rintro e w1 ⟨rfl, hb1⟩
  go_wp2_with fail
  refine (Lower_any _ _ ht).mono ?_
  rintro e w2 ⟨rfl, hb2⟩
  go_wp2_with fail
  go_ret
  refine ⟨ret_bool ?_, hb1.trans (hb2.mono hb1.size)⟩
  simp
end Go.Proofs.YtejdlplgkmelkaaGreatDoor
/-
  Contracts of package sign: Trim.
-/
namespace Go.Proofs.YtejdlplgkmelkaaGreatDoor
open Go.RowKit Go.Pantry


theorem Trim_any (s : ByteArray) (w : World) (hs : s.size ≤ maxLen) :
    Calls Tryz.prog 90 #[.string s] w fun e w' => e = .returned (.string ⟨(trimL s.data.toList).toArray⟩) ∧ Below w.heap.size w w' := by
  unfold maxLen at hs
  go_enter Tryz.func90, Tryz.ntmps90
  go_wp2_with (go_at_call 112; refine (Tryz.strings_Trim s ⟨#[32, 9]⟩ _ (by omega) (by decide) (ascii_of_all (by decide))).mono ?_; rintro e w' ⟨rfl, hb⟩)
  go_ret
  exact ⟨rfl, hb⟩

end Go.Proofs.YtejdlplgkmelkaaGreatDoor
/-
  Contracts of package field: called.
-/
namespace Go.Proofs.YtejdlplgkmelkaaGreatDoor
open Go.RowKit Go.Pantry

/-- fields that can be gone through with -/
def okFs (L : List Fld) : Prop := L.length ≤ 1000 ∧ ∀ f ∈ L, f.1.length ≤ 100000 ∧ f.2.length ≤ 100000

theorem infoFld : (Tryz.prog.info? 46).map (fun i => (i.zero, i.size, i.bytes)) = some (some (.agg #[.string ⟨#[]⟩, .string ⟨#[]⟩]), 2, 32) := by kernel_rfl

theorem called_any (f : Fld) (vn : Value) (ns : List (List UInt8)) (w : World) (h : f.1.length ≤ 100000) (hn : Reads w vn (ns.map strV)) (hns : ns.length ≤ 1000 ∧ ∀ n ∈ ns, n.length ≤ 9223372036854775807) :
    Calls Tryz.prog 84 #[fldV f, vn] w fun e w' => e = .returned (.bool (ns.any fun n => isF n f)) ∧ Below w.heap.size w w' := by
  obtain ⟨a, b⟩ := f
  obtain ⟨hl, hns⟩ := hns
  simp only at h
  obtain ⟨ao, cap, rfl⟩ := Reads.strs hn
  obtain ⟨r, hr⟩ : ∃ r, (ns.any fun n => isF n (a, b)) = r := ⟨_, rfl⟩
  rw [hr]
  have HN := hid hn
  have HNS := hid hns
  have HRR := hid hr
  clear hn hns hr
  go_enter Tryz.func84, Tryz.ntmps84
  go_wp2_with fail
  have hbW := below_alloc w (.cells #[strV a, strV b] 46)
  have hx : (w.alloc (.cells #[strV a, strV b] 46)).cell? ⟨w.heap.size, 0, none⟩ = some (strV a) := by rw [World.cell?_alloc_at _ _ _ _ rfl]; rfl
  generalize w.alloc (.cells #[strV a, strV b] 46) = W at hbW hx ⊢
  have HX := hid hx
  clear hx
  go_loopw [9] (fun i wr => ∃ (k : Nat), k ≤ ns.length ∧ i = .int .i64 k ∧ ((ns.take k).any fun n => isF n (a, b)) = false ∧ Below W.heap.size W wr) (fun i _ => ns.length - (intOf i).toNat)
  case atStart => exact ⟨0, Nat.zero_le _, rfl, rfl, Below.refl _ _⟩
  case round =>
    obtain ⟨k, hk, rfl, ha, hb⟩ := hrel
    have HA := hid ha
    clear ha
    by_cases hlt : k < ns.length
    · obtain ⟨n, hn⟩ : ∃ n, ns[k]? = some n := ⟨_, List.getElem?_eq_getElem hlt⟩
      obtain ⟨b', off, rfl, hc⟩ := Reads.str (HN.out.below (hbW.trans (hb.mono hbW.size))) hn
      have x1 := (hb.cell (p := ⟨w.heap.size, 0, none⟩) (World.block_lt_of_cell? W _ HX.out)).trans HX.out
      have hnl := HNS.out n (List.mem_of_getElem? hn)
      have HM := hid (List.mem_of_getElem? hn)
      have HT := hid (take_str hn)
      clear hn
      have cs := fun W => Same_any ⟨a.toArray⟩ ⟨n.toArray⟩ W (by rw [szL]; unfold maxLen; omega) (by rw [szL]; unfold maxLen; omega)
      rw [dtL, dtL] at cs
      obtain ⟨q, hq⟩ : ∃ q, (lowerL a == lowerL n) = q := ⟨_, rfl⟩
      rw [hq] at cs
      have CS := hid cs
      have HQ : Hid (isF n (a, b) = q) := hid hq
      clear cs hq
      cases q
      · go_wp2_with fail
        refine (CS.out _).mono ?_
        rintro e w2 ⟨rfl, hb2⟩
        go_wp2_with fail
        go_roundw
        case rel => exact ⟨k + 1, hlt, by go_num, by rw [HT.out, List.any_append, HA.out]; simp [HQ.out], chain2 hb hb.size hb2⟩
        case measure => simp [intOf]; omega
      · obtain rfl : r = true := by rw [← HRR.out]; exact List.any_eq_true.2 ⟨n, HM.out, HQ.out⟩
        go_wp2_with fail
        refine (CS.out _).mono ?_
        rintro e w2 ⟨rfl, hb2⟩
        go_wp2_with fail
        go_ret
        exact ⟨rfl, hbW.trans ((chain2 hb hb.size hb2).mono hbW.size)⟩
    · have hke : ns.take k = ns := List.take_of_length_le (by omega)
      obtain rfl : r = false := by rw [← HRR.out, ← hke]; exact HA.out
      clear hke
      go_wp2_with fail
      go_ret
      exact ⟨rfl, hbW.trans (hb.mono hbW.size)⟩
end Go.Proofs.YtejdlplgkmelkaaGreatDoor
/-
  Contracts of package field: All.
-/
namespace Go.Proofs.YtejdlplgkmelkaaGreatDoor
open Go.RowKit Go.Pantry

set_option maxHeartbeats 1000000 in
theorem lAll_any (v : Value) (L : List Fld) (n : ByteArray) (w : World) (hr : Reads2 w v L) (hk : okFs L) (hn : n.size ≤ 100000) :
    Calls Tryz.prog 64 #[v, .string n] w fun e w' => MadeStrs 9 w.heap.size (allF L n.data.toList) e w' ∧ Below w.heap.size w w' := by
  obtain ⟨ao, cap, rfl⟩ := hr.form
  obtain ⟨N, rfl⟩ := as_list n
  rw [szL] at hn
  rw [dtL]
  obtain ⟨hl, hv⟩ := hk
  have HR := hid hr
  have HV := hid hv
  clear hr hv
  go_enter Tryz.func64, Tryz.ntmps64
  go_wp2
  go_loopw [5, 10] (fun v' i wr => ∃ (k m : Nat), k ≤ L.length ∧ m ≤ k ∧ m = (allF (L.take k) N).length ∧ i = .int .i64 k ∧ wr.ownsRow w.heap.size 9 1 v' m ((allF (L.take k) N).map strV) ∧ Below w.heap.size w wr) (fun _ i _ => L.length - (intOf i).toNat)
  case atStart => exact ⟨0, 0, Nat.zero_le _, Nat.le_refl _, rfl, rfl, World.ownsRow_nil _ _ _ _, Below.refl _ _⟩
  case round =>
    obtain ⟨k, m, hk, hm, hml, rfl, ho, hb⟩ := hrel
    have HML := hid hml
    clear hml
    by_cases hlt : k < L.length
    · obtain ⟨f, hf⟩ : ∃ f, L[k]? = some f := ⟨_, List.getElem?_eq_getElem hlt⟩
      obtain ⟨b, off, rfl, hc1, hc2⟩ := (HR.out.below hb).fld hf
      have hfl := (HV.out f (List.mem_of_getElem? hf)).1
      have HT := hid (take_fld hf)
      clear hf
      have hst := allF_snoc (L.take k) N f
      rw [← HT.out] at hst
      obtain ⟨q, hq⟩ : ∃ q, isF N f = q := ⟨_, rfl⟩
      have cI := fun W vn h => called_any f vn [N] W hfl h ⟨by simp, by simp; omega⟩
      simp only [any_one, hq] at cI
      rw [hq] at hst
      have CI := hid cI
      have HS := hid hst
      clear cI hst hq
      obtain ⟨W, hW, hbW, hsW, hx1, hx2⟩ := box2 wr f 46
      have hbw := chain2 hb hb.size hbW
      replace ho := ho.below hbW
      obtain ⟨X, hX⟩ : ∃ X, X = W.alloc (.cells #[strV N] 9) := ⟨_, rfl⟩
      have hbX : Below W.heap.size W X := by rw [hX]; exact below_alloc _ _
      have hrX : Reads X (.slice (some ⟨wr.heap.size + 1, 0, none⟩) 1 1) ([N].map strV) := by rw [← hsW, hX]; exact reads_one W N 9 1
      have hbx := chain2 hbw hbw.size hbX
      replace ho := ho.below hbX
      replace hx2 := kept hx2 hbX
      clear hbW hbw hbX hb hx1 hsW
      cases q
      · go_wp2_with fail
        rw [← hW, ← hX]
        clear hW hX
        refine (CI.out _ _ hrX).mono ?_
        rintro e w2 ⟨rfl, hb2⟩
        have hbn := chain2 hbx hbx.size hb2
        have ho2 := ho.below hb2
        clear hb2 hc1 hc2 hx2 ho hrX
        go_wp2_with fail
        go_roundw
        case rel => exact ⟨k + 1, m, hlt, by omega, by rw [HS.out, HML.out]; simp, by go_num, by rw [HS.out]; simpa using ho2, hbn⟩
        case measure => simp [intOf]; omega
      · go_wp2_with fail
        rw [← hW, ← hX]
        clear hW hX
        refine (CI.out _ _ hrX).mono ?_
        rintro e w2 ⟨rfl, hb2⟩
        have hbn := chain2 hbx hbx.size hb2
        have ho2 := ho.below hb2
        have hs2 := hbn.size
        have hd2 := kept hx2 hb2
        clear hb2 hc1 hc2 hx2 ho hrX
        go_wp2_with ((at_builtin; go_must (refine wpList_append_one _ rfl _ _ 22 rfl w.heap.size 9 Tryz.underlying22 infoStr rfl (by decide) rfl ho2 rfl (by first | rfl | simp) (by omega) hs2 ?_); intro v' w3 hown3 hg3 hb3))
        go_roundw
        case rel => exact ⟨k + 1, m + 1, hlt, by omega, by rw [HS.out, HML.out]; simp, by go_num, by rw [HS.out]; simpa using hown3, hbn.trans hb3⟩
        case measure => simp [intOf]; omega
    · have hk2 : L.take k = L := List.take_of_length_le (by omega)
      have HM2 : Hid (m = (allF L N).length) := by have h := HML.out; rw [hk2] at h; exact hid h
      rw [hk2] at ho
      clear hk2
      go_wp2
      go_ret
      exact ⟨⟨_, rfl, by rw [← HM2.out]; exact ho⟩, hb⟩
end Go.Proofs.YtejdlplgkmelkaaGreatDoor
/-
  Contracts of package field: Get.
-/
namespace Go.Proofs.YtejdlplgkmelkaaGreatDoor
open Go.RowKit Go.Pantry

theorem joinC_inter : ∀ l : List (List UInt8), Lib.join l [44, 32] = joinC l
  | [] => rfl
  | [a] => by simp [Lib.join, joinC]
  | a :: b :: r => by
    have h := joinC_inter (b :: r)
    unfold Lib.join at h ⊢
    show [44, 32].intercalate (a :: b :: r) = a ++ 44 :: 32 :: joinC (b :: r)
    rw [← h]
    simp [List.intercalate]
/-- strings.Join of a slice that the call made, with ", " -/
theorem join_made {B : Nat} {e : TypeId} (v : Value) (l : List (List UInt8)) (w : World) (ho : w.ownsRow B e 1 v l.length (l.map strV)) (hl : l.length ≤ 140737488355328) (hj : (joinC l).length ≤ 140737488355328) :
    Calls Tryz.prog 65 #[v, .string ⟨#[44, 32]⟩] w fun e w' => e = .returned (strV (joinC l)) ∧ Below w.heap.size w w' := by
  rcases ho.2 with ⟨rfl, hn⟩ | ⟨g, cap, cur, rfl, hb, hg, hnc, hcm, hcs, htake⟩
  · have : l = [] := List.eq_nil_of_length_eq_zero hn
    subst this
    refine (Tryz.strings_Join_none none 0 ⟨#[44, 32]⟩ w).mono ?_
    rintro e w' ⟨rfl, rfl⟩
    exact ⟨rfl, Below.refl _ _⟩
  · have hx : (l.map fun x => (⟨x.toArray⟩ : ByteArray)).map (·.data.toList) = l := by rw [List.map_map]; exact List.map_id' _
    have hxl : (l.map fun x => (⟨x.toArray⟩ : ByteArray)).length = l.length := by simp
    have c := Tryz.strings_Join g 0 cap (l.map fun x => (⟨x.toArray⟩ : ByteArray)) ⟨#[44, 32]⟩ w (fun j x hx => by
        have h1 := ho.row.cell j (.string x) (by
          rw [List.getElem?_map, Option.map_eq_some_iff] at hx
          obtain ⟨y, hy, rfl⟩ := hx
          rw [List.getElem?_map, hy]; rfl)
        rw [Nat.zero_add]; exact h1) (Array.getElem?_eq_some_iff.1 hg).1 (by omega) (by omega) (by
        rw [hx]
        show (Lib.join l [44, 32]).length ≤ _
        rw [joinC_inter]; exact hj)
    rw [hx, hxl] at c
    refine c.mono ?_
    rintro e w' ⟨rfl, hb'⟩
    refine ⟨?_, hb'⟩
    show Ending.returned (strV (Lib.join l [44, 32])) = _
    rw [joinC_inter]

theorem lGet_any (v : Value) (L : List Fld) (n : ByteArray) (w : World) (hr : Reads2 w v L) (hk : okFs L) (hn : n.size ≤ 100000) :
    Calls Tryz.prog 39 #[v, .string n] w fun e w' => e = .returned (.tuple #[strV (getF L n.data.toList), .bool (!(allF L n.data.toList).isEmpty)]) ∧ Below w.heap.size w w' := by
  have c1 := fun W h => lAll_any v L n W h hk hn
  have hg : getF L n.data.toList = joinC (allF L n.data.toList) := rfl
  have hgl := getF_len (L := L) (n := n.data.toList) (fun f hf => (hk.2 f hf).2) hk.1
  have hal := allF_len L n.data.toList
  have hk1 := hk.1
  generalize allF L n.data.toList = T at c1 hg hal ⊢
  generalize getF L n.data.toList = G at hg hgl ⊢
  have hT : (!T.isEmpty) = decide (0 < T.length) := by cases T <;> simp
  rw [hT]
  subst hg
  have cj := fun W B v h => join_made (B := B) (e := 9) v T W h (by omega) (by omega)
  generalize joinC T = J at cj ⊢
  have C1 := hid c1
  have CJ := hid cj
  have HR := hid hr
  clear c1 cj hr hk hgl hT
  go_enter Tryz.func39, Tryz.ntmps39
  go_wp2_with fail
  refine (C1.out _ HR.out).mono ?_
  rintro e w1 ⟨⟨v', rfl, ho⟩, hb1⟩
  obtain ⟨ao, cap, rfl⟩ := Reads.strs ho.reads
  go_wp2_with fail
  refine (CJ.out _ _ _ ho).mono ?_
  rintro e w2 ⟨rfl, hb2⟩
  go_wp2_with fail
  go_ret2
  exact ⟨rfl, chain2 hb1 hb1.size hb2⟩
end Go.Proofs.YtejdlplgkmelkaaGreatDoor
/-
  Contracts of the document's answers of layer 1: Letter, Sign, Token, blank, Trim.
-/
namespace Go.Proofs.YtejdlplgkmelkaaGreatDoor
open Go.RowKit Go.Pantry

theorem refblank_any (c : UInt8) (w : World) :
    Calls Tryz.prog 121 #[.int .u8 (c.toNat : Int)] w fun e w' => e = .returned (.bool (isBl c)) ∧ w = w' := by
  go_enter Tryz.func121, Tryz.ntmps121
  go_wp2
  all_goals go_ret
  all_goals exact ⟨ret_bool (by rw [Bool.eq_iff_iff]; simp [isBl]; omega), rfl⟩

theorem refTrim_any (s : ByteArray) (w : World) (hs : s.size ≤ maxLen) :
    Calls Tryz.prog 105 #[.string s] w fun e w' => e = .returned (.string ⟨(trimL s.data.toList).toArray⟩) ∧ w = w' := by
  unfold maxLen at hs
  go_enter Tryz.func105, Tryz.ntmps105
  go_wp2
  go_loop [3] (fun i => ∃ k : Nat, k ≤ s.size ∧ i = .int .i64 k ∧ ∀ (j : Nat) x, j < k → s.data.toList[j]? = some x → isBl x = true) (fun i => s.size - (intOf i).toNat)
  case atStart => exact ⟨0, Nat.zero_le _, rfl, fun j x hj => absurd hj (Nat.not_lt_zero _)⟩
  case round =>
    obtain ⟨k, hk, rfl, hall⟩ := hrel
    have HA := hid hall
    clear hall
    go_wp2_with (go_at_call 121; refine (refblank_any _ _).mono ?_; rintro e w' ⟨rfl, rfl⟩)
    · have h : isBl s[k] = true := by assumption
      go_round
      case rel => exact ⟨k + 1, by omega, by go_num, by
        intro j x hj hx
        by_cases e : j < k
        · exact HA.out j x e hx
        · obtain ⟨_, rfl⟩ := some_list s j x hx
          obtain rfl : j = k := by omega
          exact h⟩
      case measure => simp [intOf]; omega
    all_goals
      have HS : Hid (∀ x, s.data.toList[k]? = some x → isBl x = false) := by
        intro x hx
        obtain ⟨_, rfl⟩ := some_list s k x hx
        first | assumption | omega
      (try (rename isBl s[k] = false => h0; clear h0))
      go_loop [4] (fun i => ∃ m : Nat, k ≤ m ∧ m ≤ s.size ∧ i = .int .i64 m ∧ ∀ (j : Nat) x, m ≤ j → s.data.toList[j]? = some x → isBl x = true) (fun i => (intOf i).toNat - k)
      case atStart => exact ⟨s.size, by omega, Nat.le_refl _, rfl, fun j x hj hx => by obtain ⟨_, _⟩ := some_list s j x hx; omega⟩
      case round =>
        obtain ⟨m, hm1, hm2, rfl, hall⟩ := hrel
        have HB := hid hall
        clear hall
        go_wp2_with (go_at_call 121; refine (refblank_any _ _).mono ?_; rintro e w' ⟨rfl, rfl⟩)
        all_goals first
          | (have h : isBl s[m - 1] = true := by assumption
             go_round
             case rel => exact ⟨m - 1, by omega, by omega, by go_num, fun j x hj hx => by
               by_cases e : m ≤ j
               · exact HB.out j x e hx
               · obtain ⟨_, rfl⟩ := some_list s j x hx
                 obtain rfl : j = m - 1 := by omega
                 exact h⟩
             case measure => simp [intOf]; omega)
          | (go_ret
             refine ⟨ret_str ?_, rfl⟩
             rw [Lib.extract_eq, trim_of _ k m hm1 (by rw [size_list]; exact hm2) HA.out HB.out (fun _ => HS.out) (fun _ x hx => by
               obtain ⟨_, rfl⟩ := some_list s (m - 1) x hx
               first | assumption | omega)])
end Go.Proofs.YtejdlplgkmelkaaGreatDoor
/-
  The document's answers of layer 1: Letter, Sign, Token.
-/
namespace Go.Proofs.YtejdlplgkmelkaaGreatDoor
open Go.RowKit Go.Pantry

theorem refLetter_any (c : UInt8) (w : World) :
    Calls Tryz.prog 155 #[.int .u8 (c.toNat : Int)] w fun e w' => e = .returned (.bool (isLow c || isUp c || isDig c)) ∧ w = w' := by
  go_enter Tryz.func155, Tryz.ntmps155
  go_wp2
  all_goals go_ret
  all_goals exact ⟨ret_bool (by rw [Bool.eq_iff_iff]; simp [isLow, isUp, isDig]; omega), rfl⟩

theorem refSign_any (c : UInt8) (w : World) :
    Calls Tryz.prog 144 #[.int .u8 (c.toNat : Int)] w fun e w' => e = .returned (.bool (isTok c)) ∧ w = w' := by
  go_enter Tryz.func144, Tryz.ntmps144
  go_wp2_with (go_at_call 155; refine (refLetter_any _ _).mono ?_; rintro e w' ⟨rfl, rfl⟩)
  all_goals go_ret
  all_goals exact ⟨ret_bool (by simp only [beq_iff_eq, beq_eq_false_iff_ne] at *; rw [Bool.eq_iff_iff, isTok_of, marks_int]; simp [isLow, isUp, isDig]; omega), rfl⟩

theorem refToken_any (s : ByteArray) (w : World) (hs : s.size ≤ maxLen) :
    Calls Tryz.prog 122 #[.string s] w fun e w' => e = .returned (.bool (tokenL s.data.toList)) ∧ w = w' := by
  unfold maxLen at hs
  go_enter Tryz.func122, Tryz.ntmps122
  go_wp2
  go_loop [3] (fun i => ∃ k : Nat, k ≤ s.size ∧ i = .int .i64 k ∧ (s.data.toList.take k).all isTok = true) (fun i => s.size - (intOf i).toNat)
  case atStart => exact ⟨0, Nat.zero_le _, rfl, rfl⟩
  case round =>
    obtain ⟨k, hk, rfl, hall⟩ := hrel
    have HA := hid hall
    clear hall
    by_cases hlt : k < s.size
    · go_wp2_with (go_at_call 144; refine (refSign_any _ _).mono ?_; rintro e w' ⟨rfl, rfl⟩)
      · go_ret
        have h : isTok s[k] = false := by simpa using (by assumption : (!isTok s[k]) = true)
        exact ⟨ret_bool (tokenL_no s k hlt h).symm, rfl⟩
      · have h : isTok s[k] = true := by simpa using (by assumption : (!isTok s[k]) = false)
        go_round
        case rel => exact ⟨k + 1, by omega, by go_num, by rw [take_succ_list s k hlt, List.all_append, HA.out]; simp [h]⟩
        case measure => simp [intOf]; omega
    · go_wp2
      go_ret
      refine ⟨ret_bool ?_, rfl⟩
      have e : s.data.toList.all isTok = true := by rw [← take_all s k hlt]; exact HA.out
      rw [tokenL, e, Bool.true_and, not_isEmpty_int]; simp
end Go.Proofs.YtejdlplgkmelkaaGreatDoor
/-
  Contracts of the document's answers of layer 1: quoted, List.
-/
namespace Go.Proofs.YtejdlplgkmelkaaGreatDoor
open Go.RowKit Go.Pantry


theorem refquoted_any (s : ByteArray) (w : World) (hs : s.size < 4294967296) :
    Calls Tryz.prog 104 #[.string s] w fun e w' => ∃ v, e = .returned v ∧ Reads w' v ((qd false false s.data.toList).map Value.bool) ∧ Below w.heap.size w w' := by
  go_enter Tryz.func104, Tryz.ntmps104
  go_wp2_with (at_make; go_must (refine Go.Pantry.wpList_make_row _ rfl _ _ 141 rfl 4 Tryz.underlying141 infoBool rfl (by decide) _ _ _ _ s.size rfl rfl rfl rfl hs ?_); intro w1 xs hxs hrow hlt1 hb1)
  go_loopw [4, 5, 6] (fun vi vs i wr => ∃ (k : Nat) (R : List Value), k ≤ s.size ∧ i = .int .i64 k ∧ vi = .bool (stIn false false (s.data.toList.take k)).1 ∧ vs = .bool (stIn false false (s.data.toList.take k)).2 ∧ R.length = s.size - k ∧ blockAt wr w.heap.size ((qd false false (s.data.toList.take k)).map Value.bool ++ R) ∧ Below w.heap.size w wr ∧ w.heap.size < wr.heap.size) (fun _ _ i _ => s.size - (intOf i).toNat)
  case atStart => exact ⟨0, xs, Nat.zero_le _, rfl, rfl, rfl, by omega, by simpa [qd] using hrow, hb1, hlt1⟩
  case round =>
    obtain ⟨k, R, hk, rfl, rfl, rfl, hR, hrw, hb, hsz⟩ := hrel
    obtain ⟨bi, hbi⟩ : ∃ b, b = (stIn false false (s.data.toList.take k)).1 := ⟨_, rfl⟩
    obtain ⟨bs, hbs⟩ : ∃ b, b = (stIn false false (s.data.toList.take k)).2 := ⟨_, rfl⟩
    rw [← hbi, ← hbs]
    have HI := hid hbi
    have HS := hid hbs
    have HR := hid hrw
    have HL := hid hR
    clear hbi hbs hrw hR
    by_cases hlt : k < s.size
    · have hlen : k < ((qd false false (s.data.toList.take k)).map Value.bool ++ R).length := by simp [qd_length, HL.out]; omega
      have hfree : wr.frozen? ⟨w.heap.size, k, none⟩ = false := HR.out.free k hlen
      have hcell := HR.out.cell k _ (List.getElem?_eq_getElem hlen)
      have hA : ((qd false false (s.data.toList.take k)).map Value.bool).length = k := by simp [qd_length]; omega
      have hRp : 0 < R.length := by rw [HL.out]; omega
      obtain ⟨u0, hu0⟩ : ∃ u, u = ((qd false false (s.data.toList.take k)).map Value.bool ++ R)[k]'hlen := ⟨_, rfl⟩
      rw [← hu0] at hcell
      clear hu0
      have HB := hid (byte_beq s[k] 34 (z := 34) rfl)
      have HC := hid (byte_beq s[k] 92 (z := 92) rfl)
      have HA := hid hA
      clear hA hlen
      cases bi <;> cases bs
      all_goals go_wp2
      all_goals
        go_roundw
        case rel =>
          refine ⟨k + 1, R.tail, by omega, by go_num, ?_, ?_, by simp [HL.out]; omega, ?_, hb.setCell (by simp) _, by simpa [World.setCell] using hsz⟩
          · rw [take_succ_list s k hlt, stIn_snoc, ← HI.out, ← HS.out]; simp [nextIn, HB.out, HC.out, *]
          · rw [take_succ_list s k hlt, stIn_snoc, ← HI.out, ← HS.out]; simp [nextSkip, HC.out, *]
          · have h := HR.out.set k (by simp [qd_length, HL.out]; omega)
            rw [take_succ_list s k hlt, qd_snoc1, List.map_append, ← HI.out]
            simp only [set_mid _ _ k _ HA.out hRp] at h
            simpa [HB.out, *] using h _
        case measure => simp [intOf]; omega
    · go_wp2
      go_ret
      refine ⟨_, rfl, ?_, hb⟩
      have h := HR.out
      have hR0 : R = [] := List.eq_nil_of_length_eq_zero (by rw [HL.out]; omega)
      rw [hR0, List.append_nil, take_all s k hlt] at h
      have hl : ((qd false false s.data.toList).map Value.bool).length = s.size := by simp [qd_length]
      have := h.reads s.size
      rw [hl] at this
      exact this

theorem refList_any (s : ByteArray) (w : World) (hs : s.size < 4294967295) :
    Calls Tryz.prog 80 #[.string s] w fun e w' => ∃ v, e = .returned v ∧ w'.ownsRow w.heap.size 9 1 v (listL s.data.toList).length ((listL s.data.toList).map strV) ∧ Below w.heap.size w w' := by
  go_enter Tryz.func80, Tryz.ntmps80
  go_wp2_with fail
  refine (refquoted_any s _ (by omega)).mono ?_
  rintro e w1 ⟨vq, rfl, hrd, hb0⟩
  obtain ⟨aq, cq, rfl, hcq, -⟩ := hrd
  have hl : ((qd false false s.data.toList).map Value.bool).length = s.size := by simp [qd_length]
  rw [hl]
  have HQ := hid hcq
  clear hcq hl
  go_wp2
  go_loopw [4, 5, 6] (fun v la i wr => ∃ (k a : Nat) (E : List (List UInt8)), k ≤ s.size + 1 ∧ i = .int .i64 k ∧ la = .int .i64 a ∧ a ≤ k ∧ k ≤ a + cut false false (s.data.toList.drop a) ∧ (qd false false s.data.toList).drop a = qd false false (s.data.toList.drop a) ∧ E.length ≤ k ∧ E ++ listL (s.data.toList.drop a) = listL s.data.toList ∧ wr.ownsRow w1.heap.size 9 1 v E.length (E.map strV) ∧ Below w1.heap.size w1 wr) (fun _ _ i _ => s.size + 1 - (intOf i).toNat)
  case atStart => exact ⟨0, 0, [], Nat.zero_le _, rfl, rfl, Nat.le_refl _, Nat.zero_le _, rfl, Nat.le_refl _, rfl, World.ownsRow_nil _ _ _ _, Below.refl _ _⟩
  case round =>
    obtain ⟨k, a, E, hk, rfl, rfl, hak, hka, hqd, hEk, hE, hown, hb⟩ := hrel
    have HE := hid hE
    have HD := hid hqd
    clear hE hqd
    have hB := hb.size
    by_cases hin : k < s.size ∧ k < a + cut false false (s.data.toList.drop a)
    · obtain ⟨hlt, hin⟩ := hin
      by_cases hc : s[k] = 44
      · have hq := qd_within _ a k HD.out hak hin (by rw [List.getElem?_eq_getElem (by rw [size_list]; exact hlt), getElem_list s k hlt, hc])
        obtain ⟨b, off, haq, hcell⟩ := HQ.out k (.bool true) (by rw [List.getElem?_map, hq]; rfl)
        subst haq
        have hcw := (hb.cell (p := ⟨b, off + k, none⟩) (World.block_lt_of_cell? w1 _ hcell)).trans hcell
        have hz : ((s[k].toNat : Int) != 44) = false := by rw [hc]; rfl
        have hc' := hid hc
        clear hc hcell
        go_wp2
        go_roundw
        case rel => exact ⟨k + 1, a, E, by omega, by go_num, rfl, by omega, by omega, HD.out, by omega, HE.out, hown, hb⟩
        case measure => simp [intOf]; omega
      · have hz : ((s[k].toNat : Int) != 44) = true := by
          rw [bne_iff_ne]; intro e; exact hc (UInt8.toNat_inj.1 (by simp; omega))
        clear hc
        go_wp2
        go_roundw
        case rel => exact ⟨k + 1, a, E, by omega, by go_num, rfl, by omega, by omega, HD.out, by omega, HE.out, hown, hb⟩
        case measure => simp [intOf]; omega
    · by_cases hend : k ≤ s.size
      · have hca : a + cut false false (s.data.toList.drop a) ≤ s.size ∨ s.size < a := by
          have := cut_le (s.data.toList.drop a) false false
          rw [List.length_drop, size_list] at this; omega
        have hkc : k = a + cut false false (s.data.toList.drop a) := by omega
        have HK := hid hkc
        clear hkc hca
        have HDK : Hid ((qd false false s.data.toList).drop (k + 1) = qd false false (s.data.toList.drop (k + 1))) := by
          by_cases hlt : k < s.size
          · exact (qd_end _ a k HD.out HK.out (by rw [size_list]; exact hlt)).2.2
          · show _ = _
            rw [List.drop_eq_nil_of_le (by rw [qd_length, size_list]; omega), drop_nil s (k + 1) (by omega)]; rfl
        clear hin
        by_cases hlt : k < s.size
        case' pos =>
          obtain ⟨hc, hq, -⟩ := qd_end _ a k HD.out HK.out (by rw [size_list]; exact hlt)
          obtain ⟨b, off, haq, hcell⟩ := HQ.out k (.bool false) (by rw [List.getElem?_map, hq]; rfl)
          subst haq
          have hcw := (hb.cell (p := ⟨b, off + k, none⟩) (World.block_lt_of_cell? w1 _ hcell)).trans hcell
          have hz : ((s[k].toNat : Int) != 44) = false := by
            obtain ⟨_, hx⟩ := some_list s k 44 hc
            rw [hx]; rfl
          clear hc hq hcell
        all_goals
          go_wp2_with fail
          refine (refTrim_any _ _ (by rw [ByteArray.size_extract]; unfold maxLen; omega)).mono ?_
          rw [Lib.extract_data]
          obtain ⟨t, ht⟩ : ∃ t, t = trimL ((s.data.toList.drop a).take (k - a)) := ⟨_, rfl⟩
          rw [← ht]
          have HT : Hid (t = trimL ((s.data.toList.drop a).take (cut false false (s.data.toList.drop a)))) := by
            show _ = _
            rw [ht, show k - a = cut false false (s.data.toList.drop a) by have := HK.out; omega]
          have HS : Hid (listL (s.data.toList.drop a) = if t = [] then listL (s.data.toList.drop (k + 1)) else t :: listL (s.data.toList.drop (k + 1))) := by
            show _ = _
            rw [list_at, ← HT.out, show a + (cut false false (s.data.toList.drop a) + 1) = k + 1 by have := HK.out; omega]
          clear ht HT
          rintro e w2 ⟨rfl, rfl⟩
          go_wp2_with ((at_builtin; go_must (refine wpList_append_one _ rfl _ _ 22 rfl w1.heap.size 9 Tryz.underlying22 infoStr rfl (by decide) rfl hown rfl rfl (by omega) hB ?_); intro v' w3 hown3 hg3 hb3))
          · have ht : t ≠ [] := not_empty (by assumption)
            go_roundw
            case rel =>
              refine ⟨k + 1, k + 1, E ++ [t], by omega, by go_num, by go_num, Nat.le_refl _, Nat.le_add_right _ _, HDK.out, by simp; omega, ?_, by simpa using hown3, hb.trans hb3⟩
              rw [← HE.out, HS.out, if_neg ht]; simp
            case measure => simp [intOf]; omega
          · have ht : t = [] := is_empty (by assumption)
            go_roundw
            case rel =>
              refine ⟨k + 1, k + 1, E, by omega, by go_num, by go_num, Nat.le_refl _, Nat.le_add_right _ _, HDK.out, by omega, ?_, hown, hb⟩
              rw [← HE.out, HS.out, if_pos ht]
            case measure => simp [intOf]; omega
      · go_wp2
        go_ret
        have e : listL s.data.toList = E := by
          have := cut_le (s.data.toList.drop a) false false
          rw [List.length_drop, size_list] at this
          rw [← HE.out, drop_nil s a (by omega), listL_nil, List.append_nil]
        rw [e]
        exact ⟨_, rfl, hown.base hb0.size, hb0.trans (hb.mono hb0.size)⟩
end Go.Proofs.YtejdlplgkmelkaaGreatDoor
/-
  The document's answers of layer 3: Elements.
-/
namespace Go.Proofs.YtejdlplgkmelkaaGreatDoor
open Go.RowKit Go.Pantry

theorem refElements_any (v : Value) (L : List Fld) (n : ByteArray) (w : World) (hr : Reads2 w v L) (hL : ∀ f ∈ L, f.1.length < 4294967296) (hV : ∀ f ∈ L, f.2.length ≤ 100000) (hn : L.length ≤ 1000) (h2 : n.size < 4294967296) :
    Calls Tryz.prog 56 #[v, .string n] w fun e w' => MadeStrs 9 w.heap.size (elementsF L n.data.toList) e w' ∧ Below w.heap.size w w' := by
  have hl := getF_len (L := L) (n := n.data.toList) hV hn
  have c1 := fun W h => refGet_any v L n W h hL hV hn h2
  have c2 := fun W => refList_any ⟨(getF L n.data.toList).toArray⟩ W (by rw [szL]; omega)
  have he : elementsF L n.data.toList = listL (getF L n.data.toList) := rfl
  rw [dtL, ← he] at c2
  generalize getF L n.data.toList = G at c1 c2
  generalize allF L n.data.toList = T at c1
  have C1 := hid c1
  have C2 := hid c2
  have HR := hid hr
  clear c1 c2 hr he hL hV
  go_enter Tryz.func56, Tryz.ntmps56
  go_wp2_with fail
  refine (C1.out _ HR.out).mono ?_
  rintro e w1 ⟨rfl, hb1⟩
  go_wp2_with fail
  refine (C2.out _).mono ?_
  rintro e w2 ⟨v', rfl, ho, hb2⟩
  go_wp2_with fail
  go_ret
  exact ⟨⟨_, rfl, ho.base hb1.size⟩, chain2 hb1 hb1.size hb2⟩
end Go.Proofs.YtejdlplgkmelkaaGreatDoor
/-
  Contracts of the document's answers of layer 3: Elements, Has.
-/
namespace Go.Proofs.YtejdlplgkmelkaaGreatDoor
open Go.RowKit Go.Pantry

set_option maxHeartbeats 4000000 in
theorem refHas_any (v : Value) (L : List Fld) (n x : ByteArray) (w : World) (hr : Reads2 w v L) (hL : ∀ f ∈ L, f.1.length < 4294967296) (hV : ∀ f ∈ L, f.2.length ≤ 100000) (hn : L.length ≤ 1000) (h2 : n.size < 4294967296) (h3 : x.size < 4294967296) :
    Calls Tryz.prog 59 #[v, .string n, .string x] w fun e w' => e = .returned (.bool (hasF L n.data.toList x.data.toList)) ∧ Below w.heap.size w w' := by
  obtain ⟨hz, hzs⟩ := elementsF_size (n := n.data.toList) hV hn
  have c1 := fun W h => refElements_any v L n W h hL hV hn h2
  have hh : hasF L n.data.toList x.data.toList = (elementsF L n.data.toList).any fun e => lowerL e == lowerL x.data.toList := rfl
  generalize elementsF L n.data.toList = E at c1 hh hz hzs
  have c2 := fun W => refLower_any x W h3
  have C1 := hid c1
  have C2 := hid c2
  have HH := hid hh
  have HR := hid hr
  have HZ := hid hzs
  clear c1 c2 hh hr hL hV hzs
  go_enter Tryz.func59, Tryz.ntmps59
  go_wp2_with fail
  refine (C1.out _ HR.out).mono ?_
  rintro e w1 ⟨⟨v', rfl, ho⟩, hb1⟩
  have hrd := ho.reads
  obtain ⟨ao, cap, rfl, hc, -⟩ := hrd
  have hcl : (E.map strV).length = E.length := List.length_map ..
  rw [hcl]
  have HC := hid hc
  clear hc ho hcl
  go_wp2_with fail
  go_loopw [8] (fun i wr => ∃ k : Nat, k ≤ E.length ∧ i = .int .i64 k ∧ ((E.take k).any fun e => lowerL e == lowerL x.data.toList) = false ∧ Below w1.heap.size w1 wr) (fun i _ => E.length - (intOf i).toNat)
  case atStart => exact ⟨0, Nat.zero_le _, rfl, by simp, Below.refl _ _⟩
  case round =>
    obtain ⟨k, hk, rfl, ha, hb⟩ := hrel
    have HA := hid ha
    clear ha
    by_cases hlt : k < E.length
    · obtain ⟨e, he⟩ : ∃ e, E[k]? = some e := ⟨_, List.getElem?_eq_getElem hlt⟩
      obtain ⟨b, off, hao, hcell⟩ := HC.out k (strV e) (by simp [he])
      subst hao
      have hcw := (hb.cell (p := ⟨b, off + k, none⟩) (World.block_lt_of_cell? w1 _ hcell)).trans hcell
      have hel := HZ.out e (List.mem_of_getElem? he)
      have htk : E.take (k + 1) = E.take k ++ [e] := by
        obtain ⟨hk', rfl⟩ := List.getElem?_eq_some_iff.1 he
        exact List.take_succ_eq_append_getElem hk'
      have HT := hid htk
      have hmem := List.mem_of_getElem? he
      have HM := hid hmem
      clear he hcell htk hmem
      have c3 := fun W => refLower_any ⟨e.toArray⟩ W (by rw [szL]; omega)
      rw [dtL] at c3
      obtain ⟨q, hq⟩ : ∃ q, (lowerL e == lowerL x.data.toList) = q := ⟨_, rfl⟩
      have C3 := hid c3
      clear c3
      go_wp2_with fail
      refine (C3.out _).mono ?_
      rintro e2 w2 ⟨rfl, hb2⟩
      go_wp2_with fail
      refine (C2.out _).mono ?_
      rintro e3 w3 ⟨rfl, hb3⟩
      have hbn := chain2 (chain2 hb hb.size hb2) (Nat.le_trans hb.size hb2.size) hb3
      clear hb hb2 hb3 hcw
      have HQ := hid hq
      cases q
      · go_wp2_with fail
        go_roundw
        case rel => exact ⟨k + 1, hlt, by go_num, by rw [HT.out, List.any_append, HA.out]; simpa using HQ.out, hbn⟩
        case measure => simp [intOf]; omega
      · have hyes : (E.any fun e => lowerL e == lowerL x.data.toList) = true := List.any_eq_true.2 ⟨e, HM.out, HQ.out⟩
        have HY := hid hyes
        clear hyes
        go_wp2_with fail
        go_ret
        exact ⟨ret_bool (by rw [HH.out, HY.out]), chain2 hb1 hb1.size hbn⟩
    · have hke : E.take k = E := List.take_of_length_le (by omega)
      have hno : (E.any fun e => lowerL e == lowerL x.data.toList) = false := by rw [← hke]; exact HA.out
      have HN := hid hno
      clear hke hno
      go_wp2_with fail
      go_ret
      exact ⟨ret_bool (by rw [HH.out, HN.out]), chain2 hb1 hb1.size hb⟩
end Go.Proofs.YtejdlplgkmelkaaGreatDoor
/-
  Contracts of the leaves of package sign: digit.
-/
namespace Go.Proofs.YtejdlplgkmelkaaGreatDoor
open Go.RowKit Go.Pantry

theorem digit_any (c : UInt8) (w : World) :
    Calls Tryz.prog 66 #[.int .u8 (c.toNat : Int)] w fun e w' => e = .returned (.bool (isDig c)) ∧ w = w' := by
  rw [← isDig_int]
  go_enter Tryz.func66, Tryz.ntmps66
  go_wp2
  all_goals go_ret
  all_goals exact ⟨ret_bool (by simp; try omega), rfl⟩

end Go.Proofs.YtejdlplgkmelkaaGreatDoor
/-
  Contracts of package sign: tokenSign, Token.
-/
namespace Go.Proofs.YtejdlplgkmelkaaGreatDoor
open Go.RowKit Go.Pantry

theorem marks_any (c : UInt8) (w : World) :
    Calls Tryz.prog 154 #[.string ⟨#[33, 35, 36, 37, 38, 39, 42, 43, 45, 46, 94, 95, 124, 96, 126]⟩, .int .u8 (c.toNat : Int)] w fun e w' => ∃ n : Int, e = .returned (.int .i64 n) ∧ Hid (decide (0 ≤ n) = marks.contains c) ∧ w = w' := by
  refine (Tryz.strings_IndexByte _ _ _).mono ?_
  rintro e w' ⟨rfl, rfl⟩
  refine ⟨_, rfl, ?_, rfl⟩
  have e : (c.toNat : Int).toNat.toUInt8 = c := by simp
  rw [e]
  exact indexByte_nonneg marks c

theorem tokenSign_any (c : UInt8) (w : World) :
    Calls Tryz.prog 142 #[.int .u8 (c.toNat : Int)] w fun e w' => e = .returned (.bool (isTok c)) ∧ w = w' := by
  go_enter Tryz.func142, Tryz.ntmps142
  go_wp2_with (first
    | (go_at_call 77; refine (great_any _ _).mono ?_; rintro e w' ⟨rfl, rfl⟩)
    | (go_at_call 66; refine (digit_any _ _).mono ?_; rintro e w' ⟨rfl, rfl⟩)
    | (go_at_call 154; refine (marks_any _ _).mono ?_; rintro e w' ⟨n, rfl, hn, rfl⟩))
  all_goals go_ret
  all_goals refine ⟨ret_bool ?_, rfl⟩
  all_goals rw [isTok_of]
  · rw [isLow_yes (by assumption) (by assumption)]; rfl
  · simp_all
  · simp_all
  · simp_all
  · rw [isLow_no2 (by assumption), hn.out]; simp_all
  · simp_all
  · simp_all
  · simp_all
  · rw [isLow_no1 (by assumption), hn.out]; simp_all

theorem Token_any (s : ByteArray) (w : World) (hs : s.size ≤ maxLen) :
    Calls Tryz.prog 114 #[.string s] w fun e w' => e = .returned (.bool (tokenL s.data.toList)) ∧ w = w' := by
  unfold maxLen at hs
  go_enter Tryz.func114, Tryz.ntmps114
  go_wp2
  go_loop [3] (fun i => ∃ k : Nat, k ≤ s.size ∧ i = .int .i64 k ∧ (s.data.toList.take k).all isTok = true) (fun i => s.size - (intOf i).toNat)
  case atStart => exact ⟨0, Nat.zero_le _, rfl, rfl⟩
  case round =>
    obtain ⟨k, hk, rfl, hall⟩ := hrel
    have HA := hid hall
    clear hall
    by_cases hlt : k < s.size
    · go_wp2_with (go_at_call 142; refine (tokenSign_any _ _).mono ?_; rintro e w' ⟨rfl, rfl⟩)
      · go_ret
        have h : isTok s[k] = false := by simpa using (by assumption : (!isTok s[k]) = true)
        exact ⟨ret_bool (tokenL_no s k hlt h).symm, rfl⟩
      · have h : isTok s[k] = true := by simpa using (by assumption : (!isTok s[k]) = false)
        go_round
        case rel => exact ⟨k + 1, by omega, by go_num, by rw [take_succ_list s k hlt, List.all_append, HA.out]; simp [h]⟩
        case measure => simp [intOf]; omega
    · go_wp2
      go_ret
      exact ⟨ret_bool (by rw [tokenL, Lib.toList_data, ← take_all s k hlt, HA.out]; simp), rfl⟩
end Go.Proofs.YtejdlplgkmelkaaGreatDoor
/-
  Contracts of package sign: quotesEnd, elementEnd.
-/
namespace Go.Proofs.YtejdlplgkmelkaaGreatDoor
open Go.RowKit Go.Pantry

theorem quotesEnd_any (s : ByteArray) (i : Nat) (w : World) (hs : s.size ≤ 140737488351232) (hi : i ≤ s.size) :
    Calls Tryz.prog 111 #[.string s, .int .i64 (i : Int)] w fun e w' => e = .returned (.int .i64 ((i + qe (s.data.toList.drop i) : Nat) : Int)) ∧ w = w' := by
  obtain ⟨r, hr⟩ : ∃ r, r = i + qe (s.data.toList.drop i) := ⟨_, rfl⟩
  rw [← hr]
  have HR := hid hr
  clear hr
  go_enter Tryz.func111, Tryz.ntmps111
  go_wp2
  go_loop [1] (fun v => ∃ k : Nat, k ≤ s.size + 1 ∧ v = .int .i64 k ∧ (k ≤ s.size → r = k + qe (s.data.toList.drop k)) ∧ (s.size < k → r = s.size)) (fun v => s.size + 1 - (intOf v).toNat)
  case atStart => exact ⟨i, by omega, rfl, fun _ => HR.out, fun h => by omega⟩
  case round =>
    obtain ⟨k, hk, rfl, h1, h2⟩ := hrel
    have H1 := hid h1
    have H2 := hid h2
    clear h1 h2
    by_cases hlt : k < s.size
    · have hd := hid (drop_cons s k hlt)
      go_wp2
      · have e : s[k] = 34 := byte_yes 34 (z := 34) (by assumption) rfl
        go_ret
        refine ⟨ret_int ?_, rfl⟩
        rw [H1.out (by omega), hd.out, e, qe_quote]; omega
      · have e : s[k] = 92 := byte_yes 92 (z := 92) (by assumption) rfl
        go_round
        case rel =>
          refine ⟨k + 2, by omega, by go_num, fun h => ?_, fun h => ?_⟩
          · rw [H1.out (by omega), hd.out, e, drop_cons s (k + 1) (by omega), qe_back, Nat.add_assoc]; omega
          · rw [H1.out (by omega), hd.out, e, drop_nil s (k + 1) (by omega)]; simp [qe]; omega
        case measure => simp [intOf]; omega
      · have e1 : s[k] ≠ 34 := byte_no 34 (z := 34) (by assumption) rfl
        have e2 : s[k] ≠ 92 := byte_no 92 (z := 92) (by assumption) rfl
        go_round
        case rel =>
          refine ⟨k + 1, by omega, by go_num, fun h => ?_, fun h => by omega⟩
          rw [H1.out (by omega), hd.out, qe_other _ _ e1 e2]; omega
        case measure => simp [intOf]; omega
    · go_wp2
      go_ret
      refine ⟨ret_int ?_, rfl⟩
      by_cases e : k ≤ s.size
      · rw [H1.out e, drop_nil s k hlt]; simp [qe]; omega
      · rw [H2.out (by omega)]

theorem elementEnd_any (s : ByteArray) (i : Nat) (w : World) (hs : s.size ≤ 140737488351232) (hi : i ≤ s.size) :
    Calls Tryz.prog 89 #[.string s, .int .i64 (i : Int)] w fun e w' => e = .returned (.int .i64 ((i + cut false false (s.data.toList.drop i) : Nat) : Int)) ∧ w = w' := by
  obtain ⟨r, hr⟩ : ∃ r, r = i + cut false false (s.data.toList.drop i) := ⟨_, rfl⟩
  rw [← hr]
  have HR := hid hr
  clear hr
  go_enter Tryz.func89, Tryz.ntmps89
  go_wp2
  go_loop [1] (fun v => ∃ k : Nat, k ≤ s.size ∧ v = .int .i64 k ∧ r = k + cut false false (s.data.toList.drop k)) (fun v => s.size - (intOf v).toNat)
  case atStart => exact ⟨i, by omega, rfl, HR.out⟩
  case round =>
    obtain ⟨k, hk, rfl, h1⟩ := hrel
    have H1 := hid h1
    clear h1
    by_cases hlt : k < s.size
    · have hd := hid (drop_cons s k hlt)
      have hq : k + 1 + qe (s.data.toList.drop (k + 1)) ≤ s.size := by
        have := qe_le _ (s.data.toList.drop (k + 1)) (Nat.le_refl _)
        rw [List.length_drop, size_list] at this; omega
      have ek : ((k + 1 : Nat) : Int) = (k : Int) + 1 := by omega
      go_wp2_with (go_at_call 111; rw [← ek]; refine (quotesEnd_any s (k + 1) _ hs (by omega)).mono ?_; rintro e w' ⟨rfl, rfl⟩)
      · have e : s[k] = 34 := byte_yes 34 (z := 34) (by assumption) rfl
        go_round
        case rel =>
          refine ⟨k + 1 + qe (s.data.toList.drop (k + 1)), by omega, by go_num, ?_⟩
          rw [H1.out, hd.out, e, cut_quote, List.drop_drop]; omega
        case measure => simp [intOf]; omega
      · have e1 : s[k] ≠ 44 := byte_ne_yes 44 (z := 44) (by assumption) rfl
        have e2 : s[k] ≠ 34 := byte_no 34 (z := 34) (by assumption) rfl
        go_round
        case rel =>
          refine ⟨k + 1, by omega, by go_num, ?_⟩
          rw [H1.out, hd.out, cut_other _ _ e1 e2]; omega
        case measure => simp [intOf]; omega
      · have e : s[k] = 44 := byte_ne_no 44 (z := 44) (by assumption) rfl
        go_ret
        refine ⟨ret_int ?_, rfl⟩
        rw [H1.out, hd.out, e, cut_comma]; omega
    · go_wp2
      go_ret
      refine ⟨ret_int ?_, rfl⟩
      rw [H1.out, drop_nil s k hlt, cut]; omega

theorem List_any (s : ByteArray) (w : World) (hs : s.size < 4294967296) :
    Calls Tryz.prog 71 #[.string s] w fun e w' => ∃ v, e = .returned v ∧ w'.ownsRow w.heap.size 9 1 v (listL s.data.toList).length ((listL s.data.toList).map strV) ∧ Below w.heap.size w w' := by
  go_enter Tryz.func71, Tryz.ntmps71
  go_wp2
  go_loopw [3, 4] (fun v i wr => ∃ (k : Nat) (E : List (List UInt8)), k ≤ s.size + 1 ∧ i = .int .i64 k ∧ E.length ≤ k ∧ E ++ listL (s.data.toList.drop k) = listL s.data.toList ∧ wr.ownsRow w.heap.size 9 1 v E.length (E.map strV) ∧ Below w.heap.size w wr) (fun _ i _ => s.size + 1 - (intOf i).toNat)
  case atStart => exact ⟨0, [], Nat.zero_le _, rfl, Nat.le_refl _, rfl, World.ownsRow_nil _ _ _ _, Below.refl _ _⟩
  case round =>
    obtain ⟨k, E, hk, rfl, hEk, hE, hown, hb⟩ := hrel
    have HE := hid hE
    clear hE
    have hB := hb.size
    by_cases hlt : k < s.size
    · have hc : k + cut false false (s.data.toList.drop k) ≤ s.size := by
        have := cut_le (s.data.toList.drop k) false false
        rw [List.length_drop, size_list] at this; omega
      obtain ⟨m, hm⟩ : ∃ m, m = k + cut false false (s.data.toList.drop k) := ⟨_, rfl⟩
      have HM := hid hm
      rw [← hm] at hc
      clear hm
      have hkm : k ≤ m := by have := HM.out; omega
      go_wp2_with fail
      refine (elementEnd_any s k _ (by omega) (by omega)).mono ?_
      rw [← HM.out]
      rintro e w' ⟨rfl, rfl⟩
      go_wp2_with fail
      refine (Trim_any _ _ (by rw [ByteArray.size_extract]; unfold maxLen; omega)).mono ?_
      rw [Lib.extract_data]
      obtain ⟨t, ht⟩ : ∃ t, t = trimL ((s.data.toList.drop k).take (m - k)) := ⟨_, rfl⟩
      rw [← ht]
      have HT := hid ht
      clear ht
      rintro e w2 ⟨rfl, hb2⟩
      have hown2 := hown.below hb2
      have hb2' := hb.trans (hb2.mono hB)
      have hB2 := hb2'.size
      clear hown hb hb2 hB
      go_wp2_with ((at_builtin; go_must (refine wpList_append_one _ rfl _ _ 22 rfl w.heap.size 9 Tryz.underlying22 infoStr rfl (by decide) rfl hown2 rfl rfl (by omega) hB2 ?_); intro v' w3 hown3 hg3 hb3))
      · have ht : t ≠ [] := not_empty (by assumption)
        go_roundw
        case rel =>
          refine ⟨m + 1, E ++ [t], by omega, by go_num, by simp; omega, ?_, by simpa using hown3, hb2'.trans hb3⟩
          have HT' := HT.out; have e : m - k = cut false false (s.data.toList.drop k) := by (have := HM.out; omega)
          rw [e] at HT'
          rw [← HE.out, list_step s k hlt, ← HT', if_neg ht, HM.out]; simp [Nat.add_assoc]
        case measure => simp [intOf]; omega
      · have ht : t = [] := is_empty (by assumption)
        go_roundw
        case rel =>
          refine ⟨m + 1, E, by omega, by go_num, by omega, ?_, hown2, hb2'⟩
          have HT' := HT.out; have e : m - k = cut false false (s.data.toList.drop k) := by (have := HM.out; omega)
          rw [e] at HT'
          rw [← HE.out, list_step s k hlt, ← HT', if_pos ht, HM.out]; simp [Nat.add_assoc]
        case measure => simp [intOf]; omega
    · go_wp2
      go_ret
      have e : listL s.data.toList = E := by rw [← HE.out, drop_nil s k hlt, listL_nil, List.append_nil]
      rw [e]
      exact ⟨_, rfl, hown, hb⟩
end Go.Proofs.YtejdlplgkmelkaaGreatDoor
/-
  Contract of package sign: Number.
-/
namespace Go.Proofs.YtejdlplgkmelkaaGreatDoor
open Go.RowKit Go.Pantry

theorem Number_any (s : ByteArray) (w : World) (hs : s.size ≤ 140737488351232) :
    Calls Tryz.prog 40 #[.string s] w fun e w' => e = .returned (.tuple #[.int .i64 (((numberL s.data.toList).getD 0 : Nat) : Int), .bool (numberL s.data.toList).isSome]) ∧ w = w' := by
  go_enter Tryz.func40, Tryz.ntmps40
  go_wp2
  go_loop [4, 5] (fun n i => ∃ k m : Nat, k ≤ s.size ∧ i = .int .i64 k ∧ n = .int .i64 m ∧ m ≤ 2147483648 ∧ m = min (valL (s.data.toList.take k)) 2147483648 ∧ (s.data.toList.take k).all isDig = true) (fun _ i => s.size - (intOf i).toNat)
  case atStart => exact ⟨0, 0, Nat.zero_le _, rfl, rfl, by omega, rfl, rfl⟩
  case round =>
    obtain ⟨k, m, hk, rfl, rfl, hm, hv, hall⟩ := hrel
    have HV := hid hv
    have HA := hid hall
    clear hv hall
    by_cases hlt : k < s.size
    · go_wp2_with (go_at_call 66; refine (digit_any _ _).mono ?_; rintro e w' ⟨rfl, rfl⟩)
      · go_ret2
        have h : isDig s[k] = false := by simpa using (by assumption : (!isDig s[k]) = true)
        exact ⟨by rw [numberL_no s k hlt h]; rfl, rfl⟩
      · have h : isDig s[k] = true := by simpa using (by assumption : (!isDig s[k]) = false)
        go_round
        case rel =>
          refine ⟨k + 1, min (valL (s.data.toList.take (k + 1))) 2147483648, by omega, by go_num, ?_, by omega, rfl, by rw [take_succ_list s k hlt, List.all_append, HA.out]; simp [h]⟩
          rw [take_succ_list s k hlt, number_step _ _ _ h HV.out]
        case measure => simp [intOf]; omega
    · go_wp2
      go_ret2
      have hy := numberL_yes s.data.toList m (by rw [← take_all s k hlt]; exact HA.out) (by rw [← take_all s k hlt]; exact HV.out)
      refine ⟨?_, rfl⟩
      rw [hy.1, hy.2, Lib.toList_data]; rfl
end Go.Proofs.YtejdlplgkmelkaaGreatDoor
/-
  Contracts of package sign: Unquote.
-/
namespace Go.Proofs.YtejdlplgkmelkaaGreatDoor
open Go.RowKit Go.Pantry

set_option maxRecDepth 4000 in
theorem Unquote_any (s : ByteArray) (w : World) (hs : s.size < 4294967296) :
    Calls Tryz.prog 92 #[.string s] w fun e w' => e = .returned (.tuple #[strV ((unquoteL s.data.toList).getD []), .bool (unquoteL s.data.toList).isSome]) ∧ Below w.heap.size w w' := by
  by_cases htok : tokenL s.data.toList = true
  · go_enter Tryz.func92, Tryz.ntmps92
    go_wp2_with (go_at_call 114; refine (Token_any _ _ (by unfold maxLen; omega)).mono ?_; rintro e w' ⟨rfl, rfl⟩)
    go_ret2
    exact ⟨by simp [unquoteL, htok, strV], Below.refl _ _⟩
  · have htok' : tokenL s.data.toList = false := by simpa using htok
    clear htok
    by_cases h0 : s.size = 0
    · have he : s.data.toList = [] := List.eq_nil_of_length_eq_zero (by rw [size_list]; exact h0)
      have hemp : s.toList.isEmpty = true := by rw [Lib.toList_data, he]; rfl
      have HE := hid he
      clear h0 he
      go_enter Tryz.func92, Tryz.ntmps92
      go_wp2_with (go_at_call 114; refine (Token_any _ _ (by unfold maxLen; omega)).mono ?_; rintro e w' ⟨rfl, rfl⟩)
      go_ret2
      refine ⟨?_, Below.refl _ _⟩
      have e : unquoteL s.data.toList = none := by rw [HE.out]; rfl
      rw [e]; rfl
    · have hpos : 0 < s.size := by omega
      have hemp : s.toList.isEmpty = false := by
        rw [Lib.toList_data]; have := drop_cons s 0 hpos; simp at this; rw [this]; rfl
      have hd := hid (drop_cons s 0 hpos)
      clear h0
      go_enter Tryz.func92, Tryz.ntmps92
      go_wp2_with (go_at_call 114; refine (Token_any _ _ (by unfold maxLen; omega)).mono ?_; rintro e w' ⟨rfl, rfl⟩)
      · go_ret2
        have hq : s[0] ≠ 34 := byte_ne_yes 34 (z := 34) (by assumption) rfl
        refine ⟨?_, Below.refl _ _⟩
        have hd0 := hd.out
        rw [List.drop_zero] at hd0
        have e : unquoteL s.data.toList = none := by
          unfold unquoteL
          rw [htok', hd0]; simp [hq]
        rw [e]; rfl
      · have hq : s[0] = 34 := byte_ne_no 34 (z := 34) (by assumption) rfl
        have HU : Hid (unquoteL s.data.toList = unq (s.data.toList.drop 1)) := by
          have hd0 := hd.out
          rw [List.drop_zero] at hd0
          show unquoteL s.data.toList = _
          unfold unquoteL
          rw [htok']
          conv => lhs; rw [hd0]
          simp [hq]
        clear hd hq htok'
        rename ((s[0].toNat : Int) != 34) = false => hx
        have HX := hid hx
        clear hx
        go_loopw [4, 5] (fun v i wr => ∃ (k : Nat) (E : List UInt8), 1 ≤ k ∧ k ≤ s.size ∧ i = .int .i64 k ∧ E.length ≤ k ∧ unquoteL s.data.toList = (unq (s.data.toList.drop k)).map (E ++ ·) ∧ wr.ownsRow w.heap.size 5 1 v E.length (E.map byteV) ∧ Below w.heap.size w wr) (fun _ i _ => s.size - (intOf i).toNat)
        case atStart => exact ⟨1, [], by omega, by omega, rfl, by simp, by rw [HU.out]; simp, World.ownsRow_nil _ _ _ _, Below.refl _ _⟩
        case round =>
          obtain ⟨k, E, h1k, hk, rfl, hEk, hE, hown, hb⟩ := hrel
          have HE := hid hE
          clear hE
          have hB := hb.size
          have hcv := ownsRow_string hown 83 9 Tryz.underlying83 Tryz.underlying5 Tryz.underlying9
          by_cases hlt : k < s.size
          · have hd := hid (drop_cons s k hlt)
            go_wp2_with ((at_builtin; go_must (refine wpList_append_one _ rfl _ _ 83 rfl w.heap.size 5 Tryz.underlying83 infoU8 rfl (by decide) rfl hown rfl rfl (by omega) hB ?_); intro v' w1 hown1 hg1 hb1))
            · have e : s[k] = 34 := byte_yes 34 (z := 34) (by assumption) rfl
              go_ret2
              refine ⟨?_, hb⟩
              have hn : unquoteL s.data.toList = none := by
                rw [HE.out, hd.out, e, unq_quote, if_neg (by rw [drop_cons s (k + 1) (by omega)]; simp)]; rfl
              rw [hn]; rfl
            · have e : s[k] = 34 := byte_yes 34 (z := 34) (by assumption) rfl
              go_ret2
              refine ⟨?_, hb⟩
              have hn : unquoteL s.data.toList = some E := by
                rw [HE.out, hd.out, e, unq_quote, if_pos (drop_nil s (k + 1) (by omega))]; simp
              rw [hn]; rfl
            · have e : s[k] = 92 := byte_yes 92 (z := 92) (by assumption) rfl
              have hq : ((k : Int) + 1 == (s.size : Int)) = true := by assumption
              have hq' := beq_iff_eq.1 hq
              go_ret2
              refine ⟨?_, hb⟩
              have hn : unquoteL s.data.toList = none := by
                rw [HE.out, hd.out, e, drop_nil s (k + 1) (by omega), unq_back_end]; rfl
              rw [hn]; rfl
            · have e : s[k] = 92 := byte_yes 92 (z := 92) (by assumption) rfl
              have hq : 0 ≤ (k : Int) + 1 ∧ (k : Int) + 1 < (s.size : Int) := by assumption
              have hlt' : k + 1 < s.size := by omega
              go_roundw
              case rel =>
                refine ⟨k + 2, E ++ [s[k + 1]], by omega, by omega, by go_num, by simp; omega, ?_, by simpa using hown1, hb.trans hb1⟩
                rw [HE.out, hd.out, e, drop_cons s (k + 1) hlt', unq_back]; simp [Option.map_map, Function.comp_def]
              case measure => simp [intOf]; omega
            · exfalso
              have hq : ((k : Int) + 1 == (s.size : Int)) = false := by assumption
              simp at hq
              omega
            · have e1 : s[k] ≠ 34 := byte_no 34 (z := 34) (by assumption) rfl
              have e2 : s[k] ≠ 92 := byte_no 92 (z := 92) (by assumption) rfl
              go_roundw
              case rel =>
                refine ⟨k + 1, E ++ [s[k]], by omega, by omega, by go_num, by simp; omega, ?_, by simpa using hown1, hb.trans hb1⟩
                rw [HE.out, hd.out, unq_other _ _ e1 e2]; simp [Option.map_map, Function.comp_def]
              case measure => simp [intOf]; omega
          · go_wp2
            go_ret2
            refine ⟨?_, hb⟩
            have hn : unquoteL s.data.toList = none := by
              rw [HE.out, drop_nil s k hlt]; rfl
            rw [hn]; rfl
end Go.Proofs.YtejdlplgkmelkaaGreatDoor
/-
  Contracts of package field: Elements.
-/
namespace Go.Proofs.YtejdlplgkmelkaaGreatDoor
open Go.RowKit Go.Pantry

theorem lElements_any (v : Value) (L : List Fld) (n : ByteArray) (w : World) (hr : Reads2 w v L) (hk : okFs L) (hn : n.size ≤ 100000) :
    Calls Tryz.prog 50 #[v, .string n] w fun e w' => MadeStrs 9 w.heap.size (elementsF L n.data.toList) e w' ∧ Below w.heap.size w w' := by
  have hgl := getF_len (L := L) (n := n.data.toList) (fun f hf => (hk.2 f hf).2) hk.1
  have c1 := fun W h => lGet_any v L n W h hk hn
  have c2 := fun W => List_any ⟨(getF L n.data.toList).toArray⟩ W (by rw [szL]; omega)
  have he : elementsF L n.data.toList = listL (getF L n.data.toList) := rfl
  rw [dtL, ← he] at c2
  generalize getF L n.data.toList = G at c1 c2
  generalize allF L n.data.toList = T at c1
  have C1 := hid c1
  have C2 := hid c2
  have HR := hid hr
  clear c1 c2 hr he
  go_enter Tryz.func50, Tryz.ntmps50
  go_wp2_with fail
  refine (C1.out _ HR.out).mono ?_
  rintro e w1 ⟨rfl, hb1⟩
  go_wp2_with fail
  refine (C2.out _).mono ?_
  rintro e w2 ⟨v', rfl, ho, hb2⟩
  go_wp2_with fail
  go_ret
  exact ⟨⟨_, rfl, ho.base hb1.size⟩, chain2 hb1 hb1.size hb2⟩
end Go.Proofs.YtejdlplgkmelkaaGreatDoor
/-
  Contracts of package field: Has.
-/
namespace Go.Proofs.YtejdlplgkmelkaaGreatDoor
open Go.RowKit Go.Pantry

set_option maxHeartbeats 4000000 in
theorem lHas_any (v : Value) (L : List Fld) (n x : ByteArray) (w : World) (hr : Reads2 w v L) (hk : okFs L) (hn : n.size ≤ 100000) (hx : x.size ≤ 100000) :
    Calls Tryz.prog 52 #[v, .string n, .string x] w fun e w' => e = .returned (.bool (hasF L n.data.toList x.data.toList)) ∧ Below w.heap.size w w' := by
  obtain ⟨hz, hzs⟩ := elementsF_size (n := n.data.toList) (fun f hf => (hk.2 f hf).2) hk.1
  have c1 := fun W h => lElements_any v L n W h hk hn
  have hh : hasF L n.data.toList x.data.toList = (elementsF L n.data.toList).any fun e => lowerL e == lowerL x.data.toList := rfl
  generalize elementsF L n.data.toList = E at c1 hh hz hzs
  have C1 := hid c1
  have HH := hid hh
  have HR := hid hr
  have HZ := hid hzs
  clear c1 hh hr hzs
  go_enter Tryz.func52, Tryz.ntmps52
  go_wp2_with fail
  refine (C1.out _ HR.out).mono ?_
  rintro e w1 ⟨⟨v', rfl, ho⟩, hb1⟩
  have hrd := ho.reads
  obtain ⟨ao, cap, rfl⟩ := Reads.strs hrd
  have HRD := hid hrd
  clear hrd ho
  go_wp2_with fail
  go_loopw [13] (fun i wr => ∃ k : Nat, k ≤ E.length ∧ i = .int .i64 k ∧ ((E.take k).any fun e => lowerL e == lowerL x.data.toList) = false ∧ Below w1.heap.size w1 wr) (fun i _ => E.length - (intOf i).toNat)
  case atStart => exact ⟨0, Nat.zero_le _, rfl, by simp, Below.refl _ _⟩
  case round =>
    obtain ⟨k, hk, rfl, ha, hb⟩ := hrel
    have HA := hid ha
    clear ha
    by_cases hlt : k < E.length
    · obtain ⟨e, he⟩ : ∃ e, E[k]? = some e := ⟨_, List.getElem?_eq_getElem hlt⟩
      obtain ⟨b, off, rfl, hcw⟩ := Reads.str (HRD.out.below hb) he
      have hel := HZ.out e (List.mem_of_getElem? he)
      have HT := hid (take_str he)
      have HM := hid (List.mem_of_getElem? he)
      clear he
      have c3 := fun W => Same_any ⟨e.toArray⟩ x W (by rw [szL]; unfold maxLen; omega) (by unfold maxLen; omega)
      rw [dtL] at c3
      obtain ⟨q, hq⟩ : ∃ q, (lowerL e == lowerL x.data.toList) = q := ⟨_, rfl⟩
      rw [hq] at c3
      have C3 := hid c3
      have HQ := hid hq
      clear c3 hq
      cases q
      · go_wp2_with fail
        refine (C3.out _).mono ?_
        rintro e3 w3 ⟨rfl, hb3⟩
        have hbn := chain2 hb hb.size hb3
        clear hb hb3 hcw
        go_wp2_with fail
        go_roundw
        case rel => exact ⟨k + 1, hlt, by go_num, by rw [HT.out, List.any_append, HA.out]; simpa using HQ.out, hbn⟩
        case measure => simp [intOf]; omega
      · have hyes : (E.any fun e => lowerL e == lowerL x.data.toList) = true := List.any_eq_true.2 ⟨e, HM.out, HQ.out⟩
        have HY := hid hyes
        clear hyes
        go_wp2_with fail
        refine (C3.out _).mono ?_
        rintro e3 w3 ⟨rfl, hb3⟩
        have hbn := chain2 hb hb.size hb3
        clear hb hb3 hcw
        go_wp2_with fail
        go_ret
        exact ⟨ret_bool (by rw [HH.out, HY.out]), chain2 hb1 hb1.size hbn⟩
    · have hke : E.take k = E := List.take_of_length_le (by omega)
      have hno : (E.any fun e => lowerL e == lowerL x.data.toList) = false := by rw [← hke]; exact HA.out
      have HN := hid hno
      clear hke hno
      go_wp2_with fail
      go_ret
      exact ⟨ret_bool (by rw [HH.out, HN.out]), chain2 hb1 hb1.size hb⟩
end Go.Proofs.YtejdlplgkmelkaaGreatDoor
