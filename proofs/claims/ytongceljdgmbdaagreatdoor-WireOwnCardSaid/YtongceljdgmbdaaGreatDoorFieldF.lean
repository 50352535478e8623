/-
  Contracts of package field: set, With.
-/
import Derived.Test.YtongceljdgmbdaaGreatDoorFieldC
namespace Go.Proofs.YtongceljdgmbdaaGreatDoor
open Go.RowKit Go.Pantry

set_option maxHeartbeats 4000000 in
theorem set_any (v : Value) (L : List Fld) (f : Fld) (w : World) (hr : Reads2 w v L) (hL : ∀ g ∈ L, g.1.length ≤ 100000) (hf1 : f.1.length ≤ 100000) (hn : L.length < 1000000) :
    Calls Tryz.prog 70 #[v, fldV f] w fun e w' => MadeFlds 104 w.heap.size (withF L f) e w' ∧ Below w.heap.size w w' := by
  obtain ⟨ao, cap, rfl⟩ := hr.form
  obtain ⟨W, hW, hbW, hsW, hx1, hx2⟩ := box2 w f 104
  have HR := hid (hr.below hbW)
  have HL := hid hL
  have HX1 := hid hx1
  have HX2 := hid hx2
  have HS := hid hsW
  clear hr hL hx1 hx2 hsW
  go_enter Tryz.func70, Tryz.ntmps70
  go_wp2_with fail
  rw [← hW]
  clear hW
  go_loopw [5, 6, 11] (fun v' d i wr => ∃ (k m : Nat), k ≤ L.length ∧ i = .int .i64 k ∧ d = .bool (runW f (L.take k)).2 ∧ m ≤ k ∧ wr.ownsRow W.heap.size 104 2 v' m (fldCells (runW f (L.take k)).1) ∧ Below W.heap.size W wr) (fun _ _ i _ => L.length - (intOf i).toNat)
  case atStart => exact ⟨0, 0, Nat.zero_le _, rfl, rfl, Nat.le_refl _, World.ownsRow_nil _ _ _ _, Below.refl _ _⟩
  case round =>
    obtain ⟨k, m, hk, rfl, rfl, hm, ho, hb⟩ := hrel
    have hs := hb.size
    have hsw : w.heap.size ≤ wr.heap.size := by have := HS.out; omega
    by_cases hlt : k < L.length
    · obtain ⟨g, hg⟩ : ∃ g, L[k]? = some g := ⟨_, List.getElem?_eq_getElem hlt⟩
      obtain ⟨b, off, rfl, hc1, hc2⟩ := (HR.out.below hb).fld hg
      have hgl := HL.out g (List.mem_of_getElem? hg)
      have HT := hid (take_fld hg)
      clear hg
      have hst := runW_snoc f (L.take k) g
      rw [← HT.out] at hst
      unfold stepW at hst
      have hpr : runW f (L.take k) = ((runW f (L.take k)).1, (runW f (L.take k)).2) := rfl
      rw [hpr] at hst
      clear hpr
      obtain ⟨d, hd⟩ : ∃ d, (runW f (L.take k)).2 = d := ⟨_, rfl⟩
      obtain ⟨M, hM⟩ : ∃ M, (runW f (L.take k)).1 = M := ⟨_, rfl⟩
      obtain ⟨q, hq⟩ : ∃ q, isF f.1 g = q := ⟨_, rfl⟩
      have cI := fun W vn h => called_any g vn [f.1] W hgl h ⟨by simp, by simp; omega⟩
      simp only [any_one, hq] at cI
      simp only [hd, hM, hq] at hst
      rw [hd]
      rw [hM] at ho
      have CI := hid cI
      have HST := hid hst
      clear cI hst hd hM hq
      obtain ⟨V, hV, hbV, hsV, hy1, hy2⟩ := box2 wr g 104
      have hbv := chain2 hb hs hbV
      replace ho := ho.below hbV
      have hz1 := kept HX1.out hbv
      obtain ⟨X, hX⟩ : ∃ X, X = V.alloc (.cells #[strV f.1] 9) := ⟨_, rfl⟩
      have hbX : Below V.heap.size V X := by rw [hX]; exact below_alloc _ _
      have hrX : Reads X (.slice (some ⟨wr.heap.size + 1, 0, none⟩) 1 1) ([f.1].map strV) := by rw [← hsV, hX]; exact reads_one V f.1 9 1
      have hbx := chain2 hbv hbv.size hbX
      replace ho := ho.below hbX
      replace hy1 := kept hy1 hbX
      replace hy2 := kept hy2 hbX
      have hzz : (wr.alloc (.cells #[.string ⟨g.1.toArray⟩, .string ⟨g.2.toArray⟩] 104)).cell? ⟨w.heap.size, 0, none⟩ = some (strV f.1) := by rw [← hV]; exact hz1
      clear hbV hbX hb hs hbv hsV hz1
      go_wp2_with fail
      rw [← hV, ← hX]
      clear hV hX hzz
      refine (CI.out _ _ hrX).mono ?_
      rintro e w3 ⟨rfl, hb3⟩
      have hbn := chain2 hbx hbx.size hb3
      have ho3 := ho.below hb3
      have hsn := hbn.size
      have x1 := kept HX1.out hbn
      have x2 := kept HX2.out hbn
      have hd1 := kept hy1 hb3
      have hd2 := kept hy2 hb3
      clear hb3 ho hrX hy1 hy2 hc1 hc2 hbx
      cases q
      · simp only [Bool.false_eq_true, if_false] at HST
        go_wp2_with ((at_builtin; go_must (refine wpList_append_fld _ rfl _ _ 36 rfl W.heap.size 104 Tryz.underlying36 infoFld rfl (by decide) rfl ho3 g rfl (by first | rfl | simp) (by omega) hsn ?_); intro v' w4 hown4 hb4))
        go_roundw
        case rel => exact ⟨k + 1, m + 1, hlt, by go_num, by rw [HST.out], by omega, by rw [HST.out]; exact hown4, hbn.trans hb4⟩
        case measure => simp [intOf]; omega
      · cases d
        · simp only [Bool.false_eq_true, if_false, if_true] at HST
          go_wp2_with ((at_builtin; go_must (refine wpList_append_fld _ rfl _ _ 36 rfl W.heap.size 104 Tryz.underlying36 infoFld rfl (by decide) rfl ho3 f rfl (by first | rfl | simp) (by omega) hsn ?_); intro v' w4 hown4 hb4))
          go_roundw
          case rel => exact ⟨k + 1, m + 1, hlt, by go_num, by rw [HST.out], by omega, by rw [HST.out]; exact hown4, hbn.trans hb4⟩
          case measure => simp [intOf]; omega
        · simp only [if_true] at HST
          go_wp2_with fail
          go_roundw
          case rel => exact ⟨k + 1, m, hlt, by go_num, by rw [HST.out], by omega, by rw [HST.out]; exact ho3, hbn⟩
          case measure => simp [intOf]; omega
    · have hke : L.take k = L := List.take_of_length_le (by omega)
      rw [hke] at ho ⊢
      clear hke
      have hwf : withF L f = if (runW f L).2 then (runW f L).1 else (runW f L).1 ++ [f] := rfl
      generalize runW f L = p at ho hwf ⊢
      obtain ⟨M, d⟩ := p
      simp only at ho hwf ⊢
      have HWF := hid hwf
      clear hwf
      have x1 := kept HX1.out hb
      have x2 := kept HX2.out hb
      have hbase : w.heap.size ≤ W.heap.size := hbW.size
      cases d
      · go_wp2_with ((at_builtin; go_must (refine wpList_append_fld _ rfl _ _ 36 rfl W.heap.size 104 Tryz.underlying36 infoFld rfl (by decide) rfl ho f rfl (by first | rfl | simp) (by omega) hs ?_); intro v' w4 hown4 hb4))
        go_wp2_with fail
        go_ret
        exact ⟨⟨_, _, rfl, by rw [HWF.out]; exact hown4.base hbase⟩, hbW.trans ((hb.trans hb4).mono hbase)⟩
      · go_wp2_with fail
        go_ret
        exact ⟨⟨_, _, rfl, by rw [HWF.out]; exact ho.base hbase⟩, hbW.trans (hb.mono hbase)⟩

theorem reads_nil (w : World) : Reads w (.slice none 0 0) (([] : List (List UInt8)).map strV) := ⟨none, 0, rfl, fun j u hj => by simp at hj, fun _ => rfl⟩

set_option maxHeartbeats 4000000 in
theorem lWith_any (v vm : Value) (L M : List Fld) (w : World) (hr : Reads2 w v L) (hk : okFs L) (hm : Reads2 w vm M) (hkm : okFs M) :
    Calls Tryz.prog 42 #[v, vm] w fun e w' => MadeFlds 104 w.heap.size (withsF L M) e w' ∧ Below w.heap.size w w' := by
  have c1 := fun W h => lWithout_any v (.slice none 0 0) L [] W h hk (reads_nil W) ⟨by simp, by simp⟩
  rw [outsF_nil] at c1
  obtain ⟨ao, cap, rfl⟩ := hm.form
  have HR := hid hr
  have HM := hid hm
  have C1 := hid c1
  have HK := hid hk
  have HKM := hid hkm
  have hML := hkm.1
  have hLL := hk.1
  clear hr hm c1 hk hkm
  go_enter Tryz.func42, Tryz.ntmps42
  go_wp2_with fail
  refine (C1.out _ HR.out).mono ?_
  rintro e w1 ⟨⟨v0, k0, rfl, ho0⟩, hb1⟩
  go_wp2_with fail
  go_loopw [5, 12] (fun v' i wr => ∃ (k m : Nat), k ≤ M.length ∧ i = .int .i64 k ∧ wr.ownsRow w.heap.size 104 2 v' m (fldCells (withsF L (M.take k))) ∧ Below w.heap.size w wr) (fun _ i _ => M.length - (intOf i).toNat)
  case atStart => exact ⟨0, k0, Nat.zero_le _, rfl, ho0, hb1⟩
  case round =>
    obtain ⟨k, m, hk, rfl, ho, hb⟩ := hrel
    by_cases hlt : k < M.length
    · obtain ⟨f, hf⟩ : ∃ f, M[k]? = some f := ⟨_, List.getElem?_eq_getElem hlt⟩
      obtain ⟨b, off, rfl, hc1, hc2⟩ := (HM.out.below hb).fld hf
      have hfl := (HKM.out.2 f (List.mem_of_getElem? hf)).1
      have HT := hid (take_fld hf)
      clear hf
      have hst := withsF_snoc L (M.take k) f
      rw [← HT.out] at hst
      have hle := withsF_len L (M.take k)
      rw [List.length_take] at hle
      have hsm : ∀ g ∈ withsF L (M.take k), g.1.length ≤ 100000 := fun g hg => by
        rcases withsF_of L _ g hg with h | h
        · exact (HK.out.2 g h).1
        · exact (HKM.out.2 g (List.mem_of_mem_take h)).1
      have cs := fun W h => set_any u5 (withsF L (M.take k)) f W h hsm hfl (by omega)
      rw [← hst] at cs
      have CS := hid cs
      obtain ⟨V, hV, hbV, -, -, -⟩ := box2 wr f 104
      have hbv := chain2 hb hb.size hbV
      have hrd := (ho.below hbV).reads2.2
      clear cs hst hsm hle hb hbV ho
      go_wp2_with fail
      rw [← hV]
      clear hV
      refine (CS.out _ hrd).mono ?_
      rintro e w3 ⟨⟨v3, m3, rfl, ho3⟩, hb3⟩
      have hbn := chain2 hbv hbv.size hb3
      have ho4 := ho3.base hbv.size
      clear hb3 ho3 hrd hc1 hc2
      go_wp2_with fail
      go_roundw
      case rel => exact ⟨k + 1, m3, hlt, by go_num, ho4, hbn⟩
      case measure => simp [intOf]; omega
    · have hke : M.take k = M := List.take_of_length_le (by omega)
      rw [hke] at ho
      clear hke
      go_wp2_with fail
      go_ret
      exact ⟨⟨_, _, rfl, ho⟩, hb⟩
end Go.Proofs.YtongceljdgmbdaaGreatDoor
