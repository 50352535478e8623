/-
  Contract of package conf: Show.
-/
import Derived.Test.YtffenndchmcncaaDoorConfU
import Derived.Test.YtffenndchmcncaaDoorPurePlain
namespace Go.Pantry
open Go.RowKit
theorem plainC_take {C : List SiteZ} {k : Nat} {s : SiteZ} (h : C[k]? = some s) : plainC (C.take (k + 1)) = plainC (C.take k) ++ plainS s := by
  rw [List.take_add_one, h]
  unfold plainC
  rw [List.flatMap_append]
  simp
theorem plainS_len {s : SiteZ} (h1 : s.host.length ≤ 100000) (hh : ∀ y ∈ s.heads, y.length ≤ 100000) (hl : s.heads.length ≤ 4) : (plainS s).length ≤ 1000000 := by
  have e1 := keyT_len s.query s.heads 100000 hh
  have e2 : (100000 + 8) * s.heads.length ≤ 100008 * 4 := Nat.mul_le_mul (by decide) hl
  have d1 : (decZ s.origin).length ≤ 11 := digF_len 11 _
  have d2 : (decZ s.min).length ≤ 11 := digF_len 11 _
  have d3 : (decZ s.max).length ≤ 11 := digF_len 11 _
  have d4 : (onW s.keep).length ≤ 3 := by cases s.keep <;> decide
  rw [plainS_is]
  simp only [List.length_append, List.length_cons, List.length_nil]
  omega
end Go.Pantry
namespace Go.Proofs.YtffenndchmcncaaDoor
open Go.RowKit Go.Pantry

set_option maxRecDepth 8000 in
theorem show_any (v : Value) (L : List (SiteZ × Value)) (w : World) (h : ReadsP w v L) (hf : Few L) (hm : MaxOk w) (ht : Tab10 w) :
    Calls Tryd.prog 6 #[.agg #[v]] w fun e w' =>
      e = .returned (if rightC (L.map (·.1)) then .tuple #[strV (plainC (L.map (·.1))), .int .i64 0] else .tuple #[strV [], .int .i64 10]) ∧ Below w.heap.size w w' := by
  obtain ⟨n, hn⟩ : ∃ n, L.length = n := ⟨_, rfl⟩
  obtain ⟨ao, c, e1, f1⟩ := h.form
  rw [hn] at e1
  subst e1
  obtain ⟨W, hW⟩ : ∃ W, w.alloc (.cells #[.slice ao n c] 25) = W := ⟨_, rfl⟩
  have hbW : Below w.heap.size w W := by rw [← hW]; exact below_alloc _ _
  have hrow : rowIs W w.heap.size #[.slice ao n c] 25 := by rw [← hW]; exact rowIs_new _ _ _
  have cr := configRight_any (.slice ao n c) L W (h.below hbW) hf (hm.below hbW) (ht.below hbW)
  have HR := hid h
  have HF := hid hf
  have HL := hid hn
  have HC := hid (And.intro hbW (And.intro hrow (ht.below hbW)))
  obtain ⟨q, hq⟩ : ∃ q, rightC (L.map (·.1)) = q := ⟨_, rfl⟩
  rw [hq] at cr ⊢
  have CR := hid cr
  cases q
  · simp only [Bool.false_eq_true, if_false]
    clear h hf hn f1 hm ht hq cr hbW
    go_enter Tryd.func6, Tryd.ntmps6
    go_wp2_with (refine wpList_load_row rfl 25 _ rfl w.heap.size rfl 25 _ (0, 0) _ hrow Tryd.underlying25 rfl infoCfg ?_)
    refine CR.out.mono ?_
    rintro e w1 ⟨rfl, hb1⟩
    go_wp2_with fail
    go_ret2
    exact ⟨rfl, chainP HC.out.1 hb1⟩
  obtain ⟨h8, hr, -⟩ := rightC_iff.1 hq
  rw [List.length_map, hn] at h8
  have HRT := hid hr
  simp only [if_true]
  have y0 := hrow.cell 0
  clear h hf hn f1 hm ht hq cr hbW hr
  go_enter Tryd.func6, Tryd.ntmps6
  go_wp2_with (refine wpList_load_row rfl 25 _ rfl w.heap.size rfl 25 _ (0, 0) _ hrow Tryd.underlying25 rfl infoCfg ?_)
  refine CR.out.mono ?_
  rintro e w1 ⟨rfl, hb1⟩
  replace y0 := kept y0 hb1
  have HBW := hid (chainP HC.out.1 hb1)
  have HT1 := hid (HC.out.2.2.below hb1)
  clear hrow hb1 hW
  go_wp2_with fail
  clear y0
  go_loopw [4, 13] (fun t z wr => ∃ (k : Nat), z = .int .i64 (k : Int) ∧ k ≤ n ∧ t = strV (plainC ((L.map (·.1)).take k)) ∧ (plainC ((L.map (·.1)).take k)).length ≤ k * 1000000 ∧ Below w1.heap.size w1 wr) (fun _ z _ => n - (intOf z).toNat)
  case atStart => exact ⟨0, rfl, Nat.zero_le _, rfl, Nat.le_refl _, Below.refl _ _⟩
  case round =>
    obtain ⟨k, rfl, hk, rfl, hkl, hb⟩ := hrel
    have hbr := chainP HBW.out hb
    by_cases hlt : k < n
    · obtain ⟨⟨s, hv⟩, hx⟩ : ∃ x, L[k]? = some x := by
        have := HL.out
        exact ⟨L[k]'(by omega), List.getElem?_eq_getElem (by omega)⟩
      have hmem := List.mem_of_getElem? hx
      have hrd := (HR.out.heads _ hmem).below hbr
      obtain ⟨ah, ch, hfv⟩ := hrd.form
      simp only at hfv hrd
      obtain ⟨nh, hnh⟩ : ∃ nh, (s.heads.map strV).length = nh := ⟨_, rfl⟩
      rw [hnh] at hfv
      subst hfv
      obtain ⟨b1, o1, g1, i1⟩ := (HR.out.below hbr).at_ hx
      subst g1
      have hkI : (k : Int) < (n : Int) := by omega
      have hk0 : (0 : Int) ≤ (k : Int) := by omega
      have hkw : IntKind.i64.wrap ((k : Int) + 1) = (k : Int) + 1 := IntWalk.i64_in _ (by omega)
      obtain ⟨p1, hp1⟩ : ∃ p, o1 + k * 7 = p := ⟨_, rfl⟩
      rw [hp1] at i1
      have y0 := i1 0 _ rfl
      have y1 := i1 1 _ rfl
      have y2 := i1 2 _ rfl
      have y3 := i1 3 _ rfl
      have y4 := i1 4 _ rfl
      have y5 := i1 5 _ rfl
      have y6 := i1 6 _ rfl
      rw [Nat.add_zero] at y0
      obtain ⟨W1, hW1⟩ : ∃ W, wr.alloc (.cells (rowZ (.slice ah nh ch) s) 36) = W := ⟨_, rfl⟩
      have hb1 : Below wr.heap.size wr W1 := by rw [← hW1]; exact below_alloc _ _
      have hr1 : rowIs W1 wr.heap.size (rowZ (.slice ah nh ch) s) 36 := by rw [← hW1]; exact rowIs_new _ _ _
      have hx2 : (L.map (·.1))[k]? = some s := by rw [List.getElem?_map, hx]; rfl
      obtain ⟨_, ⟨ro1, ro2⟩, ⟨rm1, rm2, rm3⟩, rh⟩ := rightZ_iff.1 (HRT.out s (List.mem_of_getElem? hx2))
      have hh4 := (headsB_iff.1 rh).1
      have cs := plain_any (.slice ah nh ch) s W1 (hrd.below hb1) (HF.out.host _ hmem) hh4 (HF.out.texts _ hmem) ⟨by omega, ro2⟩ ⟨rm1, by omega⟩ ⟨by omega, rm3⟩ (HT1.out.below (chainP hb hb1))
      have hpl := plainS_len (HF.out.host _ hmem) (HF.out.texts _ hmem) hh4
      have CS := hid cs
      have HPT := hid (plainC_take hx2)
      obtain ⟨T, hT⟩ : ∃ T, plainC ((L.map (·.1)).take k) = T := ⟨_, rfl⟩
      obtain ⟨U, hU⟩ : ∃ U, plainS s = U := ⟨_, rfl⟩
      simp only at hpl
      rw [hT] at hkl HPT ⊢
      rw [hU] at hpl HPT CS
      obtain ⟨X1, hX1, hl1, s1⟩ := sumU Tryd.prog T U (by omega)
      rw [← hX1] at HPT
      have HX := hid (And.intro (chainP hb hb1) (show X1.length ≤ (k + 1) * 1000000 by rw [hl1]; omega))
      clear hb hx i1 hnh hrd hmem cs hb1 hx2 ro1 ro2 rm1 rm2 rm3 rh hh4 hpl hkl hT hU hX1 hl1 hbr
      go_wp2_with (refine wpList_load_row rfl 36 _ rfl wr.heap.size rfl 36 _ (0, 0) _ hr1 Tryd.underlying36 rfl infoSite ?_)
      refine CS.out.mono ?_
      rintro e w2 ⟨rfl, hb2⟩
      have HX2 := hid (chainP HX.out.1 hb2)
      clear hr1 y0 y1 y2 y3 y4 y5 y6 hW1 hb2
      go_wp2_with fail
      go_roundw
      case rel => exact ⟨k + 1, by go_num, hlt, by rw [HPT.out], by rw [HPT.out]; exact HX.out.2, HX2.out⟩
      case measure => simp [intOf]; omega
    · have e0 : (L.map (·.1)).take k = L.map (·.1) := List.take_of_length_le (by have := HL.out; rw [List.length_map]; omega)
      have HBR := hid hbr
      rw [e0]
      clear hb hbr hkl e0
      go_wp2_with fail
      go_ret2
      exact ⟨rfl, HBR.out⟩
end Go.Proofs.YtffenndchmcncaaDoor
