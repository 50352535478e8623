/-
  Contracts of package place: Read, Show.
-/
import Derived.Test.YthokpbpnecdgpaaGreatDoorPlaceD
import Derived.Test.YthokpbpnecdgpaaGreatDoorPlaceE
import Derived.Test.YthokpbpnecdgpaaGreatDoorPlaceF
import Derived.Test.YthokpbpnecdgpaaGreatDoorPlaceG
namespace Go.Pantry
open Go.RowKit
theorem clean_head {p P : List UInt8} (h : cleanL p = some P) : (P.head? == some 47) = (p.head? == some 47) := by
  cases p with
  | nil => rw [cleanL_nil] at h; cases h; rfl
  | cons c r =>
    by_cases hb : badC c = true
    · rw [cleanL_bad r hb] at h; cases h
    · have hb' : badC c = false := by simpa using hb
      by_cases h37 : c = 37
      · subst h37
        match r, h with
        | [], h => rw [cleanL_short0] at h; cases h
        | [a], h => rw [show cleanL [37, a] = none from by rw [cleanL]; simp] at h; cases h
        | a :: b :: r, h =>
          cases ha : hexV a with
          | none => rw [cleanL_esc1 _ ha] at h; cases h
          | some x =>
            cases hb2 : hexV b with
            | none => rw [cleanL_esc2 _ hb2] at h; cases h
            | some y =>
              rw [cleanL_esc _ ha hb2] at h
              cases hr : cleanL r with
              | none => rw [hr] at h; cases h
              | some u =>
                rw [hr] at h
                cases h
                have hne : ∃ d l, escB (16 * x + y) = d :: l := by unfold escB; split <;> exact ⟨_, _, rfl⟩
                obtain ⟨d, l, hd⟩ := hne
                have hm := esc_mem (hex_sum ha hb2) d (by rw [hd]; simp)
                show ((escB (16 * x + y) ++ u).head? == some 47) = _
                rw [hd, List.cons_append, List.head?_cons, List.head?_cons]
                rw [show ((some (37 : UInt8)) == some 47) = false from rfl, beq_eq_false_iff_ne]
                intro e
                exact hm.1 (Option.some.inj e)
      · rw [cleanL_plain r hb' h37] at h
        cases hr : cleanL r with
        | none => rw [hr] at h; cases h
        | some u => rw [hr] at h; cases h; rfl
theorem bef_head {r : List UInt8} : ((bef 63 r).head? == some 47) = (r.head? == some 47) := by
  cases r with
  | nil => rfl
  | cons c r =>
    unfold bef
    by_cases h : c = 63
    · subst h; rfl
    · rw [List.takeWhile_cons_of_pos (by simpa using h)]; rfl
theorem placeL_host {h r : List UInt8} (hh : hostL h = none) : placeL h r = none := by unfold placeL; rw [hh]
theorem placeL_p {h r : List UInt8} (hh : cleanL (bef 63 r) = none) : placeL h r = none := by
  unfold placeL; rw [hh]; cases hostL h <;> rfl
theorem placeL_q {h r : List UInt8} (hh : cleanL (beh 63 r) = none) : placeL h r = none := by
  unfold placeL; rw [hh]; cases hostL h <;> cases cleanL (bef 63 r) <;> rfl
theorem placeL_some {h r H P Q : List UInt8} (h1 : hostL h = some H) (h2 : cleanL (bef 63 r) = some P) (h3 : cleanL (beh 63 r) = some Q) :
    placeL h r = if (P.head? == some 47) = true then (if (pathL P).length ≤ 512 ∧ Q.length ≤ 512 then some ⟨H, pathL P, Q, hasB 63 r⟩ else none) else none := by
  unfold placeL
  rw [h1, h2, h3, clean_head h2, bef_head]
  simp only
  by_cases h4 : r.head? = some 47
  · rw [if_pos (show (r.head? == some 47) = true by rw [h4]; rfl)]
    by_cases h5 : (pathL P).length ≤ 512 ∧ Q.length ≤ 512
    · rw [if_pos ⟨h4, h5⟩, if_pos h5]
    · rw [if_neg (fun h => h5 h.2), if_neg h5]
  · rw [if_neg (fun h => h4 h.1), if_neg (by simpa using h4)]
theorem apartR_len (l : List UInt8) : (apartR l).length ≤ l.length + 1 ∧ (apartH l).length ≤ l.length := by
  obtain ⟨h1, h2, h3⟩ := apart_len l
  refine ⟨?_, h1⟩
  have h4 : (apartB l).length ≤ l.length := by rw [h3, List.length_drop]; omega
  unfold apartR
  split
  · omega
  · simp; omega
end Go.Pantry
namespace Go.Proofs.YthokpbpnecdgpaaGreatDoor
open Go.RowKit Go.Pantry

/-- a place as a value -/
def placeV (o : Option PlaceR) : Value := match o with | some p => .agg #[strV p.host, strV p.path, strV p.query, .bool p.has] | none => .agg #[strV [], strV [], strV [], .bool false]
theorem infoPlS : (Tryz.prog.info? 24).map (·.size) = some 4 := by kernel_rfl
theorem onePl (a b c : List UInt8) (d : Bool) : (#[strV a, strV b, strV c, .bool d] : Array Value).all (·.oneCell') = true := by simp [Value.oneCell']
/-- what the calls ask of the world -/
structure PlaceOk (w : World) : Prop where
  max : MaxOk w
  tab : Tab10 w
  err : ErrOk w
theorem PlaceOk.below {w w' : World} (h : PlaceOk w) (hb : Below w.heap.size w w') : PlaceOk w' := ⟨h.max.below hb, h.tab.below hb, h.err.below hb⟩

set_option maxRecDepth 100000 in
set_option maxHeartbeats 4000000 in
theorem readOwn (tv hv : Value) (h r : List UInt8) (w : World) (hh : h.length ≤ 50000) (hr : r.length ≤ 50000) (ok : PlaceOk w)
    (co : ∀ W, Calls Tryz.prog 9 #[tv] W fun e w' => e = .returned (.tuple #[strV h, strV r, .bool true]) ∧ Below W.heap.size W w') :
    Calls Tryz.prog 5 #[tv, hv] w fun e w' => e = .returned (.tuple #[placeV (placeL h r), errZ (placeL h r).isSome]) ∧ Below w.heap.size w w' := by
  obtain ⟨W0, hW0⟩ : ∃ W, W = w.alloc (.cells #[strV [], strV [], strV [], .bool false] 24) := ⟨_, rfl⟩
  have HB : Below w.heap.size w W0 := by rw [hW0]; exact below_alloc _ _
  have HR : rowIs W0 w.heap.size #[strV [], strV [], strV [], .bool false] 24 := by rw [hW0]; exact rowIs_new _ _ _
  have OK := hid ok
  have CO := hid co
  obtain ⟨bl1, bl2⟩ := bef_len 63 r
  have ch := fun W (hW : PlaceOk W) => Host_any h W (by omega) hW.max hW.tab
  have cc := fun W (hW : PlaceOk W) => cut_any 63 r W hW.max (by omega)
  have cp := fun W (hW : PlaceOk W) => clean_any ⟨(bef 63 r).toArray⟩ W (by rw [szL]; omega) hW.err
  have cq := fun W (hW : PlaceOk W) => clean_any ⟨(beh 63 r).toArray⟩ W (by rw [szL]; omega) hW.err
  rw [dtL] at cp cq
  have hpl := fun P h => clean_len (bef 63 r) P h
  have hql := fun P h => clean_len (beh 63 r) P h
  cases h1 : hostL h with
  | none =>
    rw [placeL_host h1]
    rw [h1] at ch
    have CH : Hid (∀ W, PlaceOk W → Calls Tryz.prog 7 #[strV h] W fun e w' => e = .returned (.tuple #[strV [], .int .i64 25]) ∧ Below W.heap.size W w') := hid ch
    clear ch cc cp cq hpl hql co ok h1 bl1 bl2
    go_enter Tryz.func5, Tryz.ntmps5
    go_wp2_with fail
    rw [← hW0]
    clear hW0
    go_wp2_with (first
      | (go_at_call 9; refine (CO.out _).mono ?_; rintro e w1 ⟨rfl, hb1⟩; replace HB := HB.trans (hb1.mono HB.size); replace HR := HR.below hb1)
      | (go_at_call 7; refine (CH.out _ (OK.out.below HB)).mono ?_; rintro e w2 ⟨rfl, hb2⟩; replace HB := HB.trans (hb2.mono HB.size); replace HR := HR.below hb2)
      | (refine wpList_store_row rfl 24 _ _ rfl w.heap.size _ rfl rfl 24 #[strV [], strV [], strV [], .bool false] HR infoPlS rfl (onePl [] [] [] false) ?_))
    refine bodyPost_ret (results_row2 Tryz.results5 _ _ w.heap.size _ rfl (HR.setRow #[strV [], strV [], strV [], .bool false]) Tryz.underlying24 rfl infoPlS) rfl ?_
    exact ⟨rfl, below_setRow HB (Nat.le_refl _) _⟩
  | some H =>
    rw [h1] at ch
    have CH : Hid (∀ W, PlaceOk W → Calls Tryz.prog 7 #[strV h] W fun e w' => e = .returned (.tuple #[strV H, .int .i64 0]) ∧ Below W.heap.size W w') := hid ch
    have CC := hid cc
    clear ch cc co ok
    obtain ⟨hs, hhs⟩ : ∃ hs, hasB 63 r = hs := ⟨_, rfl⟩
    have hpo := fun P Q h2 h3 => placeL_some (h := h) (r := r) (H := H) (P := P) (Q := Q) h1 h2 h3
    have hpp := placeL_p (h := h) (r := r)
    have hpq := placeL_q (h := h) (r := r)
    rw [hhs] at CC hpo
    obtain ⟨O, hO⟩ : ∃ O, placeL h r = O := ⟨_, rfl⟩
    rw [hO] at hpo hpp hpq ⊢
    obtain ⟨p, hp⟩ : ∃ p, bef 63 r = p := ⟨_, rfl⟩
    obtain ⟨q, hq⟩ : ∃ q, beh 63 r = q := ⟨_, rfl⟩
    rw [hp] at CC cp hpo hpp bl1 hpl
    rw [hq] at CC cq hpo hpq bl2 hql
    have hpL : p.length ≤ 50000 := by omega
    have hqL : q.length ≤ 50000 := by omega
    clear hp hq hhs h1 hO bl1 bl2
    cases h2 : cleanL p with
    | none =>
      have hn := hpp h2
      subst hn
      rw [h2] at cp
      have CP := hid cp
      have CQ := hid cq
      clear cp cq hpo hpp hpq hpl hql h2
      obtain ⟨z, hz⟩ : ∃ z, cleanL q = z := ⟨_, rfl⟩
      rw [hz] at CQ
      clear hz
      obtain ⟨zb, hzb⟩ : ∃ zb, z.isSome = zb := ⟨_, rfl⟩
      obtain ⟨zl, hzl⟩ : ∃ zl, z.getD [] = zl := ⟨_, rfl⟩
      rw [hzb, hzl] at CQ
      clear hzb hzl
      go_enter Tryz.func5, Tryz.ntmps5
      go_wp2_with fail
      rw [← hW0]
      clear hW0
      go_wp2_with (first
        | (go_at_call 9; refine (CO.out _).mono ?_; rintro e w1 ⟨rfl, hb1⟩; replace HB := HB.trans (hb1.mono HB.size); replace HR := HR.below hb1)
        | (go_at_call 7; refine (CH.out _ (OK.out.below HB)).mono ?_; rintro e w2 ⟨rfl, hb2⟩; replace HB := HB.trans (hb2.mono HB.size); replace HR := HR.below hb2)
        | (go_at_call 10; refine (CC.out _ (OK.out.below HB)).mono ?_; rintro e w3 ⟨rfl, hb3⟩; replace HB := HB.trans (hb3.mono HB.size); replace HR := HR.below hb3)
        | (go_at_call_of 11 (strV p); refine (CP.out _ (OK.out.below HB)).mono ?_; rintro e w4 ⟨rfl, hb4⟩; replace HB := HB.trans (hb4.mono HB.size); replace HR := HR.below hb4)
        | (go_at_call_of 11 (strV q); refine (CQ.out _ (OK.out.below HB)).mono ?_; rintro e w5 ⟨rfl, hb5⟩; replace HB := HB.trans (hb5.mono HB.size); replace HR := HR.below hb5)
        | (refine wpList_store_row rfl 24 _ _ rfl w.heap.size _ rfl rfl 24 #[strV [], strV [], strV [], .bool false] HR infoPlS rfl (onePl [] [] [] false) ?_))
      refine bodyPost_ret (results_row2 Tryz.results5 _ _ w.heap.size _ rfl (HR.setRow #[strV [], strV [], strV [], .bool false]) Tryz.underlying24 rfl infoPlS) rfl ?_
      exact ⟨rfl, below_setRow HB (Nat.le_refl _) _⟩
    | some P =>
      have hPl := hpl P h2
      rw [h2] at cp
      have CP := hid cp
      clear cp hpp hpl
      cases h3 : cleanL q with
      | none =>
        have hn := hpq h3
        subst hn
        rw [h3] at cq
        have CQ := hid cq
        clear cq hpo hpq hql h2 h3
        go_enter Tryz.func5, Tryz.ntmps5
        go_wp2_with fail
        rw [← hW0]
        clear hW0
        go_wp2_with (first
          | (go_at_call 9; refine (CO.out _).mono ?_; rintro e w1 ⟨rfl, hb1⟩; replace HB := HB.trans (hb1.mono HB.size); replace HR := HR.below hb1)
          | (go_at_call 7; refine (CH.out _ (OK.out.below HB)).mono ?_; rintro e w2 ⟨rfl, hb2⟩; replace HB := HB.trans (hb2.mono HB.size); replace HR := HR.below hb2)
          | (go_at_call 10; refine (CC.out _ (OK.out.below HB)).mono ?_; rintro e w3 ⟨rfl, hb3⟩; replace HB := HB.trans (hb3.mono HB.size); replace HR := HR.below hb3)
          | (go_at_call_of 11 (strV p); refine (CP.out _ (OK.out.below HB)).mono ?_; rintro e w4 ⟨rfl, hb4⟩; replace HB := HB.trans (hb4.mono HB.size); replace HR := HR.below hb4)
          | (go_at_call_of 11 (strV q); refine (CQ.out _ (OK.out.below HB)).mono ?_; rintro e w5 ⟨rfl, hb5⟩; replace HB := HB.trans (hb5.mono HB.size); replace HR := HR.below hb5)
          | (refine wpList_store_row rfl 24 _ _ rfl w.heap.size _ rfl rfl 24 #[strV [], strV [], strV [], .bool false] HR infoPlS rfl (onePl [] [] [] false) ?_))
        refine bodyPost_ret (results_row2 Tryz.results5 _ _ w.heap.size _ rfl (HR.setRow #[strV [], strV [], strV [], .bool false]) Tryz.underlying24 rfl infoPlS) rfl ?_
        exact ⟨rfl, below_setRow HB (Nat.le_refl _) _⟩
      | some Q =>
        have hQl := hql Q h3
        rw [h3] at cq
        have CQ := hid cq
        have hO := hpo P Q h2 h3
        have cx := fun W => Tryz.strings_HasPrefix ⟨P.toArray⟩ ⟨#[47]⟩ W
        rw [dtL, show (⟨#[47]⟩ : ByteArray).data.toList = [47] from rfl, hasPrefix_slash] at cx
        clear cq hpo hpq hql h2 h3
        by_cases hhd : (P.head? == some 47) = true
        · rw [hhd] at cx
          rw [if_pos hhd] at hO
          have hP1 : 1 ≤ P.length := by
            cases P with
            | nil => cases hhd
            | cons c P => simp
          have cs := fun W (hW : PlaceOk W) => settle_any ⟨P.toArray⟩ W (by rw [szL]; omega) (by rw [szL]; exact hP1) hW.max
          rw [dtL] at cs
          obtain ⟨T, hT⟩ : ∃ T, pathL P = T := ⟨_, rfl⟩
          rw [hT] at cs hO
          have CX := hid cx
          have CS := hid cs
          clear cx cs hT hhd
          by_cases h5 : T.length ≤ 512
          · have t5 : decide (512 < (T.length : Int)) = false := by rw [decide_eq_false_iff_not]; omega
            by_cases h6 : Q.length ≤ 512
            · have t6 : decide (512 < (Q.length : Int)) = false := by rw [decide_eq_false_iff_not]; omega
              rw [if_pos ⟨h5, h6⟩] at hO
              subst hO
              clear h5 h6
              go_enter Tryz.func5, Tryz.ntmps5
              go_wp2_with fail
              rw [← hW0]
              clear hW0
              go_wp2_with (first
                | (go_at_call 9; refine (CO.out _).mono ?_; rintro e w1 ⟨rfl, hb1⟩; replace HB := HB.trans (hb1.mono HB.size); replace HR := HR.below hb1)
                | (go_at_call 7; refine (CH.out _ (OK.out.below HB)).mono ?_; rintro e w2 ⟨rfl, hb2⟩; replace HB := HB.trans (hb2.mono HB.size); replace HR := HR.below hb2)
                | (go_at_call 10; refine (CC.out _ (OK.out.below HB)).mono ?_; rintro e w3 ⟨rfl, hb3⟩; replace HB := HB.trans (hb3.mono HB.size); replace HR := HR.below hb3)
                | (go_at_call_of 11 (strV p); refine (CP.out _ (OK.out.below HB)).mono ?_; rintro e w4 ⟨rfl, hb4⟩; replace HB := HB.trans (hb4.mono HB.size); replace HR := HR.below hb4)
                | (go_at_call_of 11 (strV q); refine (CQ.out _ (OK.out.below HB)).mono ?_; rintro e w5 ⟨rfl, hb5⟩; replace HB := HB.trans (hb5.mono HB.size); replace HR := HR.below hb5)
                | (go_at_call 12; refine (CX.out _).mono ?_; rintro e w6 ⟨rfl, rfl⟩)
                | (go_at_call 13; refine (CS.out _ (OK.out.below HB)).mono ?_; rintro e w7 ⟨rfl, hb7⟩; replace HB := HB.trans (hb7.mono HB.size); replace HR := HR.below hb7)
                | (refine wpList_store_row rfl 24 _ _ rfl w.heap.size _ rfl rfl 24 #[strV [], strV [], strV [], .bool false] HR infoPlS rfl (onePl _ _ _ _) ?_))
              refine bodyPost_ret (results_row2 Tryz.results5 _ _ w.heap.size _ rfl (HR.setRow #[strV H, strV T, strV Q, .bool hs]) Tryz.underlying24 rfl infoPlS) rfl ?_
              exact ⟨rfl, below_setRow HB (Nat.le_refl _) _⟩
            · have t6 : decide (512 < (Q.length : Int)) = true := by rw [decide_eq_true_eq]; omega
              rw [if_neg (fun h => h6 h.2)] at hO
              subst hO
              clear h5 h6
              go_enter Tryz.func5, Tryz.ntmps5
              go_wp2_with fail
              rw [← hW0]
              clear hW0
              go_wp2_with (first
                | (go_at_call 9; refine (CO.out _).mono ?_; rintro e w1 ⟨rfl, hb1⟩; replace HB := HB.trans (hb1.mono HB.size); replace HR := HR.below hb1)
                | (go_at_call 7; refine (CH.out _ (OK.out.below HB)).mono ?_; rintro e w2 ⟨rfl, hb2⟩; replace HB := HB.trans (hb2.mono HB.size); replace HR := HR.below hb2)
                | (go_at_call 10; refine (CC.out _ (OK.out.below HB)).mono ?_; rintro e w3 ⟨rfl, hb3⟩; replace HB := HB.trans (hb3.mono HB.size); replace HR := HR.below hb3)
                | (go_at_call_of 11 (strV p); refine (CP.out _ (OK.out.below HB)).mono ?_; rintro e w4 ⟨rfl, hb4⟩; replace HB := HB.trans (hb4.mono HB.size); replace HR := HR.below hb4)
                | (go_at_call_of 11 (strV q); refine (CQ.out _ (OK.out.below HB)).mono ?_; rintro e w5 ⟨rfl, hb5⟩; replace HB := HB.trans (hb5.mono HB.size); replace HR := HR.below hb5)
                | (go_at_call 12; refine (CX.out _).mono ?_; rintro e w6 ⟨rfl, rfl⟩)
                | (go_at_call 13; refine (CS.out _ (OK.out.below HB)).mono ?_; rintro e w7 ⟨rfl, hb7⟩; replace HB := HB.trans (hb7.mono HB.size); replace HR := HR.below hb7)
                | (refine wpList_store_row rfl 24 _ _ rfl w.heap.size _ rfl rfl 24 #[strV [], strV [], strV [], .bool false] HR infoPlS rfl (onePl [] [] [] false) ?_))
              refine bodyPost_ret (results_row2 Tryz.results5 _ _ w.heap.size _ rfl (HR.setRow #[strV [], strV [], strV [], .bool false]) Tryz.underlying24 rfl infoPlS) rfl ?_
              exact ⟨rfl, below_setRow HB (Nat.le_refl _) _⟩
          · have t5 : decide (512 < (T.length : Int)) = true := by rw [decide_eq_true_eq]; omega
            rw [if_neg (fun h => h5 h.1)] at hO
            subst hO
            clear h5
            go_enter Tryz.func5, Tryz.ntmps5
            go_wp2_with fail
            rw [← hW0]
            clear hW0
            go_wp2_with (first
              | (go_at_call 9; refine (CO.out _).mono ?_; rintro e w1 ⟨rfl, hb1⟩; replace HB := HB.trans (hb1.mono HB.size); replace HR := HR.below hb1)
              | (go_at_call 7; refine (CH.out _ (OK.out.below HB)).mono ?_; rintro e w2 ⟨rfl, hb2⟩; replace HB := HB.trans (hb2.mono HB.size); replace HR := HR.below hb2)
              | (go_at_call 10; refine (CC.out _ (OK.out.below HB)).mono ?_; rintro e w3 ⟨rfl, hb3⟩; replace HB := HB.trans (hb3.mono HB.size); replace HR := HR.below hb3)
              | (go_at_call_of 11 (strV p); refine (CP.out _ (OK.out.below HB)).mono ?_; rintro e w4 ⟨rfl, hb4⟩; replace HB := HB.trans (hb4.mono HB.size); replace HR := HR.below hb4)
              | (go_at_call_of 11 (strV q); refine (CQ.out _ (OK.out.below HB)).mono ?_; rintro e w5 ⟨rfl, hb5⟩; replace HB := HB.trans (hb5.mono HB.size); replace HR := HR.below hb5)
              | (go_at_call 12; refine (CX.out _).mono ?_; rintro e w6 ⟨rfl, rfl⟩)
              | (go_at_call 13; refine (CS.out _ (OK.out.below HB)).mono ?_; rintro e w7 ⟨rfl, hb7⟩; replace HB := HB.trans (hb7.mono HB.size); replace HR := HR.below hb7)
              | (refine wpList_store_row rfl 24 _ _ rfl w.heap.size _ rfl rfl 24 #[strV [], strV [], strV [], .bool false] HR infoPlS rfl (onePl [] [] [] false) ?_))
            refine bodyPost_ret (results_row2 Tryz.results5 _ _ w.heap.size _ rfl (HR.setRow #[strV [], strV [], strV [], .bool false]) Tryz.underlying24 rfl infoPlS) rfl ?_
            exact ⟨rfl, below_setRow HB (Nat.le_refl _) _⟩
        · rw [show (P.head? == some 47) = false by simpa using hhd] at cx
          rw [if_neg hhd] at hO
          subst hO
          have CX := hid cx
          clear cx hhd
          go_enter Tryz.func5, Tryz.ntmps5
          go_wp2_with fail
          rw [← hW0]
          clear hW0
          go_wp2_with (first
            | (go_at_call 9; refine (CO.out _).mono ?_; rintro e w1 ⟨rfl, hb1⟩; replace HB := HB.trans (hb1.mono HB.size); replace HR := HR.below hb1)
            | (go_at_call 7; refine (CH.out _ (OK.out.below HB)).mono ?_; rintro e w2 ⟨rfl, hb2⟩; replace HB := HB.trans (hb2.mono HB.size); replace HR := HR.below hb2)
            | (go_at_call 10; refine (CC.out _ (OK.out.below HB)).mono ?_; rintro e w3 ⟨rfl, hb3⟩; replace HB := HB.trans (hb3.mono HB.size); replace HR := HR.below hb3)
            | (go_at_call_of 11 (strV p); refine (CP.out _ (OK.out.below HB)).mono ?_; rintro e w4 ⟨rfl, hb4⟩; replace HB := HB.trans (hb4.mono HB.size); replace HR := HR.below hb4)
            | (go_at_call_of 11 (strV q); refine (CQ.out _ (OK.out.below HB)).mono ?_; rintro e w5 ⟨rfl, hb5⟩; replace HB := HB.trans (hb5.mono HB.size); replace HR := HR.below hb5)
            | (go_at_call 12; refine (CX.out _).mono ?_; rintro e w6 ⟨rfl, rfl⟩)
            | (refine wpList_store_row rfl 24 _ _ rfl w.heap.size _ rfl rfl 24 #[strV [], strV [], strV [], .bool false] HR infoPlS rfl (onePl [] [] [] false) ?_))
          refine bodyPost_ret (results_row2 Tryz.results5 _ _ w.heap.size _ rfl (HR.setRow #[strV [], strV [], strV [], .bool false]) Tryz.underlying24 rfl infoPlS) rfl ?_
          exact ⟨rfl, below_setRow HB (Nat.le_refl _) _⟩
set_option maxRecDepth 100000 in
set_option maxHeartbeats 4000000 in
theorem readNot (x y : List UInt8) (h r : List UInt8) (w : World) (hh : h.length ≤ 50000) (hr : r.length ≤ 50000) (ok : PlaceOk w)
    (co : ∀ W, Calls Tryz.prog 9 #[strV r] W fun e w' => e = .returned (.tuple #[strV x, strV y, .bool false]) ∧ Below W.heap.size W w') :
    Calls Tryz.prog 5 #[strV r, strV h] w fun e w' => e = .returned (.tuple #[placeV (placeL h r), errZ (placeL h r).isSome]) ∧ Below w.heap.size w w' := by
  obtain ⟨W0, hW0⟩ : ∃ W, W = w.alloc (.cells #[strV [], strV [], strV [], .bool false] 24) := ⟨_, rfl⟩
  have HB : Below w.heap.size w W0 := by rw [hW0]; exact below_alloc _ _
  have HR : rowIs W0 w.heap.size #[strV [], strV [], strV [], .bool false] 24 := by rw [hW0]; exact rowIs_new _ _ _
  have OK := hid ok
  have CO := hid co
  obtain ⟨bl1, bl2⟩ := bef_len 63 r
  have ch := fun W (hW : PlaceOk W) => Host_any h W (by omega) hW.max hW.tab
  have cc := fun W (hW : PlaceOk W) => cut_any 63 r W hW.max (by omega)
  have cp := fun W (hW : PlaceOk W) => clean_any ⟨(bef 63 r).toArray⟩ W (by rw [szL]; omega) hW.err
  have cq := fun W (hW : PlaceOk W) => clean_any ⟨(beh 63 r).toArray⟩ W (by rw [szL]; omega) hW.err
  rw [dtL] at cp cq
  have hpl := fun P h => clean_len (bef 63 r) P h
  have hql := fun P h => clean_len (beh 63 r) P h
  cases h1 : hostL h with
  | none =>
    rw [placeL_host h1]
    rw [h1] at ch
    have CH : Hid (∀ W, PlaceOk W → Calls Tryz.prog 7 #[strV h] W fun e w' => e = .returned (.tuple #[strV [], .int .i64 25]) ∧ Below W.heap.size W w') := hid ch
    clear ch cc cp cq hpl hql co ok h1 bl1 bl2
    go_enter Tryz.func5, Tryz.ntmps5
    go_wp2_with fail
    rw [← hW0]
    clear hW0
    go_wp2_with (first
      | (go_at_call 9; refine (CO.out _).mono ?_; rintro e w1 ⟨rfl, hb1⟩; replace HB := HB.trans (hb1.mono HB.size); replace HR := HR.below hb1)
      | (go_at_call 7; refine (CH.out _ (OK.out.below HB)).mono ?_; rintro e w2 ⟨rfl, hb2⟩; replace HB := HB.trans (hb2.mono HB.size); replace HR := HR.below hb2)
      | (refine wpList_store_row rfl 24 _ _ rfl w.heap.size _ rfl rfl 24 #[strV [], strV [], strV [], .bool false] HR infoPlS rfl (onePl [] [] [] false) ?_))
    refine bodyPost_ret (results_row2 Tryz.results5 _ _ w.heap.size _ rfl (HR.setRow #[strV [], strV [], strV [], .bool false]) Tryz.underlying24 rfl infoPlS) rfl ?_
    exact ⟨rfl, below_setRow HB (Nat.le_refl _) _⟩
  | some H =>
    rw [h1] at ch
    have CH : Hid (∀ W, PlaceOk W → Calls Tryz.prog 7 #[strV h] W fun e w' => e = .returned (.tuple #[strV H, .int .i64 0]) ∧ Below W.heap.size W w') := hid ch
    have CC := hid cc
    clear ch cc co ok
    obtain ⟨hs, hhs⟩ : ∃ hs, hasB 63 r = hs := ⟨_, rfl⟩
    have hpo := fun P Q h2 h3 => placeL_some (h := h) (r := r) (H := H) (P := P) (Q := Q) h1 h2 h3
    have hpp := placeL_p (h := h) (r := r)
    have hpq := placeL_q (h := h) (r := r)
    rw [hhs] at CC hpo
    obtain ⟨O, hO⟩ : ∃ O, placeL h r = O := ⟨_, rfl⟩
    rw [hO] at hpo hpp hpq ⊢
    obtain ⟨p, hp⟩ : ∃ p, bef 63 r = p := ⟨_, rfl⟩
    obtain ⟨q, hq⟩ : ∃ q, beh 63 r = q := ⟨_, rfl⟩
    rw [hp] at CC cp hpo hpp bl1 hpl
    rw [hq] at CC cq hpo hpq bl2 hql
    have hpL : p.length ≤ 50000 := by omega
    have hqL : q.length ≤ 50000 := by omega
    clear hp hq hhs h1 hO bl1 bl2
    cases h2 : cleanL p with
    | none =>
      have hn := hpp h2
      subst hn
      rw [h2] at cp
      have CP := hid cp
      have CQ := hid cq
      clear cp cq hpo hpp hpq hpl hql h2
      obtain ⟨z, hz⟩ : ∃ z, cleanL q = z := ⟨_, rfl⟩
      rw [hz] at CQ
      clear hz
      obtain ⟨zb, hzb⟩ : ∃ zb, z.isSome = zb := ⟨_, rfl⟩
      obtain ⟨zl, hzl⟩ : ∃ zl, z.getD [] = zl := ⟨_, rfl⟩
      rw [hzb, hzl] at CQ
      clear hzb hzl
      go_enter Tryz.func5, Tryz.ntmps5
      go_wp2_with fail
      rw [← hW0]
      clear hW0
      go_wp2_with (first
        | (go_at_call 9; refine (CO.out _).mono ?_; rintro e w1 ⟨rfl, hb1⟩; replace HB := HB.trans (hb1.mono HB.size); replace HR := HR.below hb1)
        | (go_at_call 7; refine (CH.out _ (OK.out.below HB)).mono ?_; rintro e w2 ⟨rfl, hb2⟩; replace HB := HB.trans (hb2.mono HB.size); replace HR := HR.below hb2)
        | (go_at_call 10; refine (CC.out _ (OK.out.below HB)).mono ?_; rintro e w3 ⟨rfl, hb3⟩; replace HB := HB.trans (hb3.mono HB.size); replace HR := HR.below hb3)
        | (go_at_call_of 11 (strV p); refine (CP.out _ (OK.out.below HB)).mono ?_; rintro e w4 ⟨rfl, hb4⟩; replace HB := HB.trans (hb4.mono HB.size); replace HR := HR.below hb4)
        | (go_at_call_of 11 (strV q); refine (CQ.out _ (OK.out.below HB)).mono ?_; rintro e w5 ⟨rfl, hb5⟩; replace HB := HB.trans (hb5.mono HB.size); replace HR := HR.below hb5)
        | (refine wpList_store_row rfl 24 _ _ rfl w.heap.size _ rfl rfl 24 #[strV [], strV [], strV [], .bool false] HR infoPlS rfl (onePl [] [] [] false) ?_))
      refine bodyPost_ret (results_row2 Tryz.results5 _ _ w.heap.size _ rfl (HR.setRow #[strV [], strV [], strV [], .bool false]) Tryz.underlying24 rfl infoPlS) rfl ?_
      exact ⟨rfl, below_setRow HB (Nat.le_refl _) _⟩
    | some P =>
      have hPl := hpl P h2
      rw [h2] at cp
      have CP := hid cp
      clear cp hpp hpl
      cases h3 : cleanL q with
      | none =>
        have hn := hpq h3
        subst hn
        rw [h3] at cq
        have CQ := hid cq
        clear cq hpo hpq hql h2 h3
        go_enter Tryz.func5, Tryz.ntmps5
        go_wp2_with fail
        rw [← hW0]
        clear hW0
        go_wp2_with (first
          | (go_at_call 9; refine (CO.out _).mono ?_; rintro e w1 ⟨rfl, hb1⟩; replace HB := HB.trans (hb1.mono HB.size); replace HR := HR.below hb1)
          | (go_at_call 7; refine (CH.out _ (OK.out.below HB)).mono ?_; rintro e w2 ⟨rfl, hb2⟩; replace HB := HB.trans (hb2.mono HB.size); replace HR := HR.below hb2)
          | (go_at_call 10; refine (CC.out _ (OK.out.below HB)).mono ?_; rintro e w3 ⟨rfl, hb3⟩; replace HB := HB.trans (hb3.mono HB.size); replace HR := HR.below hb3)
          | (go_at_call_of 11 (strV p); refine (CP.out _ (OK.out.below HB)).mono ?_; rintro e w4 ⟨rfl, hb4⟩; replace HB := HB.trans (hb4.mono HB.size); replace HR := HR.below hb4)
          | (go_at_call_of 11 (strV q); refine (CQ.out _ (OK.out.below HB)).mono ?_; rintro e w5 ⟨rfl, hb5⟩; replace HB := HB.trans (hb5.mono HB.size); replace HR := HR.below hb5)
          | (refine wpList_store_row rfl 24 _ _ rfl w.heap.size _ rfl rfl 24 #[strV [], strV [], strV [], .bool false] HR infoPlS rfl (onePl [] [] [] false) ?_))
        refine bodyPost_ret (results_row2 Tryz.results5 _ _ w.heap.size _ rfl (HR.setRow #[strV [], strV [], strV [], .bool false]) Tryz.underlying24 rfl infoPlS) rfl ?_
        exact ⟨rfl, below_setRow HB (Nat.le_refl _) _⟩
      | some Q =>
        have hQl := hql Q h3
        rw [h3] at cq
        have CQ := hid cq
        have hO := hpo P Q h2 h3
        have cx := fun W => Tryz.strings_HasPrefix ⟨P.toArray⟩ ⟨#[47]⟩ W
        rw [dtL, show (⟨#[47]⟩ : ByteArray).data.toList = [47] from rfl, hasPrefix_slash] at cx
        clear cq hpo hpq hql h2 h3
        by_cases hhd : (P.head? == some 47) = true
        · rw [hhd] at cx
          rw [if_pos hhd] at hO
          have hP1 : 1 ≤ P.length := by
            cases P with
            | nil => cases hhd
            | cons c P => simp
          have cs := fun W (hW : PlaceOk W) => settle_any ⟨P.toArray⟩ W (by rw [szL]; omega) (by rw [szL]; exact hP1) hW.max
          rw [dtL] at cs
          obtain ⟨T, hT⟩ : ∃ T, pathL P = T := ⟨_, rfl⟩
          rw [hT] at cs hO
          have CX := hid cx
          have CS := hid cs
          clear cx cs hT hhd
          by_cases h5 : T.length ≤ 512
          · have t5 : decide (512 < (T.length : Int)) = false := by rw [decide_eq_false_iff_not]; omega
            by_cases h6 : Q.length ≤ 512
            · have t6 : decide (512 < (Q.length : Int)) = false := by rw [decide_eq_false_iff_not]; omega
              rw [if_pos ⟨h5, h6⟩] at hO
              subst hO
              clear h5 h6
              go_enter Tryz.func5, Tryz.ntmps5
              go_wp2_with fail
              rw [← hW0]
              clear hW0
              go_wp2_with (first
                | (go_at_call 9; refine (CO.out _).mono ?_; rintro e w1 ⟨rfl, hb1⟩; replace HB := HB.trans (hb1.mono HB.size); replace HR := HR.below hb1)
                | (go_at_call 7; refine (CH.out _ (OK.out.below HB)).mono ?_; rintro e w2 ⟨rfl, hb2⟩; replace HB := HB.trans (hb2.mono HB.size); replace HR := HR.below hb2)
                | (go_at_call 10; refine (CC.out _ (OK.out.below HB)).mono ?_; rintro e w3 ⟨rfl, hb3⟩; replace HB := HB.trans (hb3.mono HB.size); replace HR := HR.below hb3)
                | (go_at_call_of 11 (strV p); refine (CP.out _ (OK.out.below HB)).mono ?_; rintro e w4 ⟨rfl, hb4⟩; replace HB := HB.trans (hb4.mono HB.size); replace HR := HR.below hb4)
                | (go_at_call_of 11 (strV q); refine (CQ.out _ (OK.out.below HB)).mono ?_; rintro e w5 ⟨rfl, hb5⟩; replace HB := HB.trans (hb5.mono HB.size); replace HR := HR.below hb5)
                | (go_at_call 12; refine (CX.out _).mono ?_; rintro e w6 ⟨rfl, rfl⟩)
                | (go_at_call 13; refine (CS.out _ (OK.out.below HB)).mono ?_; rintro e w7 ⟨rfl, hb7⟩; replace HB := HB.trans (hb7.mono HB.size); replace HR := HR.below hb7)
                | (refine wpList_store_row rfl 24 _ _ rfl w.heap.size _ rfl rfl 24 #[strV [], strV [], strV [], .bool false] HR infoPlS rfl (onePl _ _ _ _) ?_))
              refine bodyPost_ret (results_row2 Tryz.results5 _ _ w.heap.size _ rfl (HR.setRow #[strV H, strV T, strV Q, .bool hs]) Tryz.underlying24 rfl infoPlS) rfl ?_
              exact ⟨rfl, below_setRow HB (Nat.le_refl _) _⟩
            · have t6 : decide (512 < (Q.length : Int)) = true := by rw [decide_eq_true_eq]; omega
              rw [if_neg (fun h => h6 h.2)] at hO
              subst hO
              clear h5 h6
              go_enter Tryz.func5, Tryz.ntmps5
              go_wp2_with fail
              rw [← hW0]
              clear hW0
              go_wp2_with (first
                | (go_at_call 9; refine (CO.out _).mono ?_; rintro e w1 ⟨rfl, hb1⟩; replace HB := HB.trans (hb1.mono HB.size); replace HR := HR.below hb1)
                | (go_at_call 7; refine (CH.out _ (OK.out.below HB)).mono ?_; rintro e w2 ⟨rfl, hb2⟩; replace HB := HB.trans (hb2.mono HB.size); replace HR := HR.below hb2)
                | (go_at_call 10; refine (CC.out _ (OK.out.below HB)).mono ?_; rintro e w3 ⟨rfl, hb3⟩; replace HB := HB.trans (hb3.mono HB.size); replace HR := HR.below hb3)
                | (go_at_call_of 11 (strV p); refine (CP.out _ (OK.out.below HB)).mono ?_; rintro e w4 ⟨rfl, hb4⟩; replace HB := HB.trans (hb4.mono HB.size); replace HR := HR.below hb4)
                | (go_at_call_of 11 (strV q); refine (CQ.out _ (OK.out.below HB)).mono ?_; rintro e w5 ⟨rfl, hb5⟩; replace HB := HB.trans (hb5.mono HB.size); replace HR := HR.below hb5)
                | (go_at_call 12; refine (CX.out _).mono ?_; rintro e w6 ⟨rfl, rfl⟩)
                | (go_at_call 13; refine (CS.out _ (OK.out.below HB)).mono ?_; rintro e w7 ⟨rfl, hb7⟩; replace HB := HB.trans (hb7.mono HB.size); replace HR := HR.below hb7)
                | (refine wpList_store_row rfl 24 _ _ rfl w.heap.size _ rfl rfl 24 #[strV [], strV [], strV [], .bool false] HR infoPlS rfl (onePl [] [] [] false) ?_))
              refine bodyPost_ret (results_row2 Tryz.results5 _ _ w.heap.size _ rfl (HR.setRow #[strV [], strV [], strV [], .bool false]) Tryz.underlying24 rfl infoPlS) rfl ?_
              exact ⟨rfl, below_setRow HB (Nat.le_refl _) _⟩
          · have t5 : decide (512 < (T.length : Int)) = true := by rw [decide_eq_true_eq]; omega
            rw [if_neg (fun h => h5 h.1)] at hO
            subst hO
            clear h5
            go_enter Tryz.func5, Tryz.ntmps5
            go_wp2_with fail
            rw [← hW0]
            clear hW0
            go_wp2_with (first
              | (go_at_call 9; refine (CO.out _).mono ?_; rintro e w1 ⟨rfl, hb1⟩; replace HB := HB.trans (hb1.mono HB.size); replace HR := HR.below hb1)
              | (go_at_call 7; refine (CH.out _ (OK.out.below HB)).mono ?_; rintro e w2 ⟨rfl, hb2⟩; replace HB := HB.trans (hb2.mono HB.size); replace HR := HR.below hb2)
              | (go_at_call 10; refine (CC.out _ (OK.out.below HB)).mono ?_; rintro e w3 ⟨rfl, hb3⟩; replace HB := HB.trans (hb3.mono HB.size); replace HR := HR.below hb3)
              | (go_at_call_of 11 (strV p); refine (CP.out _ (OK.out.below HB)).mono ?_; rintro e w4 ⟨rfl, hb4⟩; replace HB := HB.trans (hb4.mono HB.size); replace HR := HR.below hb4)
              | (go_at_call_of 11 (strV q); refine (CQ.out _ (OK.out.below HB)).mono ?_; rintro e w5 ⟨rfl, hb5⟩; replace HB := HB.trans (hb5.mono HB.size); replace HR := HR.below hb5)
              | (go_at_call 12; refine (CX.out _).mono ?_; rintro e w6 ⟨rfl, rfl⟩)
              | (go_at_call 13; refine (CS.out _ (OK.out.below HB)).mono ?_; rintro e w7 ⟨rfl, hb7⟩; replace HB := HB.trans (hb7.mono HB.size); replace HR := HR.below hb7)
              | (refine wpList_store_row rfl 24 _ _ rfl w.heap.size _ rfl rfl 24 #[strV [], strV [], strV [], .bool false] HR infoPlS rfl (onePl [] [] [] false) ?_))
            refine bodyPost_ret (results_row2 Tryz.results5 _ _ w.heap.size _ rfl (HR.setRow #[strV [], strV [], strV [], .bool false]) Tryz.underlying24 rfl infoPlS) rfl ?_
            exact ⟨rfl, below_setRow HB (Nat.le_refl _) _⟩
        · rw [show (P.head? == some 47) = false by simpa using hhd] at cx
          rw [if_neg hhd] at hO
          subst hO
          have CX := hid cx
          clear cx hhd
          go_enter Tryz.func5, Tryz.ntmps5
          go_wp2_with fail
          rw [← hW0]
          clear hW0
          go_wp2_with (first
            | (go_at_call 9; refine (CO.out _).mono ?_; rintro e w1 ⟨rfl, hb1⟩; replace HB := HB.trans (hb1.mono HB.size); replace HR := HR.below hb1)
            | (go_at_call 7; refine (CH.out _ (OK.out.below HB)).mono ?_; rintro e w2 ⟨rfl, hb2⟩; replace HB := HB.trans (hb2.mono HB.size); replace HR := HR.below hb2)
            | (go_at_call 10; refine (CC.out _ (OK.out.below HB)).mono ?_; rintro e w3 ⟨rfl, hb3⟩; replace HB := HB.trans (hb3.mono HB.size); replace HR := HR.below hb3)
            | (go_at_call_of 11 (strV p); refine (CP.out _ (OK.out.below HB)).mono ?_; rintro e w4 ⟨rfl, hb4⟩; replace HB := HB.trans (hb4.mono HB.size); replace HR := HR.below hb4)
            | (go_at_call_of 11 (strV q); refine (CQ.out _ (OK.out.below HB)).mono ?_; rintro e w5 ⟨rfl, hb5⟩; replace HB := HB.trans (hb5.mono HB.size); replace HR := HR.below hb5)
            | (go_at_call 12; refine (CX.out _).mono ?_; rintro e w6 ⟨rfl, rfl⟩)
            | (refine wpList_store_row rfl 24 _ _ rfl w.heap.size _ rfl rfl 24 #[strV [], strV [], strV [], .bool false] HR infoPlS rfl (onePl [] [] [] false) ?_))
          refine bodyPost_ret (results_row2 Tryz.results5 _ _ w.heap.size _ rfl (HR.setRow #[strV [], strV [], strV [], .bool false]) Tryz.underlying24 rfl infoPlS) rfl ?_
          exact ⟨rfl, below_setRow HB (Nat.le_refl _) _⟩
theorem Read_any (t h : List UInt8) (w : World) (ht : t.length ≤ 40000) (hh : h.length ≤ 40000) (ok : PlaceOk w) :
    Calls Tryz.prog 5 #[strV t, strV h] w fun e w' => e = .returned (.tuple #[placeV (readP t h), errZ (readP t h).isSome]) ∧ Below w.heap.size w w' := by
  have co := fun W => ownHost_any ⟨t.toArray⟩ W (by rw [szL]; omega)
  rw [dtL] at co
  unfold readP
  obtain ⟨l1, l2⟩ := apartR_len (t.drop 7)
  rw [List.length_drop] at l1 l2
  by_cases hq : ownL t = true
  · rw [if_pos hq]
    have ho : ownO t = (apartH (t.drop 7), apartR (t.drop 7), true) := by unfold ownO; rw [if_pos hq]
    rw [ho] at co
    exact readOwn (strV t) (strV h) _ _ w (by omega) (by omega) ok co
  · rw [if_neg hq]
    have ho : ownO t = ([], [], false) := by unfold ownO; rw [if_neg hq]
    rw [ho] at co
    exact readNot [] [] h t w (by omega) (by omega) ok co
end Go.Proofs.YthokpbpnecdgpaaGreatDoor
