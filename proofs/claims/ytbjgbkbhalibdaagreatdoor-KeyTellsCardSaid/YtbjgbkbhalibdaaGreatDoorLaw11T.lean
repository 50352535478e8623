/-
  The walk of KeyTells.
-/
import Derived.Test.YtbjgbkbhalibdaaGreatDoorLaw11C
import Derived.Test.YtbjgbkbhalibdaaGreatDoorRef11F
import Derived.Test.YtbjgbkbhalibdaaGreatDoorRef11N
import Derived.Test.YtbjgbkbhalibdaaGreatDoorMadeSK
import Derived.Test.YtbjgbkbhalibdaaGreatDoorRefFieldM
namespace Go.Proofs.YtbjgbkbhalibdaaGreatDoor
open Go.RowKit Go.Pantry

set_option maxRecDepth 8000 in
set_option maxHeartbeats 4000000 in
theorem keyTells_over {Ok : World → Prop} (K : Keys Ok) (hv lv : Value) (s : SiteZ) (p : PlaceR) (l : List Fld) (w : World) (ok : Ok w) (hr : Reads2 w lv l) (hh : Reads w hv (s.heads.map strV)) (hn : l.length ≤ maxLen) (hl : s.heads.length ≤ maxLen) :
    Calls Tryz.prog 3 #[.agg (rowZ hv s), .agg #[strV p.host, strV p.path, strV p.query, .bool p.has], lv] w fun e w' => e = .returned (.bool true) ∧ Below w.heap.size w w' := by
  unfold maxLen at hn hl
  obtain ⟨no, nc, rfl⟩ := hh.strs
  obtain ⟨ao, cap, rfl⟩ := hr.form
  obtain ⟨m, hm⟩ : ∃ m, s.heads.length = m := ⟨_, rfl⟩
  rw [hm] at hh ⊢
  obtain ⟨W, hW⟩ : ∃ W, (w.alloc (.cells (rowZ (.slice no m nc) s) 24)).alloc (.cells #[strV p.host, strV p.path, strV p.query, .bool p.has] 26) = W := ⟨_, rfl⟩
  have hbW : Below w.heap.size w W := by rw [← hW]; exact chainK (below_alloc _ _) (below_alloc _ _)
  have q1 : rowIs W w.heap.size (rowZ (.slice no m nc) s) 24 := by rw [← hW]; exact (rowIs_new _ _ _).below (below_alloc _ _)
  have q2 : rowIs W (w.heap.size + 1) #[strV p.host, strV p.path, strV p.query, .bool p.has] 26 := by rw [← hW]; exact rowIs_new_at _ _ _ _ (by simp)
  have cA := hid (anchor_any K W (K.keep _ _ ok hbW))
  have cF := hid (fun (w' : World) (h : Below w.heap.size w w') => fit_any (.slice no m nc) s p w' (hh.below h) (by omega))
  have cS := hid (fun (w' : World) (h : Below w.heap.size w w') => smallK_any (.slice ao l.length cap) l w' (hr.below h) (by omega))
  have HQ := hid (And.intro q1 (And.intro q2 hbW))
  have HR := hid (And.intro hr hh)
  have HM := hid (And.intro hm ok)
  clear hr hh hn hl hm q1 q2 hbW ok
  go_enter Tryz.func3, Tryz.ntmps3
  go_wp2_with fail
  clear hW
  refine cA.out.mono ?_
  rintro e w1 ⟨rfl, hb1⟩
  have r1 := HQ.out.1.below hb1
  have r2 := HQ.out.2.1.below hb1
  have hbw := chain2 HQ.out.2.2 HQ.out.2.2.size hb1
  have HBW := hid hbw
  have R1 := hid (And.intro r1 r2)
  clear hb1 hbw cA
  go_wp2_with (first
    | (refine wpList_load_row rfl 24 _ rfl w.heap.size rfl 24 _ (0, 0) _ r1 Tryz.underlying24 rfl infoSiteK ?_)
    | (refine wpList_load_row rfl 26 _ rfl (w.heap.size + 1) rfl 26 _ (0, 0) _ r2 Tryz.underlying26 rfl infoPlaceK ?_))
  refine (cF.out _ HBW.out).mono ?_
  rintro e w2 ⟨b, rfl, hf, hb2⟩
  have hbw := chain2 HBW.out HBW.out.size hb2
  have HBX := hid hbw
  have R2 := hid (And.intro (R1.out.1.below hb2) (R1.out.2.below hb2))
  have HF := hid hf
  clear r1 r2 hb2 hbw hf R1 HBW
  cases b with
  | false =>
    go_wp2_with fail
    go_ret
    exact ⟨rfl, HBX.out⟩
  | true =>
    go_wp2_with fail
    refine (cS.out _ HBX.out).mono ?_
    rintro e w3 ⟨rfl, hb3⟩
    have hbw := chain2 HBX.out HBX.out.size hb3
    have HBY := hid hbw
    have R3 := hid (And.intro (R2.out.1.below hb3) (R2.out.2.below hb3))
    clear hb3 hbw R2 HBX
    cases hs : smallK l with
    | false =>
      go_wp2_with fail
      go_ret
      exact ⟨rfl, HBY.out⟩
    | true =>
      have sf := smallK_ok hs
      have ft := HF.out trivial
      have SF := hid (And.intro sf ft)
      clear hs sf ft HF
      go_wp2_with fail
      refine (Fields_any (.slice ao l.length cap) l w3 (HR.out.1.below HBY.out) (by have := SF.out.1.len; omega)).mono ?_
      rintro e w4 ⟨v4, rfl, ho4, hb4⟩
      have R4 := hid ho4.reads2.2
      have hbw := chain2 HBY.out HBY.out.size hb4
      have HB4 := hid hbw
      have Q4 := hid (And.intro (R3.out.1.below hb4) (R3.out.2.below hb4))
      clear ho4 hb4 hbw R3 HBY
      obtain ⟨ao4, cap4, e4⟩ := R4.out.form
      subst e4
      go_wp2_with fail
      refine (K.names (.slice ao l.length cap) l w4 (K.keep _ _ HM.out.2 HB4.out) (HR.out.1.below HB4.out) SF.out.1).mono ?_
      rintro e w5 ⟨v5, rfl, hr5, hb5⟩
      have hbw := chain2 HB4.out HB4.out.size hb5
      have HB5 := hid hbw
      have Q5 := hid (And.intro (Q4.out.1.below hb5) (Q4.out.2.below hb5))
      have R5 := hid (R4.out.below hb5)
      have V5 := hid hr5
      clear hr5 hb5 hbw Q4 HB4 R4
      obtain ⟨ao5, cap5, e5⟩ := V5.out.strs
      subst e5
      go_wp2_with fail
      refine (refNames_any (.slice ao4 l.length cap4) l w5 R5.out SF.out.1).mono ?_
      rintro e w6 ⟨v6, rfl, hr6, hb6⟩
      have hbw := chain2 HB5.out HB5.out.size hb6
      have HB6 := hid hbw
      have Q6 := hid (And.intro (Q5.out.1.below hb6) (Q5.out.2.below hb6))
      have R6 := hid (R5.out.below hb6)
      have V6 := hid (And.intro (V5.out.below hb6) hr6)
      have hE := elementsF_mem SF.out.1 varyN
      have hvl := varyE_len (elementsF l varyN)
      have hvb : ∀ y ∈ varyE (elementsF l varyN), y.length ≤ 18120 := fun y hy => by
        obtain ⟨e, he, -, rfl⟩ := (varyE_mem _ _).1 hy
        simpa [lowerL] using hE.2 e he
      have HVB := hid hvb
      obtain ⟨ao6, cap6, e6⟩ := hr6.strs
      subst e6
      obtain ⟨st, hst⟩ : ∃ x, starE (elementsF l varyN) = x := ⟨_, rfl⟩
      obtain ⟨V, hV⟩ : ∃ x, varyE (elementsF l varyN) = x := ⟨_, rfl⟩
      rw [hV] at V6 HVB hvl ⊢
      rw [hst]
      obtain ⟨n, hnV⟩ : ∃ n, V.length = n := ⟨_, rfl⟩
      have hn2 : n ≤ 18120 := by omega
      rw [hnV]
      have HN := hid hnV
      have z1 : (st != st) = false := by cases st <;> rfl
      have z2 : ((n : Int) != (n : Int)) = false := by simp
      clear hr6 hb6 hbw Q5 HB5 R5 V5 hE hvl hvb hst hV hnV
      go_wp2_with fail
      clear z1 z2
      go_loopw [49] (fun z wr => ∃ k : Nat, z = .int .i64 (k : Int) ∧ k ≤ n ∧ Below w6.heap.size w6 wr) (fun z _ => n - (intOf z).toNat)
      case atStart => exact ⟨0, rfl, Nat.zero_le _, Below.refl _ _⟩
      case round =>
        obtain ⟨k, rfl, hk, hbr⟩ := hrel
        have HBR := hid hbr
        by_cases hlt : k < n
        · obtain ⟨u, hu⟩ : ∃ u, V[k]? = some u := ⟨_, List.getElem?_eq_getElem (by rw [HN.out]; exact hlt)⟩
          obtain ⟨b5, o5, g5, d5⟩ := (V6.out.1.below hbr).str hu
          obtain ⟨b6, o6, g6, d6⟩ := (V6.out.2.below hbr).str hu
          subst g5 g6
          have hkI : (k : Int) < (n : Int) := by omega
          have hk0 : (0 : Int) ≤ (k : Int) := by omega
          have hkw : IntKind.i64.wrap ((k : Int) + 1) = (k : Int) + 1 := IntWalk.i64_in _ (by omega)
          clear hbr hu
          go_wp2_with fail
          go_roundw
          case rel => exact ⟨k + 1, by go_num, hlt, HBR.out⟩
          case measure => simp [intOf]; omega
        · have hkn : k = n := by omega
          have hwr := chain2 HB6.out HB6.out.size hbr
          have HBZ := hid hwr
          have QR := hid (And.intro (Q6.out.1.below hbr) (Q6.out.2.below hbr))
          have VR := hid (And.intro (V6.out.1.below hbr) (V6.out.2.below hbr))
          have RR := hid (R6.out.below hbr)
          have hhl := SF.out.2
          have hm1 := HM.out.1
          have CK : Hid (∀ W, Below wr.heap.size wr W → Calls Tryz.prog 10 #[.agg (rowZ (.slice no m nc) s), .agg #[strV p.host, strV p.path, strV p.query, .bool p.has], .slice ao l.length cap] W fun e w' => e = .returned (strV (firstL s.query s.heads p l)) ∧ Below W.heap.size W w') := fun W hS =>
            K.first (.slice no m nc) (.slice ao l.length cap) s p l W (K.keep _ _ HM.out.2 (chain2 hwr hwr.size hS)) (HR.out.1.below (chain2 hwr hwr.size hS)) (HR.out.2.below (chain2 hwr hwr.size hS)) SF.out.1 (Nat.le_trans hhl.heads (by decide)) (fun y hy => Nat.le_trans (hhl.texts y hy) (by decide)) (Nat.le_trans hhl.host (by decide)) (Nat.le_trans hhl.path (by decide)) (Nat.le_trans hhl.query (by decide))
          have CF : Hid (∀ W, Below wr.heap.size wr W → Calls Tryz.prog 11 #[.agg (rowZ (.slice no m nc) s), .agg #[strV p.host, strV p.path, strV p.query, .bool p.has], .slice ao4 l.length cap4] W fun e w' => e = .returned (strV (firstL s.query s.heads p l)) ∧ Below W.heap.size W w') := fun W hS =>
            refFirst_any (.slice no m nc) (.slice ao4 l.length cap4) s p l W (RR.out.below hS) (HR.out.2.below (chain2 hwr hwr.size hS)) SF.out.1 (Nat.le_trans hhl.heads (by decide)) (fun y hy => Nat.le_trans (hhl.texts y hy) (by decide)) (Nat.le_trans hhl.host (by decide)) (Nat.le_trans hhl.path (by decide)) (Nat.le_trans hhl.query (by decide))
          have CM : Hid (∀ W, Below wr.heap.size wr W → Calls Tryz.prog 12 #[.agg (rowZ (.slice no m nc) s)] W fun e w' => e = .returned (.agg (rowZ (.slice no m nc) s)) ∧ Below W.heap.size W w') := fun W hS =>
            madeSiteK_any (.slice no m nc) s W ⟨no, m, nc, rfl⟩
          have CS : Hid (∀ W, Below wr.heap.size wr W → Calls Tryz.prog 13 #[.slice ao l.length cap, .slice ao5 n cap5] W fun e w' => e = .returned (strV (secondL l V)) ∧ Below W.heap.size W w') := fun W hS =>
            K.second (.slice ao l.length cap) (.slice ao5 n cap5) l V W (K.keep _ _ HM.out.2 (chain2 hwr hwr.size hS)) (HR.out.1.below (chain2 hwr hwr.size hS)) (by have h := VR.out.1.below hS; rw [HN.out] at h; exact h) SF.out.1 (by rw [HN.out]; omega) (fun y hy => Nat.le_trans (HVB.out y hy) (by decide))
          have CR : Hid (∀ W, Below wr.heap.size wr W → Calls Tryz.prog 14 #[.slice ao4 l.length cap4, .slice ao6 n cap6] W fun e w' => e = .returned (strV (secondL l V)) ∧ Below W.heap.size W w') := fun W hS =>
            refSecond_any (.slice ao4 l.length cap4) (.slice ao6 n cap6) l V W (RR.out.below hS) (by have h := VR.out.2.below hS; rw [HN.out] at h; exact h) SF.out.1 (by rw [HN.out]; omega) (fun y hy => Nat.le_trans (HVB.out y hy) (by decide))
          generalize firstL s.query s.heads p l = X at CK CF
          generalize secondL l V = Y at CS CR
          clear hwr hbr hhl hm1 HBR
          go_wp2_with fail
          refine wp_region_U [] (by kernel_rfl) (fun _ W => Below wr.heap.size wr W) (b := []) (by kernel_rfl) ((Below.refl _ _).drew) ?_
          refine wpAnyU_take (i := 0) (v := .agg (rowZ (.slice no m nc) s)) (by decide) rfl (by kernel_rfl) (by kernel_rfl) (by kernel_rfl) (fun _ _ _ h => h) (Steady.plain (by kernel_rfl) ?_) ?_
          · intro b W hS
            exact load_gives (x := .tmp 3) (by kernel_rfl) w.heap.size (by kernel_rfl) (QR.out.1.below hS) Tryz.underlying24 rfl infoSiteK
          simp only [Act.put, List.getElem_toArray, List.getElem_cons_succ, List.getElem_cons_zero, List.setIfInBounds_toArray, List.set_cons_zero, List.set_cons_succ]
          refine wpAnyU_take (i := 1) (v := .agg #[strV p.host, strV p.path, strV p.query, .bool p.has]) (by decide) rfl (by kernel_rfl) (by kernel_rfl) (by kernel_rfl) (fun _ _ _ h => h) (Steady.plain (by kernel_rfl) ?_) ?_
          · intro b W hS
            exact load_gives (x := .tmp 4) (by kernel_rfl) (w.heap.size + 1) (by kernel_rfl) (QR.out.2.below hS) Tryz.underlying26 rfl infoPlaceK
          simp only [Act.put, List.getElem_toArray, List.getElem_cons_succ, List.getElem_cons_zero, List.setIfInBounds_toArray, List.set_cons_zero, List.set_cons_succ]
          refine wpAnyU_take (i := 2) (v := ?_) (by decide) rfl (by kernel_rfl) (by kernel_rfl) (by kernel_rfl) (fun _ _ _ h => h) (Steady.plain (by kernel_rfl) ?_) ?_
          rotate_left
          · intro b W hS
            skip
            go_simp
            first | done | with_reducible rfl
          simp only [Act.put, List.getElem_toArray, List.getElem_cons_succ, List.getElem_cons_zero, List.setIfInBounds_toArray, List.set_cons_zero, List.set_cons_succ]
          refine wpAnyU_take (i := 3) (v := strV X) (by decide) rfl (by kernel_rfl) (by kernel_rfl) (by kernel_rfl) (fun _ _ _ h => h) (Steady.call (f := 10) (args := #[.agg (rowZ (.slice no m nc) s), .agg #[strV p.host, strV p.path, strV p.query, .bool p.has], .slice ao l.length cap]) (by kernel_rfl) (fun _ => by kernel_rfl) ?_) ?_
          · intro b W hS
            refine (CK.out W hS).mono ?_
            rintro e w' ⟨he, hb⟩
            exact ⟨he, chain2 hS hS.size hb⟩
          simp only [Act.put, List.getElem_toArray, List.getElem_cons_succ, List.getElem_cons_zero, List.setIfInBounds_toArray, List.set_cons_zero, List.set_cons_succ]
          refine wpAnyU_take (i := 4) (v := .agg (rowZ (.slice no m nc) s)) (by decide) rfl (by kernel_rfl) (by kernel_rfl) (by kernel_rfl) (fun _ _ _ h => h) (Steady.plain (by kernel_rfl) ?_) ?_
          · intro b W hS
            exact load_gives (x := .tmp 3) (by kernel_rfl) w.heap.size (by kernel_rfl) (QR.out.1.below hS) Tryz.underlying24 rfl infoSiteK
          simp only [Act.put, List.getElem_toArray, List.getElem_cons_succ, List.getElem_cons_zero, List.setIfInBounds_toArray, List.set_cons_zero, List.set_cons_succ]
          refine wpAnyU_take (i := 5) (v := .agg (rowZ (.slice no m nc) s)) (by decide) rfl (by kernel_rfl) (by kernel_rfl) (by kernel_rfl) (fun _ _ _ h => h) (Steady.call (f := 12) (args := #[.agg (rowZ (.slice no m nc) s)]) (by kernel_rfl) (fun _ => by kernel_rfl) ?_) ?_
          · intro b W hS
            refine (CM.out W hS).mono ?_
            rintro e w' ⟨he, hb⟩
            exact ⟨he, chain2 hS hS.size hb⟩
          simp only [Act.put, List.getElem_toArray, List.getElem_cons_succ, List.getElem_cons_zero, List.setIfInBounds_toArray, List.set_cons_zero, List.set_cons_succ]
          refine wpAnyU_take (i := 6) (v := .agg #[strV p.host, strV p.path, strV p.query, .bool p.has]) (by decide) rfl (by kernel_rfl) (by kernel_rfl) (by kernel_rfl) (fun _ _ _ h => h) (Steady.plain (by kernel_rfl) ?_) ?_
          · intro b W hS
            exact load_gives (x := .tmp 4) (by kernel_rfl) (w.heap.size + 1) (by kernel_rfl) (QR.out.2.below hS) Tryz.underlying26 rfl infoPlaceK
          simp only [Act.put, List.getElem_toArray, List.getElem_cons_succ, List.getElem_cons_zero, List.setIfInBounds_toArray, List.set_cons_zero, List.set_cons_succ]
          refine wpAnyU_take (i := 7) (v := ?_) (by decide) rfl (by kernel_rfl) (by kernel_rfl) (by kernel_rfl) (fun _ _ _ h => h) (Steady.plain (by kernel_rfl) ?_) ?_
          rotate_left
          · intro b W hS
            skip
            go_simp
            first | done | with_reducible rfl
          simp only [Act.put, List.getElem_toArray, List.getElem_cons_succ, List.getElem_cons_zero, List.setIfInBounds_toArray, List.set_cons_zero, List.set_cons_succ]
          refine wpAnyU_take (i := 8) (v := strV X) (by decide) rfl (by kernel_rfl) (by kernel_rfl) (by kernel_rfl) (fun _ _ _ h => h) (Steady.call (f := 11) (args := #[.agg (rowZ (.slice no m nc) s), .agg #[strV p.host, strV p.path, strV p.query, .bool p.has], .slice ao4 l.length cap4]) (by kernel_rfl) (fun _ => by kernel_rfl) ?_) ?_
          · intro b W hS
            refine (CF.out W hS).mono ?_
            rintro e w' ⟨he, hb⟩
            exact ⟨he, chain2 hS hS.size hb⟩
          simp only [Act.put, List.getElem_toArray, List.getElem_cons_succ, List.getElem_cons_zero, List.setIfInBounds_toArray, List.set_cons_zero, List.set_cons_succ]
          refine wpAnyU_take (i := 9) (v := ?_) (by decide) rfl (by kernel_rfl) (by kernel_rfl) (by kernel_rfl) (fun _ _ _ h => h) (Steady.plain (by kernel_rfl) ?_) ?_
          rotate_left
          · intro b W hS
            skip
            go_simp
            first | done | with_reducible rfl
          simp only [Act.put, List.getElem_toArray, List.getElem_cons_succ, List.getElem_cons_zero, List.setIfInBounds_toArray, List.set_cons_zero, List.set_cons_succ]
          refine wpAnyU_take (i := 10) (v := ?_) (by decide) rfl (by kernel_rfl) (by kernel_rfl) (by kernel_rfl) (fun _ _ _ h => h) (Steady.plain (by kernel_rfl) ?_) ?_
          rotate_left
          · intro b W hS
            skip
            go_simp
            first | done | with_reducible rfl
          simp only [Act.put, List.getElem_toArray, List.getElem_cons_succ, List.getElem_cons_zero, List.setIfInBounds_toArray, List.set_cons_zero, List.set_cons_succ]
          refine wpAnyU_take (i := 11) (v := ?_) (by decide) rfl (by kernel_rfl) (by kernel_rfl) (by kernel_rfl) (fun _ _ _ h => h) (Steady.plain (by kernel_rfl) ?_) ?_
          rotate_left
          · intro b W hS
            skip
            go_simp
            first | done | with_reducible rfl
          simp only [Act.put, List.getElem_toArray, List.getElem_cons_succ, List.getElem_cons_zero, List.setIfInBounds_toArray, List.set_cons_zero, List.set_cons_succ]
          refine wpAnyU_take (i := 12) (v := ?_) (by decide) rfl (by kernel_rfl) (by kernel_rfl) (by kernel_rfl) (fun _ _ _ h => h) (Steady.plain (by kernel_rfl) ?_) ?_
          rotate_left
          · intro b W hS
            skip
            go_simp
            first | done | with_reducible rfl
          simp only [Act.put, List.getElem_toArray, List.getElem_cons_succ, List.getElem_cons_zero, List.setIfInBounds_toArray, List.set_cons_zero, List.set_cons_succ]
          refine wpAnyU_take (i := 13) (v := strV Y) (by decide) rfl (by kernel_rfl) (by kernel_rfl) (by kernel_rfl) (fun _ _ _ h => h) (Steady.call (f := 13) (args := #[.slice ao l.length cap, .slice ao5 n cap5]) (by kernel_rfl) (fun _ => by kernel_rfl) ?_) ?_
          · intro b W hS
            refine (CS.out W hS).mono ?_
            rintro e w' ⟨he, hb⟩
            exact ⟨he, chain2 hS hS.size hb⟩
          simp only [Act.put, List.getElem_toArray, List.getElem_cons_succ, List.getElem_cons_zero, List.setIfInBounds_toArray, List.set_cons_zero, List.set_cons_succ]
          refine wpAnyU_take (i := 14) (v := ?_) (by decide) rfl (by kernel_rfl) (by kernel_rfl) (by kernel_rfl) (fun _ _ _ h => h) (Steady.plain (by kernel_rfl) ?_) ?_
          rotate_left
          · intro b W hS
            skip
            go_simp
            first | done | with_reducible rfl
          simp only [Act.put, List.getElem_toArray, List.getElem_cons_succ, List.getElem_cons_zero, List.setIfInBounds_toArray, List.set_cons_zero, List.set_cons_succ]
          refine wpAnyU_take (i := 15) (v := ?_) (by decide) rfl (by kernel_rfl) (by kernel_rfl) (by kernel_rfl) (fun _ _ _ h => h) (Steady.plain (by kernel_rfl) ?_) ?_
          rotate_left
          · intro b W hS
            skip
            go_simp
            first | done | with_reducible rfl
          simp only [Act.put, List.getElem_toArray, List.getElem_cons_succ, List.getElem_cons_zero, List.setIfInBounds_toArray, List.set_cons_zero, List.set_cons_succ]
          refine wpAnyU_take (i := 16) (v := strV Y) (by decide) rfl (by kernel_rfl) (by kernel_rfl) (by kernel_rfl) (fun _ _ _ h => h) (Steady.call (f := 14) (args := #[.slice ao4 l.length cap4, .slice ao6 n cap6]) (by kernel_rfl) (fun _ => by kernel_rfl) ?_) ?_
          · intro b W hS
            refine (CR.out W hS).mono ?_
            rintro e w' ⟨he, hb⟩
            exact ⟨he, chain2 hS hS.size hb⟩
          simp only [Act.put, List.getElem_toArray, List.getElem_cons_succ, List.getElem_cons_zero, List.setIfInBounds_toArray, List.set_cons_zero, List.set_cons_succ]
          refine wpAnyU_take (i := 17) (v := ?_) (by decide) rfl (by kernel_rfl) (by kernel_rfl) (by kernel_rfl) (fun _ _ _ h => h) (Steady.plain (by kernel_rfl) ?_) ?_
          rotate_left
          · intro b W hS
            skip
            go_simp
            first | done | with_reducible rfl
          simp only [Act.put, List.getElem_toArray, List.getElem_cons_succ, List.getElem_cons_zero, List.setIfInBounds_toArray, List.set_cons_zero, List.set_cons_succ]
          refine wpAnyU_take (i := 18) (v := ?_) (by decide) rfl (by kernel_rfl) (by kernel_rfl) (by kernel_rfl) (fun _ _ _ h => h) (Steady.plain (by kernel_rfl) ?_) ?_
          rotate_left
          · intro b W hS
            skip
            go_simp
            first | done | with_reducible rfl
          simp only [Act.put, List.getElem_toArray, List.getElem_cons_succ, List.getElem_cons_zero, List.setIfInBounds_toArray, List.set_cons_zero, List.set_cons_succ]
          refine wpAnyU_take (i := 19) (v := ?_) (by decide) rfl (by kernel_rfl) (by kernel_rfl) (by kernel_rfl) (fun _ _ _ h => h) (Steady.plain (by kernel_rfl) ?_) ?_
          rotate_left
          · intro b W hS
            skip
            go_simp
            first | done | with_reducible rfl
          simp only [Act.put, List.getElem_toArray, List.getElem_cons_succ, List.getElem_cons_zero, List.setIfInBounds_toArray, List.set_cons_zero, List.set_cons_succ]
          refine wpAnyU_done (b := []) (by kernel_rfl) (by kernel_rfl) ?_ _
          intro w7 hS7
          have HB7 := hid (chain2 HBZ.out HBZ.out.size hS7)
          clear hS7
          go_wp2_with fail
          go_ret
          exact ⟨rfl, HB7.out⟩
end Go.Proofs.YtbjgbkbhalibdaaGreatDoor
