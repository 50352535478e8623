/-
  The walk of FreshKeeps.
-/
import Derived.Test.YtejdlplgkmelkaaGreatDoorF12Law12C
import Derived.Test.YtejdlplgkmelkaaGreatDoorF12MadeSK
import Derived.Test.YtejdlplgkmelkaaGreatDoorF1210
import Derived.Test.YtejdlplgkmelkaaGreatDoorF12RefFieldM
import Derived.Deep.RegionHeld
set_option linter.unusedVariables false
set_option linter.unusedSimpArgs false

namespace Go.Proofs.YtejdlplgkmelkaaGreatDoor
open Go.RowKit Go.Pantry

set_option maxRecDepth 8000 in
set_option maxHeartbeats 4000000 in
theorem freshKeeps_over {Ok : World → Prop} (K : Freshs Ok) (hv : Value) (s : SiteZ) (m : List UInt8) (av : Value) (asked : List Fld) (st : Int) (cv : Value) (came : List Fld) (w : World) (ok : Ok w) (hh : Reads w hv (s.heads.map strV)) (hl : s.heads.length ≤ maxLen) (hasked : Reads2 w av asked ∧ asked.length ≤ maxLen) (hcame : Reads2 w cv came ∧ came.length ≤ maxLen) (hst : InI st) (hm : m.length ≤ maxLen) :
    Calls Tryz.prog 3 #[.agg (rowZ hv s), strV m, av, .int .i64 st, cv] w fun e w' => e = .returned (.bool true) ∧ Below w.heap.size w w' := by
  unfold maxLen at hm
  unfold maxLen at hl
  obtain ⟨no, nc, rfl⟩ := hh.strs
  obtain ⟨n, hn⟩ : ∃ n, s.heads.length = n := ⟨_, rfl⟩
  rw [hn] at hh ⊢
  obtain ⟨W, hW⟩ : ∃ W, w.alloc (.cells (rowZ (.slice no n nc) s) 24) = W := ⟨_, rfl⟩
  have hbW : Below w.heap.size w W := by rw [← hW]; exact below_alloc _ _
  have q1 : rowIs W w.heap.size (rowZ (.slice no n nc) s) 24 := by rw [← hW]; exact rowIs_new _ _ _
  have cA := hid (anchor_any K W (K.keep _ _ ok hbW))
  have cF := hid (fun (w' : World) (h : Below w.heap.size w w') => fitS_any (.slice no n nc) s w' (hh.below h) (by omega))
  have cSasked := hid (fun (w' : World) (h : Below w.heap.size w w') => smallK_any av asked w' (hasked.1.below h) (by have := hasked.2; unfold maxLen at this; omega))
  have HRasked := hid hasked.1
  have cScame := hid (fun (w' : World) (h : Below w.heap.size w w') => smallK_any cv came w' (hcame.1.below h) (by have := hcame.2; unfold maxLen at this; omega))
  have HRcame := hid hcame.1
  have HQ := hid (And.intro q1 hbW)
  have OK := hid ok
  clear hh hl hn q1 hbW ok hasked hcame
  go_enter Tryz.func3, Tryz.ntmps3
  go_wp2_with fail
  clear hW
  refine cA.out.mono ?_
  rintro e w1 ⟨rfl, hb1⟩
  have r1 := HQ.out.1.below hb1
  have HB1 := hid (chain2 HQ.out.2 HQ.out.2.size hb1)
  have R1 := hid r1
  clear hb1 cA HQ
  go_wp2_with (refine wpList_load_row rfl 24 _ rfl w.heap.size rfl 24 _ (0, 0) _ r1 Tryz.underlying24 rfl infoSiteK ?_)
  refine (cF.out _ HB1.out).mono ?_
  rintro e w2 ⟨f1, rfl, hf1, hb2⟩
  have HB2 := hid (chain2 HB1.out HB1.out.size hb2)
  have R2 := hid (R1.out.below hb2)
  have HF1 := hid hf1
  clear r1 hb2 hf1 R1 HB1
  cases f1 with
  | false =>
    go_wp2_with fail
    go_ret
    exact ⟨rfl, HB2.out⟩
  | true =>
  have FT := hid (HF1.out (by first | rfl | trivial))
  clear HF1
  go_wp2_with fail
  refine (cSasked.out _ HB2.out).mono ?_
  rintro e w3 ⟨rfl, hb3⟩
  have HB3 := hid (chain2 HB2.out HB2.out.size hb3)
  have R3 := hid (R2.out.below hb3)
  clear hb3 R2 HB2 cSasked
  cases hsasked : smallK asked with
  | false =>
    go_wp2_with fail
    go_ret
    exact ⟨rfl, HB3.out⟩
  | true =>
  have Sasked := hid (smallK_ok hsasked)
  clear hsasked
  go_wp2_with fail
  refine (cScame.out _ HB3.out).mono ?_
  rintro e w4 ⟨rfl, hb4⟩
  have HB4 := hid (chain2 HB3.out HB3.out.size hb4)
  have R4 := hid (R3.out.below hb4)
  clear hb4 R3 HB3 cScame
  cases hscame : smallK came with
  | false =>
    go_wp2_with fail
    go_ret
    exact ⟨rfl, HB4.out⟩
  | true =>
  have Scame := hid (smallK_ok hscame)
  clear hscame
  have hz : ((⟨m.toArray⟩ : ByteArray).size : Int) = (m.length : Int) := by rw [szL]
  by_cases h30 : (30 : Int) < (m.length : Int)
  · have d30 : decide ((30 : Int) < (m.length : Int)) = true := decide_eq_true h30
    go_wp2_with fail
    go_ret
    exact ⟨rfl, HB4.out⟩
  have d30 : decide ((30 : Int) < (m.length : Int)) = false := decide_eq_false h30
  have hm30 : m.length ≤ 30 := by omega
  have CK := hid (fun (W : World) (h : Below w.heap.size w W) => K.kept no n nc s m av cv asked came st W (K.keep _ _ OK.out h) (HRasked.out.below h) (HRcame.out.below h) Sasked.out Scame.out (by omega) hst)
  have CR := hid (fun (W : World) (v1 v2 : Value) (h1 : Reads2 W v1 asked) (h2 : Reads2 W v2 came) => r12Kept_any no n nc s m v1 v2 asked came st W h1 h2 Sasked.out Scame.out)
  generalize keptF s.keep m asked st came = X at CK CR
  go_wp2_with fail
  clear h30 d30 hz
  refine wp_region_held_drew (S := fun W' => rowIs W' w.heap.size (rowZ (.slice no n nc) s) 24 ∧ Below w.heap.size w W') (by kernel_rfl) ⟨R4.out, HB4.out.drew⟩ (fun hH => ?_)
  refine wpAnyH_take (i := 0) (v := .agg (rowZ (.slice no n nc) s)) rfl (by kernel_rfl) (by kernel_rfl) (by kernel_rfl) (fun _ _ _ h => h) (Or.inl ⟨by kernel_rfl, ?_⟩) hH ?_
  · intro W hS
    exact load_gives (x := .tmp 5) (by kernel_rfl) w.heap.size (by kernel_rfl) hS.1 Tryz.underlying24 rfl infoSiteK
  simp only [Act.put, List.getElem_toArray, List.getElem_cons_succ, List.getElem_cons_zero, List.setIfInBounds_toArray, List.set_cons_zero, List.set_cons_succ]
  refine wpAnyH_take (i := 1) (v := ?_) rfl (by kernel_rfl) (by kernel_rfl) (by kernel_rfl) (fun _ _ _ h => h) (Or.inl ⟨by kernel_rfl, ?_⟩) hH ?_
  rotate_left
  · intro W hS
    skip
    go_simp
    first | done | with_reducible rfl
  simp only [Act.put, List.getElem_toArray, List.getElem_cons_succ, List.getElem_cons_zero, List.setIfInBounds_toArray, List.set_cons_zero, List.set_cons_succ]
  refine wpAnyH_take (i := 2) (v := ?_) rfl (by kernel_rfl) (by kernel_rfl) (by kernel_rfl) (fun _ _ _ h => h) (Or.inl ⟨by kernel_rfl, ?_⟩) hH ?_
  rotate_left
  · intro W hS
    skip
    go_simp
    first | done | with_reducible rfl
  simp only [Act.put, List.getElem_toArray, List.getElem_cons_succ, List.getElem_cons_zero, List.setIfInBounds_toArray, List.set_cons_zero, List.set_cons_succ]
  refine wpAnyH_take (i := 3) (v := ?_) rfl (by kernel_rfl) (by kernel_rfl) (by kernel_rfl) (fun _ _ _ h => h) (Or.inl ⟨by kernel_rfl, ?_⟩) hH ?_
  rotate_left
  · intro W hS
    skip
    go_simp
    first | done | with_reducible rfl
  simp only [Act.put, List.getElem_toArray, List.getElem_cons_succ, List.getElem_cons_zero, List.setIfInBounds_toArray, List.set_cons_zero, List.set_cons_succ]
  refine wpAnyH_take (i := 4) (v := ?_) rfl (by kernel_rfl) (by kernel_rfl) (by kernel_rfl) (fun _ _ _ h => h) (Or.inl ⟨by kernel_rfl, ?_⟩) hH ?_
  rotate_left
  · intro W hS
    skip
    go_simp
    first | done | with_reducible rfl
  simp only [Act.put, List.getElem_toArray, List.getElem_cons_succ, List.getElem_cons_zero, List.setIfInBounds_toArray, List.set_cons_zero, List.set_cons_succ]
  refine wpAnyH_take (i := 6) (v := .agg (rowZ (.slice no n nc) s)) rfl (by kernel_rfl) (by kernel_rfl) (by kernel_rfl) (fun _ _ _ h => h) (Or.inl ⟨by kernel_rfl, ?_⟩) hH ?_
  · intro W hS
    exact load_gives (x := .tmp 5) (by kernel_rfl) w.heap.size (by kernel_rfl) hS.1 Tryz.underlying24 rfl infoSiteK
  simp only [Act.put, List.getElem_toArray, List.getElem_cons_succ, List.getElem_cons_zero, List.setIfInBounds_toArray, List.set_cons_zero, List.set_cons_succ]
  refine wpAnyH_take (i := 8) (v := ?_) rfl (by kernel_rfl) (by kernel_rfl) (by kernel_rfl) (fun _ _ _ h => h) (Or.inl ⟨by kernel_rfl, ?_⟩) hH ?_
  rotate_left
  · intro W hS
    skip
    go_simp
    first | done | with_reducible rfl
  simp only [Act.put, List.getElem_toArray, List.getElem_cons_succ, List.getElem_cons_zero, List.setIfInBounds_toArray, List.set_cons_zero, List.set_cons_succ]
  refine wpAnyH_take (i := 9) (v := ?_) rfl (by kernel_rfl) (by kernel_rfl) (by kernel_rfl) (fun _ _ _ h => h) (Or.inl ⟨by kernel_rfl, ?_⟩) hH ?_
  rotate_left
  · intro W hS
    skip
    go_simp
    first | done | with_reducible rfl
  simp only [Act.put, List.getElem_toArray, List.getElem_cons_succ, List.getElem_cons_zero, List.setIfInBounds_toArray, List.set_cons_zero, List.set_cons_succ]
  refine wpAnyH_take (i := 11) (v := ?_) rfl (by kernel_rfl) (by kernel_rfl) (by kernel_rfl) (fun _ _ _ h => h) (Or.inl ⟨by kernel_rfl, ?_⟩) hH ?_
  rotate_left
  · intro W hS
    skip
    go_simp
    first | done | with_reducible rfl
  simp only [Act.put, List.getElem_toArray, List.getElem_cons_succ, List.getElem_cons_zero, List.setIfInBounds_toArray, List.set_cons_zero, List.set_cons_succ]
  refine wpAnyH_take (i := 12) (v := ?_) rfl (by kernel_rfl) (by kernel_rfl) (by kernel_rfl) (fun _ _ _ h => h) (Or.inl ⟨by kernel_rfl, ?_⟩) hH ?_
  rotate_left
  · intro W hS
    skip
    go_simp
    first | done | with_reducible rfl
  simp only [Act.put, List.getElem_toArray, List.getElem_cons_succ, List.getElem_cons_zero, List.setIfInBounds_toArray, List.set_cons_zero, List.set_cons_succ]
  refine wpAnyH_ready (rs := [5]) (by kernel_rfl) (by simp) ?_
  refine AllReadyH.cons rfl (fun K hK => ?_) AllReadyH.nil
  go_simp
  refine (CK.out _ hH.2).mono ?_
  rintro e w5 ⟨rfl, hb5⟩
  refine hK.out _ _ ⟨hH.1.below hb5, chain2 hH.2 hH.2.size hb5⟩ (fun hH => ?_)
  clear hb5
  clear hK K
  try simp only [Act.put, List.getElem_toArray, List.getElem_cons_succ, List.getElem_cons_zero, List.setIfInBounds_toArray, List.set_cons_zero, List.set_cons_succ]
  refine wpAnyH_ready (rs := [7]) (by kernel_rfl) (by simp) ?_
  refine AllReadyH.cons rfl (fun K hK => ?_) AllReadyH.nil
  go_simp
  refine (madeSiteK_any (.slice no n nc) s _ ⟨no, n, nc, rfl⟩).mono ?_
  rintro e w6 ⟨rfl, hb6⟩
  refine hK.out _ _ ⟨hH.1.below hb6, chain2 hH.2 hH.2.size hb6⟩ (fun hH => ?_)
  clear hb6
  clear hK K
  try simp only [Act.put, List.getElem_toArray, List.getElem_cons_succ, List.getElem_cons_zero, List.setIfInBounds_toArray, List.set_cons_zero, List.set_cons_succ]
  refine wpAnyH_ready (rs := [10]) (by kernel_rfl) (by simp) ?_
  refine AllReadyH.cons rfl (fun K hK => ?_) AllReadyH.nil
  go_simp
  refine (Fields_any av asked _ (HRasked.out.below hH.2) (by have := Sasked.out.len; omega)).mono ?_
  rintro e w7 ⟨v7, rfl, ho7, hb7⟩
  have R7 := hid ho7.reads2.2
  refine hK.out _ _ ⟨hH.1.below hb7, chain2 hH.2 hH.2.size hb7⟩ (fun hH => ?_)
  clear hb7 ho7
  clear hK K
  try simp only [Act.put, List.getElem_toArray, List.getElem_cons_succ, List.getElem_cons_zero, List.setIfInBounds_toArray, List.set_cons_zero, List.set_cons_succ]
  refine wpAnyH_ready (rs := [13]) (by kernel_rfl) (by simp) ?_
  refine AllReadyH.cons rfl (fun K hK => ?_) AllReadyH.nil
  go_simp
  refine (Fields_any cv came _ (HRcame.out.below hH.2) (by have := Scame.out.len; omega)).mono ?_
  rintro e w8 ⟨v8, rfl, ho8, hb8⟩
  have R8 := hid ho8.reads2.2
  have R78 := hid (R7.out.below hb8)
  refine hK.out _ _ ⟨hH.1.below hb8, chain2 hH.2 hH.2.size hb8⟩ (fun hH => ?_)
  clear hb8 ho8
  clear hK K
  try simp only [Act.put, List.getElem_toArray, List.getElem_cons_succ, List.getElem_cons_zero, List.setIfInBounds_toArray, List.set_cons_zero, List.set_cons_succ]
  refine wpAnyH_ready (rs := [14]) (by kernel_rfl) (by simp) ?_
  refine AllReadyH.cons rfl (fun K hK => ?_) AllReadyH.nil
  go_simp
  refine (CR.out _ _ _ R78.out R8.out).mono ?_
  rintro e w9 ⟨rfl, hb9⟩
  refine hK.out _ _ ⟨hH.1.below hb9, chain2 hH.2 hH.2.size hb9⟩ (fun hH => ?_)
  clear hb9
  clear hK K
  try simp only [Act.put, List.getElem_toArray, List.getElem_cons_succ, List.getElem_cons_zero, List.setIfInBounds_toArray, List.set_cons_zero, List.set_cons_succ]
  refine wpAnyH_take (i := 15) (v := ?_) rfl (by kernel_rfl) (by kernel_rfl) (by kernel_rfl) (fun _ _ _ h => h) (Or.inl ⟨by kernel_rfl, ?_⟩) hH ?_
  rotate_left
  · intro W hS
    skip
    go_simp
    first | done | with_reducible rfl
  simp only [Act.put, List.getElem_toArray, List.getElem_cons_succ, List.getElem_cons_zero, List.setIfInBounds_toArray, List.set_cons_zero, List.set_cons_succ]
  refine wpAnyH_take (i := 16) (v := ?_) rfl (by kernel_rfl) (by kernel_rfl) (by kernel_rfl) (fun _ _ _ h => h) (Or.inl ⟨by kernel_rfl, ?_⟩) hH ?_
  rotate_left
  · intro W hS
    skip
    go_simp
    first | done | with_reducible rfl
  simp only [Act.put, List.getElem_toArray, List.getElem_cons_succ, List.getElem_cons_zero, List.setIfInBounds_toArray, List.set_cons_zero, List.set_cons_succ]
  refine wpAnyH_done (by kernel_rfl) ?_ _
  have HZ := hid hH.2
  clear hH
  go_wp2_with fail
  go_ret
  exact ⟨ret_bool (by simp), HZ.out⟩
end Go.Proofs.YtejdlplgkmelkaaGreatDoor
