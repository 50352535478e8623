/-
  The walk of the statement PlaceBack.
-/
import Derived.Test.YthokpbpnecdgpaaDoorLaw08L
import Derived.Test.YthokpbpnecdgpaaDoorPlaceS
import Derived.Deep.RegionHeld3
namespace Go.Proofs.YthokpbpnecdgpaaDoor
open Go.RowKit Go.Pantry

/-- Two boxes of a place, from w0 on. -/
def PB2 (w0 : World) (g1 g2 : Nat) (cs : Array Value) (W : World) : Prop := rowIs W g1 cs 24 ∧ rowIs W g2 cs 24 ∧ Below w0.heap.size w0 W
theorem PB2.below {w0 : World} {g1 g2 : Nat} {cs : Array Value} {W W' : World} (h : PB2 w0 g1 g2 cs W) (hb : Below W.heap.size W W') : PB2 w0 g1 g2 cs W' :=
  ⟨h.1.below hb, h.2.1.below hb, h.2.2.trans (hb.mono h.2.2.size)⟩
theorem PB2.drew {w0 : World} {g1 g2 : Nat} {cs : Array Value} {W : World} (h : PB2 w0 g1 g2 cs W) : PB2 w0 g1 g2 cs W.drew := h.below (Below.refl _ _).drew
theorem PB2.row {w0 : World} {g1 g2 g : Nat} {cs ds : Array Value} {W : World} (h : PB2 w0 g1 g2 cs W) (hg : w0.heap.size ≤ g) (h1 : g1 < g) (h2 : g2 < g) : PB2 w0 g1 g2 cs (W.setRow g ds) :=
  ⟨h.1.setRow_other ds (Nat.ne_of_lt h1), h.2.1.setRow_other ds (Nat.ne_of_lt h2), below_setRow h.2.2 hg ds⟩
set_option maxRecDepth 100000 in
set_option maxHeartbeats 8000000 in
theorem placeBack_walk (a b : ByteArray) (w : World) (hm : MaxOk w) (hl : LaidP w) (ha : a.size ≤ maxLen) (hb : b.size ≤ maxLen) :
    Calls Tryd.prog 3 #[.string a, .string b] w fun e w' => e = .returned (.bool true) ∧ Below w.heap.size w w' := by
  have ok : PlaceOk w := ⟨hm, hl.1, hl.2⟩
  have ca := anchor_any w ok
  have CA := hid ca
  have OK := hid ok
  clear ca ok hm hl
  unfold maxLen at ha hb
  by_cases h1 : 1500 < a.size ∨ 200 < b.size
  · have e : decide (1500 < (a.size : Int)) = true ∨ (decide (1500 < (a.size : Int)) = false ∧ decide (200 < (b.size : Int)) = true) := by
      simp only [decide_eq_true_eq, decide_eq_false_iff_not]
      omega
    clear h1
    rcases e with e1 | ⟨e1, e2⟩
    all_goals
      go_enter Tryd.func3, Tryd.ntmps3
      go_wp2_with (go_at_call 9; refine CA.out.mono ?_; rintro e w1 ⟨rfl, HB⟩)
      go_ret
      exact ⟨rfl, HB⟩
  · have l1 : a.size ≤ 1500 := by omega
    have l2 : b.size ≤ 200 := by omega
    have e1 : decide (1500 < (a.size : Int)) = false := by rw [decide_eq_false_iff_not]; omega
    have e2 : decide (200 < (b.size : Int)) = false := by rw [decide_eq_false_iff_not]; omega
    clear h1 ha hb
    have z1 := size_list a
    have z2 := size_list b
    obtain ⟨A, hA⟩ : ∃ A, a.data.toList = A := ⟨_, rfl⟩
    obtain ⟨B, hB⟩ : ∃ B, b.data.toList = B := ⟨_, rfl⟩
    have va : strV A = .string a := by rw [← hA]
    have vb : strV B = .string b := by rw [← hB]
    rw [hA] at z1
    rw [hB] at z2
    cases hO : readP A B with
    | none =>
      have c1 := fun W hW => Read_none hO W hW (by omega) (by omega)
      rw [va, vb] at c1
      have C1 := hid c1
      clear c1 hO hA hB va vb z1 z2 l1 l2
      go_enter Tryd.func3, Tryd.ntmps3
      go_wp2_with (first
        | (go_at_call 9; refine CA.out.mono ?_; rintro e w1 ⟨rfl, HB⟩)
        | (go_at_call 10; with_reducible refine (C1.out _ (OK.out.below HB)).mono ?_; rintro e w3 ⟨rfl, hb3⟩; replace HB := HB.trans (hb3.mono HB.size); have R1a := rowIs_new w3 #[.string ⟨#[]⟩, .string ⟨#[]⟩, .string ⟨#[]⟩, .bool false] 24)
        | (refine wpList_store_row rfl 24 _ _ rfl w3.heap.size _ rfl rfl 24 #[.string ⟨#[]⟩, .string ⟨#[]⟩, .string ⟨#[]⟩, .bool false] R1a infoPlS rfl (onePl _ _ _ _) ?_; replace HB := below_setRow (HB.trans ((below_alloc w3 (.cells #[.string ⟨#[]⟩, .string ⟨#[]⟩, .string ⟨#[]⟩, .bool false] 24)).mono HB.size)) HB.size #[strV [], strV [], strV [], .bool false]))
      go_ret
      exact ⟨rfl, HB⟩
    | some p =>
      have c1 := fun W hW => Read_some hO W hW (by omega) (by omega)
      rw [va, vb] at c1
      obtain ⟨b1, b2⟩ := place_back hO
      obtain ⟨h', r', hr⟩ := read_place hO
      obtain ⟨p1, p2, p3, p4, p5, -⟩ := place_shown ⟨r', hr⟩
      have hs1 : (showP p).length ≤ 1100 := by unfold showP; split <;> (try simp) <;> omega
      have hs2 := host_len p2
      have c2 := fun W hW => Read_some b1 W hW (by omega) (by omega)
      have c3 := fun W hW => Read_some b2 W hW (by simp [leadU]; omega) (by simp)
      have ch := fun W => Show_any p W (by omega) (by omega)
      have s1 := fun W => run_string_add_lists (P := Tryd.prog) W leadU p.host (by decide) (by omega)
      have s2 := fun W => run_string_add_lists (P := Tryd.prog) W (leadU ++ p.host) (showP p) (by simp [leadU]; omega) (by omega)
      have EQ := fun W => eqlPl p.host p.path p.query p.has W
      obtain ⟨T1, hT1⟩ : ∃ T1, showP p = T1 := ⟨_, rfl⟩
      obtain ⟨T2, hT2⟩ : ∃ T2, leadU ++ p.host ++ T1 = T2 := ⟨_, rfl⟩
      rw [hT1] at c2 c3 ch s2
      rw [hT2] at c3 s2
      obtain ⟨H, P, Q, hs⟩ := p
      simp only at c1 c2 c3 ch EQ s1 s2
      obtain ⟨X1, hX1⟩ : ∃ X1, leadU ++ H = X1 := ⟨_, rfl⟩
      rw [hX1] at s1 s2
      have s1' : ∀ W, (Op.stringOp BinOp.add ⟨#[72, 84, 84, 80, 58, 47, 47]⟩ ⟨H.toArray⟩).run Tryd.prog W = .ok (strV X1) W := s1
      have ch' : ∀ W, Calls Tryd.prog 11 #[.agg #[strV H, strV P, strV Q, .bool hs]] W fun e w' => e = .returned (strV T1) ∧ Below W.heap.size W w' := ch
      have C1 := hid c1
      have C2 := hid c2
      have C3 := hid c3
      have CH := hid ch'
      clear c1 c2 c3 ch ch' hO hA hB va vb z1 z2 l1 l2 b1 b2 hr p1 p2 p3 p4 p5 hs1 hs2 hT1 hT2 hX1 s1
      go_enter Tryd.func3, Tryd.ntmps3
      go_wp2_with (first
        | (go_at_call 9; refine CA.out.mono ?_; rintro e w1 ⟨rfl, HB⟩)
        | (go_at_call 10; with_reducible refine (C1.out _ (OK.out.below HB)).mono ?_; rintro e w3 ⟨rfl, hb3⟩; replace HB := HB.trans (hb3.mono HB.size); have R1a := rowIs_new w3 #[.string ⟨#[]⟩, .string ⟨#[]⟩, .string ⟨#[]⟩, .bool false] 24)
        | (refine wpList_store_row rfl 24 _ _ rfl w3.heap.size _ rfl rfl 24 #[.string ⟨#[]⟩, .string ⟨#[]⟩, .string ⟨#[]⟩, .bool false] R1a infoPlS rfl (onePl _ _ _ _) ?_; have R1 := R1a.setRow #[strV H, strV P, strV Q, .bool hs]; replace HB := below_setRow (HB.trans ((below_alloc w3 (.cells #[.string ⟨#[]⟩, .string ⟨#[]⟩, .string ⟨#[]⟩, .bool false] 24)).mono HB.size)) HB.size #[strV H, strV P, strV Q, .bool hs]; generalize (w3.alloc (.cells #[.string ⟨#[]⟩, .string ⟨#[]⟩, .string ⟨#[]⟩, .bool false] 24)).setRow w3.heap.size #[strV H, strV P, strV Q, .bool hs] = W5 at R1 HB ⊢; generalize w3.heap.size = g1 at R1 ⊢; clear R1a hb3))
      have hS0 : PB2 w g1 g1 #[strV H, strV P, strV Q, .bool hs] W5 := ⟨R1, R1, HB⟩
      clear R1 HB
      refine wp_region_held_drew (S := PB2 w g1 g1 #[strV H, strV P, strV Q, .bool hs]) (by kernel_rfl) (PB2.drew hS0) (fun hH => ?_)
      clear hS0
      generalize W5.drew = W0 at hH ⊢
      refine wpAnyH_take (i := 0) (v := .agg #[strV H, strV P, strV Q, .bool hs]) rfl (by kernel_rfl) (by kernel_rfl) (by kernel_rfl) (fun _ _ _ h => h) (Or.inl ⟨by kernel_rfl, ?_⟩) hH ?_
      · intro W hS
        exact load_gives (x := .tmp 5) (by kernel_rfl) g1 (by kernel_rfl) hS.1 Tryd.underlying24 rfl infoPlS
      simp only [Act.put, List.getElem_toArray, List.getElem_cons_succ, List.getElem_cons_zero, List.setIfInBounds_toArray, List.set_cons_zero, List.set_cons_succ]
      refine wpAnyH_take (i := 2) (v := ?_) rfl (by kernel_rfl) (by kernel_rfl) (by kernel_rfl) (fun _ _ _ h => h) (Or.inl ⟨by kernel_rfl, ?_⟩) hH ?_
      rotate_left
      · intro W hS
        have k0 := hS.1.cell 0
        have k1 := hS.1.cell 1
        have k2 := hS.1.cell 2
        have k3 := hS.1.cell 3
        go_simp
        first | done | with_reducible rfl
      simp only [Act.put, List.getElem_toArray, List.getElem_cons_succ, List.getElem_cons_zero, List.setIfInBounds_toArray, List.set_cons_zero, List.set_cons_succ]
      refine wpAnyH_take (i := 3) (v := ?_) rfl (by kernel_rfl) (by kernel_rfl) (by kernel_rfl) (fun _ _ _ h => h) (Or.inl ⟨by kernel_rfl, ?_⟩) hH ?_
      rotate_left
      · intro W hS
        have k0 := hS.1.cell 0
        have k1 := hS.1.cell 1
        have k2 := hS.1.cell 2
        have k3 := hS.1.cell 3
        go_simp
        first | done | with_reducible rfl
      simp only [Act.put, List.getElem_toArray, List.getElem_cons_succ, List.getElem_cons_zero, List.setIfInBounds_toArray, List.set_cons_zero, List.set_cons_succ]
      refine wpAnyH_ready (rs := [1, 8]) (by kernel_rfl) (by simp) ?_
      refine (AllReadyH.cons rfl (fun K hK => ?_) (AllReadyH.cons rfl (fun K hK => ?_) AllReadyH.nil))
      rotate_left
      focus
        go_simp
        obtain ⟨WA, hWA⟩ : ∃ W, W = W0.alloc (.cells #[.string ⟨#[]⟩, .string ⟨#[]⟩, .string ⟨#[]⟩, .bool false] 24) := ⟨_, rfl⟩
        have hS1 : PB2 w g1 g1 #[strV H, strV P, strV Q, .bool hs] WA := by rw [hWA]; exact PB2.below hH (below_alloc _ _)
        have R2a : rowIs WA W0.heap.size #[.string ⟨#[]⟩, .string ⟨#[]⟩, .string ⟨#[]⟩, .bool false] 24 := by rw [hWA]; exact rowIs_new _ _ _
        have hge := hH.2.2.size
        have hn1 := hH.1.lt
        have hn0 := hH.2.1.lt
        rw [← hWA]
        clear hH hWA
        generalize W0.heap.size = g2 at R2a hge hn1 hn0 ⊢
        refine hK.out _ _ hS1 (fun hH => ?_)
        clear hK K hS1
        try simp only [Act.put, List.getElem_toArray, List.getElem_cons_succ, List.getElem_cons_zero, List.setIfInBounds_toArray, List.set_cons_zero, List.set_cons_succ]
        refine wpAnyH_ready (rs := [1]) (by kernel_rfl) (by simp) ?_
        refine (AllReadyH.cons rfl (fun K hK => ?_) AllReadyH.nil)
        go_simp
        refine (CH.out _).mono ?_
        rintro e wc1 ⟨rfl, hba⟩
        have hS1 := PB2.below hH hba
        replace R2a := R2a.below hba
        clear hH hba
        refine hK.out _ _ hS1 (fun hH => ?_)
        clear hK K hS1
        try simp only [Act.put, List.getElem_toArray, List.getElem_cons_succ, List.getElem_cons_zero, List.setIfInBounds_toArray, List.set_cons_zero, List.set_cons_succ]
        refine wpAnyH_ready (rs := [4]) (by kernel_rfl) (by simp) ?_
        refine (AllReadyH.cons rfl (fun K hK => ?_) AllReadyH.nil)
        go_simp
        refine (C2.out _ (OK.out.below hH.2.2)).mono ?_
        rintro e wc4 ⟨rfl, hba⟩
        have hS1 := PB2.below hH hba
        replace R2a := R2a.below hba
        clear hH hba
        refine hK.out _ _ hS1 (fun hH => ?_)
        clear hK K hS1
        try simp only [Act.put, List.getElem_toArray, List.getElem_cons_succ, List.getElem_cons_zero, List.setIfInBounds_toArray, List.set_cons_zero, List.set_cons_succ]
        refine wpAnyH_take (i := 5) (v := ?_) rfl (by kernel_rfl) (by kernel_rfl) (by kernel_rfl) (fun _ _ _ h => h) (Or.inl ⟨by kernel_rfl, ?_⟩) hH ?_
        rotate_left
        · intro W hS
          have k0 := hS.1.cell 0
          have k1 := hS.1.cell 1
          have k2 := hS.1.cell 2
          have k3 := hS.1.cell 3
          go_simp
          first | done | with_reducible rfl
        simp only [Act.put, List.getElem_toArray, List.getElem_cons_succ, List.getElem_cons_zero, List.setIfInBounds_toArray, List.set_cons_zero, List.set_cons_succ]
        refine wpAnyH_take (i := 6) (v := ?_) rfl (by kernel_rfl) (by kernel_rfl) (by kernel_rfl) (fun _ _ _ h => h) (Or.inl ⟨by kernel_rfl, ?_⟩) hH ?_
        rotate_left
        · intro W hS
          have k0 := hS.1.cell 0
          have k1 := hS.1.cell 1
          have k2 := hS.1.cell 2
          have k3 := hS.1.cell 3
          go_simp
          first | done | with_reducible rfl
        simp only [Act.put, List.getElem_toArray, List.getElem_cons_succ, List.getElem_cons_zero, List.setIfInBounds_toArray, List.set_cons_zero, List.set_cons_succ]
        refine wpAnyH_take (i := 7) (v := ?_) rfl (by kernel_rfl) (by kernel_rfl) (by kernel_rfl) (fun _ _ _ h => h) (Or.inl ⟨by kernel_rfl, ?_⟩) hH ?_
        rotate_left
        · intro W hS
          have k0 := hS.1.cell 0
          have k1 := hS.1.cell 1
          have k2 := hS.1.cell 2
          have k3 := hS.1.cell 3
          go_simp
          first | done | with_reducible rfl
        simp only [Act.put, List.getElem_toArray, List.getElem_cons_succ, List.getElem_cons_zero, List.setIfInBounds_toArray, List.set_cons_zero, List.set_cons_succ]
        refine wpAnyH_ready (rs := [9]) (by kernel_rfl) (by simp) ?_
        refine (AllReadyH.cons rfl (fun K hK => ?_) AllReadyH.nil)
        rw [if_pos (by rfl)]
        refine Gives.upon (R := fun W => W = wc4.setRow g2 #[strV H, strV P, strV Q, .bool hs]) (store_gives rfl g2 #[strV H, strV P, strV Q, .bool hs] rfl rfl R2a infoPlS rfl (onePl _ _ _ _) rfl) ?_
        rintro _ rfl
        have R2 := R2a.setRow #[strV H, strV P, strV Q, .bool hs]
        have hS1 : PB2 w g1 g1 #[strV H, strV P, strV Q, .bool hs] (wc4.setRow g2 #[strV H, strV P, strV Q, .bool hs]) := PB2.row hH hge hn1 hn0
        generalize wc4.setRow g2 #[strV H, strV P, strV Q, .bool hs] = WB at R2 hS1 ⊢
        clear hH R2a
        refine hK.out _ _ hS1 (fun hH => ?_)
        clear hK K hS1
        try simp only [Act.put, List.getElem_toArray, List.getElem_cons_succ, List.getElem_cons_zero, List.setIfInBounds_toArray, List.set_cons_zero, List.set_cons_succ]
        refine wpAnyH_take (i := 10) (v := ?_) rfl (by kernel_rfl) (by kernel_rfl) (by kernel_rfl) (fun _ _ _ h => h) (Or.inl ⟨by kernel_rfl, ?_⟩) hH ?_
        rotate_left
        · intro W hS
          have k0 := hS.1.cell 0
          have k1 := hS.1.cell 1
          have k2 := hS.1.cell 2
          have k3 := hS.1.cell 3
          go_simp
          first | done | with_reducible rfl
        simp only [Act.put, List.getElem_toArray, List.getElem_cons_succ, List.getElem_cons_zero, List.setIfInBounds_toArray, List.set_cons_zero, List.set_cons_succ]
        refine wpAnyH_done (by kernel_rfl) ?_ _
      rotate_right
      focus
        go_simp
        refine (CH.out _).mono ?_
        rintro e wc1 ⟨rfl, hba⟩
        have hS1 := PB2.below hH hba
        clear hH hba
        refine hK.out _ _ hS1 (fun hH => ?_)
        clear hK K hS1
        try simp only [Act.put, List.getElem_toArray, List.getElem_cons_succ, List.getElem_cons_zero, List.setIfInBounds_toArray, List.set_cons_zero, List.set_cons_succ]
        refine wpAnyH_ready (rs := [4, 8]) (by kernel_rfl) (by simp) ?_
        refine (AllReadyH.cons rfl (fun K hK => ?_) (AllReadyH.cons rfl (fun K hK => ?_) AllReadyH.nil))
        rotate_left
        focus
          go_simp
          obtain ⟨WA, hWA⟩ : ∃ W, W = wc1.alloc (.cells #[.string ⟨#[]⟩, .string ⟨#[]⟩, .string ⟨#[]⟩, .bool false] 24) := ⟨_, rfl⟩
          have hS1 : PB2 w g1 g1 #[strV H, strV P, strV Q, .bool hs] WA := by rw [hWA]; exact PB2.below hH (below_alloc _ _)
          have R2a : rowIs WA wc1.heap.size #[.string ⟨#[]⟩, .string ⟨#[]⟩, .string ⟨#[]⟩, .bool false] 24 := by rw [hWA]; exact rowIs_new _ _ _
          have hge := hH.2.2.size
          have hn1 := hH.1.lt
          have hn0 := hH.2.1.lt
          rw [← hWA]
          clear hH hWA
          generalize wc1.heap.size = g2 at R2a hge hn1 hn0 ⊢
          refine hK.out _ _ hS1 (fun hH => ?_)
          clear hK K hS1
          try simp only [Act.put, List.getElem_toArray, List.getElem_cons_succ, List.getElem_cons_zero, List.setIfInBounds_toArray, List.set_cons_zero, List.set_cons_succ]
          refine wpAnyH_ready (rs := [4]) (by kernel_rfl) (by simp) ?_
          refine (AllReadyH.cons rfl (fun K hK => ?_) AllReadyH.nil)
          go_simp
          refine (C2.out _ (OK.out.below hH.2.2)).mono ?_
          rintro e wc4 ⟨rfl, hba⟩
          have hS1 := PB2.below hH hba
          replace R2a := R2a.below hba
          clear hH hba
          refine hK.out _ _ hS1 (fun hH => ?_)
          clear hK K hS1
          try simp only [Act.put, List.getElem_toArray, List.getElem_cons_succ, List.getElem_cons_zero, List.setIfInBounds_toArray, List.set_cons_zero, List.set_cons_succ]
          refine wpAnyH_take (i := 5) (v := ?_) rfl (by kernel_rfl) (by kernel_rfl) (by kernel_rfl) (fun _ _ _ h => h) (Or.inl ⟨by kernel_rfl, ?_⟩) hH ?_
          rotate_left
          · intro W hS
            have k0 := hS.1.cell 0
            have k1 := hS.1.cell 1
            have k2 := hS.1.cell 2
            have k3 := hS.1.cell 3
            go_simp
            first | done | with_reducible rfl
          simp only [Act.put, List.getElem_toArray, List.getElem_cons_succ, List.getElem_cons_zero, List.setIfInBounds_toArray, List.set_cons_zero, List.set_cons_succ]
          refine wpAnyH_take (i := 6) (v := ?_) rfl (by kernel_rfl) (by kernel_rfl) (by kernel_rfl) (fun _ _ _ h => h) (Or.inl ⟨by kernel_rfl, ?_⟩) hH ?_
          rotate_left
          · intro W hS
            have k0 := hS.1.cell 0
            have k1 := hS.1.cell 1
            have k2 := hS.1.cell 2
            have k3 := hS.1.cell 3
            go_simp
            first | done | with_reducible rfl
          simp only [Act.put, List.getElem_toArray, List.getElem_cons_succ, List.getElem_cons_zero, List.setIfInBounds_toArray, List.set_cons_zero, List.set_cons_succ]
          refine wpAnyH_take (i := 7) (v := ?_) rfl (by kernel_rfl) (by kernel_rfl) (by kernel_rfl) (fun _ _ _ h => h) (Or.inl ⟨by kernel_rfl, ?_⟩) hH ?_
          rotate_left
          · intro W hS
            have k0 := hS.1.cell 0
            have k1 := hS.1.cell 1
            have k2 := hS.1.cell 2
            have k3 := hS.1.cell 3
            go_simp
            first | done | with_reducible rfl
          simp only [Act.put, List.getElem_toArray, List.getElem_cons_succ, List.getElem_cons_zero, List.setIfInBounds_toArray, List.set_cons_zero, List.set_cons_succ]
          refine wpAnyH_ready (rs := [9]) (by kernel_rfl) (by simp) ?_
          refine (AllReadyH.cons rfl (fun K hK => ?_) AllReadyH.nil)
          rw [if_pos (by rfl)]
          refine Gives.upon (R := fun W => W = wc4.setRow g2 #[strV H, strV P, strV Q, .bool hs]) (store_gives rfl g2 #[strV H, strV P, strV Q, .bool hs] rfl rfl R2a infoPlS rfl (onePl _ _ _ _) rfl) ?_
          rintro _ rfl
          have R2 := R2a.setRow #[strV H, strV P, strV Q, .bool hs]
          have hS1 : PB2 w g1 g1 #[strV H, strV P, strV Q, .bool hs] (wc4.setRow g2 #[strV H, strV P, strV Q, .bool hs]) := PB2.row hH hge hn1 hn0
          generalize wc4.setRow g2 #[strV H, strV P, strV Q, .bool hs] = WB at R2 hS1 ⊢
          clear hH R2a
          refine hK.out _ _ hS1 (fun hH => ?_)
          clear hK K hS1
          try simp only [Act.put, List.getElem_toArray, List.getElem_cons_succ, List.getElem_cons_zero, List.setIfInBounds_toArray, List.set_cons_zero, List.set_cons_succ]
          refine wpAnyH_take (i := 10) (v := ?_) rfl (by kernel_rfl) (by kernel_rfl) (by kernel_rfl) (fun _ _ _ h => h) (Or.inl ⟨by kernel_rfl, ?_⟩) hH ?_
          rotate_left
          · intro W hS
            have k0 := hS.1.cell 0
            have k1 := hS.1.cell 1
            have k2 := hS.1.cell 2
            have k3 := hS.1.cell 3
            go_simp
            first | done | with_reducible rfl
          simp only [Act.put, List.getElem_toArray, List.getElem_cons_succ, List.getElem_cons_zero, List.setIfInBounds_toArray, List.set_cons_zero, List.set_cons_succ]
          refine wpAnyH_done (by kernel_rfl) ?_ _
        rotate_right
        focus
          go_simp
          refine (C2.out _ (OK.out.below hH.2.2)).mono ?_
          rintro e wc4 ⟨rfl, hba⟩
          have hS1 := PB2.below hH hba
          clear hH hba
          refine hK.out _ _ hS1 (fun hH => ?_)
          clear hK K hS1
          try simp only [Act.put, List.getElem_toArray, List.getElem_cons_succ, List.getElem_cons_zero, List.setIfInBounds_toArray, List.set_cons_zero, List.set_cons_succ]
          refine wpAnyH_take (i := 5) (v := ?_) rfl (by kernel_rfl) (by kernel_rfl) (by kernel_rfl) (fun _ _ _ h => h) (Or.inl ⟨by kernel_rfl, ?_⟩) hH ?_
          rotate_left
          · intro W hS
            have k0 := hS.1.cell 0
            have k1 := hS.1.cell 1
            have k2 := hS.1.cell 2
            have k3 := hS.1.cell 3
            go_simp
            first | done | with_reducible rfl
          simp only [Act.put, List.getElem_toArray, List.getElem_cons_succ, List.getElem_cons_zero, List.setIfInBounds_toArray, List.set_cons_zero, List.set_cons_succ]
          refine wpAnyH_take (i := 6) (v := ?_) rfl (by kernel_rfl) (by kernel_rfl) (by kernel_rfl) (fun _ _ _ h => h) (Or.inl ⟨by kernel_rfl, ?_⟩) hH ?_
          rotate_left
          · intro W hS
            have k0 := hS.1.cell 0
            have k1 := hS.1.cell 1
            have k2 := hS.1.cell 2
            have k3 := hS.1.cell 3
            go_simp
            first | done | with_reducible rfl
          simp only [Act.put, List.getElem_toArray, List.getElem_cons_succ, List.getElem_cons_zero, List.setIfInBounds_toArray, List.set_cons_zero, List.set_cons_succ]
          refine wpAnyH_take (i := 7) (v := ?_) rfl (by kernel_rfl) (by kernel_rfl) (by kernel_rfl) (fun _ _ _ h => h) (Or.inl ⟨by kernel_rfl, ?_⟩) hH ?_
          rotate_left
          · intro W hS
            have k0 := hS.1.cell 0
            have k1 := hS.1.cell 1
            have k2 := hS.1.cell 2
            have k3 := hS.1.cell 3
            go_simp
            first | done | with_reducible rfl
          simp only [Act.put, List.getElem_toArray, List.getElem_cons_succ, List.getElem_cons_zero, List.setIfInBounds_toArray, List.set_cons_zero, List.set_cons_succ]
          refine wpAnyH_ready (rs := [8]) (by kernel_rfl) (by simp) ?_
          refine (AllReadyH.cons rfl (fun K hK => ?_) AllReadyH.nil)
          go_simp
          obtain ⟨WA, hWA⟩ : ∃ W, W = wc4.alloc (.cells #[.string ⟨#[]⟩, .string ⟨#[]⟩, .string ⟨#[]⟩, .bool false] 24) := ⟨_, rfl⟩
          have hS1 : PB2 w g1 g1 #[strV H, strV P, strV Q, .bool hs] WA := by rw [hWA]; exact PB2.below hH (below_alloc _ _)
          have R2a : rowIs WA wc4.heap.size #[.string ⟨#[]⟩, .string ⟨#[]⟩, .string ⟨#[]⟩, .bool false] 24 := by rw [hWA]; exact rowIs_new _ _ _
          have hge := hH.2.2.size
          have hn1 := hH.1.lt
          have hn0 := hH.2.1.lt
          rw [← hWA]
          clear hH hWA
          generalize wc4.heap.size = g2 at R2a hge hn1 hn0 ⊢
          refine hK.out _ _ hS1 (fun hH => ?_)
          clear hK K hS1
          try simp only [Act.put, List.getElem_toArray, List.getElem_cons_succ, List.getElem_cons_zero, List.setIfInBounds_toArray, List.set_cons_zero, List.set_cons_succ]
          refine wpAnyH_ready (rs := [9]) (by kernel_rfl) (by simp) ?_
          refine (AllReadyH.cons rfl (fun K hK => ?_) AllReadyH.nil)
          rw [if_pos (by rfl)]
          refine Gives.upon (R := fun W => W = WA.setRow g2 #[strV H, strV P, strV Q, .bool hs]) (store_gives rfl g2 #[strV H, strV P, strV Q, .bool hs] rfl rfl R2a infoPlS rfl (onePl _ _ _ _) rfl) ?_
          rintro _ rfl
          have R2 := R2a.setRow #[strV H, strV P, strV Q, .bool hs]
          have hS1 : PB2 w g1 g1 #[strV H, strV P, strV Q, .bool hs] (WA.setRow g2 #[strV H, strV P, strV Q, .bool hs]) := PB2.row hH hge hn1 hn0
          generalize WA.setRow g2 #[strV H, strV P, strV Q, .bool hs] = WB at R2 hS1 ⊢
          clear hH R2a
          refine hK.out _ _ hS1 (fun hH => ?_)
          clear hK K hS1
          try simp only [Act.put, List.getElem_toArray, List.getElem_cons_succ, List.getElem_cons_zero, List.setIfInBounds_toArray, List.set_cons_zero, List.set_cons_succ]
          refine wpAnyH_take (i := 10) (v := ?_) rfl (by kernel_rfl) (by kernel_rfl) (by kernel_rfl) (fun _ _ _ h => h) (Or.inl ⟨by kernel_rfl, ?_⟩) hH ?_
          rotate_left
          · intro W hS
            have k0 := hS.1.cell 0
            have k1 := hS.1.cell 1
            have k2 := hS.1.cell 2
            have k3 := hS.1.cell 3
            go_simp
            first | done | with_reducible rfl
          simp only [Act.put, List.getElem_toArray, List.getElem_cons_succ, List.getElem_cons_zero, List.setIfInBounds_toArray, List.set_cons_zero, List.set_cons_succ]
          refine wpAnyH_done (by kernel_rfl) ?_ _
      all_goals
        have hS0 : PB2 w g1 g2 #[strV H, strV P, strV Q, .bool hs] WB := ⟨hH.1, R2, hH.2.2⟩
        clear hH R2 hge hn1 hn0
        go_wp2_with fail
        refine wp_region_held_drew (S := PB2 w g1 g2 #[strV H, strV P, strV Q, .bool hs]) (by kernel_rfl) (PB2.drew hS0) (fun hH => ?_)
        clear hS0
        generalize WB.drew = W0 at hH ⊢
        refine wpAnyH_take (i := 0) (v := ?_) rfl (by kernel_rfl) (by kernel_rfl) (by kernel_rfl) (fun _ _ _ h => h) (Or.inl ⟨by kernel_rfl, ?_⟩) hH ?_
        rotate_left
        · intro W hS
          have k0 := hS.1.cell 0
          have k1 := hS.1.cell 1
          have k2 := hS.1.cell 2
          have k3 := hS.1.cell 3
          go_simp
          first | done | with_reducible rfl
        simp only [Act.put, List.getElem_toArray, List.getElem_cons_succ, List.getElem_cons_zero, List.setIfInBounds_toArray, List.set_cons_zero, List.set_cons_succ]
        refine wpAnyH_take (i := 1) (v := ?_) rfl (by kernel_rfl) (by kernel_rfl) (by kernel_rfl) (fun _ _ _ h => h) (Or.inl ⟨by kernel_rfl, ?_⟩) hH ?_
        rotate_left
        · intro W hS
          have k0 := hS.1.cell 0
          have k1 := hS.1.cell 1
          have k2 := hS.1.cell 2
          have k3 := hS.1.cell 3
          go_simp
          first | done | with_reducible rfl
        simp only [Act.put, List.getElem_toArray, List.getElem_cons_succ, List.getElem_cons_zero, List.setIfInBounds_toArray, List.set_cons_zero, List.set_cons_succ]
        refine wpAnyH_take (i := 2) (v := ?_) rfl (by kernel_rfl) (by kernel_rfl) (by kernel_rfl) (fun _ _ _ h => h) (Or.inl ⟨by kernel_rfl, ?_⟩) hH ?_
        rotate_left
        · intro W hS
          have k0 := hS.1.cell 0
          have k1 := hS.1.cell 1
          have k2 := hS.1.cell 2
          have k3 := hS.1.cell 3
          go_simp
          first | done | with_reducible rfl
        simp only [Act.put, List.getElem_toArray, List.getElem_cons_succ, List.getElem_cons_zero, List.setIfInBounds_toArray, List.set_cons_zero, List.set_cons_succ]
        refine wpAnyH_take (i := 3) (v := .agg #[strV H, strV P, strV Q, .bool hs]) rfl (by kernel_rfl) (by kernel_rfl) (by kernel_rfl) (fun _ _ _ h => h) (Or.inl ⟨by kernel_rfl, ?_⟩) hH ?_
        · intro W hS
          exact load_gives (x := .tmp 5) (by kernel_rfl) g1 (by kernel_rfl) hS.1 Tryd.underlying24 rfl infoPlS
        simp only [Act.put, List.getElem_toArray, List.getElem_cons_succ, List.getElem_cons_zero, List.setIfInBounds_toArray, List.set_cons_zero, List.set_cons_succ]
        refine wpAnyH_ready (rs := [4, 10]) (by kernel_rfl) (by simp) ?_
        refine (AllReadyH.cons rfl (fun K hK => ?_) (AllReadyH.cons rfl (fun K hK => ?_) AllReadyH.nil))
        rotate_left
        focus
          go_simp
          obtain ⟨WA, hWA⟩ : ∃ W, W = W0.alloc (.cells #[.string ⟨#[]⟩, .string ⟨#[]⟩, .string ⟨#[]⟩, .bool false] 24) := ⟨_, rfl⟩
          have hS1 : PB2 w g1 g2 #[strV H, strV P, strV Q, .bool hs] WA := by rw [hWA]; exact PB2.below hH (below_alloc _ _)
          have R2a : rowIs WA W0.heap.size #[.string ⟨#[]⟩, .string ⟨#[]⟩, .string ⟨#[]⟩, .bool false] 24 := by rw [hWA]; exact rowIs_new _ _ _
          have hge := hH.2.2.size
          have hn1 := hH.1.lt
          have hn0 := hH.2.1.lt
          rw [← hWA]
          clear hH hWA
          generalize W0.heap.size = g3 at R2a hge hn1 hn0 ⊢
          refine hK.out _ _ hS1 (fun hH => ?_)
          clear hK K hS1
          try simp only [Act.put, List.getElem_toArray, List.getElem_cons_succ, List.getElem_cons_zero, List.setIfInBounds_toArray, List.set_cons_zero, List.set_cons_succ]
          refine wpAnyH_ready (rs := [4]) (by kernel_rfl) (by simp) ?_
          refine (AllReadyH.cons rfl (fun K hK => ?_) AllReadyH.nil)
          go_simp
          refine (CH.out _).mono ?_
          rintro e wc4 ⟨rfl, hba⟩
          have hS1 := PB2.below hH hba
          replace R2a := R2a.below hba
          clear hH hba
          refine hK.out _ _ hS1 (fun hH => ?_)
          clear hK K hS1
          try simp only [Act.put, List.getElem_toArray, List.getElem_cons_succ, List.getElem_cons_zero, List.setIfInBounds_toArray, List.set_cons_zero, List.set_cons_succ]
          refine wpAnyH_take (i := 5) (v := ?_) rfl (by kernel_rfl) (by kernel_rfl) (by kernel_rfl) (fun _ _ _ h => h) (Or.inl ⟨by kernel_rfl, ?_⟩) hH ?_
          rotate_left
          · intro W hS
            have k0 := hS.1.cell 0
            have k1 := hS.1.cell 1
            have k2 := hS.1.cell 2
            have k3 := hS.1.cell 3
            go_simp
            first | done | with_reducible rfl
          simp only [Act.put, List.getElem_toArray, List.getElem_cons_succ, List.getElem_cons_zero, List.setIfInBounds_toArray, List.set_cons_zero, List.set_cons_succ]
          refine wpAnyH_ready (rs := [6]) (by kernel_rfl) (by simp) ?_
          refine (AllReadyH.cons rfl (fun K hK => ?_) AllReadyH.nil)
          go_simp
          refine (C3.out _ (OK.out.below hH.2.2)).mono ?_
          rintro e wc6 ⟨rfl, hba⟩
          have hS1 := PB2.below hH hba
          replace R2a := R2a.below hba
          clear hH hba
          refine hK.out _ _ hS1 (fun hH => ?_)
          clear hK K hS1
          try simp only [Act.put, List.getElem_toArray, List.getElem_cons_succ, List.getElem_cons_zero, List.setIfInBounds_toArray, List.set_cons_zero, List.set_cons_succ]
          refine wpAnyH_take (i := 7) (v := ?_) rfl (by kernel_rfl) (by kernel_rfl) (by kernel_rfl) (fun _ _ _ h => h) (Or.inl ⟨by kernel_rfl, ?_⟩) hH ?_
          rotate_left
          · intro W hS
            have k0 := hS.1.cell 0
            have k1 := hS.1.cell 1
            have k2 := hS.1.cell 2
            have k3 := hS.1.cell 3
            go_simp
            first | done | with_reducible rfl
          simp only [Act.put, List.getElem_toArray, List.getElem_cons_succ, List.getElem_cons_zero, List.setIfInBounds_toArray, List.set_cons_zero, List.set_cons_succ]
          refine wpAnyH_take (i := 8) (v := ?_) rfl (by kernel_rfl) (by kernel_rfl) (by kernel_rfl) (fun _ _ _ h => h) (Or.inl ⟨by kernel_rfl, ?_⟩) hH ?_
          rotate_left
          · intro W hS
            have k0 := hS.1.cell 0
            have k1 := hS.1.cell 1
            have k2 := hS.1.cell 2
            have k3 := hS.1.cell 3
            go_simp
            first | done | with_reducible rfl
          simp only [Act.put, List.getElem_toArray, List.getElem_cons_succ, List.getElem_cons_zero, List.setIfInBounds_toArray, List.set_cons_zero, List.set_cons_succ]
          refine wpAnyH_take (i := 9) (v := ?_) rfl (by kernel_rfl) (by kernel_rfl) (by kernel_rfl) (fun _ _ _ h => h) (Or.inl ⟨by kernel_rfl, ?_⟩) hH ?_
          rotate_left
          · intro W hS
            have k0 := hS.1.cell 0
            have k1 := hS.1.cell 1
            have k2 := hS.1.cell 2
            have k3 := hS.1.cell 3
            go_simp
            first | done | with_reducible rfl
          simp only [Act.put, List.getElem_toArray, List.getElem_cons_succ, List.getElem_cons_zero, List.setIfInBounds_toArray, List.set_cons_zero, List.set_cons_succ]
          refine wpAnyH_ready (rs := [11]) (by kernel_rfl) (by simp) ?_
          refine (AllReadyH.cons rfl (fun K hK => ?_) AllReadyH.nil)
          rw [if_pos (by rfl)]
          refine Gives.upon (R := fun W => W = wc6.setRow g3 #[strV H, strV P, strV Q, .bool hs]) (store_gives rfl g3 #[strV H, strV P, strV Q, .bool hs] rfl rfl R2a infoPlS rfl (onePl _ _ _ _) rfl) ?_
          rintro _ rfl
          have R2 := R2a.setRow #[strV H, strV P, strV Q, .bool hs]
          have hS1 : PB2 w g1 g2 #[strV H, strV P, strV Q, .bool hs] (wc6.setRow g3 #[strV H, strV P, strV Q, .bool hs]) := PB2.row hH hge hn1 hn0
          generalize wc6.setRow g3 #[strV H, strV P, strV Q, .bool hs] = WB at R2 hS1 ⊢
          clear hH R2a
          refine hK.out _ _ hS1 (fun hH => ?_)
          clear hK K hS1
          try simp only [Act.put, List.getElem_toArray, List.getElem_cons_succ, List.getElem_cons_zero, List.setIfInBounds_toArray, List.set_cons_zero, List.set_cons_succ]
          refine wpAnyH_take (i := 12) (v := ?_) rfl (by kernel_rfl) (by kernel_rfl) (by kernel_rfl) (fun _ _ _ h => h) (Or.inl ⟨by kernel_rfl, ?_⟩) hH ?_
          rotate_left
          · intro W hS
            have k0 := hS.1.cell 0
            have k1 := hS.1.cell 1
            have k2 := hS.1.cell 2
            have k3 := hS.1.cell 3
            go_simp
            first | done | with_reducible rfl
          simp only [Act.put, List.getElem_toArray, List.getElem_cons_succ, List.getElem_cons_zero, List.setIfInBounds_toArray, List.set_cons_zero, List.set_cons_succ]
          refine wpAnyH_done (by kernel_rfl) ?_ _
        rotate_right
        focus
          go_simp
          refine (CH.out _).mono ?_
          rintro e wc4 ⟨rfl, hba⟩
          have hS1 := PB2.below hH hba
          clear hH hba
          refine hK.out _ _ hS1 (fun hH => ?_)
          clear hK K hS1
          try simp only [Act.put, List.getElem_toArray, List.getElem_cons_succ, List.getElem_cons_zero, List.setIfInBounds_toArray, List.set_cons_zero, List.set_cons_succ]
          refine wpAnyH_take (i := 5) (v := ?_) rfl (by kernel_rfl) (by kernel_rfl) (by kernel_rfl) (fun _ _ _ h => h) (Or.inl ⟨by kernel_rfl, ?_⟩) hH ?_
          rotate_left
          · intro W hS
            have k0 := hS.1.cell 0
            have k1 := hS.1.cell 1
            have k2 := hS.1.cell 2
            have k3 := hS.1.cell 3
            go_simp
            first | done | with_reducible rfl
          simp only [Act.put, List.getElem_toArray, List.getElem_cons_succ, List.getElem_cons_zero, List.setIfInBounds_toArray, List.set_cons_zero, List.set_cons_succ]
          refine wpAnyH_ready (rs := [6, 10]) (by kernel_rfl) (by simp) ?_
          refine (AllReadyH.cons rfl (fun K hK => ?_) (AllReadyH.cons rfl (fun K hK => ?_) AllReadyH.nil))
          rotate_left
          focus
            go_simp
            obtain ⟨WA, hWA⟩ : ∃ W, W = wc4.alloc (.cells #[.string ⟨#[]⟩, .string ⟨#[]⟩, .string ⟨#[]⟩, .bool false] 24) := ⟨_, rfl⟩
            have hS1 : PB2 w g1 g2 #[strV H, strV P, strV Q, .bool hs] WA := by rw [hWA]; exact PB2.below hH (below_alloc _ _)
            have R2a : rowIs WA wc4.heap.size #[.string ⟨#[]⟩, .string ⟨#[]⟩, .string ⟨#[]⟩, .bool false] 24 := by rw [hWA]; exact rowIs_new _ _ _
            have hge := hH.2.2.size
            have hn1 := hH.1.lt
            have hn0 := hH.2.1.lt
            rw [← hWA]
            clear hH hWA
            generalize wc4.heap.size = g3 at R2a hge hn1 hn0 ⊢
            refine hK.out _ _ hS1 (fun hH => ?_)
            clear hK K hS1
            try simp only [Act.put, List.getElem_toArray, List.getElem_cons_succ, List.getElem_cons_zero, List.setIfInBounds_toArray, List.set_cons_zero, List.set_cons_succ]
            refine wpAnyH_ready (rs := [6]) (by kernel_rfl) (by simp) ?_
            refine (AllReadyH.cons rfl (fun K hK => ?_) AllReadyH.nil)
            go_simp
            refine (C3.out _ (OK.out.below hH.2.2)).mono ?_
            rintro e wc6 ⟨rfl, hba⟩
            have hS1 := PB2.below hH hba
            replace R2a := R2a.below hba
            clear hH hba
            refine hK.out _ _ hS1 (fun hH => ?_)
            clear hK K hS1
            try simp only [Act.put, List.getElem_toArray, List.getElem_cons_succ, List.getElem_cons_zero, List.setIfInBounds_toArray, List.set_cons_zero, List.set_cons_succ]
            refine wpAnyH_take (i := 7) (v := ?_) rfl (by kernel_rfl) (by kernel_rfl) (by kernel_rfl) (fun _ _ _ h => h) (Or.inl ⟨by kernel_rfl, ?_⟩) hH ?_
            rotate_left
            · intro W hS
              have k0 := hS.1.cell 0
              have k1 := hS.1.cell 1
              have k2 := hS.1.cell 2
              have k3 := hS.1.cell 3
              go_simp
              first | done | with_reducible rfl
            simp only [Act.put, List.getElem_toArray, List.getElem_cons_succ, List.getElem_cons_zero, List.setIfInBounds_toArray, List.set_cons_zero, List.set_cons_succ]
            refine wpAnyH_take (i := 8) (v := ?_) rfl (by kernel_rfl) (by kernel_rfl) (by kernel_rfl) (fun _ _ _ h => h) (Or.inl ⟨by kernel_rfl, ?_⟩) hH ?_
            rotate_left
            · intro W hS
              have k0 := hS.1.cell 0
              have k1 := hS.1.cell 1
              have k2 := hS.1.cell 2
              have k3 := hS.1.cell 3
              go_simp
              first | done | with_reducible rfl
            simp only [Act.put, List.getElem_toArray, List.getElem_cons_succ, List.getElem_cons_zero, List.setIfInBounds_toArray, List.set_cons_zero, List.set_cons_succ]
            refine wpAnyH_take (i := 9) (v := ?_) rfl (by kernel_rfl) (by kernel_rfl) (by kernel_rfl) (fun _ _ _ h => h) (Or.inl ⟨by kernel_rfl, ?_⟩) hH ?_
            rotate_left
            · intro W hS
              have k0 := hS.1.cell 0
              have k1 := hS.1.cell 1
              have k2 := hS.1.cell 2
              have k3 := hS.1.cell 3
              go_simp
              first | done | with_reducible rfl
            simp only [Act.put, List.getElem_toArray, List.getElem_cons_succ, List.getElem_cons_zero, List.setIfInBounds_toArray, List.set_cons_zero, List.set_cons_succ]
            refine wpAnyH_ready (rs := [11]) (by kernel_rfl) (by simp) ?_
            refine (AllReadyH.cons rfl (fun K hK => ?_) AllReadyH.nil)
            rw [if_pos (by rfl)]
            refine Gives.upon (R := fun W => W = wc6.setRow g3 #[strV H, strV P, strV Q, .bool hs]) (store_gives rfl g3 #[strV H, strV P, strV Q, .bool hs] rfl rfl R2a infoPlS rfl (onePl _ _ _ _) rfl) ?_
            rintro _ rfl
            have R2 := R2a.setRow #[strV H, strV P, strV Q, .bool hs]
            have hS1 : PB2 w g1 g2 #[strV H, strV P, strV Q, .bool hs] (wc6.setRow g3 #[strV H, strV P, strV Q, .bool hs]) := PB2.row hH hge hn1 hn0
            generalize wc6.setRow g3 #[strV H, strV P, strV Q, .bool hs] = WB at R2 hS1 ⊢
            clear hH R2a
            refine hK.out _ _ hS1 (fun hH => ?_)
            clear hK K hS1
            try simp only [Act.put, List.getElem_toArray, List.getElem_cons_succ, List.getElem_cons_zero, List.setIfInBounds_toArray, List.set_cons_zero, List.set_cons_succ]
            refine wpAnyH_take (i := 12) (v := ?_) rfl (by kernel_rfl) (by kernel_rfl) (by kernel_rfl) (fun _ _ _ h => h) (Or.inl ⟨by kernel_rfl, ?_⟩) hH ?_
            rotate_left
            · intro W hS
              have k0 := hS.1.cell 0
              have k1 := hS.1.cell 1
              have k2 := hS.1.cell 2
              have k3 := hS.1.cell 3
              go_simp
              first | done | with_reducible rfl
            simp only [Act.put, List.getElem_toArray, List.getElem_cons_succ, List.getElem_cons_zero, List.setIfInBounds_toArray, List.set_cons_zero, List.set_cons_succ]
            refine wpAnyH_done (by kernel_rfl) ?_ _
          rotate_right
          focus
            go_simp
            refine (C3.out _ (OK.out.below hH.2.2)).mono ?_
            rintro e wc6 ⟨rfl, hba⟩
            have hS1 := PB2.below hH hba
            clear hH hba
            refine hK.out _ _ hS1 (fun hH => ?_)
            clear hK K hS1
            try simp only [Act.put, List.getElem_toArray, List.getElem_cons_succ, List.getElem_cons_zero, List.setIfInBounds_toArray, List.set_cons_zero, List.set_cons_succ]
            refine wpAnyH_take (i := 7) (v := ?_) rfl (by kernel_rfl) (by kernel_rfl) (by kernel_rfl) (fun _ _ _ h => h) (Or.inl ⟨by kernel_rfl, ?_⟩) hH ?_
            rotate_left
            · intro W hS
              have k0 := hS.1.cell 0
              have k1 := hS.1.cell 1
              have k2 := hS.1.cell 2
              have k3 := hS.1.cell 3
              go_simp
              first | done | with_reducible rfl
            simp only [Act.put, List.getElem_toArray, List.getElem_cons_succ, List.getElem_cons_zero, List.setIfInBounds_toArray, List.set_cons_zero, List.set_cons_succ]
            refine wpAnyH_take (i := 8) (v := ?_) rfl (by kernel_rfl) (by kernel_rfl) (by kernel_rfl) (fun _ _ _ h => h) (Or.inl ⟨by kernel_rfl, ?_⟩) hH ?_
            rotate_left
            · intro W hS
              have k0 := hS.1.cell 0
              have k1 := hS.1.cell 1
              have k2 := hS.1.cell 2
              have k3 := hS.1.cell 3
              go_simp
              first | done | with_reducible rfl
            simp only [Act.put, List.getElem_toArray, List.getElem_cons_succ, List.getElem_cons_zero, List.setIfInBounds_toArray, List.set_cons_zero, List.set_cons_succ]
            refine wpAnyH_take (i := 9) (v := ?_) rfl (by kernel_rfl) (by kernel_rfl) (by kernel_rfl) (fun _ _ _ h => h) (Or.inl ⟨by kernel_rfl, ?_⟩) hH ?_
            rotate_left
            · intro W hS
              have k0 := hS.1.cell 0
              have k1 := hS.1.cell 1
              have k2 := hS.1.cell 2
              have k3 := hS.1.cell 3
              go_simp
              first | done | with_reducible rfl
            simp only [Act.put, List.getElem_toArray, List.getElem_cons_succ, List.getElem_cons_zero, List.setIfInBounds_toArray, List.set_cons_zero, List.set_cons_succ]
            refine wpAnyH_ready (rs := [10]) (by kernel_rfl) (by simp) ?_
            refine (AllReadyH.cons rfl (fun K hK => ?_) AllReadyH.nil)
            go_simp
            obtain ⟨WA, hWA⟩ : ∃ W, W = wc6.alloc (.cells #[.string ⟨#[]⟩, .string ⟨#[]⟩, .string ⟨#[]⟩, .bool false] 24) := ⟨_, rfl⟩
            have hS1 : PB2 w g1 g2 #[strV H, strV P, strV Q, .bool hs] WA := by rw [hWA]; exact PB2.below hH (below_alloc _ _)
            have R2a : rowIs WA wc6.heap.size #[.string ⟨#[]⟩, .string ⟨#[]⟩, .string ⟨#[]⟩, .bool false] 24 := by rw [hWA]; exact rowIs_new _ _ _
            have hge := hH.2.2.size
            have hn1 := hH.1.lt
            have hn0 := hH.2.1.lt
            rw [← hWA]
            clear hH hWA
            generalize wc6.heap.size = g3 at R2a hge hn1 hn0 ⊢
            refine hK.out _ _ hS1 (fun hH => ?_)
            clear hK K hS1
            try simp only [Act.put, List.getElem_toArray, List.getElem_cons_succ, List.getElem_cons_zero, List.setIfInBounds_toArray, List.set_cons_zero, List.set_cons_succ]
            refine wpAnyH_ready (rs := [11]) (by kernel_rfl) (by simp) ?_
            refine (AllReadyH.cons rfl (fun K hK => ?_) AllReadyH.nil)
            rw [if_pos (by rfl)]
            refine Gives.upon (R := fun W => W = WA.setRow g3 #[strV H, strV P, strV Q, .bool hs]) (store_gives rfl g3 #[strV H, strV P, strV Q, .bool hs] rfl rfl R2a infoPlS rfl (onePl _ _ _ _) rfl) ?_
            rintro _ rfl
            have R2 := R2a.setRow #[strV H, strV P, strV Q, .bool hs]
            have hS1 : PB2 w g1 g2 #[strV H, strV P, strV Q, .bool hs] (WA.setRow g3 #[strV H, strV P, strV Q, .bool hs]) := PB2.row hH hge hn1 hn0
            generalize WA.setRow g3 #[strV H, strV P, strV Q, .bool hs] = WB at R2 hS1 ⊢
            clear hH R2a
            refine hK.out _ _ hS1 (fun hH => ?_)
            clear hK K hS1
            try simp only [Act.put, List.getElem_toArray, List.getElem_cons_succ, List.getElem_cons_zero, List.setIfInBounds_toArray, List.set_cons_zero, List.set_cons_succ]
            refine wpAnyH_take (i := 12) (v := ?_) rfl (by kernel_rfl) (by kernel_rfl) (by kernel_rfl) (fun _ _ _ h => h) (Or.inl ⟨by kernel_rfl, ?_⟩) hH ?_
            rotate_left
            · intro W hS
              have k0 := hS.1.cell 0
              have k1 := hS.1.cell 1
              have k2 := hS.1.cell 2
              have k3 := hS.1.cell 3
              go_simp
              first | done | with_reducible rfl
            simp only [Act.put, List.getElem_toArray, List.getElem_cons_succ, List.getElem_cons_zero, List.setIfInBounds_toArray, List.set_cons_zero, List.set_cons_succ]
            refine wpAnyH_done (by kernel_rfl) ?_ _
        all_goals
          have R1 := hH.1
          have L1 := R1.cell 0
          have R3 := hH.2.1
          have HB := hH.2.2
          clear hH
          go_wp2_with (first
            | (refine wpList_load_g 24 _ rfl g1 rfl 24 _ _ R1 Tryd.underlying24 rfl infoPlS rfl ?_)
            | (refine wpList_load_g 24 _ rfl g2 rfl 24 _ _ R3 Tryd.underlying24 rfl infoPlS rfl ?_)
            | (refine wpList_load_g 24 _ rfl g3 rfl 24 _ _ R2 Tryd.underlying24 rfl infoPlS rfl ?_))
          go_ret
          exact ⟨rfl, HB⟩
end Go.Proofs.YthokpbpnecdgpaaDoor
