/-
  The walk of the statement DateReads.
-/
import Derived.Test.YtjggelnpfeeabaaDoorLaw02A
import Derived.Deep.RegionHeld3
namespace Go.Proofs.YtjggelnpfeeabaaDoor
open Go.RowKit Go.Pantry

/-- []byte(s): a new block that holds its bytes -/
theorem bytes_made (s : ByteArray) (w : World) : ∃ cap W, (convert 9 34 (.string s)).run Tryd.prog w = .ok (.slice (some ⟨w.heap.size, 0, none⟩) s.size cap) W ∧ bytesAt W w.heap.size s.data.toList ∧ Below w.heap.size w W ∧ w.heap.size < W.heap.size :=
  ⟨_, _, run_bytes_of_string (P := Tryd.prog) w 9 34 5 s Tryd.underlying9 Tryd.underlying34 Tryd.underlying5, bytesAt_row w s _ _, ((Below.refl _ _).alloc (Nat.le_refl _) _).drew, by simp⟩

theorem refShow_keep (u : Int) (g n cap : Nat) (L : List UInt8) (w0 W : World) (u0 : 0 ≤ u) (u1 : u ≤ 253402300799) (hn : n = L.length)
    (hS : (convert 34 9 (.slice (some ⟨g, 0, none⟩) n cap)).run Tryd.prog W = .ok (strV L) W ∧ bytesAt W g L ∧ Below w0.heap.size w0 W ∧ g < W.heap.size) :
    Calls Tryd.prog 14 #[.int .i64 u] W fun e w' => e = .returned (strV (showL u)) ∧ (convert 34 9 (.slice (some ⟨g, 0, none⟩) n cap)).run Tryd.prog w' = .ok (strV L) w' ∧ bytesAt w' g L ∧ Below w0.heap.size w0 w' ∧ g < w'.heap.size := by
  obtain ⟨-, hS2, hS3, hS4⟩ := hS
  refine (refShow_any u W u0 u1).mono ?_
  rintro e w' ⟨he, hb⟩
  have hb2 := hS2.below hb hS4
  exact ⟨he, hb2.back 34 9 5 n cap hn Tryd.underlying34 Tryd.underlying5 Tryd.underlying9, hb2, chainB hS3 hS3.size hb, Nat.lt_of_lt_of_le hS4 hb.size⟩

set_option maxHeartbeats 4000000 in
theorem dateReads_turn (s : ByteArray) (t : Int) (k : Nat) (c : UInt8) (w : World) (hT : Tables w) (hr : readL s.data.toList = some t) (hk : k < s.size) (hx : s[k] ≠ c) :
    Calls Tryd.prog 5 #[.string s, .int .i64 (k : Int), .int .u8 (c.toNat : Int)] w fun e w' => e = .returned (.bool true) ∧ Below w.heap.size w w' := by
  obtain ⟨h0, h1, hsh⟩ := readL_some hr
  have hz : s.size = 29 := by rw [← size_list, ← hsh, showL_len t h0 h1]
  have hz1 : ((s.size : Int) == 29) = true := by simp [hz]
  have hz2 : ((s.size : Int) != 29) = false := by simp [hz]
  have hz3 : (s.size : Int) ≤ 200 := by omega
  have e1 : (showL t == s.toList) = true := by rw [Lib.toList_data, hsh]; simp
  have e2 : (showL t != s.toList) = false := by rw [Lib.toList_data, hsh]; simp
  have HR := hid hr
  have HZ := hid hz
  have HS := hid hsh
  clear hr hz hsh
  have g1 : ((s[k].toNat : Int) == (c.toNat : Int)) = false := by
    have : s[k].toNat ≠ c.toNat := fun e => hx (UInt8.toNat_inj.1 e)
    simp; omega
  have HX := hid hx
  clear hx
  go_enter Tryd.func5, Tryd.ntmps5
  go_wp2_with fail
  refine (anchor_any _ hT).mono ?_
  rintro e w1 ⟨rfl, hb⟩
  have hT1 := hT.below hb hT.lt
  go_wp2_with fail
  refine (Read_some s t _ hT1 HR.out).mono ?_
  rintro e w2 ⟨rfl, hb2⟩
  have hT2 := hT1.below hb2 hT1.lt
  replace hb := chainB hb hb.size hb2
  clear hb2 hT1
  go_wp2_with fail
  refine (refShow_any t _ h0 h1).mono ?_
  rintro e w3 ⟨rfl, hb3⟩
  have hT3 := hT2.below hb3 hT2.lt
  replace hb := chainB hb hb.size hb3
  clear hb3 hT2
  obtain ⟨cap, W, hcv, hby, hbW, hlt⟩ := bytes_made s w3
  have hcell := hby.cell k s[k] (by rw [List.getElem?_eq_getElem (by rw [size_list]; exact hk)]; rfl)
  have hfree := hby.free k (by rw [size_list]; exact hk)
  have hby2 := hby.set k (by rw [size_list]; exact hk) c
  have hback := hby2.back (P := Tryd.prog) 34 9 5 s.size cap (by rw [List.length_set, size_list]) Tryd.underlying34 Tryd.underlying5 Tryd.underlying9
  have hbS := hbW.setCell (p := ⟨w3.heap.size, k, none⟩) (Nat.le_refl _) (.int .u8 (c.toNat : Int))
  have HB2 := hid hby2
  clear hby hby2
  go_wp2_with fail
  clear hcv hcell hfree hback
  have hT5 := hT3.below hbS hT3.lt
  have hs5 : w3.heap.size < (W.setCell ⟨w3.heap.size, k, none⟩ (.int .u8 (c.toNat : Int))).heap.size := by simpa [World.setCell] using hlt
  replace hb := chainB hb hb.size hbS
  generalize W.setCell ⟨w3.heap.size, k, none⟩ (.int .u8 (c.toNat : Int)) = W5 at hT5 hs5 hb HB2 ⊢
  clear hbS hbW hlt hT3
  have hne : s.data.toList.set k c ≠ showL t := by
    intro e
    have h2 : (s.data.toList.set k c)[k]? = s.data.toList[k]? := by rw [e, HS.out]
    rw [List.getElem?_set] at h2
    simp only [if_true] at h2
    rw [if_pos (by rw [size_list]; exact hk), List.getElem?_eq_getElem (by rw [size_list]; exact hk)] at h2
    have h3 : c = s[k] := Option.some.inj h2
    exact HX.out h3.symm
  have hLz : (s.data.toList.set k c).length = s.size := by rw [List.length_set, size_list]
  generalize hL : s.data.toList.set k c = L at HB2 hne hLz ⊢
  clear hL
  have HN := hid hne
  have HLZ := hid hLz
  clear hne hLz
  cases hu : readL L with
  | none =>
    refine (Read_none ⟨L.toArray⟩ _ hT5 (by simpa using hu)).mono ?_
    rintro e w6 ⟨rfl, hb6⟩
    replace hb := chainB hb hb.size hb6
    clear hb6 hu
    go_wp2_with fail
    go_quiet (fail)
    go_wp2_with fail
    go_ret
    exact ⟨rfl, chainB hb hb.size (drewN_below _ _)⟩
  | some u =>
    obtain ⟨u0, u1, hsu⟩ := readL_some hu
    have hut : u ≠ t := by
      intro e
      subst e
      exact HN.out hsu.symm
    refine (Read_some ⟨L.toArray⟩ u _ hT5 (by simpa using hu)).mono ?_
    rintro e w6 ⟨rfl, hb6⟩
    have hby6 := HB2.out.below hb6 hs5
    replace hb := chainB hb hb.size hb6
    have hs6 := Nat.lt_of_lt_of_le hs5 hb6.size
    clear hb6 hu
    have g5 : (u == t) = false := by simpa using hut
    have g6 : (u != t) = true := by simpa using hut
    go_wp2_with fail
    have hl9 : s.size = L.length := HLZ.out.symm
    have hc6 := hby6.drew.back (P := Tryd.prog) 34 9 5 s.size cap hl9 Tryd.underlying34 Tryd.underlying5 Tryd.underlying9
    have g7 : (showL u == L) = true := by simpa using hsu
    have HL9 := hid hl9
    have HY6 := hid hby6
    clear hl9 hsu hut
    clear HS HX HN HB2 hT5 hs5
    refine wp_region_held_drew (S := fun w' => (convert 34 9 (.slice (some ⟨w3.heap.size, 0, none⟩) s.size cap)).run Tryd.prog w' = .ok (strV L) w' ∧ bytesAt w' w3.heap.size L ∧ Below w.heap.size w w' ∧ w3.heap.size < w'.heap.size) (by kernel_rfl) ⟨hc6, hby6.drew, hb.drew, hs6⟩ (fun hHeld => ?_)
    clear hc6
    refine wpAnyH_take (i := 0) (v := ?_) rfl (by kernel_rfl) (by kernel_rfl) (by kernel_rfl) (fun _ _ _ h => h) (Or.inl ⟨by kernel_rfl, ?_⟩) hHeld ?_
    rotate_left
    · intro W hSW
      obtain ⟨hSc, hSd⟩ := hSW
      go_simp
      first | done | with_reducible rfl
    simp only [Act.put, List.setIfInBounds_toArray, List.set_cons_zero, List.set_cons_succ]
    refine wpAnyH_take (i := 1) (v := ?_) rfl (by kernel_rfl) (by kernel_rfl) (by kernel_rfl) (fun _ _ _ h => h) (Or.inl ⟨by kernel_rfl, ?_⟩) hHeld ?_
    rotate_left
    · intro W hSW
      obtain ⟨hSc, hSd⟩ := hSW
      go_simp
      first | done | with_reducible rfl
    simp only [Act.put, List.setIfInBounds_toArray, List.set_cons_zero, List.set_cons_succ]
    refine wpAnyH_take (i := 2) (v := ?_) rfl (by kernel_rfl) (by kernel_rfl) (by kernel_rfl) (fun _ _ _ h => h) (Or.inl ⟨by kernel_rfl, ?_⟩) hHeld ?_
    rotate_left
    · intro W hSW
      obtain ⟨hSc, hSd⟩ := hSW
      go_simp
      first | done | with_reducible rfl
    simp only [Act.put, List.setIfInBounds_toArray, List.set_cons_zero, List.set_cons_succ]
    refine wpAnyH_take (i := 3) rfl (by kernel_rfl) (by kernel_rfl) (by kernel_rfl) (fun _ _ _ h => h) (Or.inr ⟨by kernel_rfl, rfl⟩) hHeld ?_
    simp only [Act.put, List.setIfInBounds_toArray, List.set_cons_zero, List.set_cons_succ]
    refine wpAnyH_take (i := 4) rfl (by kernel_rfl) (by kernel_rfl) (by kernel_rfl) (fun _ _ _ h => h) (Or.inr ⟨by kernel_rfl, rfl⟩) hHeld ?_
    simp only [Act.put, List.setIfInBounds_toArray, List.set_cons_zero, List.set_cons_succ]
    refine wpAnyH_take (i := 5) (v := ?_) rfl (by kernel_rfl) (by kernel_rfl) (by kernel_rfl) (fun _ _ _ h => h) (Or.inl ⟨by kernel_rfl, ?_⟩) hHeld ?_
    rotate_left
    · intro W hSW
      obtain ⟨hSc, hSd⟩ := hSW
      go_simp
      first | done | with_reducible rfl
    simp only [Act.put, List.setIfInBounds_toArray, List.set_cons_zero, List.set_cons_succ]
    refine wpAnyH_take (i := 6) (v := ?_) rfl (by kernel_rfl) (by kernel_rfl) (by kernel_rfl) (fun _ _ _ h => h) (Or.inl ⟨by kernel_rfl, ?_⟩) hHeld ?_
    rotate_left
    · intro W hSW
      obtain ⟨hSc, hSd⟩ := hSW
      go_simp
      first | done | with_reducible rfl
    simp only [Act.put, List.setIfInBounds_toArray, List.set_cons_zero, List.set_cons_succ]
    refine wpAnyH_take (i := 7) (v := ?_) rfl (by kernel_rfl) (by kernel_rfl) (by kernel_rfl) (fun _ _ _ h => h) (Or.inl ⟨by kernel_rfl, ?_⟩) hHeld ?_
    rotate_left
    · intro W hSW
      obtain ⟨hSc, hSd⟩ := hSW
      go_simp
      first | done | with_reducible rfl
    simp only [Act.put, List.setIfInBounds_toArray, List.set_cons_zero, List.set_cons_succ]
    refine wpAnyH_take (i := 8) (v := ?_) rfl (by kernel_rfl) (by kernel_rfl) (by kernel_rfl) (fun _ _ _ h => h) (Or.inl ⟨by kernel_rfl, ?_⟩) hHeld ?_
    rotate_left
    · intro W hSW
      obtain ⟨hSc, hSd⟩ := hSW
      go_simp
      first | done | with_reducible rfl
    simp only [Act.put, List.setIfInBounds_toArray, List.set_cons_zero, List.set_cons_succ]
    refine wpAnyH_take (i := 9) (v := ?_) rfl (by kernel_rfl) (by kernel_rfl) (by kernel_rfl) (fun _ _ _ h => h) (Or.inl ⟨by kernel_rfl, ?_⟩) hHeld ?_
    rotate_left
    · intro W hSW
      obtain ⟨hSc, hSd⟩ := hSW
      go_simp
      first | done | with_reducible rfl
    simp only [Act.put, List.setIfInBounds_toArray, List.set_cons_zero, List.set_cons_succ]
    refine wpAnyH_take (i := 10) (v := ?_) rfl (by kernel_rfl) (by kernel_rfl) (by kernel_rfl) (fun _ _ _ h => h) (Or.inl ⟨by kernel_rfl, ?_⟩) hHeld ?_
    rotate_left
    · intro W hSW
      obtain ⟨hSc, hSd⟩ := hSW
      go_simp
      first | done | with_reducible rfl
    simp only [Act.put, List.setIfInBounds_toArray, List.set_cons_zero, List.set_cons_succ]
    refine wpAnyH_take (i := 11) (v := ?_) rfl (by kernel_rfl) (by kernel_rfl) (by kernel_rfl) (fun _ _ _ h => h) (Or.inl ⟨by kernel_rfl, ?_⟩) hHeld ?_
    rotate_left
    · intro W hSW
      obtain ⟨hSc, hSd⟩ := hSW
      go_simp
      first | done | with_reducible rfl
    simp only [Act.put, List.setIfInBounds_toArray, List.set_cons_zero, List.set_cons_succ]
    refine wpAnyH_take (i := 12) (v := ?_) rfl (by kernel_rfl) (by kernel_rfl) (by kernel_rfl) (fun _ _ _ h => h) (Or.inl ⟨by kernel_rfl, ?_⟩) hHeld ?_
    rotate_left
    · intro W hSW
      obtain ⟨hSc, hSd⟩ := hSW
      go_simp
      first | done | with_reducible rfl
    simp only [Act.put, List.setIfInBounds_toArray, List.set_cons_zero, List.set_cons_succ]
    refine wpAnyH_take (i := 13) (v := ?_) rfl (by kernel_rfl) (by kernel_rfl) (by kernel_rfl) (fun _ _ _ h => h) (Or.inl ⟨by kernel_rfl, ?_⟩) hHeld ?_
    rotate_left
    · intro W hSW
      obtain ⟨hSc, hSd⟩ := hSW
      go_simp
      first | done | with_reducible rfl
    simp only [Act.put, List.setIfInBounds_toArray, List.set_cons_zero, List.set_cons_succ]
    refine wpAnyH_take (i := 14) (v := ?_) rfl (by kernel_rfl) (by kernel_rfl) (by kernel_rfl) (fun _ _ _ h => h) (Or.inl ⟨by kernel_rfl, ?_⟩) hHeld ?_
    rotate_left
    · intro W hSW
      obtain ⟨hSc, hSd⟩ := hSW
      go_simp
      first | done | with_reducible rfl
    simp only [Act.put, List.setIfInBounds_toArray, List.set_cons_zero, List.set_cons_succ]
    refine wpAnyH_take (i := 15) (v := ?_) rfl (by kernel_rfl) (by kernel_rfl) (by kernel_rfl) (fun _ _ _ h => h) (Or.inl ⟨by kernel_rfl, ?_⟩) hHeld ?_
    rotate_left
    · intro W hSW
      obtain ⟨hSc, hSd⟩ := hSW
      go_simp
      first | done | with_reducible rfl
    simp only [Act.put, List.setIfInBounds_toArray, List.set_cons_zero, List.set_cons_succ]
    refine wpAnyH_take (i := 17) (v := ?_) rfl (by kernel_rfl) (by kernel_rfl) (by kernel_rfl) (fun _ _ _ h => h) (Or.inl ⟨by kernel_rfl, ?_⟩) hHeld ?_
    rotate_left
    · intro W hSW
      obtain ⟨hSc, hSd⟩ := hSW
      go_simp
      first | done | with_reducible rfl
    simp only [Act.put, List.setIfInBounds_toArray, List.set_cons_zero, List.set_cons_succ]
    refine wpAnyH_take (i := 18) (v := ?_) rfl (by kernel_rfl) (by kernel_rfl) (by kernel_rfl) (fun _ _ _ h => h) (Or.inl ⟨by kernel_rfl, ?_⟩) hHeld ?_
    rotate_left
    · intro W hSW
      obtain ⟨hSc, hSd⟩ := hSW
      go_simp
      first | done | with_reducible rfl
    simp only [Act.put, List.setIfInBounds_toArray, List.set_cons_zero, List.set_cons_succ]
    refine wpAnyH_ready (rs := [16]) (by kernel_rfl) (by simp) ?_
    refine AllReadyH.cons rfl (fun K hK => ?_) AllReadyH.nil
    go_simp
    refine (refShow_keep u w3.heap.size s.size cap L w _ u0 u1 HL9.out hHeld).mono ?_
    rintro e w7 ⟨rfl, hS1, hS2, hS3, hS4⟩
    refine hK.out _ _ ⟨hS1, hS2, hS3, hS4⟩ (fun hHeld2 => ?_)
    clear hK K hHeld
    try simp only [Act.put, List.setIfInBounds_toArray, List.set_cons_zero, List.set_cons_succ]
    refine wpAnyH_take (i := 19) (v := ?_) rfl (by kernel_rfl) (by kernel_rfl) (by kernel_rfl) (fun _ _ _ h => h) (Or.inl ⟨by kernel_rfl, ?_⟩) hHeld2 ?_
    rotate_left
    · intro W hSW
      obtain ⟨hSc, hSd⟩ := hSW
      go_simp
      first | done | with_reducible rfl
    simp only [List.getElem_toArray, List.getElem_cons_succ, List.getElem_cons_zero, Act.put, List.setIfInBounds_toArray, List.set_cons_zero, List.set_cons_succ]
    refine wpAnyH_take (i := 20) (v := ?_) rfl (by kernel_rfl) (by kernel_rfl) (by kernel_rfl) (fun _ _ _ h => h) (Or.inl ⟨by kernel_rfl, ?_⟩) hHeld2 ?_
    rotate_left
    · intro W hSW
      obtain ⟨hSc, hSd⟩ := hSW
      go_simp
      first | done | with_reducible rfl
    simp only [List.getElem_toArray, List.getElem_cons_succ, List.getElem_cons_zero, Act.put, List.setIfInBounds_toArray, List.set_cons_zero, List.set_cons_succ]
    refine wpAnyH_take (i := 21) (v := ?_) rfl (by kernel_rfl) (by kernel_rfl) (by kernel_rfl) (fun _ _ _ h => h) (Or.inl ⟨by kernel_rfl, ?_⟩) hHeld2 ?_
    rotate_left
    · intro W hSW
      obtain ⟨hSc, hSd⟩ := hSW
      go_simp
      first | done | with_reducible rfl
    simp only [List.getElem_toArray, List.getElem_cons_succ, List.getElem_cons_zero, Act.put, List.setIfInBounds_toArray, List.set_cons_zero, List.set_cons_succ]
    refine wpAnyH_take (i := 22) (v := ?_) rfl (by kernel_rfl) (by kernel_rfl) (by kernel_rfl) (fun _ _ _ h => h) (Or.inl ⟨by kernel_rfl, ?_⟩) hHeld2 ?_
    rotate_left
    · intro W hSW
      obtain ⟨hSc, hSd⟩ := hSW
      go_simp
      first | done | with_reducible rfl
    simp only [List.getElem_toArray, List.getElem_cons_succ, List.getElem_cons_zero, Act.put, List.setIfInBounds_toArray, List.set_cons_zero, List.set_cons_succ]
    refine wpAnyH_done (by kernel_rfl) ?_ _
    go_wp2_with fail
    go_ret
    exact ⟨rfl, hS3⟩
end Go.Proofs.YtjggelnpfeeabaaDoor
