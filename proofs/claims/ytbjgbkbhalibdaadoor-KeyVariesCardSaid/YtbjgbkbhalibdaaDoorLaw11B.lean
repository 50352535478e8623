/-
  The walk of KeyBegins.
-/
import Derived.Test.YtbjgbkbhalibdaaDoorLaw11C
import Derived.Test.YtbjgbkbhalibdaaDoorKeyB
import Derived.Deep.QuietTactic
import Derived.BigQuiet
namespace Go.Proofs.YtbjgbkbhalibdaaDoor
open Go.RowKit Go.Pantry

/-- does a key begin so? -/
def beginsK (A k : List UInt8) : Bool := decide (A.length ≤ k.length) && k.take A.length == A
theorem below_drewL (w : World) (n : Nat) : Below w.heap.size w (w.drewN n) := ⟨rfl, rfl, rfl, Nat.le_refl _, fun _ _ => rfl⟩
set_option maxRecDepth 4000 in
theorem begins_any (k A : List UInt8) (g : Nat) (w : World) (hc : w.cell? ⟨g, 0, none⟩ = some (strV A)) (hk : k.length ≤ 1000000000) (hA : A.length ≤ 1000000000) :
    Calls Tryd.prog 16 #[strV k, .pointer (some ⟨g, 0, none⟩)] w fun e w' => e = .returned (.bool (beginsK A k)) ∧ Below w.heap.size w w' := by
  have hzk : ((⟨k.toArray⟩ : ByteArray).size : Int) = (k.length : Int) := by rw [szL]
  have hzA : ((⟨A.toArray⟩ : ByteArray).size : Int) = (A.length : Int) := by rw [szL]
  by_cases h : A.length ≤ k.length
  · have hd : decide ((A.length : Int) ≤ (k.length : Int)) = true := decide_eq_true (by omega)
    have hn0 : (0 : Int) ≤ (A.length : Int) := by omega
    have hx : (⟨k.toArray⟩ : ByteArray).extract 0 A.length = ⟨(k.take A.length).toArray⟩ := by
      apply bytes_ext
      rw [Lib.extract_eq]; simp
    go_enter Tryd.func16, Tryd.ntmps16
    go_wp2_with fail
    go_quiet (fail)
    go_wp2
    go_ret
    exact ⟨ret_bool (by unfold beginsK; rw [decide_eq_true h, Bool.true_and]), below_drewL _ _⟩
  · have hd : decide ((A.length : Int) ≤ (k.length : Int)) = false := decide_eq_false (by omega)
    go_enter Tryd.func16, Tryd.ntmps16
    go_wp2_with fail
    go_quiet (fail)
    go_wp2
    go_ret
    exact ⟨ret_bool (by unfold beginsK; rw [decide_eq_false h, Bool.false_and]), below_drewL _ _⟩
theorem first_len {q : Bool} {heads : List (List UInt8)} {p : PlaceR} {l : List Fld} (hs : SmallF l) (hl : heads.length ≤ 1000) (h1 : p.host.length ≤ 1000) (h2 : p.path.length ≤ 1000) (h3 : p.query.length ≤ 1000) : (firstL q heads p l).length ≤ 1000000000 := by
  have m1 := mark_le h1 (by decide)
  have m2 := mark_le h2 (by decide)
  have m3 := mark_le h3 (by decide)
  have hqk : (queryK q p).length ≤ 1010 := by
    unfold queryK
    split
    · split
      · rw [List.length_cons]; omega
      · simp
    · simp
  have hsl := second_len hs heads
  have hk3 : (secondL l heads).length ≤ 18130 * 1000 := Nat.le_trans hsl (Nat.mul_le_mul_left _ hl)
  unfold firstL
  rw [List.length_append, List.length_append, List.length_append]
  omega
/-- a site that asks for nothing -/
abbrev bareZ : SiteZ := ⟨[], 0, 0, 0, false, false, []⟩
set_option maxRecDepth 8000 in
set_option maxHeartbeats 4000000 in
theorem keyBegins_over {Ok : World → Prop} (K : Keys Ok) (hv : Value) (s : SiteZ) (p r : PlaceR) (lv : Value) (l : List Fld) (w : World) (ok : Ok w) (hh : Reads w hv (s.heads.map strV)) (hr : Reads2 w lv l) (hl : s.heads.length ≤ maxLen) (hll : l.length ≤ maxLen) :
    Calls Tryd.prog 6 #[.agg (rowZ hv s), .agg #[strV p.host, strV p.path, strV p.query, .bool p.has], .agg #[strV r.host, strV r.path, strV r.query, .bool r.has], lv] w fun e w' => e = .returned (.bool true) ∧ Below w.heap.size w w' := by
  unfold maxLen at hl hll
  obtain ⟨no, nc, rfl⟩ := hh.strs
  obtain ⟨ao, cap, rfl⟩ := hr.form
  obtain ⟨m, hm⟩ : ∃ m, s.heads.length = m := ⟨_, rfl⟩
  rw [hm] at hh ⊢
  obtain ⟨W, hW⟩ : ∃ W, ((w.alloc (.cells (rowZ (.slice no m nc) s) 24)).alloc (.cells #[strV p.host, strV p.path, strV p.query, .bool p.has] 26)).alloc (.cells #[strV r.host, strV r.path, strV r.query, .bool r.has] 26) = W := ⟨_, rfl⟩
  have hbW : Below w.heap.size w W := by rw [← hW]; exact chainK (chainK (below_alloc _ _) (below_alloc _ _)) (below_alloc _ _)
  have q1 : rowIs W w.heap.size (rowZ (.slice no m nc) s) 24 := by rw [← hW]; exact ((rowIs_new _ _ _).below (below_alloc _ _)).below (below_alloc _ _)
  have q2 : rowIs W (w.heap.size + 1) #[strV p.host, strV p.path, strV p.query, .bool p.has] 26 := by rw [← hW]; exact (rowIs_new_at _ _ _ _ (by simp)).below (below_alloc _ _)
  have q3 : rowIs W (w.heap.size + 1 + 1) #[strV r.host, strV r.path, strV r.query, .bool r.has] 26 := by rw [← hW]; exact rowIs_new_at _ _ _ _ (by simp)
  have cA := hid (anchor_any K W (K.keep _ _ ok hbW))
  have cFp := hid (fun (w' : World) (h : Below w.heap.size w w') => fit_any (.slice no m nc) s p w' (hh.below h) (by omega))
  have cFr := hid (fun (w' : World) (h : Below w.heap.size w w') => fit_any (.slice no m nc) s r w' (hh.below h) (by omega))
  have cSa := hid (fun (w' : World) (h : Below w.heap.size w w') => smallK_any (.slice ao l.length cap) l w' (hr.below h) (by omega))
  have HQ := hid (And.intro q1 (And.intro q2 (And.intro q3 hbW)))
  have HR := hid (And.intro hh hr)
  have HM := hid (And.intro hm ok)
  clear hh hr hm q1 q2 q3 hbW ok
  go_enter Tryd.func6, Tryd.ntmps6
  go_wp2_with fail
  clear hW
  refine cA.out.mono ?_
  rintro e w1 ⟨rfl, hb1⟩
  have r1 := HQ.out.1.below hb1
  have r2 := HQ.out.2.1.below hb1
  have r3 := HQ.out.2.2.1.below hb1
  have HB1 := hid (chain2 HQ.out.2.2.2 HQ.out.2.2.2.size hb1)
  have R1 := hid (And.intro r1 (And.intro r2 r3))
  clear hb1 cA HQ
  go_wp2_with (first
    | (refine wpList_load_row rfl 24 _ rfl w.heap.size rfl 24 _ (0, 0) _ r1 Tryd.underlying24 rfl infoSiteK ?_)
    | (refine wpList_load_row rfl 26 _ rfl (w.heap.size + 1) rfl 26 _ (0, 0) _ r2 Tryd.underlying26 rfl infoPlaceK ?_))
  refine (cFp.out _ HB1.out).mono ?_
  rintro e w2 ⟨f1, rfl, hf1, hb2⟩
  have s1 := R1.out.1.below hb2
  have s2 := R1.out.2.1.below hb2
  have s3 := R1.out.2.2.below hb2
  have HB2 := hid (chain2 HB1.out HB1.out.size hb2)
  have R2 := hid (And.intro s1 (And.intro s2 s3))
  have HF1 := hid hf1
  clear r1 r2 r3 hb2 hf1 R1 HB1
  cases f1 with
  | false =>
    clear s1 s2 s3
    go_wp2_with fail
    go_ret
    exact ⟨rfl, HB2.out⟩
  | true =>
    go_wp2_with (first
      | (refine wpList_unguard rfl ?_; refine wpList_load_row rfl 24 _ rfl w.heap.size rfl 24 _ (0, 0) _ s1 Tryd.underlying24 rfl infoSiteK ?_)
      | (refine wpList_unguard rfl ?_; refine wpList_load_row rfl 26 _ rfl (w.heap.size + 1 + 1) rfl 26 _ (0, 0) _ s3 Tryd.underlying26 rfl infoPlaceK ?_))
    refine (cFr.out _ HB2.out).mono ?_
    rintro e w3 ⟨f2, rfl, hf2, hb3⟩
    have HB3 := hid (chain2 HB2.out HB2.out.size hb3)
    have R3 := hid (And.intro (R2.out.1.below hb3) (And.intro (R2.out.2.1.below hb3) (R2.out.2.2.below hb3)))
    have HF2 := hid hf2
    clear s1 s2 s3 hb3 hf2 R2 HB2
    cases f2 with
    | false =>
      go_wp2_with fail
      go_ret
      exact ⟨rfl, HB3.out⟩
    | true =>
      have FT := hid (And.intro (HF1.out trivial) (HF2.out rfl))
      clear HF1 HF2
      go_wp2_with fail
      refine (cSa.out _ HB3.out).mono ?_
      rintro e w4 ⟨rfl, hb4⟩
      have HB4 := hid (chain2 HB3.out HB3.out.size hb4)
      have r4 := R3.out.2.1.below hb4
      have R4 := hid (And.intro (R3.out.1.below hb4) (And.intro r4 (R3.out.2.2.below hb4)))
      clear hb4 R3 HB3
      cases hsa : smallK l with
      | false =>
        clear r4
        go_wp2_with fail
        go_ret
        exact ⟨rfl, HB4.out⟩
      | true =>
        have SA := hid (smallK_ok hsa)
        clear hsa
        have hhl := FT.out
        have s0 : SmallF [] := ⟨by decide, by simp, by simp⟩
        have C0 := hid (fun (W : World) (h : Below w.heap.size w W) => K.first (.slice none 0 0) (.slice none 0 0) bareZ p [] W (K.keep _ _ HM.out.2 h) ⟨none, 0, rfl, (fun j p hj => by simp at hj), fun _ => rfl, Nat.le_refl _⟩ (⟨none, 0, rfl, (fun j u h => by cases h), fun _ => rfl⟩ : Reads W (.slice none 0 0) []) s0 (by decide) (by simp) (Nat.le_trans hhl.1.host (by decide)) (Nat.le_trans hhl.1.path (by decide)) (Nat.le_trans hhl.1.query (by decide)))
        have hA := first_len (q := false) (heads := []) (p := p) s0 (by decide) (Nat.le_trans hhl.1.host (by decide)) (Nat.le_trans hhl.1.path (by decide)) (Nat.le_trans hhl.1.query (by decide))
        have hX := first_len (q := s.query) (heads := s.heads) (p := p) SA.out (Nat.le_trans hhl.1.heads (by decide)) (Nat.le_trans hhl.1.host (by decide)) (Nat.le_trans hhl.1.path (by decide)) (Nat.le_trans hhl.1.query (by decide))
        have hY := first_len (q := s.query) (heads := s.heads) (p := r) SA.out (Nat.le_trans hhl.1.heads (by decide)) (Nat.le_trans hhl.2.host (by decide)) (Nat.le_trans hhl.2.path (by decide)) (Nat.le_trans hhl.2.query (by decide))
        have b1 : beginsK (firstL false [] p []) (firstL s.query s.heads p l) = true := (firstL_begins s.query s.heads p p l).trans (by simp)
        have b2 : beginsK (firstL false [] p []) (firstL s.query s.heads r l) = (p.host == r.host && p.path == r.path) := firstL_begins s.query s.heads p r l
        have C1 := hid (fun (W : World) (h : Below w.heap.size w W) => K.first (.slice no m nc) (.slice ao l.length cap) s p l W (K.keep _ _ HM.out.2 h) (HR.out.2.below h) (HR.out.1.below h) SA.out (Nat.le_trans hhl.1.heads (by decide)) (fun y hy => Nat.le_trans (hhl.1.texts y hy) (by decide)) (Nat.le_trans hhl.1.host (by decide)) (Nat.le_trans hhl.1.path (by decide)) (Nat.le_trans hhl.1.query (by decide)))
        have C2 := hid (fun (W : World) (h : Below w.heap.size w W) => K.first (.slice no m nc) (.slice ao l.length cap) s r l W (K.keep _ _ HM.out.2 h) (HR.out.2.below h) (HR.out.1.below h) SA.out (Nat.le_trans hhl.2.heads (by decide)) (fun y hy => Nat.le_trans (hhl.2.texts y hy) (by decide)) (Nat.le_trans hhl.2.host (by decide)) (Nat.le_trans hhl.2.path (by decide)) (Nat.le_trans hhl.2.query (by decide)))
        generalize firstL s.query s.heads p l = X at C1 b1 hX
        generalize firstL s.query s.heads r l = Y at C2 b2 hY
        generalize hAe : firstL false [] p [] = A at C0 b1 b2 hA
        have HB := hid (And.intro b1 b2)
        have HZ := hid (And.intro hA (And.intro hX hY))
        clear hA hX hY b1 b2 hhl s0 hAe
        go_wp2_with (refine wpList_load_row rfl 26 _ rfl (w.heap.size + 1) rfl 26 _ (0, 0) _ r4 Tryd.underlying26 rfl infoPlaceK ?_)
        refine (C0.out _ HB4.out).mono ?_
        rintro e w5 ⟨rfl, hb5⟩
        have HB5 := hid (chain2 HB4.out HB4.out.size hb5)
        have R5 := hid (And.intro (R4.out.1.below hb5) (And.intro (R4.out.2.1.below hb5) (R4.out.2.2.below hb5)))
        clear r4 hb5 R4 HB4
        go_wp2_with fail
        have hb6 := below_alloc w5 (.cells #[strV A] 9)
        have hc6 : (w5.alloc (.cells #[strV A] 9)).cell? ⟨w5.heap.size, 0, none⟩ = some (strV A) := World.cell?_alloc_at _ _ _ _ rfl
        change Code.wp _ _ _ _ (w5.alloc (.cells #[strV A] 9))
        obtain ⟨g, hg⟩ : ∃ g, w5.heap.size = g := ⟨_, rfl⟩
        rw [hg] at hc6 ⊢
        have HB6 := hid (chain2 HB5.out HB5.out.size hb6)
        have R6 := hid (And.intro (R5.out.1.below hb6) (And.intro (R5.out.2.1.below hb6) (R5.out.2.2.below hb6)))
        generalize w5.alloc (.cells #[strV A] 9) = w6 at hc6 HB6 R6 ⊢
        have HC := hid hc6
        have C3 : Hid (∀ (W : World) (k : List UInt8), k.length ≤ 1000000000 → Below w6.heap.size w6 W → Calls Tryd.prog 16 #[strV k, .pointer (some ⟨g, 0, none⟩)] W fun e w' => e = .returned (.bool (beginsK A k)) ∧ Below W.heap.size W w') := fun W k hk hS =>
          begins_any k A g W (kept HC.out hS) hk HZ.out.1
        clear hb6 hc6 hg HB5 R5 C0
        obtain ⟨e1, he1⟩ : ∃ e, (p.host == r.host) = e := ⟨_, rfl⟩
        obtain ⟨e2, he2⟩ : ∃ e, (p.path == r.path) = e := ⟨_, rfl⟩
        have HB := HB.out
        rw [he1, he2] at HB
        obtain ⟨bX, hbX⟩ := HB
        cases e1 with
        | false =>
          have hY0 : beginsK A Y = false := by rw [hbX]; rfl
          have CX : Hid (∀ W, Below w6.heap.size w6 W → Calls Tryd.prog 16 #[strV X, .pointer (some ⟨g, 0, none⟩)] W fun e w' => e = .returned (.bool true) ∧ Below W.heap.size W w') := fun W hS => by rw [← bX]; exact C3.out W X HZ.out.2.1 hS
          have CY : Hid (∀ W, Below w6.heap.size w6 W → Calls Tryd.prog 16 #[strV Y, .pointer (some ⟨g, 0, none⟩)] W fun e w' => e = .returned (.bool false) ∧ Below W.heap.size W w') := fun W hS => by rw [← hY0]; exact C3.out W Y HZ.out.2.2 hS
          have E1 := hid he1
          clear bX hbX hY0 he2
          refine wp_region_U [] (by kernel_rfl) (fun _ W => Below w6.heap.size w6 W) (b := []) (by kernel_rfl) ((Below.refl _ _).drew) ?_
          refine wpAnyU_take (i := 0) (v := ?_) (by decide) rfl (by kernel_rfl) (by kernel_rfl) (by kernel_rfl) (fun _ _ _ h => h) (Steady.plain (by kernel_rfl) ?_) ?_
          rotate_left
          · intro b W hS
            have h0 := (R6.out.2.1.below hS).cell 0
            have h1 := (R6.out.2.1.below hS).cell 1
            have g0 := (R6.out.2.2.below hS).cell 0
            have g1 := (R6.out.2.2.below hS).cell 1
            go_simp
            first | done | with_reducible rfl
          simp only [Act.put, List.getElem_toArray, List.getElem_cons_succ, List.getElem_cons_zero, List.setIfInBounds_toArray, List.set_cons_zero, List.set_cons_succ]
          refine wpAnyU_take (i := 1) (v := .agg (rowZ (.slice no m nc) s)) (by decide) rfl (by kernel_rfl) (by kernel_rfl) (by kernel_rfl) (fun _ _ _ h => h) (Steady.plain (by kernel_rfl) ?_) ?_
          · intro b W hS
            exact load_gives (x := .tmp 4) (by kernel_rfl) w.heap.size (by kernel_rfl) (R6.out.1.below hS) Tryd.underlying24 rfl infoSiteK
          simp only [Act.put, List.getElem_toArray, List.getElem_cons_succ, List.getElem_cons_zero, List.setIfInBounds_toArray, List.set_cons_zero, List.set_cons_succ]
          refine wpAnyU_take (i := 2) (v := .agg #[strV p.host, strV p.path, strV p.query, .bool p.has]) (by decide) rfl (by kernel_rfl) (by kernel_rfl) (by kernel_rfl) (fun _ _ _ h => h) (Steady.plain (by kernel_rfl) ?_) ?_
          · intro b W hS
            exact load_gives (x := .tmp 5) (by kernel_rfl) (w.heap.size + 1) (by kernel_rfl) (R6.out.2.1.below hS) Tryd.underlying26 rfl infoPlaceK
          simp only [Act.put, List.getElem_toArray, List.getElem_cons_succ, List.getElem_cons_zero, List.setIfInBounds_toArray, List.set_cons_zero, List.set_cons_succ]
          refine wpAnyU_take (i := 3) (v := ?_) (by decide) rfl (by kernel_rfl) (by kernel_rfl) (by kernel_rfl) (fun _ _ _ h => h) (Steady.plain (by kernel_rfl) ?_) ?_
          rotate_left
          · intro b W hS
            have h0 := (R6.out.2.1.below hS).cell 0
            have h1 := (R6.out.2.1.below hS).cell 1
            have g0 := (R6.out.2.2.below hS).cell 0
            have g1 := (R6.out.2.2.below hS).cell 1
            go_simp
            first | done | with_reducible rfl
          simp only [Act.put, List.getElem_toArray, List.getElem_cons_succ, List.getElem_cons_zero, List.setIfInBounds_toArray, List.set_cons_zero, List.set_cons_succ]
          refine wpAnyU_take (i := 4) (v := strV X) (by decide) rfl (by kernel_rfl) (by kernel_rfl) (by kernel_rfl) (fun _ _ _ h => h) (Steady.call (f := 13) (args := #[.agg (rowZ (.slice no m nc) s), .agg #[strV p.host, strV p.path, strV p.query, .bool p.has], .slice ao l.length cap]) (by kernel_rfl) (fun _ => by kernel_rfl) ?_) ?_
          · intro b W hS
            refine (C1.out W (chain2 HB6.out HB6.out.size hS)).mono ?_
            rintro e w' ⟨he, hb⟩
            exact ⟨he, chain2 hS hS.size hb⟩
          simp only [Act.put, List.getElem_toArray, List.getElem_cons_succ, List.getElem_cons_zero, List.setIfInBounds_toArray, List.set_cons_zero, List.set_cons_succ]
          refine wpAnyU_take (i := 5) (v := .bool true) (by decide) rfl (by kernel_rfl) (by kernel_rfl) (by kernel_rfl) (fun _ _ _ h => h) (Steady.call (f := 16) (args := #[strV X, .pointer (some ⟨g, 0, none⟩)]) (by kernel_rfl) (fun _ => by kernel_rfl) ?_) ?_
          · intro b W hS
            refine (CX.out W hS).mono ?_
            rintro e w' ⟨he, hb⟩
            exact ⟨he, chain2 hS hS.size hb⟩
          simp only [Act.put, List.getElem_toArray, List.getElem_cons_succ, List.getElem_cons_zero, List.setIfInBounds_toArray, List.set_cons_zero, List.set_cons_succ]
          refine wpAnyU_take (i := 6) (v := ?_) (by decide) rfl (by kernel_rfl) (by kernel_rfl) (by kernel_rfl) (fun _ _ _ h => h) (Steady.plain (by kernel_rfl) ?_) ?_
          rotate_left
          · intro b W hS
            have h0 := (R6.out.2.1.below hS).cell 0
            have h1 := (R6.out.2.1.below hS).cell 1
            have g0 := (R6.out.2.2.below hS).cell 0
            have g1 := (R6.out.2.2.below hS).cell 1
            go_simp
            first | done | with_reducible rfl
          simp only [Act.put, List.getElem_toArray, List.getElem_cons_succ, List.getElem_cons_zero, List.setIfInBounds_toArray, List.set_cons_zero, List.set_cons_succ]
          refine wpAnyU_take (i := 7) (v := ?_) (by decide) rfl (by kernel_rfl) (by kernel_rfl) (by kernel_rfl) (fun _ _ _ h => h) (Steady.plain (by kernel_rfl) ?_) ?_
          rotate_left
          · intro b W hS
            have h0 := (R6.out.2.1.below hS).cell 0
            have h1 := (R6.out.2.1.below hS).cell 1
            have g0 := (R6.out.2.2.below hS).cell 0
            have g1 := (R6.out.2.2.below hS).cell 1
            go_simp
            first | done | with_reducible rfl
          simp only [Act.put, List.getElem_toArray, List.getElem_cons_succ, List.getElem_cons_zero, List.setIfInBounds_toArray, List.set_cons_zero, List.set_cons_succ]
          refine wpAnyU_take (i := 8) (v := .agg (rowZ (.slice no m nc) s)) (by decide) rfl (by kernel_rfl) (by kernel_rfl) (by kernel_rfl) (fun _ _ _ h => h) (Steady.plain (by kernel_rfl) ?_) ?_
          · intro b W hS
            exact load_gives (x := .tmp 4) (by kernel_rfl) w.heap.size (by kernel_rfl) (R6.out.1.below hS) Tryd.underlying24 rfl infoSiteK
          simp only [Act.put, List.getElem_toArray, List.getElem_cons_succ, List.getElem_cons_zero, List.setIfInBounds_toArray, List.set_cons_zero, List.set_cons_succ]
          refine wpAnyU_take (i := 9) (v := .agg #[strV r.host, strV r.path, strV r.query, .bool r.has]) (by decide) rfl (by kernel_rfl) (by kernel_rfl) (by kernel_rfl) (fun _ _ _ h => h) (Steady.plain (by kernel_rfl) ?_) ?_
          · intro b W hS
            exact load_gives (x := .tmp 6) (by kernel_rfl) (w.heap.size + 1 + 1) (by kernel_rfl) (R6.out.2.2.below hS) Tryd.underlying26 rfl infoPlaceK
          simp only [Act.put, List.getElem_toArray, List.getElem_cons_succ, List.getElem_cons_zero, List.setIfInBounds_toArray, List.set_cons_zero, List.set_cons_succ]
          refine wpAnyU_take (i := 10) (v := ?_) (by decide) rfl (by kernel_rfl) (by kernel_rfl) (by kernel_rfl) (fun _ _ _ h => h) (Steady.plain (by kernel_rfl) ?_) ?_
          rotate_left
          · intro b W hS
            have h0 := (R6.out.2.1.below hS).cell 0
            have h1 := (R6.out.2.1.below hS).cell 1
            have g0 := (R6.out.2.2.below hS).cell 0
            have g1 := (R6.out.2.2.below hS).cell 1
            go_simp
            first | done | with_reducible rfl
          simp only [Act.put, List.getElem_toArray, List.getElem_cons_succ, List.getElem_cons_zero, List.setIfInBounds_toArray, List.set_cons_zero, List.set_cons_succ]
          refine wpAnyU_take (i := 11) (v := strV Y) (by decide) rfl (by kernel_rfl) (by kernel_rfl) (by kernel_rfl) (fun _ _ _ h => h) (Steady.call (f := 13) (args := #[.agg (rowZ (.slice no m nc) s), .agg #[strV r.host, strV r.path, strV r.query, .bool r.has], .slice ao l.length cap]) (by kernel_rfl) (fun _ => by kernel_rfl) ?_) ?_
          · intro b W hS
            refine (C2.out W (chain2 HB6.out HB6.out.size hS)).mono ?_
            rintro e w' ⟨he, hb⟩
            exact ⟨he, chain2 hS hS.size hb⟩
          simp only [Act.put, List.getElem_toArray, List.getElem_cons_succ, List.getElem_cons_zero, List.setIfInBounds_toArray, List.set_cons_zero, List.set_cons_succ]
          refine wpAnyU_take (i := 12) (v := .bool false) (by decide) rfl (by kernel_rfl) (by kernel_rfl) (by kernel_rfl) (fun _ _ _ h => h) (Steady.call (f := 16) (args := #[strV Y, .pointer (some ⟨g, 0, none⟩)]) (by kernel_rfl) (fun _ => by kernel_rfl) ?_) ?_
          · intro b W hS
            refine (CY.out W hS).mono ?_
            rintro e w' ⟨he, hb⟩
            exact ⟨he, chain2 hS hS.size hb⟩
          simp only [Act.put, List.getElem_toArray, List.getElem_cons_succ, List.getElem_cons_zero, List.setIfInBounds_toArray, List.set_cons_zero, List.set_cons_succ]
          refine wpAnyU_take (i := 13) (v := ?_) (by decide) rfl (by kernel_rfl) (by kernel_rfl) (by kernel_rfl) (fun _ _ _ h => h) (Steady.plain (by kernel_rfl) ?_) ?_
          rotate_left
          · intro b W hS
            have h0 := (R6.out.2.1.below hS).cell 0
            have h1 := (R6.out.2.1.below hS).cell 1
            have g0 := (R6.out.2.2.below hS).cell 0
            have g1 := (R6.out.2.2.below hS).cell 1
            go_simp
            first | done | with_reducible rfl
          simp only [Act.put, List.getElem_toArray, List.getElem_cons_succ, List.getElem_cons_zero, List.setIfInBounds_toArray, List.set_cons_zero, List.set_cons_succ]
          refine wpAnyU_take (i := 14) (v := ?_) (by decide) rfl (by kernel_rfl) (by kernel_rfl) (by kernel_rfl) (fun _ _ _ h => h) (Steady.plain (by kernel_rfl) ?_) ?_
          rotate_left
          · intro b W hS
            have h0 := (R6.out.2.1.below hS).cell 0
            have h1 := (R6.out.2.1.below hS).cell 1
            have g0 := (R6.out.2.2.below hS).cell 0
            have g1 := (R6.out.2.2.below hS).cell 1
            go_simp
            first | done | with_reducible rfl
          simp only [Act.put, List.getElem_toArray, List.getElem_cons_succ, List.getElem_cons_zero, List.setIfInBounds_toArray, List.set_cons_zero, List.set_cons_succ]
          refine wpAnyU_take (i := 15) (v := ?_) (by decide) rfl (by kernel_rfl) (by kernel_rfl) (by kernel_rfl) (fun _ _ _ h => h) (Steady.plain (by kernel_rfl) ?_) ?_
          rotate_left
          · intro b W hS
            have h0 := (R6.out.2.1.below hS).cell 0
            have h1 := (R6.out.2.1.below hS).cell 1
            have g0 := (R6.out.2.2.below hS).cell 0
            have g1 := (R6.out.2.2.below hS).cell 1
            go_simp
            first | done | with_reducible rfl
          simp only [Act.put, List.getElem_toArray, List.getElem_cons_succ, List.getElem_cons_zero, List.setIfInBounds_toArray, List.set_cons_zero, List.set_cons_succ]
          refine wpAnyU_take (i := 16) (v := ?_) (by decide) rfl (by kernel_rfl) (by kernel_rfl) (by kernel_rfl) (fun _ _ _ h => h) (Steady.plain (by kernel_rfl) ?_) ?_
          rotate_left
          · intro b W hS
            have h0 := (R6.out.2.1.below hS).cell 0
            have h1 := (R6.out.2.1.below hS).cell 1
            have g0 := (R6.out.2.2.below hS).cell 0
            have g1 := (R6.out.2.2.below hS).cell 1
            go_simp
            first | done | with_reducible rfl
          simp only [Act.put, List.getElem_toArray, List.getElem_cons_succ, List.getElem_cons_zero, List.setIfInBounds_toArray, List.set_cons_zero, List.set_cons_succ]
          refine wpAnyU_take (i := 17) (v := ?_) (by decide) rfl (by kernel_rfl) (by kernel_rfl) (by kernel_rfl) (fun _ _ _ h => h) (Steady.plain (by kernel_rfl) ?_) ?_
          rotate_left
          · intro b W hS
            have h0 := (R6.out.2.1.below hS).cell 0
            have h1 := (R6.out.2.1.below hS).cell 1
            have g0 := (R6.out.2.2.below hS).cell 0
            have g1 := (R6.out.2.2.below hS).cell 1
            go_simp
            first | done | with_reducible rfl
          simp only [Act.put, List.getElem_toArray, List.getElem_cons_succ, List.getElem_cons_zero, List.setIfInBounds_toArray, List.set_cons_zero, List.set_cons_succ]
          refine wpAnyU_take (i := 18) (v := ?_) (by decide) rfl (by kernel_rfl) (by kernel_rfl) (by kernel_rfl) (fun _ _ _ h => h) (Steady.plain (by kernel_rfl) ?_) ?_
          rotate_left
          · intro b W hS
            have h0 := (R6.out.2.1.below hS).cell 0
            have h1 := (R6.out.2.1.below hS).cell 1
            have g0 := (R6.out.2.2.below hS).cell 0
            have g1 := (R6.out.2.2.below hS).cell 1
            go_simp
            first | done | with_reducible rfl
          simp only [Act.put, List.getElem_toArray, List.getElem_cons_succ, List.getElem_cons_zero, List.setIfInBounds_toArray, List.set_cons_zero, List.set_cons_succ]
          refine wpAnyU_take (i := 19) (by decide) rfl (by kernel_rfl) (by kernel_rfl) (by kernel_rfl) (fun _ _ _ h => h) (Steady.off (by kernel_rfl)) ?_
          simp only [Act.put, List.getElem_toArray, List.getElem_cons_succ, List.getElem_cons_zero, List.setIfInBounds_toArray, List.set_cons_zero, List.set_cons_succ]
          refine wpAnyU_take (i := 20) (by decide) rfl (by kernel_rfl) (by kernel_rfl) (by kernel_rfl) (fun _ _ _ h => h) (Steady.off (by kernel_rfl)) ?_
          simp only [Act.put, List.getElem_toArray, List.getElem_cons_succ, List.getElem_cons_zero, List.setIfInBounds_toArray, List.set_cons_zero, List.set_cons_succ]
          refine wpAnyU_take (i := 21) (by decide) rfl (by kernel_rfl) (by kernel_rfl) (by kernel_rfl) (fun _ _ _ h => h) (Steady.off (by kernel_rfl)) ?_
          simp only [Act.put, List.getElem_toArray, List.getElem_cons_succ, List.getElem_cons_zero, List.setIfInBounds_toArray, List.set_cons_zero, List.set_cons_succ]
          refine wpAnyU_take (i := 22) (by decide) rfl (by kernel_rfl) (by kernel_rfl) (by kernel_rfl) (fun _ _ _ h => h) (Steady.off (by kernel_rfl)) ?_
          simp only [Act.put, List.getElem_toArray, List.getElem_cons_succ, List.getElem_cons_zero, List.setIfInBounds_toArray, List.set_cons_zero, List.set_cons_succ]
          refine wpAnyU_take (i := 23) (by decide) rfl (by kernel_rfl) (by kernel_rfl) (by kernel_rfl) (fun _ _ _ h => h) (Steady.off (by kernel_rfl)) ?_
          simp only [Act.put, List.getElem_toArray, List.getElem_cons_succ, List.getElem_cons_zero, List.setIfInBounds_toArray, List.set_cons_zero, List.set_cons_succ]
          refine wpAnyU_take (i := 24) (v := ?_) (by decide) rfl (by kernel_rfl) (by kernel_rfl) (by kernel_rfl) (fun _ _ _ h => h) (Steady.plain (by kernel_rfl) ?_) ?_
          rotate_left
          · intro b W hS
            have h0 := (R6.out.2.1.below hS).cell 0
            have h1 := (R6.out.2.1.below hS).cell 1
            have g0 := (R6.out.2.2.below hS).cell 0
            have g1 := (R6.out.2.2.below hS).cell 1
            go_simp
            first | done | with_reducible rfl
          simp only [Act.put, List.getElem_toArray, List.getElem_cons_succ, List.getElem_cons_zero, List.setIfInBounds_toArray, List.set_cons_zero, List.set_cons_succ]
          refine wpAnyU_take (i := 25) (v := ?_) (by decide) rfl (by kernel_rfl) (by kernel_rfl) (by kernel_rfl) (fun _ _ _ h => h) (Steady.plain (by kernel_rfl) ?_) ?_
          rotate_left
          · intro b W hS
            have h0 := (R6.out.2.1.below hS).cell 0
            have h1 := (R6.out.2.1.below hS).cell 1
            have g0 := (R6.out.2.2.below hS).cell 0
            have g1 := (R6.out.2.2.below hS).cell 1
            go_simp
            first | done | with_reducible rfl
          simp only [Act.put, List.getElem_toArray, List.getElem_cons_succ, List.getElem_cons_zero, List.setIfInBounds_toArray, List.set_cons_zero, List.set_cons_succ]
          refine wpAnyU_take (i := 26) (v := ?_) (by decide) rfl (by kernel_rfl) (by kernel_rfl) (by kernel_rfl) (fun _ _ _ h => h) (Steady.plain (by kernel_rfl) ?_) ?_
          rotate_left
          · intro b W hS
            have h0 := (R6.out.2.1.below hS).cell 0
            have h1 := (R6.out.2.1.below hS).cell 1
            have g0 := (R6.out.2.2.below hS).cell 0
            have g1 := (R6.out.2.2.below hS).cell 1
            go_simp
            first | done | with_reducible rfl
          simp only [Act.put, List.getElem_toArray, List.getElem_cons_succ, List.getElem_cons_zero, List.setIfInBounds_toArray, List.set_cons_zero, List.set_cons_succ]
          refine wpAnyU_take (i := 27) (v := ?_) (by decide) rfl (by kernel_rfl) (by kernel_rfl) (by kernel_rfl) (fun _ _ _ h => h) (Steady.plain (by kernel_rfl) ?_) ?_
          rotate_left
          · intro b W hS
            have h0 := (R6.out.2.1.below hS).cell 0
            have h1 := (R6.out.2.1.below hS).cell 1
            have g0 := (R6.out.2.2.below hS).cell 0
            have g1 := (R6.out.2.2.below hS).cell 1
            go_simp
            first | done | with_reducible rfl
          simp only [Act.put, List.getElem_toArray, List.getElem_cons_succ, List.getElem_cons_zero, List.setIfInBounds_toArray, List.set_cons_zero, List.set_cons_succ]
          refine wpAnyU_done (b := []) (by kernel_rfl) (by kernel_rfl) ?_ _
          intro w7 hS7
          have HB7 := hid (chain2 HB6.out HB6.out.size hS7)
          clear hS7 he1
          go_wp2_with fail
          go_ret
          exact ⟨rfl, HB7.out⟩
        | true =>
          have hY0 : beginsK A Y = e2 := by rw [hbX]; simp
          have CX : Hid (∀ W, Below w6.heap.size w6 W → Calls Tryd.prog 16 #[strV X, .pointer (some ⟨g, 0, none⟩)] W fun e w' => e = .returned (.bool true) ∧ Below W.heap.size W w') := fun W hS => by rw [← bX]; exact C3.out W X HZ.out.2.1 hS
          have CY : Hid (∀ W, Below w6.heap.size w6 W → Calls Tryd.prog 16 #[strV Y, .pointer (some ⟨g, 0, none⟩)] W fun e w' => e = .returned (.bool e2) ∧ Below W.heap.size W w') := fun W hS => by rw [← hY0]; exact C3.out W Y HZ.out.2.2 hS
          have hee : (e2 == e2) = true := by simp
          clear bX hbX hY0
          refine wp_region_U [] (by kernel_rfl) (fun _ W => Below w6.heap.size w6 W) (b := []) (by kernel_rfl) ((Below.refl _ _).drew) ?_
          refine wpAnyU_take (i := 0) (v := ?_) (by decide) rfl (by kernel_rfl) (by kernel_rfl) (by kernel_rfl) (fun _ _ _ h => h) (Steady.plain (by kernel_rfl) ?_) ?_
          rotate_left
          · intro b W hS
            have h0 := (R6.out.2.1.below hS).cell 0
            have h1 := (R6.out.2.1.below hS).cell 1
            have g0 := (R6.out.2.2.below hS).cell 0
            have g1 := (R6.out.2.2.below hS).cell 1
            go_simp
            first | done | with_reducible rfl
          simp only [Act.put, List.getElem_toArray, List.getElem_cons_succ, List.getElem_cons_zero, List.setIfInBounds_toArray, List.set_cons_zero, List.set_cons_succ]
          refine wpAnyU_take (i := 1) (v := .agg (rowZ (.slice no m nc) s)) (by decide) rfl (by kernel_rfl) (by kernel_rfl) (by kernel_rfl) (fun _ _ _ h => h) (Steady.plain (by kernel_rfl) ?_) ?_
          · intro b W hS
            exact load_gives (x := .tmp 4) (by kernel_rfl) w.heap.size (by kernel_rfl) (R6.out.1.below hS) Tryd.underlying24 rfl infoSiteK
          simp only [Act.put, List.getElem_toArray, List.getElem_cons_succ, List.getElem_cons_zero, List.setIfInBounds_toArray, List.set_cons_zero, List.set_cons_succ]
          refine wpAnyU_take (i := 2) (v := .agg #[strV p.host, strV p.path, strV p.query, .bool p.has]) (by decide) rfl (by kernel_rfl) (by kernel_rfl) (by kernel_rfl) (fun _ _ _ h => h) (Steady.plain (by kernel_rfl) ?_) ?_
          · intro b W hS
            exact load_gives (x := .tmp 5) (by kernel_rfl) (w.heap.size + 1) (by kernel_rfl) (R6.out.2.1.below hS) Tryd.underlying26 rfl infoPlaceK
          simp only [Act.put, List.getElem_toArray, List.getElem_cons_succ, List.getElem_cons_zero, List.setIfInBounds_toArray, List.set_cons_zero, List.set_cons_succ]
          refine wpAnyU_take (i := 3) (v := ?_) (by decide) rfl (by kernel_rfl) (by kernel_rfl) (by kernel_rfl) (fun _ _ _ h => h) (Steady.plain (by kernel_rfl) ?_) ?_
          rotate_left
          · intro b W hS
            have h0 := (R6.out.2.1.below hS).cell 0
            have h1 := (R6.out.2.1.below hS).cell 1
            have g0 := (R6.out.2.2.below hS).cell 0
            have g1 := (R6.out.2.2.below hS).cell 1
            go_simp
            first | done | with_reducible rfl
          simp only [Act.put, List.getElem_toArray, List.getElem_cons_succ, List.getElem_cons_zero, List.setIfInBounds_toArray, List.set_cons_zero, List.set_cons_succ]
          refine wpAnyU_take (i := 4) (v := strV X) (by decide) rfl (by kernel_rfl) (by kernel_rfl) (by kernel_rfl) (fun _ _ _ h => h) (Steady.call (f := 13) (args := #[.agg (rowZ (.slice no m nc) s), .agg #[strV p.host, strV p.path, strV p.query, .bool p.has], .slice ao l.length cap]) (by kernel_rfl) (fun _ => by kernel_rfl) ?_) ?_
          · intro b W hS
            refine (C1.out W (chain2 HB6.out HB6.out.size hS)).mono ?_
            rintro e w' ⟨he, hb⟩
            exact ⟨he, chain2 hS hS.size hb⟩
          simp only [Act.put, List.getElem_toArray, List.getElem_cons_succ, List.getElem_cons_zero, List.setIfInBounds_toArray, List.set_cons_zero, List.set_cons_succ]
          refine wpAnyU_take (i := 5) (v := .bool true) (by decide) rfl (by kernel_rfl) (by kernel_rfl) (by kernel_rfl) (fun _ _ _ h => h) (Steady.call (f := 16) (args := #[strV X, .pointer (some ⟨g, 0, none⟩)]) (by kernel_rfl) (fun _ => by kernel_rfl) ?_) ?_
          · intro b W hS
            refine (CX.out W hS).mono ?_
            rintro e w' ⟨he, hb⟩
            exact ⟨he, chain2 hS hS.size hb⟩
          simp only [Act.put, List.getElem_toArray, List.getElem_cons_succ, List.getElem_cons_zero, List.setIfInBounds_toArray, List.set_cons_zero, List.set_cons_succ]
          refine wpAnyU_take (i := 6) (v := ?_) (by decide) rfl (by kernel_rfl) (by kernel_rfl) (by kernel_rfl) (fun _ _ _ h => h) (Steady.plain (by kernel_rfl) ?_) ?_
          rotate_left
          · intro b W hS
            have h0 := (R6.out.2.1.below hS).cell 0
            have h1 := (R6.out.2.1.below hS).cell 1
            have g0 := (R6.out.2.2.below hS).cell 0
            have g1 := (R6.out.2.2.below hS).cell 1
            go_simp
            first | done | with_reducible rfl
          simp only [Act.put, List.getElem_toArray, List.getElem_cons_succ, List.getElem_cons_zero, List.setIfInBounds_toArray, List.set_cons_zero, List.set_cons_succ]
          refine wpAnyU_take (i := 7) (v := ?_) (by decide) rfl (by kernel_rfl) (by kernel_rfl) (by kernel_rfl) (fun _ _ _ h => h) (Steady.plain (by kernel_rfl) ?_) ?_
          rotate_left
          · intro b W hS
            have h0 := (R6.out.2.1.below hS).cell 0
            have h1 := (R6.out.2.1.below hS).cell 1
            have g0 := (R6.out.2.2.below hS).cell 0
            have g1 := (R6.out.2.2.below hS).cell 1
            go_simp
            first | done | with_reducible rfl
          simp only [Act.put, List.getElem_toArray, List.getElem_cons_succ, List.getElem_cons_zero, List.setIfInBounds_toArray, List.set_cons_zero, List.set_cons_succ]
          refine wpAnyU_take (i := 8) (v := .agg (rowZ (.slice no m nc) s)) (by decide) rfl (by kernel_rfl) (by kernel_rfl) (by kernel_rfl) (fun _ _ _ h => h) (Steady.plain (by kernel_rfl) ?_) ?_
          · intro b W hS
            exact load_gives (x := .tmp 4) (by kernel_rfl) w.heap.size (by kernel_rfl) (R6.out.1.below hS) Tryd.underlying24 rfl infoSiteK
          simp only [Act.put, List.getElem_toArray, List.getElem_cons_succ, List.getElem_cons_zero, List.setIfInBounds_toArray, List.set_cons_zero, List.set_cons_succ]
          refine wpAnyU_take (i := 9) (v := .agg #[strV r.host, strV r.path, strV r.query, .bool r.has]) (by decide) rfl (by kernel_rfl) (by kernel_rfl) (by kernel_rfl) (fun _ _ _ h => h) (Steady.plain (by kernel_rfl) ?_) ?_
          · intro b W hS
            exact load_gives (x := .tmp 6) (by kernel_rfl) (w.heap.size + 1 + 1) (by kernel_rfl) (R6.out.2.2.below hS) Tryd.underlying26 rfl infoPlaceK
          simp only [Act.put, List.getElem_toArray, List.getElem_cons_succ, List.getElem_cons_zero, List.setIfInBounds_toArray, List.set_cons_zero, List.set_cons_succ]
          refine wpAnyU_take (i := 10) (v := ?_) (by decide) rfl (by kernel_rfl) (by kernel_rfl) (by kernel_rfl) (fun _ _ _ h => h) (Steady.plain (by kernel_rfl) ?_) ?_
          rotate_left
          · intro b W hS
            have h0 := (R6.out.2.1.below hS).cell 0
            have h1 := (R6.out.2.1.below hS).cell 1
            have g0 := (R6.out.2.2.below hS).cell 0
            have g1 := (R6.out.2.2.below hS).cell 1
            go_simp
            first | done | with_reducible rfl
          simp only [Act.put, List.getElem_toArray, List.getElem_cons_succ, List.getElem_cons_zero, List.setIfInBounds_toArray, List.set_cons_zero, List.set_cons_succ]
          refine wpAnyU_take (i := 11) (v := strV Y) (by decide) rfl (by kernel_rfl) (by kernel_rfl) (by kernel_rfl) (fun _ _ _ h => h) (Steady.call (f := 13) (args := #[.agg (rowZ (.slice no m nc) s), .agg #[strV r.host, strV r.path, strV r.query, .bool r.has], .slice ao l.length cap]) (by kernel_rfl) (fun _ => by kernel_rfl) ?_) ?_
          · intro b W hS
            refine (C2.out W (chain2 HB6.out HB6.out.size hS)).mono ?_
            rintro e w' ⟨he, hb⟩
            exact ⟨he, chain2 hS hS.size hb⟩
          simp only [Act.put, List.getElem_toArray, List.getElem_cons_succ, List.getElem_cons_zero, List.setIfInBounds_toArray, List.set_cons_zero, List.set_cons_succ]
          refine wpAnyU_take (i := 12) (v := .bool e2) (by decide) rfl (by kernel_rfl) (by kernel_rfl) (by kernel_rfl) (fun _ _ _ h => h) (Steady.call (f := 16) (args := #[strV Y, .pointer (some ⟨g, 0, none⟩)]) (by kernel_rfl) (fun _ => by kernel_rfl) ?_) ?_
          · intro b W hS
            refine (CY.out W hS).mono ?_
            rintro e w' ⟨he, hb⟩
            exact ⟨he, chain2 hS hS.size hb⟩
          simp only [Act.put, List.getElem_toArray, List.getElem_cons_succ, List.getElem_cons_zero, List.setIfInBounds_toArray, List.set_cons_zero, List.set_cons_succ]
          refine wpAnyU_take (i := 13) (v := ?_) (by decide) rfl (by kernel_rfl) (by kernel_rfl) (by kernel_rfl) (fun _ _ _ h => h) (Steady.plain (by kernel_rfl) ?_) ?_
          rotate_left
          · intro b W hS
            have h0 := (R6.out.2.1.below hS).cell 0
            have h1 := (R6.out.2.1.below hS).cell 1
            have g0 := (R6.out.2.2.below hS).cell 0
            have g1 := (R6.out.2.2.below hS).cell 1
            go_simp
            first | done | with_reducible rfl
          simp only [Act.put, List.getElem_toArray, List.getElem_cons_succ, List.getElem_cons_zero, List.setIfInBounds_toArray, List.set_cons_zero, List.set_cons_succ]
          refine wpAnyU_take (i := 14) (v := ?_) (by decide) rfl (by kernel_rfl) (by kernel_rfl) (by kernel_rfl) (fun _ _ _ h => h) (Steady.plain (by kernel_rfl) ?_) ?_
          rotate_left
          · intro b W hS
            have h0 := (R6.out.2.1.below hS).cell 0
            have h1 := (R6.out.2.1.below hS).cell 1
            have g0 := (R6.out.2.2.below hS).cell 0
            have g1 := (R6.out.2.2.below hS).cell 1
            go_simp
            first | done | with_reducible rfl
          simp only [Act.put, List.getElem_toArray, List.getElem_cons_succ, List.getElem_cons_zero, List.setIfInBounds_toArray, List.set_cons_zero, List.set_cons_succ]
          refine wpAnyU_take (i := 15) (v := ?_) (by decide) rfl (by kernel_rfl) (by kernel_rfl) (by kernel_rfl) (fun _ _ _ h => h) (Steady.plain (by kernel_rfl) ?_) ?_
          rotate_left
          · intro b W hS
            have h0 := (R6.out.2.1.below hS).cell 0
            have h1 := (R6.out.2.1.below hS).cell 1
            have g0 := (R6.out.2.2.below hS).cell 0
            have g1 := (R6.out.2.2.below hS).cell 1
            go_simp
            first | done | with_reducible rfl
          simp only [Act.put, List.getElem_toArray, List.getElem_cons_succ, List.getElem_cons_zero, List.setIfInBounds_toArray, List.set_cons_zero, List.set_cons_succ]
          refine wpAnyU_take (i := 16) (v := ?_) (by decide) rfl (by kernel_rfl) (by kernel_rfl) (by kernel_rfl) (fun _ _ _ h => h) (Steady.plain (by kernel_rfl) ?_) ?_
          rotate_left
          · intro b W hS
            have h0 := (R6.out.2.1.below hS).cell 0
            have h1 := (R6.out.2.1.below hS).cell 1
            have g0 := (R6.out.2.2.below hS).cell 0
            have g1 := (R6.out.2.2.below hS).cell 1
            go_simp
            first | done | with_reducible rfl
          simp only [Act.put, List.getElem_toArray, List.getElem_cons_succ, List.getElem_cons_zero, List.setIfInBounds_toArray, List.set_cons_zero, List.set_cons_succ]
          refine wpAnyU_take (i := 17) (v := ?_) (by decide) rfl (by kernel_rfl) (by kernel_rfl) (by kernel_rfl) (fun _ _ _ h => h) (Steady.plain (by kernel_rfl) ?_) ?_
          rotate_left
          · intro b W hS
            have h0 := (R6.out.2.1.below hS).cell 0
            have h1 := (R6.out.2.1.below hS).cell 1
            have g0 := (R6.out.2.2.below hS).cell 0
            have g1 := (R6.out.2.2.below hS).cell 1
            go_simp
            first | done | with_reducible rfl
          simp only [Act.put, List.getElem_toArray, List.getElem_cons_succ, List.getElem_cons_zero, List.setIfInBounds_toArray, List.set_cons_zero, List.set_cons_succ]
          refine wpAnyU_take (i := 18) (v := ?_) (by decide) rfl (by kernel_rfl) (by kernel_rfl) (by kernel_rfl) (fun _ _ _ h => h) (Steady.plain (by kernel_rfl) ?_) ?_
          rotate_left
          · intro b W hS
            have h0 := (R6.out.2.1.below hS).cell 0
            have h1 := (R6.out.2.1.below hS).cell 1
            have g0 := (R6.out.2.2.below hS).cell 0
            have g1 := (R6.out.2.2.below hS).cell 1
            go_simp
            first | done | with_reducible rfl
          simp only [Act.put, List.getElem_toArray, List.getElem_cons_succ, List.getElem_cons_zero, List.setIfInBounds_toArray, List.set_cons_zero, List.set_cons_succ]
          refine wpAnyU_take (i := 19) (v := ?_) (by decide) rfl (by kernel_rfl) (by kernel_rfl) (by kernel_rfl) (fun _ _ _ h => h) (Steady.plain (by kernel_rfl) ?_) ?_
          rotate_left
          · intro b W hS
            have h0 := (R6.out.2.1.below hS).cell 0
            have h1 := (R6.out.2.1.below hS).cell 1
            have g0 := (R6.out.2.2.below hS).cell 0
            have g1 := (R6.out.2.2.below hS).cell 1
            go_simp
            first | done | with_reducible rfl
          simp only [Act.put, List.getElem_toArray, List.getElem_cons_succ, List.getElem_cons_zero, List.setIfInBounds_toArray, List.set_cons_zero, List.set_cons_succ]
          refine wpAnyU_take (i := 20) (v := ?_) (by decide) rfl (by kernel_rfl) (by kernel_rfl) (by kernel_rfl) (fun _ _ _ h => h) (Steady.plain (by kernel_rfl) ?_) ?_
          rotate_left
          · intro b W hS
            have h0 := (R6.out.2.1.below hS).cell 0
            have h1 := (R6.out.2.1.below hS).cell 1
            have g0 := (R6.out.2.2.below hS).cell 0
            have g1 := (R6.out.2.2.below hS).cell 1
            go_simp
            first | done | with_reducible rfl
          simp only [Act.put, List.getElem_toArray, List.getElem_cons_succ, List.getElem_cons_zero, List.setIfInBounds_toArray, List.set_cons_zero, List.set_cons_succ]
          refine wpAnyU_take (i := 21) (v := ?_) (by decide) rfl (by kernel_rfl) (by kernel_rfl) (by kernel_rfl) (fun _ _ _ h => h) (Steady.plain (by kernel_rfl) ?_) ?_
          rotate_left
          · intro b W hS
            have h0 := (R6.out.2.1.below hS).cell 0
            have h1 := (R6.out.2.1.below hS).cell 1
            have g0 := (R6.out.2.2.below hS).cell 0
            have g1 := (R6.out.2.2.below hS).cell 1
            go_simp
            first | done | with_reducible rfl
          simp only [Act.put, List.getElem_toArray, List.getElem_cons_succ, List.getElem_cons_zero, List.setIfInBounds_toArray, List.set_cons_zero, List.set_cons_succ]
          refine wpAnyU_take (i := 22) (v := ?_) (by decide) rfl (by kernel_rfl) (by kernel_rfl) (by kernel_rfl) (fun _ _ _ h => h) (Steady.plain (by kernel_rfl) ?_) ?_
          rotate_left
          · intro b W hS
            have h0 := (R6.out.2.1.below hS).cell 0
            have h1 := (R6.out.2.1.below hS).cell 1
            have g0 := (R6.out.2.2.below hS).cell 0
            have g1 := (R6.out.2.2.below hS).cell 1
            go_simp
            first | done | with_reducible rfl
          simp only [Act.put, List.getElem_toArray, List.getElem_cons_succ, List.getElem_cons_zero, List.setIfInBounds_toArray, List.set_cons_zero, List.set_cons_succ]
          refine wpAnyU_take (i := 23) (v := ?_) (by decide) rfl (by kernel_rfl) (by kernel_rfl) (by kernel_rfl) (fun _ _ _ h => h) (Steady.plain (by kernel_rfl) ?_) ?_
          rotate_left
          · intro b W hS
            have h0 := (R6.out.2.1.below hS).cell 0
            have h1 := (R6.out.2.1.below hS).cell 1
            have g0 := (R6.out.2.2.below hS).cell 0
            have g1 := (R6.out.2.2.below hS).cell 1
            go_simp
            first | done | with_reducible rfl
          simp only [Act.put, List.getElem_toArray, List.getElem_cons_succ, List.getElem_cons_zero, List.setIfInBounds_toArray, List.set_cons_zero, List.set_cons_succ]
          refine wpAnyU_take (i := 24) (v := ?_) (by decide) rfl (by kernel_rfl) (by kernel_rfl) (by kernel_rfl) (fun _ _ _ h => h) (Steady.plain (by kernel_rfl) ?_) ?_
          rotate_left
          · intro b W hS
            have h0 := (R6.out.2.1.below hS).cell 0
            have h1 := (R6.out.2.1.below hS).cell 1
            have g0 := (R6.out.2.2.below hS).cell 0
            have g1 := (R6.out.2.2.below hS).cell 1
            go_simp
            first | done | with_reducible rfl
          simp only [Act.put, List.getElem_toArray, List.getElem_cons_succ, List.getElem_cons_zero, List.setIfInBounds_toArray, List.set_cons_zero, List.set_cons_succ]
          refine wpAnyU_take (i := 25) (v := ?_) (by decide) rfl (by kernel_rfl) (by kernel_rfl) (by kernel_rfl) (fun _ _ _ h => h) (Steady.plain (by kernel_rfl) ?_) ?_
          rotate_left
          · intro b W hS
            have h0 := (R6.out.2.1.below hS).cell 0
            have h1 := (R6.out.2.1.below hS).cell 1
            have g0 := (R6.out.2.2.below hS).cell 0
            have g1 := (R6.out.2.2.below hS).cell 1
            go_simp
            first | done | with_reducible rfl
          simp only [Act.put, List.getElem_toArray, List.getElem_cons_succ, List.getElem_cons_zero, List.setIfInBounds_toArray, List.set_cons_zero, List.set_cons_succ]
          refine wpAnyU_take (i := 26) (v := ?_) (by decide) rfl (by kernel_rfl) (by kernel_rfl) (by kernel_rfl) (fun _ _ _ h => h) (Steady.plain (by kernel_rfl) ?_) ?_
          rotate_left
          · intro b W hS
            have h0 := (R6.out.2.1.below hS).cell 0
            have h1 := (R6.out.2.1.below hS).cell 1
            have g0 := (R6.out.2.2.below hS).cell 0
            have g1 := (R6.out.2.2.below hS).cell 1
            go_simp
            first | done | with_reducible rfl
          simp only [Act.put, List.getElem_toArray, List.getElem_cons_succ, List.getElem_cons_zero, List.setIfInBounds_toArray, List.set_cons_zero, List.set_cons_succ]
          refine wpAnyU_take (i := 27) (v := ?_) (by decide) rfl (by kernel_rfl) (by kernel_rfl) (by kernel_rfl) (fun _ _ _ h => h) (Steady.plain (by kernel_rfl) ?_) ?_
          rotate_left
          · intro b W hS
            have h0 := (R6.out.2.1.below hS).cell 0
            have h1 := (R6.out.2.1.below hS).cell 1
            have g0 := (R6.out.2.2.below hS).cell 0
            have g1 := (R6.out.2.2.below hS).cell 1
            go_simp
            first | done | with_reducible rfl
          simp only [Act.put, List.getElem_toArray, List.getElem_cons_succ, List.getElem_cons_zero, List.setIfInBounds_toArray, List.set_cons_zero, List.set_cons_succ]
          refine wpAnyU_done (b := []) (by kernel_rfl) (by kernel_rfl) ?_ _
          intro w7 hS7
          have HB7 := hid (chain2 HB6.out HB6.out.size hS7)
          clear hS7
          go_wp2_with fail
          go_ret
          exact ⟨rfl, HB7.out⟩
end Go.Proofs.YtbjgbkbhalibdaaDoor
