/-
  The document's answers of layer 11: First.
-/
import Derived.Test.YtbjgbkbhalibdaaGreatDoorRef11A
import Derived.Test.YtbjgbkbhalibdaaGreatDoorKeySite
namespace Go.Proofs.YtbjgbkbhalibdaaGreatDoor
open Go.RowKit Go.Pantry

abbrev rowP (p : PlaceR) : Array Value := #[strV p.host, strV p.path, strV p.query, .bool p.has]
theorem refMark_keep (x : List UInt8) (h : x.length < 8000000) (W : World) (B : Nat) (u v : Value) (w' : World)
    (hs : w'.cell? ⟨B, 0, none⟩ = some u ∧ w'.cell? ⟨B, 1, none⟩ = some v ∧ Below W.heap.size W w') :
    Calls Tryz.prog 25 #[strV x] w' fun e w'' => e = .returned (strV (markT x)) ∧ w''.cell? ⟨B, 0, none⟩ = some u ∧ w''.cell? ⟨B, 1, none⟩ = some v ∧ Below W.heap.size W w'' :=
  (refMark_any x w' h).mono fun _ _ ⟨he, hb⟩ => ⟨he, kept hs.1 hb, kept hs.2.1 hb, chain2 hs.2.2 hs.2.2.size hb⟩
set_option maxRecDepth 8000 in
set_option maxHeartbeats 4000000 in
theorem refFirst_any (hv lv : Value) (s : SiteZ) (p : PlaceR) (l : List Fld) (w : World) (hr : Reads2 w lv l) (hh : Reads w hv (s.heads.map strV)) (hs : SmallF l) (hl : s.heads.length ≤ 1000) (hb : ∀ y ∈ s.heads, y.length ≤ 100000) (h1 : p.host.length ≤ 1000000) (h2 : p.path.length ≤ 1000000) (h3 : p.query.length ≤ 1000000) :
    Calls Tryz.prog 11 #[.agg (rowZ hv s), .agg (rowP p), lv] w fun e w' => e = .returned (strV (firstL s.query s.heads p l)) ∧ Below w.heap.size w w' := by
  obtain ⟨ao, cap, rfl⟩ := hr.form
  obtain ⟨no, nc, rfl⟩ := hh.strs
  obtain ⟨host, path, query, has⟩ := p
  obtain ⟨sh, so, smin, smax, sq, sk, heads⟩ := s
  simp only at hh hl hb h1 h2 h3 ⊢
  obtain ⟨m, hm⟩ : ∃ m, heads.length = m := ⟨_, rfl⟩
  rw [hm]
  rw [hm] at hh hl
  obtain ⟨W, hW⟩ : ∃ W, (w.alloc (.cells (rowZ (.slice no m nc) ⟨sh, so, smin, smax, sq, sk, heads⟩) 39)).alloc (.cells (rowP ⟨host, path, query, has⟩) 41) = W := ⟨_, rfl⟩
  have hbW : Below w.heap.size w W := by rw [← hW]; exact chainK (below_alloc _ _) (below_alloc _ _)
  have q1 : rowIs W w.heap.size (rowZ (.slice no m nc) ⟨sh, so, smin, smax, sq, sk, heads⟩) 39 := by rw [← hW]; exact (rowIs_new _ _ _).below (below_alloc _ _)
  have q2 : rowIs W (w.heap.size + 1) (rowP ⟨host, path, query, has⟩) 41 := by rw [← hW]; exact rowIs_new_at _ _ _ _ (by simp)
  have c0 : W.cell? ⟨w.heap.size + 1, 0, none⟩ = some (strV host) := q2.cell 0
  have c1 : W.cell? ⟨w.heap.size + 1, 1, none⟩ = some (strV path) := q2.cell 1
  have m1 : (markT host).length ≤ 1000008 := Nat.le_trans (markT_le (by omega)) (by omega)
  have m2 : (markT path).length ≤ 1000008 := Nat.le_trans (markT_le (by omega)) (by omega)
  have m3 : (markT query).length ≤ 1000008 := Nat.le_trans (markT_le (by omega)) (by omega)
  have hsl : (secondL l heads).length ≤ 18130 * 20000 := Nat.le_trans (secondL_le _ hs.mark) (Nat.mul_le_mul_left _ (by omega))
  have C3 := hid (fun (W : World) => refMark_any query W (by omega))
  have CS := hid (fun (w' : World) (h : Below w.heap.size w w') => refSecond_any (.slice ao l.length cap) (.slice no m nc) l heads w' (hr.below h) (hh.below h) hs (by omega) hb)
  have HF : Hid (∀ A : List UInt8, A = (markT host ++ markT path) ++ queryK sq ⟨host, path, query, has⟩ → A ++ secondL l heads = firstL sq heads ⟨host, path, query, has⟩ l) := fun A hA => by
    rw [hA]; simp [firstL]
  obtain ⟨K1, hK1⟩ : ∃ x, markT host = x := ⟨_, rfl⟩
  obtain ⟨K2, hK2⟩ : ∃ x, markT path = x := ⟨_, rfl⟩
  have k1 := fun (w' : World) h => refMark_keep host (by omega) W (w.heap.size + 1) (strV host) (strV path) w' h
  have k2 := fun (w' : World) h => refMark_keep path (by omega) W (w.heap.size + 1) (strV host) (strV path) w' h
  rw [hK1] at k1 m1
  rw [hK2] at k2 m2
  rw [hK1, hK2] at HF
  have HK1 := hid k1
  have HK2 := hid k2
  obtain ⟨X0, x0, xl0, s0⟩ := sum_lists (P := Tryz.prog) K1 K2 (by omega) (by omega)
  have HX0 := hid (And.intro x0 xl0)
  have HQ := hid (And.intro q1 (And.intro q2 hbW))
  have hX0b : X0.length ≤ 2000016 := by rw [xl0]; omega
  have HM := hid (And.intro m3 (And.intro hsl hX0b))
  clear x0 xl0 hX0b k1 k2 hK1 hK2 q1 q2 hr hh hs hb m1 m2 m3 hsl h1 h2 h3 hm hl
  go_enter Tryz.func11, Tryz.ntmps11
  go_wp2_with fail
  clear hW
  go_region_held3 (fun w' => w'.cell? ⟨w.heap.size + 1, 0, none⟩ = some (strV host) ∧ w'.cell? ⟨w.heap.size + 1, 1, none⟩ = some (strV path) ∧ Below W.heap.size W w') (first | exact ⟨c0, c1, (Below.refl _ _).drew⟩ | exact ⟨hS1, hS2, hS3⟩)
    (first
      | (go_at_call 25; refine (HK1.out _ (by assumption)).mono ?_; rintro e w' ⟨rfl, hS1, hS2, hS3⟩)
      | (go_at_call 25; refine (HK2.out _ (by assumption)).mono ?_; rintro e w' ⟨rfl, hS1, hS2, hS3⟩))
  all_goals
    have hbw := chain2 HQ.out.2.2 HQ.out.2.2.size hS3
    have HBW := hid hbw
    have y4 := (HQ.out.1.below hS3).cell 4
    have y6 := (HQ.out.1.below hS3).cell 6
    have R2 := hid (HQ.out.2.1.below hS3)
    have y3 := (HQ.out.2.1.below hS3).cell 3
    have R1 := hid (HQ.out.1.below hS3)
    have HX := HX0.out.1
    clear hS1 hS2 hS3 hbw c0 c1 s0 HK1 HK2
    cases sq with
    | false =>
      obtain ⟨X1, x1, -, s1⟩ := sum_lists (P := Tryz.prog) X0 (secondL l heads) (by have := HM.out.2.2; omega) (by have := HM.out.2.1; omega)
      have HX1 := hid (And.intro x1 HX)
      clear x1 HX
      generalize secondL l heads = SL at CS s1 HF HX1 HM
      go_wp2_with fail
      refine (CS.out _ HBW.out).mono ?_
      rintro e w2 ⟨rfl, hb2⟩
      go_wp2_with fail
      go_ret
      refine ⟨ret_str ?_, chain2 HBW.out HBW.out.size hb2⟩
      rw [HX1.out.1, HF.out X0 (by rw [HX1.out.2]; simp [queryK])]
    | true =>
      cases has with
      | false =>
        obtain ⟨X1, x1, xl1, s1⟩ := sum_lists (P := Tryz.prog) X0 [33] (by have := HM.out.2.2; omega) (by simp)
        obtain ⟨X2, x2, -, s2⟩ := sum_lists (P := Tryz.prog) X1 (secondL l heads) (by have := HM.out.2.2; rw [xl1]; simp; omega) (by have := HM.out.2.1; omega)
        have HX1 := hid (And.intro x1 (And.intro HX x2))
        clear x1 HX x2 xl1
        generalize secondL l heads = SL at CS s2 HF HX1 HM
        go_wp2_with fail
        refine (CS.out _ HBW.out).mono ?_
        rintro e w2 ⟨rfl, hb2⟩
        go_wp2_with fail
        go_ret
        refine ⟨ret_str ?_, chain2 HBW.out HBW.out.size hb2⟩
        rw [HX1.out.2.2, HF.out X1 (by rw [HX1.out.1, HX1.out.2.1]; simp [queryK])]
      | true =>
        have y2 := R2.out.cell 2
        obtain ⟨K3, hK3⟩ : ∃ x, markT query = x := ⟨_, rfl⟩
        have hk3 : K3.length ≤ 1000008 := by rw [← hK3]; exact HM.out.1
        rw [hK3] at C3
        obtain ⟨X1, x1, xl1, s1⟩ := sum_lists (P := Tryz.prog) [63] K3 (by simp) (by omega)
        obtain ⟨X2, x2, xl2, s2⟩ := sum_lists (P := Tryz.prog) X0 X1 (by have := HM.out.2.2; omega) (by rw [xl1]; simp; omega)
        obtain ⟨X3, x3, -, s3⟩ := sum_lists (P := Tryz.prog) X2 (secondL l heads) (by have := HM.out.2.2; rw [xl2, xl1]; simp; omega) (by have := HM.out.2.1; omega)
        have HX1 := hid (And.intro x1 (And.intro HX (And.intro x2 (And.intro x3 hK3))))
        clear x1 HX x2 x3 xl1 xl2 hK3 hk3
        generalize secondL l heads = SL at CS s3 HF HX1 HM
        go_wp2_with fail
        refine (C3.out _).mono ?_
        rintro e w2 ⟨rfl, hb2⟩
        have z4 := (R1.out.below hb2).cell 4
        have z6 := (R1.out.below hb2).cell 6
        have z3 := (R2.out.below hb2).cell 3
        have hbq := chain2 HBW.out HBW.out.size hb2
        have HBQ := hid hbq
        clear hbq hb2 y2 y3 y4 y6
        go_wp2_with fail
        refine (CS.out _ HBQ.out).mono ?_
        rintro e w3 ⟨rfl, hb3⟩
        go_wp2_with fail
        go_ret
        refine ⟨ret_str ?_, chain2 HBQ.out HBQ.out.size hb3⟩
        rw [HX1.out.2.2.2.1, HF.out X2 (by rw [HX1.out.2.2.1, HX1.out.2.1, HX1.out.1, ← HX1.out.2.2.2.2]; simp [queryK])]
end Go.Proofs.YtbjgbkbhalibdaaGreatDoor
