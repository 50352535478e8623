/-
  Contracts of package conf: a site's plain text, Show.
-/
import Derived.Test.YtffenndchmcncaaGreatDoorConfS
import Derived.Test.YtffenndchmcncaaGreatDoorPurePlan
import Derived.Test.YtffenndchmcncaaGreatDoorPureAll3
namespace Go.Pantry
open Go.RowKit
theorem sumU (P : Program) (a b : List UInt8) (h : a.length + b.length ≤ 1000000000) : ∃ X, X = a ++ b ∧ X.length = a.length + b.length ∧ ∀ W, (Op.stringOp .add ⟨a.toArray⟩ ⟨b.toArray⟩).run P W = .ok (.string ⟨X.toArray⟩) W :=
  ⟨a ++ b, rfl, List.length_append, fun W => by rw [run_string_add_sum W _ _ (by rw [szL, szL]; omega), ByteArray.mk_append_mk]⟩
/-- a key as the program makes it -/
def keyT (b : Bool) (hs : List (List UInt8)) : List UInt8 := (if b then wPath ++ [32, 113, 117, 101, 114, 121] else wPath) ++ hs.flatMap fun h => [32, 104, 101, 97, 100, 101, 114, 32] ++ h
theorem keyT_snoc (b : Bool) (hs : List (List UInt8)) (h : List UInt8) : keyT b (hs ++ [h]) = keyT b hs ++ ([32, 104, 101, 97, 100, 101, 114, 32] ++ h) := by
  unfold keyT
  rw [List.flatMap_append, List.flatMap_singleton, List.append_assoc]
theorem headsT_flat (hs : List (List UInt8)) (r : List UInt8) : headsT hs r = (hs.flatMap fun h => [32, 104, 101, 97, 100, 101, 114, 32] ++ h) ++ r := by
  induction hs with
  | nil => rfl
  | cons h hs ih => rw [headsT, ih, List.flatMap_cons]; simp [wHeader]
theorem keyT_len (b : Bool) (hs : List (List UInt8)) (M : Nat) (h : ∀ x ∈ hs, x.length ≤ M) : (keyT b hs).length ≤ 10 + (M + 8) * hs.length := by
  have h1 : (hs.flatMap fun h => [32, 104, 101, 97, 100, 101, 114, 32] ++ h).length ≤ (M + 8) * hs.length := by
    induction hs with
    | nil => simp
    | cons x hs ih =>
      have e1 := ih (fun y hy => h y (List.mem_cons_of_mem _ hy))
      have e2 := h x (List.mem_cons_self ..)
      rw [List.flatMap_cons, List.length_append, List.length_cons, Nat.mul_add]
      simp only [List.length_append, List.length_cons, List.length_nil]
      omega
  unfold keyT
  rw [List.length_append]
  split <;> simp [wPath] at h1 ⊢ <;> omega
theorem plainS_is (s : SiteZ) : plainS s = ((((((((((((((((([115, 105, 116, 101, 32] ++ s.host) ++ [32, 123, 10]) ++ [32, 32, 111, 114, 105, 103, 105, 110, 32]) ++ decZ s.origin) ++ [59, 10]) ++ [32, 32, 116, 116, 108, 32]) ++ decZ s.min) ++ [32]) ++ decZ s.max) ++ [59, 10]) ++ [32, 32, 107, 101, 121, 32]) ++ keyT s.query s.heads) ++ [59, 10]) ++ [32, 32, 107, 101, 101, 112, 32]) ++ onW s.keep) ++ [59, 10]) ++ [125, 10]) := by
  unfold plainS plainR keyT
  cases s.query <;> simp only [queryT, headsT_flat, wSite, wOrigin, wTtl, wKey, wKeep, wQuery, onW, List.append_assoc, List.cons_append, List.nil_append, if_true, if_false, Bool.false_eq_true]
end Go.Pantry
namespace Go.Proofs.YtffenndchmcncaaGreatDoor
open Go.RowKit Go.Pantry Go.Sort

theorem itoaZ_any (n : Int) (h0 : 0 ≤ n) (h1 : n ≤ 2147483648) (w : World) (ht : Tab10 w) :
    Calls Tryz.prog 78 #[.int .i64 n] w fun e w' => e = .returned (strV (decZ n)) ∧ Below w.heap.size w w' := by
  refine (Tryz.strconv_Itoa n (by omega) (by omega) w ht).mono ?_
  rintro e w' ⟨rfl, k, os, rfl⟩
  refine ⟨?_, below_of_grow _ _ _⟩
  have e1 := decL_itoa n.toNat
  rw [Int.toNat_of_nonneg h0] at e1
  rw [e1, decL_digF 10 n.toNat (by omega)]
  rfl
set_option maxHeartbeats 4000000 in
set_option maxRecDepth 8000 in
theorem plain_any (hv : Value) (s : SiteZ) (w : World) (hr : Reads w hv (s.heads.map strV)) (h1 : s.host.length ≤ 100000) (hl : s.heads.length ≤ 4) (hh : ∀ y ∈ s.heads, y.length ≤ 100000) (ho : 0 ≤ s.origin ∧ s.origin ≤ 9) (hm1 : 0 ≤ s.min ∧ s.min ≤ 2147483648) (hm2 : 0 ≤ s.max ∧ s.max ≤ 2147483648) (ht : Tab10 w) :
    Calls Tryz.prog 52 #[.agg (rowZ hv s)] w fun e w' => e = .returned (strV (plainS s)) ∧ Below w.heap.size w w' := by
  obtain ⟨ao, cap, rfl⟩ := hr.form
  obtain ⟨n, hn⟩ : ∃ n, s.heads.length = n := ⟨_, rfl⟩
  rw [List.length_map, hn] at hr ⊢
  rw [hn] at hl
  obtain ⟨W, hW⟩ : ∃ W, w.alloc (.cells (rowZ (.slice ao n cap) s) 42) = W := ⟨_, rfl⟩
  have hbW : Below w.heap.size w W := by rw [← hW]; exact below_alloc _ _
  have hrow : rowIs W w.heap.size (rowZ (.slice ao n cap) s) 42 := by rw [← hW]; exact rowIs_new _ _ _
  have HR := hid (hr.below hbW)
  have HN := hid hn
  have HH := hid hh
  have HC := hid (And.intro hbW (And.intro hrow (ht.below hbW)))
  have HB := hid (And.intro h1 (And.intro ho (And.intro hm1 hm2)))
  have hp := plainS_is s
  obtain ⟨b, hb⟩ : ∃ b, s.query = b := ⟨_, rfl⟩
  obtain ⟨kp, hkp⟩ : ∃ b, s.keep = b := ⟨_, rfl⟩
  have y4 : W.cell? ⟨w.heap.size, 4, none⟩ = some (.bool b) := by rw [← hb]; exact hrow.cell 4
  have y5 : W.cell? ⟨w.heap.size, 5, none⟩ = some (.bool kp) := by rw [← hkp]; exact hrow.cell 5
  have y6 : W.cell? ⟨w.heap.size, 6, none⟩ = some (.slice ao n cap) := hrow.cell 6
  have HY := hid y5
  rw [hb, hkp] at hp
  have HP := hid hp
  have hbn : ∀ j, (keyT b (s.heads.take j)).length ≤ 500000 := fun j => by
    have e1 := keyT_len b (s.heads.take j) 100000 (fun x hx => hh x (List.mem_of_mem_take hx))
    have e2 := List.length_take (i := j) (l := s.heads)
    rw [hn] at e2
    have e3 : (100000 + 8) * (s.heads.take j).length ≤ 100008 * 4 := Nat.mul_le_mul (by decide) (by omega)
    omega
  have HKL := hid hbn
  have sq := fun W => run_string_add_lists (P := Tryz.prog) W wPath [32, 113, 117, 101, 114, 121] (by decide) (by decide)
  have hk0 : Hid (keyT b (s.heads.take 0) = (if b then wPath ++ [32, 113, 117, 101, 114, 121] else wPath)) := by
    show keyT b (s.heads.take 0) = _
    unfold keyT; simp
  clear hr hbW hrow h1 hh ho hm1 hm2 ht hp hb hkp y5 hbn hn
  go_enter Tryz.func52, Tryz.ntmps52
  cases b
  · go_wp2_with fail
    clear sq y4
    have HW := hid hW
    obtain ⟨K0, hK0⟩ : ∃ K, keyT false (s.heads.take 0) = K := ⟨_, rfl⟩

    clear hW
    go_loopw [3, 14] (fun kv z wr => ∃ (k : Nat), z = .int .i64 (k : Int) ∧ k ≤ n ∧ kv = strV (keyT false (s.heads.take k)) ∧ Below W.heap.size W wr) (fun _ z _ => n - (intOf z).toNat)
    case atStart => exact ⟨0, rfl, Nat.zero_le _, by rw [hk0.out]; rfl, Below.refl _ _⟩
    case round =>
      obtain ⟨k, rfl, hk, rfl, hb⟩ := hrel
      have HB2 := hid hb
      by_cases hlt : k < n
      · obtain ⟨x, hx⟩ : ∃ x, s.heads[k]? = some x := by
          have := HN.out
          exact ⟨s.heads[k]'(by omega), List.getElem?_eq_getElem (by omega)⟩
        have hxm : (s.heads.map strV)[k]? = some (strV x) := by rw [List.getElem?_map, hx]; rfl
        obtain ⟨a1, c1', e1, f1, hz1⟩ := HR.out.below hb
        injection e1 with e1 k1 k2
        clear k1 k2
        subst e1
        obtain ⟨b2, o2, g2, i2⟩ := f1 k _ hxm
        subst g2
        have hkI : (k : Int) < (n : Int) := by omega
        have hk0 : (0 : Int) ≤ (k : Int) := by omega
        have hkw : IntKind.i64.wrap ((k : Int) + 1) = (k : Int) + 1 := IntWalk.i64_in _ (by omega)
        have hxl := HH.out x (List.mem_of_getElem? hx)
        have HKS : Hid (keyT false (s.heads.take (k + 1)) = keyT false (s.heads.take k) ++ ([32, 104, 101, 97, 100, 101, 114, 32] ++ x)) := by
          show _ = _
          rw [List.take_add_one, hx]
          exact keyT_snoc _ _ _
        have hkl := HKL.out k
        obtain ⟨K, hK⟩ : ∃ K, keyT false (s.heads.take k) = K := ⟨_, rfl⟩
        rw [hK] at hkl HKS ⊢
        obtain ⟨X1, hX1, hl1, s1⟩ := sumU Tryz.prog [32, 104, 101, 97, 100, 101, 114, 32] x (by simp only [List.length_cons, List.length_nil]; omega)
        simp only [List.length_cons, List.length_nil] at hl1
        obtain ⟨X2, hX2, hl2, s2⟩ := sumU Tryz.prog K X1 (by omega)
        rw [← hX1, ← hX2] at HKS
        clear hb f1 hx hxm hz1 hX1 hX2 hl1 hl2 hkl hxl hK
        go_wp2_with fail
        go_roundw
        case rel => exact ⟨k + 1, by go_num, hlt, by rw [HKS.out], HB2.out⟩
        case measure => simp [intOf]; omega
      · have hkn : k = n := by omega
        have e0 : s.heads.take k = s.heads := List.take_of_length_le (by have := HN.out; omega)
        have hkl := HKL.out k
        rw [e0] at hkl ⊢
        obtain ⟨KK, hKK⟩ : ∃ K, keyT false s.heads = K := ⟨_, rfl⟩
        rw [hKK] at hkl ⊢
        have HKK := hid hKK
        have z5 := kept HY.out hb
        have y0 := kept (HC.out.2.1.cell 0) hb
        have y1 := kept (HC.out.2.1.cell 1) hb
        have y2 := kept (HC.out.2.1.cell 2) hb
        have y3 := kept (HC.out.2.1.cell 3) hb
        obtain ⟨q1, ⟨q2, q3⟩, ⟨q4, q5⟩, q6, q7⟩ := HB.out
        obtain ⟨D1, hD1⟩ : ∃ D, decZ s.origin = D := ⟨_, rfl⟩
        obtain ⟨D2, hD2⟩ : ∃ D, decZ s.min = D := ⟨_, rfl⟩
        obtain ⟨D3, hD3⟩ : ∃ D, decZ s.max = D := ⟨_, rfl⟩
        have hd1 : D1.length ≤ 11 := by rw [← hD1]; exact digF_len 11 _
        have hd2 : D2.length ≤ 11 := by rw [← hD2]; exact digF_len 11 _
        have hd3 : D3.length ≤ 11 := by rw [← hD3]; exact digF_len 11 _
        have htw := HC.out.2.2.below hb
        have CI1 : Hid (∀ W, Below wr.heap.size wr W → Calls Tryz.prog 78 #[.int .i64 s.origin] W fun e w' => e = .returned (strV D1) ∧ Below W.heap.size W w') := fun W hS => by rw [← hD1]; exact itoaZ_any _ q2 (by omega) W (htw.below hS)
        have CI2 : Hid (∀ W, Below wr.heap.size wr W → Calls Tryz.prog 78 #[.int .i64 s.min] W fun e w' => e = .returned (strV D2) ∧ Below W.heap.size W w') := fun W hS => by rw [← hD2]; exact itoaZ_any _ q4 q5 W (htw.below hS)
        have CI3 : Hid (∀ W, Below wr.heap.size wr W → Calls Tryz.prog 78 #[.int .i64 s.max] W fun e w' => e = .returned (strV D3) ∧ Below W.heap.size W w') := fun W hS => by rw [← hD3]; exact itoaZ_any _ q6 q7 W (htw.below hS)
        have HBE := hid (chainP HC.out.1 hb)
        clear hb htw q2 q3 q4 q5 q6 q7 e0 hkn
        cases kp
        · -- false false
          go_wp2_with fail
          clear z5
          obtain ⟨X1, hX1, hl1, s1⟩ := sumU Tryz.prog [115, 105, 116, 101, 32] s.host (by first | omega | (simp only [List.length_cons, List.length_nil]; omega))
          try simp only [List.length_cons, List.length_nil] at hl1
          obtain ⟨X2, hX2, hl2, s2⟩ := sumU Tryz.prog X1 [32, 123, 10] (by first | omega | (simp only [List.length_cons, List.length_nil]; omega))
          try simp only [List.length_cons, List.length_nil] at hl2
          obtain ⟨X3, hX3, hl3, s3⟩ := sumU Tryz.prog X2 [32, 32, 111, 114, 105, 103, 105, 110, 32] (by first | omega | (simp only [List.length_cons, List.length_nil]; omega))
          try simp only [List.length_cons, List.length_nil] at hl3
          obtain ⟨X4, hX4, hl4, s4⟩ := sumU Tryz.prog X3 D1 (by first | omega | (simp only [List.length_cons, List.length_nil]; omega))
          try simp only [List.length_cons, List.length_nil] at hl4
          obtain ⟨X5, hX5, hl5, s5⟩ := sumU Tryz.prog X4 [59, 10] (by first | omega | (simp only [List.length_cons, List.length_nil]; omega))
          try simp only [List.length_cons, List.length_nil] at hl5
          obtain ⟨X6, hX6, hl6, s6⟩ := sumU Tryz.prog X5 [32, 32, 116, 116, 108, 32] (by first | omega | (simp only [List.length_cons, List.length_nil]; omega))
          try simp only [List.length_cons, List.length_nil] at hl6
          obtain ⟨X7, hX7, hl7, s7⟩ := sumU Tryz.prog X6 D2 (by first | omega | (simp only [List.length_cons, List.length_nil]; omega))
          try simp only [List.length_cons, List.length_nil] at hl7
          obtain ⟨X8, hX8, hl8, s8⟩ := sumU Tryz.prog X7 [32] (by first | omega | (simp only [List.length_cons, List.length_nil]; omega))
          try simp only [List.length_cons, List.length_nil] at hl8
          obtain ⟨X9, hX9, hl9, s9⟩ := sumU Tryz.prog X8 D3 (by first | omega | (simp only [List.length_cons, List.length_nil]; omega))
          try simp only [List.length_cons, List.length_nil] at hl9
          obtain ⟨X10, hX10, hl10, s10⟩ := sumU Tryz.prog X9 [59, 10] (by first | omega | (simp only [List.length_cons, List.length_nil]; omega))
          try simp only [List.length_cons, List.length_nil] at hl10
          obtain ⟨X11, hX11, hl11, s11⟩ := sumU Tryz.prog X10 [32, 32, 107, 101, 121, 32] (by first | omega | (simp only [List.length_cons, List.length_nil]; omega))
          try simp only [List.length_cons, List.length_nil] at hl11
          obtain ⟨X12, hX12, hl12, s12⟩ := sumU Tryz.prog X11 KK (by first | omega | (simp only [List.length_cons, List.length_nil]; omega))
          try simp only [List.length_cons, List.length_nil] at hl12
          obtain ⟨X13, hX13, hl13, s13⟩ := sumU Tryz.prog X12 [59, 10] (by first | omega | (simp only [List.length_cons, List.length_nil]; omega))
          try simp only [List.length_cons, List.length_nil] at hl13
          obtain ⟨X14, hX14, hl14, s14⟩ := sumU Tryz.prog X13 [32, 32, 107, 101, 101, 112, 32] (by first | omega | (simp only [List.length_cons, List.length_nil]; omega))
          try simp only [List.length_cons, List.length_nil] at hl14
          obtain ⟨X15, hX15, hl15, s15⟩ := sumU Tryz.prog X14 [111, 102, 102] (by first | omega | (simp only [List.length_cons, List.length_nil]; omega))
          try simp only [List.length_cons, List.length_nil] at hl15
          obtain ⟨X16, hX16, hl16, s16⟩ := sumU Tryz.prog X15 [59, 10] (by first | omega | (simp only [List.length_cons, List.length_nil]; omega))
          try simp only [List.length_cons, List.length_nil] at hl16
          obtain ⟨X17, hX17, hl17, s17⟩ := sumU Tryz.prog X16 [125, 10] (by first | omega | (simp only [List.length_cons, List.length_nil]; omega))
          try simp only [List.length_cons, List.length_nil] at hl17
          have HE := hid (show plainS s = X17 from by
            rw [HP.out, HKK.out, show onW false = [111, 102, 102] from rfl, hX17, hX16, hX15, hX14, hX13, hX12, hX11, hX10, hX9, hX8, hX7, hX6, hX5, hX4, hX3, hX2, hX1, hD1, hD2, hD3])
          clear hX1 hl1 hX2 hl2 hX3 hl3 hX4 hl4 hX5 hl5 hX6 hl6 hX7 hl7 hX8 hl8 hX9 hl9 hX10 hl10 hX11 hl11 hX12 hl12 hX13 hl13 hX14 hl14 hX15 hl15 hX16 hl16 hX17 hl17
          refine wp_region_U [] (by kernel_rfl) (fun _ W => Below wr.heap.size wr W) (b := []) (by kernel_rfl) ((Below.refl _ _).drew) ?_
          refine wpAnyU_take (i := 0) (v := ?_) (by decide) rfl (by kernel_rfl) (by kernel_rfl) (by kernel_rfl) (fun _ _ _ h => h) (Steady.plain (by kernel_rfl) ?_) ?_
          rotate_left
          · intro b W hS
            have z0 := kept y0 hS
            have z1 := kept y1 hS
            have z2 := kept y2 hS
            have z3 := kept y3 hS
            go_simp
            first | done | with_reducible rfl
          simp only [Act.put, List.getElem_toArray, List.getElem_cons_succ, List.getElem_cons_zero, List.setIfInBounds_toArray, List.set_cons_zero, List.set_cons_succ]
          refine wpAnyU_take (i := 1) (v := ?_) (by decide) rfl (by kernel_rfl) (by kernel_rfl) (by kernel_rfl) (fun _ _ _ h => h) (Steady.plain (by kernel_rfl) ?_) ?_
          rotate_left
          · intro b W hS
            have z0 := kept y0 hS
            have z1 := kept y1 hS
            have z2 := kept y2 hS
            have z3 := kept y3 hS
            go_simp
            first | done | with_reducible rfl
          simp only [Act.put, List.getElem_toArray, List.getElem_cons_succ, List.getElem_cons_zero, List.setIfInBounds_toArray, List.set_cons_zero, List.set_cons_succ]
          refine wpAnyU_take (i := 2) (v := ?_) (by decide) rfl (by kernel_rfl) (by kernel_rfl) (by kernel_rfl) (fun _ _ _ h => h) (Steady.plain (by kernel_rfl) ?_) ?_
          rotate_left
          · intro b W hS
            have z0 := kept y0 hS
            have z1 := kept y1 hS
            have z2 := kept y2 hS
            have z3 := kept y3 hS
            go_simp
            first | done | with_reducible rfl
          simp only [Act.put, List.getElem_toArray, List.getElem_cons_succ, List.getElem_cons_zero, List.setIfInBounds_toArray, List.set_cons_zero, List.set_cons_succ]
          refine wpAnyU_take (i := 3) (v := ?_) (by decide) rfl (by kernel_rfl) (by kernel_rfl) (by kernel_rfl) (fun _ _ _ h => h) (Steady.plain (by kernel_rfl) ?_) ?_
          rotate_left
          · intro b W hS
            have z0 := kept y0 hS
            have z1 := kept y1 hS
            have z2 := kept y2 hS
            have z3 := kept y3 hS
            go_simp
            first | done | with_reducible rfl
          simp only [Act.put, List.getElem_toArray, List.getElem_cons_succ, List.getElem_cons_zero, List.setIfInBounds_toArray, List.set_cons_zero, List.set_cons_succ]
          refine wpAnyU_take (i := 4) (v := ?_) (by decide) rfl (by kernel_rfl) (by kernel_rfl) (by kernel_rfl) (fun _ _ _ h => h) (Steady.plain (by kernel_rfl) ?_) ?_
          rotate_left
          · intro b W hS
            have z0 := kept y0 hS
            have z1 := kept y1 hS
            have z2 := kept y2 hS
            have z3 := kept y3 hS
            go_simp
            first | done | with_reducible rfl
          simp only [Act.put, List.getElem_toArray, List.getElem_cons_succ, List.getElem_cons_zero, List.setIfInBounds_toArray, List.set_cons_zero, List.set_cons_succ]
          refine wpAnyU_take (i := 5) (v := ?_) (by decide) rfl (by kernel_rfl) (by kernel_rfl) (by kernel_rfl) (fun _ _ _ h => h) (Steady.plain (by kernel_rfl) ?_) ?_
          rotate_left
          · intro b W hS
            have z0 := kept y0 hS
            have z1 := kept y1 hS
            have z2 := kept y2 hS
            have z3 := kept y3 hS
            go_simp
            first | done | with_reducible rfl
          simp only [Act.put, List.getElem_toArray, List.getElem_cons_succ, List.getElem_cons_zero, List.setIfInBounds_toArray, List.set_cons_zero, List.set_cons_succ]
          refine wpAnyU_take (i := 6) (v := ?_) (by decide) rfl (by kernel_rfl) (by kernel_rfl) (by kernel_rfl) (fun _ _ _ h => h) (Steady.plain (by kernel_rfl) ?_) ?_
          rotate_left
          · intro b W hS
            have z0 := kept y0 hS
            have z1 := kept y1 hS
            have z2 := kept y2 hS
            have z3 := kept y3 hS
            go_simp
            first | done | with_reducible rfl
          simp only [Act.put, List.getElem_toArray, List.getElem_cons_succ, List.getElem_cons_zero, List.setIfInBounds_toArray, List.set_cons_zero, List.set_cons_succ]
          refine wpAnyU_take (i := 7) (v := strV D1) (by decide) rfl (by kernel_rfl) (by kernel_rfl) (by kernel_rfl) (fun _ _ _ h => h) (Steady.call (f := 78) (args := #[.int .i64 s.origin]) (by kernel_rfl) (fun _ => by kernel_rfl) ?_) ?_
          · intro b W hS
            refine (CI1.out W hS).mono ?_
            rintro e w' ⟨he, hb⟩
            exact ⟨he, chainP hS hb⟩
          simp only [Act.put, List.getElem_toArray, List.getElem_cons_succ, List.getElem_cons_zero, List.setIfInBounds_toArray, List.set_cons_zero, List.set_cons_succ]
          refine wpAnyU_take (i := 8) (v := ?_) (by decide) rfl (by kernel_rfl) (by kernel_rfl) (by kernel_rfl) (fun _ _ _ h => h) (Steady.plain (by kernel_rfl) ?_) ?_
          rotate_left
          · intro b W hS
            have z0 := kept y0 hS
            have z1 := kept y1 hS
            have z2 := kept y2 hS
            have z3 := kept y3 hS
            go_simp
            first | done | with_reducible rfl
          simp only [Act.put, List.getElem_toArray, List.getElem_cons_succ, List.getElem_cons_zero, List.setIfInBounds_toArray, List.set_cons_zero, List.set_cons_succ]
          refine wpAnyU_take (i := 9) (v := ?_) (by decide) rfl (by kernel_rfl) (by kernel_rfl) (by kernel_rfl) (fun _ _ _ h => h) (Steady.plain (by kernel_rfl) ?_) ?_
          rotate_left
          · intro b W hS
            have z0 := kept y0 hS
            have z1 := kept y1 hS
            have z2 := kept y2 hS
            have z3 := kept y3 hS
            go_simp
            first | done | with_reducible rfl
          simp only [Act.put, List.getElem_toArray, List.getElem_cons_succ, List.getElem_cons_zero, List.setIfInBounds_toArray, List.set_cons_zero, List.set_cons_succ]
          refine wpAnyU_take (i := 10) (v := ?_) (by decide) rfl (by kernel_rfl) (by kernel_rfl) (by kernel_rfl) (fun _ _ _ h => h) (Steady.plain (by kernel_rfl) ?_) ?_
          rotate_left
          · intro b W hS
            have z0 := kept y0 hS
            have z1 := kept y1 hS
            have z2 := kept y2 hS
            have z3 := kept y3 hS
            go_simp
            first | done | with_reducible rfl
          simp only [Act.put, List.getElem_toArray, List.getElem_cons_succ, List.getElem_cons_zero, List.setIfInBounds_toArray, List.set_cons_zero, List.set_cons_succ]
          refine wpAnyU_take (i := 11) (v := ?_) (by decide) rfl (by kernel_rfl) (by kernel_rfl) (by kernel_rfl) (fun _ _ _ h => h) (Steady.plain (by kernel_rfl) ?_) ?_
          rotate_left
          · intro b W hS
            have z0 := kept y0 hS
            have z1 := kept y1 hS
            have z2 := kept y2 hS
            have z3 := kept y3 hS
            go_simp
            first | done | with_reducible rfl
          simp only [Act.put, List.getElem_toArray, List.getElem_cons_succ, List.getElem_cons_zero, List.setIfInBounds_toArray, List.set_cons_zero, List.set_cons_succ]
          refine wpAnyU_take (i := 12) (v := ?_) (by decide) rfl (by kernel_rfl) (by kernel_rfl) (by kernel_rfl) (fun _ _ _ h => h) (Steady.plain (by kernel_rfl) ?_) ?_
          rotate_left
          · intro b W hS
            have z0 := kept y0 hS
            have z1 := kept y1 hS
            have z2 := kept y2 hS
            have z3 := kept y3 hS
            go_simp
            first | done | with_reducible rfl
          simp only [Act.put, List.getElem_toArray, List.getElem_cons_succ, List.getElem_cons_zero, List.setIfInBounds_toArray, List.set_cons_zero, List.set_cons_succ]
          refine wpAnyU_take (i := 13) (v := strV D2) (by decide) rfl (by kernel_rfl) (by kernel_rfl) (by kernel_rfl) (fun _ _ _ h => h) (Steady.call (f := 78) (args := #[.int .i64 s.min]) (by kernel_rfl) (fun _ => by kernel_rfl) ?_) ?_
          · intro b W hS
            refine (CI2.out W hS).mono ?_
            rintro e w' ⟨he, hb⟩
            exact ⟨he, chainP hS hb⟩
          simp only [Act.put, List.getElem_toArray, List.getElem_cons_succ, List.getElem_cons_zero, List.setIfInBounds_toArray, List.set_cons_zero, List.set_cons_succ]
          refine wpAnyU_take (i := 14) (v := ?_) (by decide) rfl (by kernel_rfl) (by kernel_rfl) (by kernel_rfl) (fun _ _ _ h => h) (Steady.plain (by kernel_rfl) ?_) ?_
          rotate_left
          · intro b W hS
            have z0 := kept y0 hS
            have z1 := kept y1 hS
            have z2 := kept y2 hS
            have z3 := kept y3 hS
            go_simp
            first | done | with_reducible rfl
          simp only [Act.put, List.getElem_toArray, List.getElem_cons_succ, List.getElem_cons_zero, List.setIfInBounds_toArray, List.set_cons_zero, List.set_cons_succ]
          refine wpAnyU_take (i := 15) (v := ?_) (by decide) rfl (by kernel_rfl) (by kernel_rfl) (by kernel_rfl) (fun _ _ _ h => h) (Steady.plain (by kernel_rfl) ?_) ?_
          rotate_left
          · intro b W hS
            have z0 := kept y0 hS
            have z1 := kept y1 hS
            have z2 := kept y2 hS
            have z3 := kept y3 hS
            go_simp
            first | done | with_reducible rfl
          simp only [Act.put, List.getElem_toArray, List.getElem_cons_succ, List.getElem_cons_zero, List.setIfInBounds_toArray, List.set_cons_zero, List.set_cons_succ]
          refine wpAnyU_take (i := 16) (v := ?_) (by decide) rfl (by kernel_rfl) (by kernel_rfl) (by kernel_rfl) (fun _ _ _ h => h) (Steady.plain (by kernel_rfl) ?_) ?_
          rotate_left
          · intro b W hS
            have z0 := kept y0 hS
            have z1 := kept y1 hS
            have z2 := kept y2 hS
            have z3 := kept y3 hS
            go_simp
            first | done | with_reducible rfl
          simp only [Act.put, List.getElem_toArray, List.getElem_cons_succ, List.getElem_cons_zero, List.setIfInBounds_toArray, List.set_cons_zero, List.set_cons_succ]
          refine wpAnyU_take (i := 17) (v := ?_) (by decide) rfl (by kernel_rfl) (by kernel_rfl) (by kernel_rfl) (fun _ _ _ h => h) (Steady.plain (by kernel_rfl) ?_) ?_
          rotate_left
          · intro b W hS
            have z0 := kept y0 hS
            have z1 := kept y1 hS
            have z2 := kept y2 hS
            have z3 := kept y3 hS
            go_simp
            first | done | with_reducible rfl
          simp only [Act.put, List.getElem_toArray, List.getElem_cons_succ, List.getElem_cons_zero, List.setIfInBounds_toArray, List.set_cons_zero, List.set_cons_succ]
          refine wpAnyU_take (i := 18) (v := strV D3) (by decide) rfl (by kernel_rfl) (by kernel_rfl) (by kernel_rfl) (fun _ _ _ h => h) (Steady.call (f := 78) (args := #[.int .i64 s.max]) (by kernel_rfl) (fun _ => by kernel_rfl) ?_) ?_
          · intro b W hS
            refine (CI3.out W hS).mono ?_
            rintro e w' ⟨he, hb⟩
            exact ⟨he, chainP hS hb⟩
          simp only [Act.put, List.getElem_toArray, List.getElem_cons_succ, List.getElem_cons_zero, List.setIfInBounds_toArray, List.set_cons_zero, List.set_cons_succ]
          refine wpAnyU_take (i := 19) (v := ?_) (by decide) rfl (by kernel_rfl) (by kernel_rfl) (by kernel_rfl) (fun _ _ _ h => h) (Steady.plain (by kernel_rfl) ?_) ?_
          rotate_left
          · intro b W hS
            have z0 := kept y0 hS
            have z1 := kept y1 hS
            have z2 := kept y2 hS
            have z3 := kept y3 hS
            go_simp
            first | done | with_reducible rfl
          simp only [Act.put, List.getElem_toArray, List.getElem_cons_succ, List.getElem_cons_zero, List.setIfInBounds_toArray, List.set_cons_zero, List.set_cons_succ]
          refine wpAnyU_take (i := 20) (v := ?_) (by decide) rfl (by kernel_rfl) (by kernel_rfl) (by kernel_rfl) (fun _ _ _ h => h) (Steady.plain (by kernel_rfl) ?_) ?_
          rotate_left
          · intro b W hS
            have z0 := kept y0 hS
            have z1 := kept y1 hS
            have z2 := kept y2 hS
            have z3 := kept y3 hS
            go_simp
            first | done | with_reducible rfl
          simp only [Act.put, List.getElem_toArray, List.getElem_cons_succ, List.getElem_cons_zero, List.setIfInBounds_toArray, List.set_cons_zero, List.set_cons_succ]
          refine wpAnyU_take (i := 21) (v := ?_) (by decide) rfl (by kernel_rfl) (by kernel_rfl) (by kernel_rfl) (fun _ _ _ h => h) (Steady.plain (by kernel_rfl) ?_) ?_
          rotate_left
          · intro b W hS
            have z0 := kept y0 hS
            have z1 := kept y1 hS
            have z2 := kept y2 hS
            have z3 := kept y3 hS
            go_simp
            first | done | with_reducible rfl
          simp only [Act.put, List.getElem_toArray, List.getElem_cons_succ, List.getElem_cons_zero, List.setIfInBounds_toArray, List.set_cons_zero, List.set_cons_succ]
          refine wpAnyU_take (i := 22) (v := ?_) (by decide) rfl (by kernel_rfl) (by kernel_rfl) (by kernel_rfl) (fun _ _ _ h => h) (Steady.plain (by kernel_rfl) ?_) ?_
          rotate_left
          · intro b W hS
            have z0 := kept y0 hS
            have z1 := kept y1 hS
            have z2 := kept y2 hS
            have z3 := kept y3 hS
            go_simp
            first | done | with_reducible rfl
          simp only [Act.put, List.getElem_toArray, List.getElem_cons_succ, List.getElem_cons_zero, List.setIfInBounds_toArray, List.set_cons_zero, List.set_cons_succ]
          refine wpAnyU_take (i := 23) (v := ?_) (by decide) rfl (by kernel_rfl) (by kernel_rfl) (by kernel_rfl) (fun _ _ _ h => h) (Steady.plain (by kernel_rfl) ?_) ?_
          rotate_left
          · intro b W hS
            have z0 := kept y0 hS
            have z1 := kept y1 hS
            have z2 := kept y2 hS
            have z3 := kept y3 hS
            go_simp
            first | done | with_reducible rfl
          simp only [Act.put, List.getElem_toArray, List.getElem_cons_succ, List.getElem_cons_zero, List.setIfInBounds_toArray, List.set_cons_zero, List.set_cons_succ]
          refine wpAnyU_take (i := 24) (v := ?_) (by decide) rfl (by kernel_rfl) (by kernel_rfl) (by kernel_rfl) (fun _ _ _ h => h) (Steady.plain (by kernel_rfl) ?_) ?_
          rotate_left
          · intro b W hS
            have z0 := kept y0 hS
            have z1 := kept y1 hS
            have z2 := kept y2 hS
            have z3 := kept y3 hS
            go_simp
            first | done | with_reducible rfl
          simp only [Act.put, List.getElem_toArray, List.getElem_cons_succ, List.getElem_cons_zero, List.setIfInBounds_toArray, List.set_cons_zero, List.set_cons_succ]
          refine wpAnyU_take (i := 25) (v := ?_) (by decide) rfl (by kernel_rfl) (by kernel_rfl) (by kernel_rfl) (fun _ _ _ h => h) (Steady.plain (by kernel_rfl) ?_) ?_
          rotate_left
          · intro b W hS
            have z0 := kept y0 hS
            have z1 := kept y1 hS
            have z2 := kept y2 hS
            have z3 := kept y3 hS
            go_simp
            first | done | with_reducible rfl
          simp only [Act.put, List.getElem_toArray, List.getElem_cons_succ, List.getElem_cons_zero, List.setIfInBounds_toArray, List.set_cons_zero, List.set_cons_succ]
          refine wpAnyU_take (i := 26) (v := ?_) (by decide) rfl (by kernel_rfl) (by kernel_rfl) (by kernel_rfl) (fun _ _ _ h => h) (Steady.plain (by kernel_rfl) ?_) ?_
          rotate_left
          · intro b W hS
            have z0 := kept y0 hS
            have z1 := kept y1 hS
            have z2 := kept y2 hS
            have z3 := kept y3 hS
            go_simp
            first | done | with_reducible rfl
          simp only [Act.put, List.getElem_toArray, List.getElem_cons_succ, List.getElem_cons_zero, List.setIfInBounds_toArray, List.set_cons_zero, List.set_cons_succ]
          refine wpAnyU_take (i := 27) (v := ?_) (by decide) rfl (by kernel_rfl) (by kernel_rfl) (by kernel_rfl) (fun _ _ _ h => h) (Steady.plain (by kernel_rfl) ?_) ?_
          rotate_left
          · intro b W hS
            have z0 := kept y0 hS
            have z1 := kept y1 hS
            have z2 := kept y2 hS
            have z3 := kept y3 hS
            go_simp
            first | done | with_reducible rfl
          simp only [Act.put, List.getElem_toArray, List.getElem_cons_succ, List.getElem_cons_zero, List.setIfInBounds_toArray, List.set_cons_zero, List.set_cons_succ]
          refine wpAnyU_take (i := 28) (v := ?_) (by decide) rfl (by kernel_rfl) (by kernel_rfl) (by kernel_rfl) (fun _ _ _ h => h) (Steady.plain (by kernel_rfl) ?_) ?_
          rotate_left
          · intro b W hS
            have z0 := kept y0 hS
            have z1 := kept y1 hS
            have z2 := kept y2 hS
            have z3 := kept y3 hS
            go_simp
            first | done | with_reducible rfl
          simp only [Act.put, List.getElem_toArray, List.getElem_cons_succ, List.getElem_cons_zero, List.setIfInBounds_toArray, List.set_cons_zero, List.set_cons_succ]
          refine wpAnyU_take (i := 29) (v := ?_) (by decide) rfl (by kernel_rfl) (by kernel_rfl) (by kernel_rfl) (fun _ _ _ h => h) (Steady.plain (by kernel_rfl) ?_) ?_
          rotate_left
          · intro b W hS
            have z0 := kept y0 hS
            have z1 := kept y1 hS
            have z2 := kept y2 hS
            have z3 := kept y3 hS
            go_simp
            first | done | with_reducible rfl
          simp only [Act.put, List.getElem_toArray, List.getElem_cons_succ, List.getElem_cons_zero, List.setIfInBounds_toArray, List.set_cons_zero, List.set_cons_succ]
          refine wpAnyU_take (i := 30) (v := ?_) (by decide) rfl (by kernel_rfl) (by kernel_rfl) (by kernel_rfl) (fun _ _ _ h => h) (Steady.plain (by kernel_rfl) ?_) ?_
          rotate_left
          · intro b W hS
            have z0 := kept y0 hS
            have z1 := kept y1 hS
            have z2 := kept y2 hS
            have z3 := kept y3 hS
            go_simp
            first | done | with_reducible rfl
          simp only [Act.put, List.getElem_toArray, List.getElem_cons_succ, List.getElem_cons_zero, List.setIfInBounds_toArray, List.set_cons_zero, List.set_cons_succ]
          refine wpAnyU_done (b := []) (by kernel_rfl) (by kernel_rfl) ?_ _
          intro w5 hS5
          go_wp2_with fail
          go_ret
          exact ⟨by rw [HE.out]; rfl, chainP HBE.out hS5⟩
        · -- false true
          go_wp2_with fail
          clear z5
          obtain ⟨X1, hX1, hl1, s1⟩ := sumU Tryz.prog [115, 105, 116, 101, 32] s.host (by first | omega | (simp only [List.length_cons, List.length_nil]; omega))
          try simp only [List.length_cons, List.length_nil] at hl1
          obtain ⟨X2, hX2, hl2, s2⟩ := sumU Tryz.prog X1 [32, 123, 10] (by first | omega | (simp only [List.length_cons, List.length_nil]; omega))
          try simp only [List.length_cons, List.length_nil] at hl2
          obtain ⟨X3, hX3, hl3, s3⟩ := sumU Tryz.prog X2 [32, 32, 111, 114, 105, 103, 105, 110, 32] (by first | omega | (simp only [List.length_cons, List.length_nil]; omega))
          try simp only [List.length_cons, List.length_nil] at hl3
          obtain ⟨X4, hX4, hl4, s4⟩ := sumU Tryz.prog X3 D1 (by first | omega | (simp only [List.length_cons, List.length_nil]; omega))
          try simp only [List.length_cons, List.length_nil] at hl4
          obtain ⟨X5, hX5, hl5, s5⟩ := sumU Tryz.prog X4 [59, 10] (by first | omega | (simp only [List.length_cons, List.length_nil]; omega))
          try simp only [List.length_cons, List.length_nil] at hl5
          obtain ⟨X6, hX6, hl6, s6⟩ := sumU Tryz.prog X5 [32, 32, 116, 116, 108, 32] (by first | omega | (simp only [List.length_cons, List.length_nil]; omega))
          try simp only [List.length_cons, List.length_nil] at hl6
          obtain ⟨X7, hX7, hl7, s7⟩ := sumU Tryz.prog X6 D2 (by first | omega | (simp only [List.length_cons, List.length_nil]; omega))
          try simp only [List.length_cons, List.length_nil] at hl7
          obtain ⟨X8, hX8, hl8, s8⟩ := sumU Tryz.prog X7 [32] (by first | omega | (simp only [List.length_cons, List.length_nil]; omega))
          try simp only [List.length_cons, List.length_nil] at hl8
          obtain ⟨X9, hX9, hl9, s9⟩ := sumU Tryz.prog X8 D3 (by first | omega | (simp only [List.length_cons, List.length_nil]; omega))
          try simp only [List.length_cons, List.length_nil] at hl9
          obtain ⟨X10, hX10, hl10, s10⟩ := sumU Tryz.prog X9 [59, 10] (by first | omega | (simp only [List.length_cons, List.length_nil]; omega))
          try simp only [List.length_cons, List.length_nil] at hl10
          obtain ⟨X11, hX11, hl11, s11⟩ := sumU Tryz.prog X10 [32, 32, 107, 101, 121, 32] (by first | omega | (simp only [List.length_cons, List.length_nil]; omega))
          try simp only [List.length_cons, List.length_nil] at hl11
          obtain ⟨X12, hX12, hl12, s12⟩ := sumU Tryz.prog X11 KK (by first | omega | (simp only [List.length_cons, List.length_nil]; omega))
          try simp only [List.length_cons, List.length_nil] at hl12
          obtain ⟨X13, hX13, hl13, s13⟩ := sumU Tryz.prog X12 [59, 10] (by first | omega | (simp only [List.length_cons, List.length_nil]; omega))
          try simp only [List.length_cons, List.length_nil] at hl13
          obtain ⟨X14, hX14, hl14, s14⟩ := sumU Tryz.prog X13 [32, 32, 107, 101, 101, 112, 32] (by first | omega | (simp only [List.length_cons, List.length_nil]; omega))
          try simp only [List.length_cons, List.length_nil] at hl14
          obtain ⟨X15, hX15, hl15, s15⟩ := sumU Tryz.prog X14 [111, 110] (by first | omega | (simp only [List.length_cons, List.length_nil]; omega))
          try simp only [List.length_cons, List.length_nil] at hl15
          obtain ⟨X16, hX16, hl16, s16⟩ := sumU Tryz.prog X15 [59, 10] (by first | omega | (simp only [List.length_cons, List.length_nil]; omega))
          try simp only [List.length_cons, List.length_nil] at hl16
          obtain ⟨X17, hX17, hl17, s17⟩ := sumU Tryz.prog X16 [125, 10] (by first | omega | (simp only [List.length_cons, List.length_nil]; omega))
          try simp only [List.length_cons, List.length_nil] at hl17
          have HE := hid (show plainS s = X17 from by
            rw [HP.out, HKK.out, show onW true = [111, 110] from rfl, hX17, hX16, hX15, hX14, hX13, hX12, hX11, hX10, hX9, hX8, hX7, hX6, hX5, hX4, hX3, hX2, hX1, hD1, hD2, hD3])
          clear hX1 hl1 hX2 hl2 hX3 hl3 hX4 hl4 hX5 hl5 hX6 hl6 hX7 hl7 hX8 hl8 hX9 hl9 hX10 hl10 hX11 hl11 hX12 hl12 hX13 hl13 hX14 hl14 hX15 hl15 hX16 hl16 hX17 hl17
          refine wp_region_U [] (by kernel_rfl) (fun _ W => Below wr.heap.size wr W) (b := []) (by kernel_rfl) ((Below.refl _ _).drew) ?_
          refine wpAnyU_take (i := 0) (v := ?_) (by decide) rfl (by kernel_rfl) (by kernel_rfl) (by kernel_rfl) (fun _ _ _ h => h) (Steady.plain (by kernel_rfl) ?_) ?_
          rotate_left
          · intro b W hS
            have z0 := kept y0 hS
            have z1 := kept y1 hS
            have z2 := kept y2 hS
            have z3 := kept y3 hS
            go_simp
            first | done | with_reducible rfl
          simp only [Act.put, List.getElem_toArray, List.getElem_cons_succ, List.getElem_cons_zero, List.setIfInBounds_toArray, List.set_cons_zero, List.set_cons_succ]
          refine wpAnyU_take (i := 1) (v := ?_) (by decide) rfl (by kernel_rfl) (by kernel_rfl) (by kernel_rfl) (fun _ _ _ h => h) (Steady.plain (by kernel_rfl) ?_) ?_
          rotate_left
          · intro b W hS
            have z0 := kept y0 hS
            have z1 := kept y1 hS
            have z2 := kept y2 hS
            have z3 := kept y3 hS
            go_simp
            first | done | with_reducible rfl
          simp only [Act.put, List.getElem_toArray, List.getElem_cons_succ, List.getElem_cons_zero, List.setIfInBounds_toArray, List.set_cons_zero, List.set_cons_succ]
          refine wpAnyU_take (i := 2) (v := ?_) (by decide) rfl (by kernel_rfl) (by kernel_rfl) (by kernel_rfl) (fun _ _ _ h => h) (Steady.plain (by kernel_rfl) ?_) ?_
          rotate_left
          · intro b W hS
            have z0 := kept y0 hS
            have z1 := kept y1 hS
            have z2 := kept y2 hS
            have z3 := kept y3 hS
            go_simp
            first | done | with_reducible rfl
          simp only [Act.put, List.getElem_toArray, List.getElem_cons_succ, List.getElem_cons_zero, List.setIfInBounds_toArray, List.set_cons_zero, List.set_cons_succ]
          refine wpAnyU_take (i := 3) (v := ?_) (by decide) rfl (by kernel_rfl) (by kernel_rfl) (by kernel_rfl) (fun _ _ _ h => h) (Steady.plain (by kernel_rfl) ?_) ?_
          rotate_left
          · intro b W hS
            have z0 := kept y0 hS
            have z1 := kept y1 hS
            have z2 := kept y2 hS
            have z3 := kept y3 hS
            go_simp
            first | done | with_reducible rfl
          simp only [Act.put, List.getElem_toArray, List.getElem_cons_succ, List.getElem_cons_zero, List.setIfInBounds_toArray, List.set_cons_zero, List.set_cons_succ]
          refine wpAnyU_take (i := 4) (v := ?_) (by decide) rfl (by kernel_rfl) (by kernel_rfl) (by kernel_rfl) (fun _ _ _ h => h) (Steady.plain (by kernel_rfl) ?_) ?_
          rotate_left
          · intro b W hS
            have z0 := kept y0 hS
            have z1 := kept y1 hS
            have z2 := kept y2 hS
            have z3 := kept y3 hS
            go_simp
            first | done | with_reducible rfl
          simp only [Act.put, List.getElem_toArray, List.getElem_cons_succ, List.getElem_cons_zero, List.setIfInBounds_toArray, List.set_cons_zero, List.set_cons_succ]
          refine wpAnyU_take (i := 5) (v := ?_) (by decide) rfl (by kernel_rfl) (by kernel_rfl) (by kernel_rfl) (fun _ _ _ h => h) (Steady.plain (by kernel_rfl) ?_) ?_
          rotate_left
          · intro b W hS
            have z0 := kept y0 hS
            have z1 := kept y1 hS
            have z2 := kept y2 hS
            have z3 := kept y3 hS
            go_simp
            first | done | with_reducible rfl
          simp only [Act.put, List.getElem_toArray, List.getElem_cons_succ, List.getElem_cons_zero, List.setIfInBounds_toArray, List.set_cons_zero, List.set_cons_succ]
          refine wpAnyU_take (i := 6) (v := ?_) (by decide) rfl (by kernel_rfl) (by kernel_rfl) (by kernel_rfl) (fun _ _ _ h => h) (Steady.plain (by kernel_rfl) ?_) ?_
          rotate_left
          · intro b W hS
            have z0 := kept y0 hS
            have z1 := kept y1 hS
            have z2 := kept y2 hS
            have z3 := kept y3 hS
            go_simp
            first | done | with_reducible rfl
          simp only [Act.put, List.getElem_toArray, List.getElem_cons_succ, List.getElem_cons_zero, List.setIfInBounds_toArray, List.set_cons_zero, List.set_cons_succ]
          refine wpAnyU_take (i := 7) (v := strV D1) (by decide) rfl (by kernel_rfl) (by kernel_rfl) (by kernel_rfl) (fun _ _ _ h => h) (Steady.call (f := 78) (args := #[.int .i64 s.origin]) (by kernel_rfl) (fun _ => by kernel_rfl) ?_) ?_
          · intro b W hS
            refine (CI1.out W hS).mono ?_
            rintro e w' ⟨he, hb⟩
            exact ⟨he, chainP hS hb⟩
          simp only [Act.put, List.getElem_toArray, List.getElem_cons_succ, List.getElem_cons_zero, List.setIfInBounds_toArray, List.set_cons_zero, List.set_cons_succ]
          refine wpAnyU_take (i := 8) (v := ?_) (by decide) rfl (by kernel_rfl) (by kernel_rfl) (by kernel_rfl) (fun _ _ _ h => h) (Steady.plain (by kernel_rfl) ?_) ?_
          rotate_left
          · intro b W hS
            have z0 := kept y0 hS
            have z1 := kept y1 hS
            have z2 := kept y2 hS
            have z3 := kept y3 hS
            go_simp
            first | done | with_reducible rfl
          simp only [Act.put, List.getElem_toArray, List.getElem_cons_succ, List.getElem_cons_zero, List.setIfInBounds_toArray, List.set_cons_zero, List.set_cons_succ]
          refine wpAnyU_take (i := 9) (v := ?_) (by decide) rfl (by kernel_rfl) (by kernel_rfl) (by kernel_rfl) (fun _ _ _ h => h) (Steady.plain (by kernel_rfl) ?_) ?_
          rotate_left
          · intro b W hS
            have z0 := kept y0 hS
            have z1 := kept y1 hS
            have z2 := kept y2 hS
            have z3 := kept y3 hS
            go_simp
            first | done | with_reducible rfl
          simp only [Act.put, List.getElem_toArray, List.getElem_cons_succ, List.getElem_cons_zero, List.setIfInBounds_toArray, List.set_cons_zero, List.set_cons_succ]
          refine wpAnyU_take (i := 10) (v := ?_) (by decide) rfl (by kernel_rfl) (by kernel_rfl) (by kernel_rfl) (fun _ _ _ h => h) (Steady.plain (by kernel_rfl) ?_) ?_
          rotate_left
          · intro b W hS
            have z0 := kept y0 hS
            have z1 := kept y1 hS
            have z2 := kept y2 hS
            have z3 := kept y3 hS
            go_simp
            first | done | with_reducible rfl
          simp only [Act.put, List.getElem_toArray, List.getElem_cons_succ, List.getElem_cons_zero, List.setIfInBounds_toArray, List.set_cons_zero, List.set_cons_succ]
          refine wpAnyU_take (i := 11) (v := ?_) (by decide) rfl (by kernel_rfl) (by kernel_rfl) (by kernel_rfl) (fun _ _ _ h => h) (Steady.plain (by kernel_rfl) ?_) ?_
          rotate_left
          · intro b W hS
            have z0 := kept y0 hS
            have z1 := kept y1 hS
            have z2 := kept y2 hS
            have z3 := kept y3 hS
            go_simp
            first | done | with_reducible rfl
          simp only [Act.put, List.getElem_toArray, List.getElem_cons_succ, List.getElem_cons_zero, List.setIfInBounds_toArray, List.set_cons_zero, List.set_cons_succ]
          refine wpAnyU_take (i := 12) (v := ?_) (by decide) rfl (by kernel_rfl) (by kernel_rfl) (by kernel_rfl) (fun _ _ _ h => h) (Steady.plain (by kernel_rfl) ?_) ?_
          rotate_left
          · intro b W hS
            have z0 := kept y0 hS
            have z1 := kept y1 hS
            have z2 := kept y2 hS
            have z3 := kept y3 hS
            go_simp
            first | done | with_reducible rfl
          simp only [Act.put, List.getElem_toArray, List.getElem_cons_succ, List.getElem_cons_zero, List.setIfInBounds_toArray, List.set_cons_zero, List.set_cons_succ]
          refine wpAnyU_take (i := 13) (v := strV D2) (by decide) rfl (by kernel_rfl) (by kernel_rfl) (by kernel_rfl) (fun _ _ _ h => h) (Steady.call (f := 78) (args := #[.int .i64 s.min]) (by kernel_rfl) (fun _ => by kernel_rfl) ?_) ?_
          · intro b W hS
            refine (CI2.out W hS).mono ?_
            rintro e w' ⟨he, hb⟩
            exact ⟨he, chainP hS hb⟩
          simp only [Act.put, List.getElem_toArray, List.getElem_cons_succ, List.getElem_cons_zero, List.setIfInBounds_toArray, List.set_cons_zero, List.set_cons_succ]
          refine wpAnyU_take (i := 14) (v := ?_) (by decide) rfl (by kernel_rfl) (by kernel_rfl) (by kernel_rfl) (fun _ _ _ h => h) (Steady.plain (by kernel_rfl) ?_) ?_
          rotate_left
          · intro b W hS
            have z0 := kept y0 hS
            have z1 := kept y1 hS
            have z2 := kept y2 hS
            have z3 := kept y3 hS
            go_simp
            first | done | with_reducible rfl
          simp only [Act.put, List.getElem_toArray, List.getElem_cons_succ, List.getElem_cons_zero, List.setIfInBounds_toArray, List.set_cons_zero, List.set_cons_succ]
          refine wpAnyU_take (i := 15) (v := ?_) (by decide) rfl (by kernel_rfl) (by kernel_rfl) (by kernel_rfl) (fun _ _ _ h => h) (Steady.plain (by kernel_rfl) ?_) ?_
          rotate_left
          · intro b W hS
            have z0 := kept y0 hS
            have z1 := kept y1 hS
            have z2 := kept y2 hS
            have z3 := kept y3 hS
            go_simp
            first | done | with_reducible rfl
          simp only [Act.put, List.getElem_toArray, List.getElem_cons_succ, List.getElem_cons_zero, List.setIfInBounds_toArray, List.set_cons_zero, List.set_cons_succ]
          refine wpAnyU_take (i := 16) (v := ?_) (by decide) rfl (by kernel_rfl) (by kernel_rfl) (by kernel_rfl) (fun _ _ _ h => h) (Steady.plain (by kernel_rfl) ?_) ?_
          rotate_left
          · intro b W hS
            have z0 := kept y0 hS
            have z1 := kept y1 hS
            have z2 := kept y2 hS
            have z3 := kept y3 hS
            go_simp
            first | done | with_reducible rfl
          simp only [Act.put, List.getElem_toArray, List.getElem_cons_succ, List.getElem_cons_zero, List.setIfInBounds_toArray, List.set_cons_zero, List.set_cons_succ]
          refine wpAnyU_take (i := 17) (v := ?_) (by decide) rfl (by kernel_rfl) (by kernel_rfl) (by kernel_rfl) (fun _ _ _ h => h) (Steady.plain (by kernel_rfl) ?_) ?_
          rotate_left
          · intro b W hS
            have z0 := kept y0 hS
            have z1 := kept y1 hS
            have z2 := kept y2 hS
            have z3 := kept y3 hS
            go_simp
            first | done | with_reducible rfl
          simp only [Act.put, List.getElem_toArray, List.getElem_cons_succ, List.getElem_cons_zero, List.setIfInBounds_toArray, List.set_cons_zero, List.set_cons_succ]
          refine wpAnyU_take (i := 18) (v := strV D3) (by decide) rfl (by kernel_rfl) (by kernel_rfl) (by kernel_rfl) (fun _ _ _ h => h) (Steady.call (f := 78) (args := #[.int .i64 s.max]) (by kernel_rfl) (fun _ => by kernel_rfl) ?_) ?_
          · intro b W hS
            refine (CI3.out W hS).mono ?_
            rintro e w' ⟨he, hb⟩
            exact ⟨he, chainP hS hb⟩
          simp only [Act.put, List.getElem_toArray, List.getElem_cons_succ, List.getElem_cons_zero, List.setIfInBounds_toArray, List.set_cons_zero, List.set_cons_succ]
          refine wpAnyU_take (i := 19) (v := ?_) (by decide) rfl (by kernel_rfl) (by kernel_rfl) (by kernel_rfl) (fun _ _ _ h => h) (Steady.plain (by kernel_rfl) ?_) ?_
          rotate_left
          · intro b W hS
            have z0 := kept y0 hS
            have z1 := kept y1 hS
            have z2 := kept y2 hS
            have z3 := kept y3 hS
            go_simp
            first | done | with_reducible rfl
          simp only [Act.put, List.getElem_toArray, List.getElem_cons_succ, List.getElem_cons_zero, List.setIfInBounds_toArray, List.set_cons_zero, List.set_cons_succ]
          refine wpAnyU_take (i := 20) (v := ?_) (by decide) rfl (by kernel_rfl) (by kernel_rfl) (by kernel_rfl) (fun _ _ _ h => h) (Steady.plain (by kernel_rfl) ?_) ?_
          rotate_left
          · intro b W hS
            have z0 := kept y0 hS
            have z1 := kept y1 hS
            have z2 := kept y2 hS
            have z3 := kept y3 hS
            go_simp
            first | done | with_reducible rfl
          simp only [Act.put, List.getElem_toArray, List.getElem_cons_succ, List.getElem_cons_zero, List.setIfInBounds_toArray, List.set_cons_zero, List.set_cons_succ]
          refine wpAnyU_take (i := 21) (v := ?_) (by decide) rfl (by kernel_rfl) (by kernel_rfl) (by kernel_rfl) (fun _ _ _ h => h) (Steady.plain (by kernel_rfl) ?_) ?_
          rotate_left
          · intro b W hS
            have z0 := kept y0 hS
            have z1 := kept y1 hS
            have z2 := kept y2 hS
            have z3 := kept y3 hS
            go_simp
            first | done | with_reducible rfl
          simp only [Act.put, List.getElem_toArray, List.getElem_cons_succ, List.getElem_cons_zero, List.setIfInBounds_toArray, List.set_cons_zero, List.set_cons_succ]
          refine wpAnyU_take (i := 22) (v := ?_) (by decide) rfl (by kernel_rfl) (by kernel_rfl) (by kernel_rfl) (fun _ _ _ h => h) (Steady.plain (by kernel_rfl) ?_) ?_
          rotate_left
          · intro b W hS
            have z0 := kept y0 hS
            have z1 := kept y1 hS
            have z2 := kept y2 hS
            have z3 := kept y3 hS
            go_simp
            first | done | with_reducible rfl
          simp only [Act.put, List.getElem_toArray, List.getElem_cons_succ, List.getElem_cons_zero, List.setIfInBounds_toArray, List.set_cons_zero, List.set_cons_succ]
          refine wpAnyU_take (i := 23) (v := ?_) (by decide) rfl (by kernel_rfl) (by kernel_rfl) (by kernel_rfl) (fun _ _ _ h => h) (Steady.plain (by kernel_rfl) ?_) ?_
          rotate_left
          · intro b W hS
            have z0 := kept y0 hS
            have z1 := kept y1 hS
            have z2 := kept y2 hS
            have z3 := kept y3 hS
            go_simp
            first | done | with_reducible rfl
          simp only [Act.put, List.getElem_toArray, List.getElem_cons_succ, List.getElem_cons_zero, List.setIfInBounds_toArray, List.set_cons_zero, List.set_cons_succ]
          refine wpAnyU_take (i := 24) (v := ?_) (by decide) rfl (by kernel_rfl) (by kernel_rfl) (by kernel_rfl) (fun _ _ _ h => h) (Steady.plain (by kernel_rfl) ?_) ?_
          rotate_left
          · intro b W hS
            have z0 := kept y0 hS
            have z1 := kept y1 hS
            have z2 := kept y2 hS
            have z3 := kept y3 hS
            go_simp
            first | done | with_reducible rfl
          simp only [Act.put, List.getElem_toArray, List.getElem_cons_succ, List.getElem_cons_zero, List.setIfInBounds_toArray, List.set_cons_zero, List.set_cons_succ]
          refine wpAnyU_take (i := 25) (v := ?_) (by decide) rfl (by kernel_rfl) (by kernel_rfl) (by kernel_rfl) (fun _ _ _ h => h) (Steady.plain (by kernel_rfl) ?_) ?_
          rotate_left
          · intro b W hS
            have z0 := kept y0 hS
            have z1 := kept y1 hS
            have z2 := kept y2 hS
            have z3 := kept y3 hS
            go_simp
            first | done | with_reducible rfl
          simp only [Act.put, List.getElem_toArray, List.getElem_cons_succ, List.getElem_cons_zero, List.setIfInBounds_toArray, List.set_cons_zero, List.set_cons_succ]
          refine wpAnyU_take (i := 26) (v := ?_) (by decide) rfl (by kernel_rfl) (by kernel_rfl) (by kernel_rfl) (fun _ _ _ h => h) (Steady.plain (by kernel_rfl) ?_) ?_
          rotate_left
          · intro b W hS
            have z0 := kept y0 hS
            have z1 := kept y1 hS
            have z2 := kept y2 hS
            have z3 := kept y3 hS
            go_simp
            first | done | with_reducible rfl
          simp only [Act.put, List.getElem_toArray, List.getElem_cons_succ, List.getElem_cons_zero, List.setIfInBounds_toArray, List.set_cons_zero, List.set_cons_succ]
          refine wpAnyU_take (i := 27) (v := ?_) (by decide) rfl (by kernel_rfl) (by kernel_rfl) (by kernel_rfl) (fun _ _ _ h => h) (Steady.plain (by kernel_rfl) ?_) ?_
          rotate_left
          · intro b W hS
            have z0 := kept y0 hS
            have z1 := kept y1 hS
            have z2 := kept y2 hS
            have z3 := kept y3 hS
            go_simp
            first | done | with_reducible rfl
          simp only [Act.put, List.getElem_toArray, List.getElem_cons_succ, List.getElem_cons_zero, List.setIfInBounds_toArray, List.set_cons_zero, List.set_cons_succ]
          refine wpAnyU_take (i := 28) (v := ?_) (by decide) rfl (by kernel_rfl) (by kernel_rfl) (by kernel_rfl) (fun _ _ _ h => h) (Steady.plain (by kernel_rfl) ?_) ?_
          rotate_left
          · intro b W hS
            have z0 := kept y0 hS
            have z1 := kept y1 hS
            have z2 := kept y2 hS
            have z3 := kept y3 hS
            go_simp
            first | done | with_reducible rfl
          simp only [Act.put, List.getElem_toArray, List.getElem_cons_succ, List.getElem_cons_zero, List.setIfInBounds_toArray, List.set_cons_zero, List.set_cons_succ]
          refine wpAnyU_take (i := 29) (v := ?_) (by decide) rfl (by kernel_rfl) (by kernel_rfl) (by kernel_rfl) (fun _ _ _ h => h) (Steady.plain (by kernel_rfl) ?_) ?_
          rotate_left
          · intro b W hS
            have z0 := kept y0 hS
            have z1 := kept y1 hS
            have z2 := kept y2 hS
            have z3 := kept y3 hS
            go_simp
            first | done | with_reducible rfl
          simp only [Act.put, List.getElem_toArray, List.getElem_cons_succ, List.getElem_cons_zero, List.setIfInBounds_toArray, List.set_cons_zero, List.set_cons_succ]
          refine wpAnyU_take (i := 30) (v := ?_) (by decide) rfl (by kernel_rfl) (by kernel_rfl) (by kernel_rfl) (fun _ _ _ h => h) (Steady.plain (by kernel_rfl) ?_) ?_
          rotate_left
          · intro b W hS
            have z0 := kept y0 hS
            have z1 := kept y1 hS
            have z2 := kept y2 hS
            have z3 := kept y3 hS
            go_simp
            first | done | with_reducible rfl
          simp only [Act.put, List.getElem_toArray, List.getElem_cons_succ, List.getElem_cons_zero, List.setIfInBounds_toArray, List.set_cons_zero, List.set_cons_succ]
          refine wpAnyU_done (b := []) (by kernel_rfl) (by kernel_rfl) ?_ _
          intro w5 hS5
          go_wp2_with fail
          go_ret
          exact ⟨by rw [HE.out]; rfl, chainP HBE.out hS5⟩
  · go_wp2_with fail
    clear sq y4
    have HW := hid hW
    obtain ⟨K0, hK0⟩ : ∃ K, keyT true (s.heads.take 0) = K := ⟨_, rfl⟩

    clear hW
    go_loopw [3, 14] (fun kv z wr => ∃ (k : Nat), z = .int .i64 (k : Int) ∧ k ≤ n ∧ kv = strV (keyT true (s.heads.take k)) ∧ Below W.heap.size W wr) (fun _ z _ => n - (intOf z).toNat)
    case atStart => exact ⟨0, rfl, Nat.zero_le _, by rw [hk0.out]; rfl, Below.refl _ _⟩
    case round =>
      obtain ⟨k, rfl, hk, rfl, hb⟩ := hrel
      have HB2 := hid hb
      by_cases hlt : k < n
      · obtain ⟨x, hx⟩ : ∃ x, s.heads[k]? = some x := by
          have := HN.out
          exact ⟨s.heads[k]'(by omega), List.getElem?_eq_getElem (by omega)⟩
        have hxm : (s.heads.map strV)[k]? = some (strV x) := by rw [List.getElem?_map, hx]; rfl
        obtain ⟨a1, c1', e1, f1, hz1⟩ := HR.out.below hb
        injection e1 with e1 k1 k2
        clear k1 k2
        subst e1
        obtain ⟨b2, o2, g2, i2⟩ := f1 k _ hxm
        subst g2
        have hkI : (k : Int) < (n : Int) := by omega
        have hk0 : (0 : Int) ≤ (k : Int) := by omega
        have hkw : IntKind.i64.wrap ((k : Int) + 1) = (k : Int) + 1 := IntWalk.i64_in _ (by omega)
        have hxl := HH.out x (List.mem_of_getElem? hx)
        have HKS : Hid (keyT true (s.heads.take (k + 1)) = keyT true (s.heads.take k) ++ ([32, 104, 101, 97, 100, 101, 114, 32] ++ x)) := by
          show _ = _
          rw [List.take_add_one, hx]
          exact keyT_snoc _ _ _
        have hkl := HKL.out k
        obtain ⟨K, hK⟩ : ∃ K, keyT true (s.heads.take k) = K := ⟨_, rfl⟩
        rw [hK] at hkl HKS ⊢
        obtain ⟨X1, hX1, hl1, s1⟩ := sumU Tryz.prog [32, 104, 101, 97, 100, 101, 114, 32] x (by simp only [List.length_cons, List.length_nil]; omega)
        simp only [List.length_cons, List.length_nil] at hl1
        obtain ⟨X2, hX2, hl2, s2⟩ := sumU Tryz.prog K X1 (by omega)
        rw [← hX1, ← hX2] at HKS
        clear hb f1 hx hxm hz1 hX1 hX2 hl1 hl2 hkl hxl hK
        go_wp2_with fail
        go_roundw
        case rel => exact ⟨k + 1, by go_num, hlt, by rw [HKS.out], HB2.out⟩
        case measure => simp [intOf]; omega
      · have hkn : k = n := by omega
        have e0 : s.heads.take k = s.heads := List.take_of_length_le (by have := HN.out; omega)
        have hkl := HKL.out k
        rw [e0] at hkl ⊢
        obtain ⟨KK, hKK⟩ : ∃ K, keyT true s.heads = K := ⟨_, rfl⟩
        rw [hKK] at hkl ⊢
        have HKK := hid hKK
        have z5 := kept HY.out hb
        have y0 := kept (HC.out.2.1.cell 0) hb
        have y1 := kept (HC.out.2.1.cell 1) hb
        have y2 := kept (HC.out.2.1.cell 2) hb
        have y3 := kept (HC.out.2.1.cell 3) hb
        obtain ⟨q1, ⟨q2, q3⟩, ⟨q4, q5⟩, q6, q7⟩ := HB.out
        obtain ⟨D1, hD1⟩ : ∃ D, decZ s.origin = D := ⟨_, rfl⟩
        obtain ⟨D2, hD2⟩ : ∃ D, decZ s.min = D := ⟨_, rfl⟩
        obtain ⟨D3, hD3⟩ : ∃ D, decZ s.max = D := ⟨_, rfl⟩
        have hd1 : D1.length ≤ 11 := by rw [← hD1]; exact digF_len 11 _
        have hd2 : D2.length ≤ 11 := by rw [← hD2]; exact digF_len 11 _
        have hd3 : D3.length ≤ 11 := by rw [← hD3]; exact digF_len 11 _
        have htw := HC.out.2.2.below hb
        have CI1 : Hid (∀ W, Below wr.heap.size wr W → Calls Tryz.prog 78 #[.int .i64 s.origin] W fun e w' => e = .returned (strV D1) ∧ Below W.heap.size W w') := fun W hS => by rw [← hD1]; exact itoaZ_any _ q2 (by omega) W (htw.below hS)
        have CI2 : Hid (∀ W, Below wr.heap.size wr W → Calls Tryz.prog 78 #[.int .i64 s.min] W fun e w' => e = .returned (strV D2) ∧ Below W.heap.size W w') := fun W hS => by rw [← hD2]; exact itoaZ_any _ q4 q5 W (htw.below hS)
        have CI3 : Hid (∀ W, Below wr.heap.size wr W → Calls Tryz.prog 78 #[.int .i64 s.max] W fun e w' => e = .returned (strV D3) ∧ Below W.heap.size W w') := fun W hS => by rw [← hD3]; exact itoaZ_any _ q6 q7 W (htw.below hS)
        have HBE := hid (chainP HC.out.1 hb)
        clear hb htw q2 q3 q4 q5 q6 q7 e0 hkn
        cases kp
        · -- true false
          go_wp2_with fail
          clear z5
          obtain ⟨X1, hX1, hl1, s1⟩ := sumU Tryz.prog [115, 105, 116, 101, 32] s.host (by first | omega | (simp only [List.length_cons, List.length_nil]; omega))
          try simp only [List.length_cons, List.length_nil] at hl1
          obtain ⟨X2, hX2, hl2, s2⟩ := sumU Tryz.prog X1 [32, 123, 10] (by first | omega | (simp only [List.length_cons, List.length_nil]; omega))
          try simp only [List.length_cons, List.length_nil] at hl2
          obtain ⟨X3, hX3, hl3, s3⟩ := sumU Tryz.prog X2 [32, 32, 111, 114, 105, 103, 105, 110, 32] (by first | omega | (simp only [List.length_cons, List.length_nil]; omega))
          try simp only [List.length_cons, List.length_nil] at hl3
          obtain ⟨X4, hX4, hl4, s4⟩ := sumU Tryz.prog X3 D1 (by first | omega | (simp only [List.length_cons, List.length_nil]; omega))
          try simp only [List.length_cons, List.length_nil] at hl4
          obtain ⟨X5, hX5, hl5, s5⟩ := sumU Tryz.prog X4 [59, 10] (by first | omega | (simp only [List.length_cons, List.length_nil]; omega))
          try simp only [List.length_cons, List.length_nil] at hl5
          obtain ⟨X6, hX6, hl6, s6⟩ := sumU Tryz.prog X5 [32, 32, 116, 116, 108, 32] (by first | omega | (simp only [List.length_cons, List.length_nil]; omega))
          try simp only [List.length_cons, List.length_nil] at hl6
          obtain ⟨X7, hX7, hl7, s7⟩ := sumU Tryz.prog X6 D2 (by first | omega | (simp only [List.length_cons, List.length_nil]; omega))
          try simp only [List.length_cons, List.length_nil] at hl7
          obtain ⟨X8, hX8, hl8, s8⟩ := sumU Tryz.prog X7 [32] (by first | omega | (simp only [List.length_cons, List.length_nil]; omega))
          try simp only [List.length_cons, List.length_nil] at hl8
          obtain ⟨X9, hX9, hl9, s9⟩ := sumU Tryz.prog X8 D3 (by first | omega | (simp only [List.length_cons, List.length_nil]; omega))
          try simp only [List.length_cons, List.length_nil] at hl9
          obtain ⟨X10, hX10, hl10, s10⟩ := sumU Tryz.prog X9 [59, 10] (by first | omega | (simp only [List.length_cons, List.length_nil]; omega))
          try simp only [List.length_cons, List.length_nil] at hl10
          obtain ⟨X11, hX11, hl11, s11⟩ := sumU Tryz.prog X10 [32, 32, 107, 101, 121, 32] (by first | omega | (simp only [List.length_cons, List.length_nil]; omega))
          try simp only [List.length_cons, List.length_nil] at hl11
          obtain ⟨X12, hX12, hl12, s12⟩ := sumU Tryz.prog X11 KK (by first | omega | (simp only [List.length_cons, List.length_nil]; omega))
          try simp only [List.length_cons, List.length_nil] at hl12
          obtain ⟨X13, hX13, hl13, s13⟩ := sumU Tryz.prog X12 [59, 10] (by first | omega | (simp only [List.length_cons, List.length_nil]; omega))
          try simp only [List.length_cons, List.length_nil] at hl13
          obtain ⟨X14, hX14, hl14, s14⟩ := sumU Tryz.prog X13 [32, 32, 107, 101, 101, 112, 32] (by first | omega | (simp only [List.length_cons, List.length_nil]; omega))
          try simp only [List.length_cons, List.length_nil] at hl14
          obtain ⟨X15, hX15, hl15, s15⟩ := sumU Tryz.prog X14 [111, 102, 102] (by first | omega | (simp only [List.length_cons, List.length_nil]; omega))
          try simp only [List.length_cons, List.length_nil] at hl15
          obtain ⟨X16, hX16, hl16, s16⟩ := sumU Tryz.prog X15 [59, 10] (by first | omega | (simp only [List.length_cons, List.length_nil]; omega))
          try simp only [List.length_cons, List.length_nil] at hl16
          obtain ⟨X17, hX17, hl17, s17⟩ := sumU Tryz.prog X16 [125, 10] (by first | omega | (simp only [List.length_cons, List.length_nil]; omega))
          try simp only [List.length_cons, List.length_nil] at hl17
          have HE := hid (show plainS s = X17 from by
            rw [HP.out, HKK.out, show onW false = [111, 102, 102] from rfl, hX17, hX16, hX15, hX14, hX13, hX12, hX11, hX10, hX9, hX8, hX7, hX6, hX5, hX4, hX3, hX2, hX1, hD1, hD2, hD3])
          clear hX1 hl1 hX2 hl2 hX3 hl3 hX4 hl4 hX5 hl5 hX6 hl6 hX7 hl7 hX8 hl8 hX9 hl9 hX10 hl10 hX11 hl11 hX12 hl12 hX13 hl13 hX14 hl14 hX15 hl15 hX16 hl16 hX17 hl17
          refine wp_region_U [] (by kernel_rfl) (fun _ W => Below wr.heap.size wr W) (b := []) (by kernel_rfl) ((Below.refl _ _).drew) ?_
          refine wpAnyU_take (i := 0) (v := ?_) (by decide) rfl (by kernel_rfl) (by kernel_rfl) (by kernel_rfl) (fun _ _ _ h => h) (Steady.plain (by kernel_rfl) ?_) ?_
          rotate_left
          · intro b W hS
            have z0 := kept y0 hS
            have z1 := kept y1 hS
            have z2 := kept y2 hS
            have z3 := kept y3 hS
            go_simp
            first | done | with_reducible rfl
          simp only [Act.put, List.getElem_toArray, List.getElem_cons_succ, List.getElem_cons_zero, List.setIfInBounds_toArray, List.set_cons_zero, List.set_cons_succ]
          refine wpAnyU_take (i := 1) (v := ?_) (by decide) rfl (by kernel_rfl) (by kernel_rfl) (by kernel_rfl) (fun _ _ _ h => h) (Steady.plain (by kernel_rfl) ?_) ?_
          rotate_left
          · intro b W hS
            have z0 := kept y0 hS
            have z1 := kept y1 hS
            have z2 := kept y2 hS
            have z3 := kept y3 hS
            go_simp
            first | done | with_reducible rfl
          simp only [Act.put, List.getElem_toArray, List.getElem_cons_succ, List.getElem_cons_zero, List.setIfInBounds_toArray, List.set_cons_zero, List.set_cons_succ]
          refine wpAnyU_take (i := 2) (v := ?_) (by decide) rfl (by kernel_rfl) (by kernel_rfl) (by kernel_rfl) (fun _ _ _ h => h) (Steady.plain (by kernel_rfl) ?_) ?_
          rotate_left
          · intro b W hS
            have z0 := kept y0 hS
            have z1 := kept y1 hS
            have z2 := kept y2 hS
            have z3 := kept y3 hS
            go_simp
            first | done | with_reducible rfl
          simp only [Act.put, List.getElem_toArray, List.getElem_cons_succ, List.getElem_cons_zero, List.setIfInBounds_toArray, List.set_cons_zero, List.set_cons_succ]
          refine wpAnyU_take (i := 3) (v := ?_) (by decide) rfl (by kernel_rfl) (by kernel_rfl) (by kernel_rfl) (fun _ _ _ h => h) (Steady.plain (by kernel_rfl) ?_) ?_
          rotate_left
          · intro b W hS
            have z0 := kept y0 hS
            have z1 := kept y1 hS
            have z2 := kept y2 hS
            have z3 := kept y3 hS
            go_simp
            first | done | with_reducible rfl
          simp only [Act.put, List.getElem_toArray, List.getElem_cons_succ, List.getElem_cons_zero, List.setIfInBounds_toArray, List.set_cons_zero, List.set_cons_succ]
          refine wpAnyU_take (i := 4) (v := ?_) (by decide) rfl (by kernel_rfl) (by kernel_rfl) (by kernel_rfl) (fun _ _ _ h => h) (Steady.plain (by kernel_rfl) ?_) ?_
          rotate_left
          · intro b W hS
            have z0 := kept y0 hS
            have z1 := kept y1 hS
            have z2 := kept y2 hS
            have z3 := kept y3 hS
            go_simp
            first | done | with_reducible rfl
          simp only [Act.put, List.getElem_toArray, List.getElem_cons_succ, List.getElem_cons_zero, List.setIfInBounds_toArray, List.set_cons_zero, List.set_cons_succ]
          refine wpAnyU_take (i := 5) (v := ?_) (by decide) rfl (by kernel_rfl) (by kernel_rfl) (by kernel_rfl) (fun _ _ _ h => h) (Steady.plain (by kernel_rfl) ?_) ?_
          rotate_left
          · intro b W hS
            have z0 := kept y0 hS
            have z1 := kept y1 hS
            have z2 := kept y2 hS
            have z3 := kept y3 hS
            go_simp
            first | done | with_reducible rfl
          simp only [Act.put, List.getElem_toArray, List.getElem_cons_succ, List.getElem_cons_zero, List.setIfInBounds_toArray, List.set_cons_zero, List.set_cons_succ]
          refine wpAnyU_take (i := 6) (v := ?_) (by decide) rfl (by kernel_rfl) (by kernel_rfl) (by kernel_rfl) (fun _ _ _ h => h) (Steady.plain (by kernel_rfl) ?_) ?_
          rotate_left
          · intro b W hS
            have z0 := kept y0 hS
            have z1 := kept y1 hS
            have z2 := kept y2 hS
            have z3 := kept y3 hS
            go_simp
            first | done | with_reducible rfl
          simp only [Act.put, List.getElem_toArray, List.getElem_cons_succ, List.getElem_cons_zero, List.setIfInBounds_toArray, List.set_cons_zero, List.set_cons_succ]
          refine wpAnyU_take (i := 7) (v := strV D1) (by decide) rfl (by kernel_rfl) (by kernel_rfl) (by kernel_rfl) (fun _ _ _ h => h) (Steady.call (f := 78) (args := #[.int .i64 s.origin]) (by kernel_rfl) (fun _ => by kernel_rfl) ?_) ?_
          · intro b W hS
            refine (CI1.out W hS).mono ?_
            rintro e w' ⟨he, hb⟩
            exact ⟨he, chainP hS hb⟩
          simp only [Act.put, List.getElem_toArray, List.getElem_cons_succ, List.getElem_cons_zero, List.setIfInBounds_toArray, List.set_cons_zero, List.set_cons_succ]
          refine wpAnyU_take (i := 8) (v := ?_) (by decide) rfl (by kernel_rfl) (by kernel_rfl) (by kernel_rfl) (fun _ _ _ h => h) (Steady.plain (by kernel_rfl) ?_) ?_
          rotate_left
          · intro b W hS
            have z0 := kept y0 hS
            have z1 := kept y1 hS
            have z2 := kept y2 hS
            have z3 := kept y3 hS
            go_simp
            first | done | with_reducible rfl
          simp only [Act.put, List.getElem_toArray, List.getElem_cons_succ, List.getElem_cons_zero, List.setIfInBounds_toArray, List.set_cons_zero, List.set_cons_succ]
          refine wpAnyU_take (i := 9) (v := ?_) (by decide) rfl (by kernel_rfl) (by kernel_rfl) (by kernel_rfl) (fun _ _ _ h => h) (Steady.plain (by kernel_rfl) ?_) ?_
          rotate_left
          · intro b W hS
            have z0 := kept y0 hS
            have z1 := kept y1 hS
            have z2 := kept y2 hS
            have z3 := kept y3 hS
            go_simp
            first | done | with_reducible rfl
          simp only [Act.put, List.getElem_toArray, List.getElem_cons_succ, List.getElem_cons_zero, List.setIfInBounds_toArray, List.set_cons_zero, List.set_cons_succ]
          refine wpAnyU_take (i := 10) (v := ?_) (by decide) rfl (by kernel_rfl) (by kernel_rfl) (by kernel_rfl) (fun _ _ _ h => h) (Steady.plain (by kernel_rfl) ?_) ?_
          rotate_left
          · intro b W hS
            have z0 := kept y0 hS
            have z1 := kept y1 hS
            have z2 := kept y2 hS
            have z3 := kept y3 hS
            go_simp
            first | done | with_reducible rfl
          simp only [Act.put, List.getElem_toArray, List.getElem_cons_succ, List.getElem_cons_zero, List.setIfInBounds_toArray, List.set_cons_zero, List.set_cons_succ]
          refine wpAnyU_take (i := 11) (v := ?_) (by decide) rfl (by kernel_rfl) (by kernel_rfl) (by kernel_rfl) (fun _ _ _ h => h) (Steady.plain (by kernel_rfl) ?_) ?_
          rotate_left
          · intro b W hS
            have z0 := kept y0 hS
            have z1 := kept y1 hS
            have z2 := kept y2 hS
            have z3 := kept y3 hS
            go_simp
            first | done | with_reducible rfl
          simp only [Act.put, List.getElem_toArray, List.getElem_cons_succ, List.getElem_cons_zero, List.setIfInBounds_toArray, List.set_cons_zero, List.set_cons_succ]
          refine wpAnyU_take (i := 12) (v := ?_) (by decide) rfl (by kernel_rfl) (by kernel_rfl) (by kernel_rfl) (fun _ _ _ h => h) (Steady.plain (by kernel_rfl) ?_) ?_
          rotate_left
          · intro b W hS
            have z0 := kept y0 hS
            have z1 := kept y1 hS
            have z2 := kept y2 hS
            have z3 := kept y3 hS
            go_simp
            first | done | with_reducible rfl
          simp only [Act.put, List.getElem_toArray, List.getElem_cons_succ, List.getElem_cons_zero, List.setIfInBounds_toArray, List.set_cons_zero, List.set_cons_succ]
          refine wpAnyU_take (i := 13) (v := strV D2) (by decide) rfl (by kernel_rfl) (by kernel_rfl) (by kernel_rfl) (fun _ _ _ h => h) (Steady.call (f := 78) (args := #[.int .i64 s.min]) (by kernel_rfl) (fun _ => by kernel_rfl) ?_) ?_
          · intro b W hS
            refine (CI2.out W hS).mono ?_
            rintro e w' ⟨he, hb⟩
            exact ⟨he, chainP hS hb⟩
          simp only [Act.put, List.getElem_toArray, List.getElem_cons_succ, List.getElem_cons_zero, List.setIfInBounds_toArray, List.set_cons_zero, List.set_cons_succ]
          refine wpAnyU_take (i := 14) (v := ?_) (by decide) rfl (by kernel_rfl) (by kernel_rfl) (by kernel_rfl) (fun _ _ _ h => h) (Steady.plain (by kernel_rfl) ?_) ?_
          rotate_left
          · intro b W hS
            have z0 := kept y0 hS
            have z1 := kept y1 hS
            have z2 := kept y2 hS
            have z3 := kept y3 hS
            go_simp
            first | done | with_reducible rfl
          simp only [Act.put, List.getElem_toArray, List.getElem_cons_succ, List.getElem_cons_zero, List.setIfInBounds_toArray, List.set_cons_zero, List.set_cons_succ]
          refine wpAnyU_take (i := 15) (v := ?_) (by decide) rfl (by kernel_rfl) (by kernel_rfl) (by kernel_rfl) (fun _ _ _ h => h) (Steady.plain (by kernel_rfl) ?_) ?_
          rotate_left
          · intro b W hS
            have z0 := kept y0 hS
            have z1 := kept y1 hS
            have z2 := kept y2 hS
            have z3 := kept y3 hS
            go_simp
            first | done | with_reducible rfl
          simp only [Act.put, List.getElem_toArray, List.getElem_cons_succ, List.getElem_cons_zero, List.setIfInBounds_toArray, List.set_cons_zero, List.set_cons_succ]
          refine wpAnyU_take (i := 16) (v := ?_) (by decide) rfl (by kernel_rfl) (by kernel_rfl) (by kernel_rfl) (fun _ _ _ h => h) (Steady.plain (by kernel_rfl) ?_) ?_
          rotate_left
          · intro b W hS
            have z0 := kept y0 hS
            have z1 := kept y1 hS
            have z2 := kept y2 hS
            have z3 := kept y3 hS
            go_simp
            first | done | with_reducible rfl
          simp only [Act.put, List.getElem_toArray, List.getElem_cons_succ, List.getElem_cons_zero, List.setIfInBounds_toArray, List.set_cons_zero, List.set_cons_succ]
          refine wpAnyU_take (i := 17) (v := ?_) (by decide) rfl (by kernel_rfl) (by kernel_rfl) (by kernel_rfl) (fun _ _ _ h => h) (Steady.plain (by kernel_rfl) ?_) ?_
          rotate_left
          · intro b W hS
            have z0 := kept y0 hS
            have z1 := kept y1 hS
            have z2 := kept y2 hS
            have z3 := kept y3 hS
            go_simp
            first | done | with_reducible rfl
          simp only [Act.put, List.getElem_toArray, List.getElem_cons_succ, List.getElem_cons_zero, List.setIfInBounds_toArray, List.set_cons_zero, List.set_cons_succ]
          refine wpAnyU_take (i := 18) (v := strV D3) (by decide) rfl (by kernel_rfl) (by kernel_rfl) (by kernel_rfl) (fun _ _ _ h => h) (Steady.call (f := 78) (args := #[.int .i64 s.max]) (by kernel_rfl) (fun _ => by kernel_rfl) ?_) ?_
          · intro b W hS
            refine (CI3.out W hS).mono ?_
            rintro e w' ⟨he, hb⟩
            exact ⟨he, chainP hS hb⟩
          simp only [Act.put, List.getElem_toArray, List.getElem_cons_succ, List.getElem_cons_zero, List.setIfInBounds_toArray, List.set_cons_zero, List.set_cons_succ]
          refine wpAnyU_take (i := 19) (v := ?_) (by decide) rfl (by kernel_rfl) (by kernel_rfl) (by kernel_rfl) (fun _ _ _ h => h) (Steady.plain (by kernel_rfl) ?_) ?_
          rotate_left
          · intro b W hS
            have z0 := kept y0 hS
            have z1 := kept y1 hS
            have z2 := kept y2 hS
            have z3 := kept y3 hS
            go_simp
            first | done | with_reducible rfl
          simp only [Act.put, List.getElem_toArray, List.getElem_cons_succ, List.getElem_cons_zero, List.setIfInBounds_toArray, List.set_cons_zero, List.set_cons_succ]
          refine wpAnyU_take (i := 20) (v := ?_) (by decide) rfl (by kernel_rfl) (by kernel_rfl) (by kernel_rfl) (fun _ _ _ h => h) (Steady.plain (by kernel_rfl) ?_) ?_
          rotate_left
          · intro b W hS
            have z0 := kept y0 hS
            have z1 := kept y1 hS
            have z2 := kept y2 hS
            have z3 := kept y3 hS
            go_simp
            first | done | with_reducible rfl
          simp only [Act.put, List.getElem_toArray, List.getElem_cons_succ, List.getElem_cons_zero, List.setIfInBounds_toArray, List.set_cons_zero, List.set_cons_succ]
          refine wpAnyU_take (i := 21) (v := ?_) (by decide) rfl (by kernel_rfl) (by kernel_rfl) (by kernel_rfl) (fun _ _ _ h => h) (Steady.plain (by kernel_rfl) ?_) ?_
          rotate_left
          · intro b W hS
            have z0 := kept y0 hS
            have z1 := kept y1 hS
            have z2 := kept y2 hS
            have z3 := kept y3 hS
            go_simp
            first | done | with_reducible rfl
          simp only [Act.put, List.getElem_toArray, List.getElem_cons_succ, List.getElem_cons_zero, List.setIfInBounds_toArray, List.set_cons_zero, List.set_cons_succ]
          refine wpAnyU_take (i := 22) (v := ?_) (by decide) rfl (by kernel_rfl) (by kernel_rfl) (by kernel_rfl) (fun _ _ _ h => h) (Steady.plain (by kernel_rfl) ?_) ?_
          rotate_left
          · intro b W hS
            have z0 := kept y0 hS
            have z1 := kept y1 hS
            have z2 := kept y2 hS
            have z3 := kept y3 hS
            go_simp
            first | done | with_reducible rfl
          simp only [Act.put, List.getElem_toArray, List.getElem_cons_succ, List.getElem_cons_zero, List.setIfInBounds_toArray, List.set_cons_zero, List.set_cons_succ]
          refine wpAnyU_take (i := 23) (v := ?_) (by decide) rfl (by kernel_rfl) (by kernel_rfl) (by kernel_rfl) (fun _ _ _ h => h) (Steady.plain (by kernel_rfl) ?_) ?_
          rotate_left
          · intro b W hS
            have z0 := kept y0 hS
            have z1 := kept y1 hS
            have z2 := kept y2 hS
            have z3 := kept y3 hS
            go_simp
            first | done | with_reducible rfl
          simp only [Act.put, List.getElem_toArray, List.getElem_cons_succ, List.getElem_cons_zero, List.setIfInBounds_toArray, List.set_cons_zero, List.set_cons_succ]
          refine wpAnyU_take (i := 24) (v := ?_) (by decide) rfl (by kernel_rfl) (by kernel_rfl) (by kernel_rfl) (fun _ _ _ h => h) (Steady.plain (by kernel_rfl) ?_) ?_
          rotate_left
          · intro b W hS
            have z0 := kept y0 hS
            have z1 := kept y1 hS
            have z2 := kept y2 hS
            have z3 := kept y3 hS
            go_simp
            first | done | with_reducible rfl
          simp only [Act.put, List.getElem_toArray, List.getElem_cons_succ, List.getElem_cons_zero, List.setIfInBounds_toArray, List.set_cons_zero, List.set_cons_succ]
          refine wpAnyU_take (i := 25) (v := ?_) (by decide) rfl (by kernel_rfl) (by kernel_rfl) (by kernel_rfl) (fun _ _ _ h => h) (Steady.plain (by kernel_rfl) ?_) ?_
          rotate_left
          · intro b W hS
            have z0 := kept y0 hS
            have z1 := kept y1 hS
            have z2 := kept y2 hS
            have z3 := kept y3 hS
            go_simp
            first | done | with_reducible rfl
          simp only [Act.put, List.getElem_toArray, List.getElem_cons_succ, List.getElem_cons_zero, List.setIfInBounds_toArray, List.set_cons_zero, List.set_cons_succ]
          refine wpAnyU_take (i := 26) (v := ?_) (by decide) rfl (by kernel_rfl) (by kernel_rfl) (by kernel_rfl) (fun _ _ _ h => h) (Steady.plain (by kernel_rfl) ?_) ?_
          rotate_left
          · intro b W hS
            have z0 := kept y0 hS
            have z1 := kept y1 hS
            have z2 := kept y2 hS
            have z3 := kept y3 hS
            go_simp
            first | done | with_reducible rfl
          simp only [Act.put, List.getElem_toArray, List.getElem_cons_succ, List.getElem_cons_zero, List.setIfInBounds_toArray, List.set_cons_zero, List.set_cons_succ]
          refine wpAnyU_take (i := 27) (v := ?_) (by decide) rfl (by kernel_rfl) (by kernel_rfl) (by kernel_rfl) (fun _ _ _ h => h) (Steady.plain (by kernel_rfl) ?_) ?_
          rotate_left
          · intro b W hS
            have z0 := kept y0 hS
            have z1 := kept y1 hS
            have z2 := kept y2 hS
            have z3 := kept y3 hS
            go_simp
            first | done | with_reducible rfl
          simp only [Act.put, List.getElem_toArray, List.getElem_cons_succ, List.getElem_cons_zero, List.setIfInBounds_toArray, List.set_cons_zero, List.set_cons_succ]
          refine wpAnyU_take (i := 28) (v := ?_) (by decide) rfl (by kernel_rfl) (by kernel_rfl) (by kernel_rfl) (fun _ _ _ h => h) (Steady.plain (by kernel_rfl) ?_) ?_
          rotate_left
          · intro b W hS
            have z0 := kept y0 hS
            have z1 := kept y1 hS
            have z2 := kept y2 hS
            have z3 := kept y3 hS
            go_simp
            first | done | with_reducible rfl
          simp only [Act.put, List.getElem_toArray, List.getElem_cons_succ, List.getElem_cons_zero, List.setIfInBounds_toArray, List.set_cons_zero, List.set_cons_succ]
          refine wpAnyU_take (i := 29) (v := ?_) (by decide) rfl (by kernel_rfl) (by kernel_rfl) (by kernel_rfl) (fun _ _ _ h => h) (Steady.plain (by kernel_rfl) ?_) ?_
          rotate_left
          · intro b W hS
            have z0 := kept y0 hS
            have z1 := kept y1 hS
            have z2 := kept y2 hS
            have z3 := kept y3 hS
            go_simp
            first | done | with_reducible rfl
          simp only [Act.put, List.getElem_toArray, List.getElem_cons_succ, List.getElem_cons_zero, List.setIfInBounds_toArray, List.set_cons_zero, List.set_cons_succ]
          refine wpAnyU_take (i := 30) (v := ?_) (by decide) rfl (by kernel_rfl) (by kernel_rfl) (by kernel_rfl) (fun _ _ _ h => h) (Steady.plain (by kernel_rfl) ?_) ?_
          rotate_left
          · intro b W hS
            have z0 := kept y0 hS
            have z1 := kept y1 hS
            have z2 := kept y2 hS
            have z3 := kept y3 hS
            go_simp
            first | done | with_reducible rfl
          simp only [Act.put, List.getElem_toArray, List.getElem_cons_succ, List.getElem_cons_zero, List.setIfInBounds_toArray, List.set_cons_zero, List.set_cons_succ]
          refine wpAnyU_done (b := []) (by kernel_rfl) (by kernel_rfl) ?_ _
          intro w5 hS5
          go_wp2_with fail
          go_ret
          exact ⟨by rw [HE.out]; rfl, chainP HBE.out hS5⟩
        · -- true true
          go_wp2_with fail
          clear z5
          obtain ⟨X1, hX1, hl1, s1⟩ := sumU Tryz.prog [115, 105, 116, 101, 32] s.host (by first | omega | (simp only [List.length_cons, List.length_nil]; omega))
          try simp only [List.length_cons, List.length_nil] at hl1
          obtain ⟨X2, hX2, hl2, s2⟩ := sumU Tryz.prog X1 [32, 123, 10] (by first | omega | (simp only [List.length_cons, List.length_nil]; omega))
          try simp only [List.length_cons, List.length_nil] at hl2
          obtain ⟨X3, hX3, hl3, s3⟩ := sumU Tryz.prog X2 [32, 32, 111, 114, 105, 103, 105, 110, 32] (by first | omega | (simp only [List.length_cons, List.length_nil]; omega))
          try simp only [List.length_cons, List.length_nil] at hl3
          obtain ⟨X4, hX4, hl4, s4⟩ := sumU Tryz.prog X3 D1 (by first | omega | (simp only [List.length_cons, List.length_nil]; omega))
          try simp only [List.length_cons, List.length_nil] at hl4
          obtain ⟨X5, hX5, hl5, s5⟩ := sumU Tryz.prog X4 [59, 10] (by first | omega | (simp only [List.length_cons, List.length_nil]; omega))
          try simp only [List.length_cons, List.length_nil] at hl5
          obtain ⟨X6, hX6, hl6, s6⟩ := sumU Tryz.prog X5 [32, 32, 116, 116, 108, 32] (by first | omega | (simp only [List.length_cons, List.length_nil]; omega))
          try simp only [List.length_cons, List.length_nil] at hl6
          obtain ⟨X7, hX7, hl7, s7⟩ := sumU Tryz.prog X6 D2 (by first | omega | (simp only [List.length_cons, List.length_nil]; omega))
          try simp only [List.length_cons, List.length_nil] at hl7
          obtain ⟨X8, hX8, hl8, s8⟩ := sumU Tryz.prog X7 [32] (by first | omega | (simp only [List.length_cons, List.length_nil]; omega))
          try simp only [List.length_cons, List.length_nil] at hl8
          obtain ⟨X9, hX9, hl9, s9⟩ := sumU Tryz.prog X8 D3 (by first | omega | (simp only [List.length_cons, List.length_nil]; omega))
          try simp only [List.length_cons, List.length_nil] at hl9
          obtain ⟨X10, hX10, hl10, s10⟩ := sumU Tryz.prog X9 [59, 10] (by first | omega | (simp only [List.length_cons, List.length_nil]; omega))
          try simp only [List.length_cons, List.length_nil] at hl10
          obtain ⟨X11, hX11, hl11, s11⟩ := sumU Tryz.prog X10 [32, 32, 107, 101, 121, 32] (by first | omega | (simp only [List.length_cons, List.length_nil]; omega))
          try simp only [List.length_cons, List.length_nil] at hl11
          obtain ⟨X12, hX12, hl12, s12⟩ := sumU Tryz.prog X11 KK (by first | omega | (simp only [List.length_cons, List.length_nil]; omega))
          try simp only [List.length_cons, List.length_nil] at hl12
          obtain ⟨X13, hX13, hl13, s13⟩ := sumU Tryz.prog X12 [59, 10] (by first | omega | (simp only [List.length_cons, List.length_nil]; omega))
          try simp only [List.length_cons, List.length_nil] at hl13
          obtain ⟨X14, hX14, hl14, s14⟩ := sumU Tryz.prog X13 [32, 32, 107, 101, 101, 112, 32] (by first | omega | (simp only [List.length_cons, List.length_nil]; omega))
          try simp only [List.length_cons, List.length_nil] at hl14
          obtain ⟨X15, hX15, hl15, s15⟩ := sumU Tryz.prog X14 [111, 110] (by first | omega | (simp only [List.length_cons, List.length_nil]; omega))
          try simp only [List.length_cons, List.length_nil] at hl15
          obtain ⟨X16, hX16, hl16, s16⟩ := sumU Tryz.prog X15 [59, 10] (by first | omega | (simp only [List.length_cons, List.length_nil]; omega))
          try simp only [List.length_cons, List.length_nil] at hl16
          obtain ⟨X17, hX17, hl17, s17⟩ := sumU Tryz.prog X16 [125, 10] (by first | omega | (simp only [List.length_cons, List.length_nil]; omega))
          try simp only [List.length_cons, List.length_nil] at hl17
          have HE := hid (show plainS s = X17 from by
            rw [HP.out, HKK.out, show onW true = [111, 110] from rfl, hX17, hX16, hX15, hX14, hX13, hX12, hX11, hX10, hX9, hX8, hX7, hX6, hX5, hX4, hX3, hX2, hX1, hD1, hD2, hD3])
          clear hX1 hl1 hX2 hl2 hX3 hl3 hX4 hl4 hX5 hl5 hX6 hl6 hX7 hl7 hX8 hl8 hX9 hl9 hX10 hl10 hX11 hl11 hX12 hl12 hX13 hl13 hX14 hl14 hX15 hl15 hX16 hl16 hX17 hl17
          refine wp_region_U [] (by kernel_rfl) (fun _ W => Below wr.heap.size wr W) (b := []) (by kernel_rfl) ((Below.refl _ _).drew) ?_
          refine wpAnyU_take (i := 0) (v := ?_) (by decide) rfl (by kernel_rfl) (by kernel_rfl) (by kernel_rfl) (fun _ _ _ h => h) (Steady.plain (by kernel_rfl) ?_) ?_
          rotate_left
          · intro b W hS
            have z0 := kept y0 hS
            have z1 := kept y1 hS
            have z2 := kept y2 hS
            have z3 := kept y3 hS
            go_simp
            first | done | with_reducible rfl
          simp only [Act.put, List.getElem_toArray, List.getElem_cons_succ, List.getElem_cons_zero, List.setIfInBounds_toArray, List.set_cons_zero, List.set_cons_succ]
          refine wpAnyU_take (i := 1) (v := ?_) (by decide) rfl (by kernel_rfl) (by kernel_rfl) (by kernel_rfl) (fun _ _ _ h => h) (Steady.plain (by kernel_rfl) ?_) ?_
          rotate_left
          · intro b W hS
            have z0 := kept y0 hS
            have z1 := kept y1 hS
            have z2 := kept y2 hS
            have z3 := kept y3 hS
            go_simp
            first | done | with_reducible rfl
          simp only [Act.put, List.getElem_toArray, List.getElem_cons_succ, List.getElem_cons_zero, List.setIfInBounds_toArray, List.set_cons_zero, List.set_cons_succ]
          refine wpAnyU_take (i := 2) (v := ?_) (by decide) rfl (by kernel_rfl) (by kernel_rfl) (by kernel_rfl) (fun _ _ _ h => h) (Steady.plain (by kernel_rfl) ?_) ?_
          rotate_left
          · intro b W hS
            have z0 := kept y0 hS
            have z1 := kept y1 hS
            have z2 := kept y2 hS
            have z3 := kept y3 hS
            go_simp
            first | done | with_reducible rfl
          simp only [Act.put, List.getElem_toArray, List.getElem_cons_succ, List.getElem_cons_zero, List.setIfInBounds_toArray, List.set_cons_zero, List.set_cons_succ]
          refine wpAnyU_take (i := 3) (v := ?_) (by decide) rfl (by kernel_rfl) (by kernel_rfl) (by kernel_rfl) (fun _ _ _ h => h) (Steady.plain (by kernel_rfl) ?_) ?_
          rotate_left
          · intro b W hS
            have z0 := kept y0 hS
            have z1 := kept y1 hS
            have z2 := kept y2 hS
            have z3 := kept y3 hS
            go_simp
            first | done | with_reducible rfl
          simp only [Act.put, List.getElem_toArray, List.getElem_cons_succ, List.getElem_cons_zero, List.setIfInBounds_toArray, List.set_cons_zero, List.set_cons_succ]
          refine wpAnyU_take (i := 4) (v := ?_) (by decide) rfl (by kernel_rfl) (by kernel_rfl) (by kernel_rfl) (fun _ _ _ h => h) (Steady.plain (by kernel_rfl) ?_) ?_
          rotate_left
          · intro b W hS
            have z0 := kept y0 hS
            have z1 := kept y1 hS
            have z2 := kept y2 hS
            have z3 := kept y3 hS
            go_simp
            first | done | with_reducible rfl
          simp only [Act.put, List.getElem_toArray, List.getElem_cons_succ, List.getElem_cons_zero, List.setIfInBounds_toArray, List.set_cons_zero, List.set_cons_succ]
          refine wpAnyU_take (i := 5) (v := ?_) (by decide) rfl (by kernel_rfl) (by kernel_rfl) (by kernel_rfl) (fun _ _ _ h => h) (Steady.plain (by kernel_rfl) ?_) ?_
          rotate_left
          · intro b W hS
            have z0 := kept y0 hS
            have z1 := kept y1 hS
            have z2 := kept y2 hS
            have z3 := kept y3 hS
            go_simp
            first | done | with_reducible rfl
          simp only [Act.put, List.getElem_toArray, List.getElem_cons_succ, List.getElem_cons_zero, List.setIfInBounds_toArray, List.set_cons_zero, List.set_cons_succ]
          refine wpAnyU_take (i := 6) (v := ?_) (by decide) rfl (by kernel_rfl) (by kernel_rfl) (by kernel_rfl) (fun _ _ _ h => h) (Steady.plain (by kernel_rfl) ?_) ?_
          rotate_left
          · intro b W hS
            have z0 := kept y0 hS
            have z1 := kept y1 hS
            have z2 := kept y2 hS
            have z3 := kept y3 hS
            go_simp
            first | done | with_reducible rfl
          simp only [Act.put, List.getElem_toArray, List.getElem_cons_succ, List.getElem_cons_zero, List.setIfInBounds_toArray, List.set_cons_zero, List.set_cons_succ]
          refine wpAnyU_take (i := 7) (v := strV D1) (by decide) rfl (by kernel_rfl) (by kernel_rfl) (by kernel_rfl) (fun _ _ _ h => h) (Steady.call (f := 78) (args := #[.int .i64 s.origin]) (by kernel_rfl) (fun _ => by kernel_rfl) ?_) ?_
          · intro b W hS
            refine (CI1.out W hS).mono ?_
            rintro e w' ⟨he, hb⟩
            exact ⟨he, chainP hS hb⟩
          simp only [Act.put, List.getElem_toArray, List.getElem_cons_succ, List.getElem_cons_zero, List.setIfInBounds_toArray, List.set_cons_zero, List.set_cons_succ]
          refine wpAnyU_take (i := 8) (v := ?_) (by decide) rfl (by kernel_rfl) (by kernel_rfl) (by kernel_rfl) (fun _ _ _ h => h) (Steady.plain (by kernel_rfl) ?_) ?_
          rotate_left
          · intro b W hS
            have z0 := kept y0 hS
            have z1 := kept y1 hS
            have z2 := kept y2 hS
            have z3 := kept y3 hS
            go_simp
            first | done | with_reducible rfl
          simp only [Act.put, List.getElem_toArray, List.getElem_cons_succ, List.getElem_cons_zero, List.setIfInBounds_toArray, List.set_cons_zero, List.set_cons_succ]
          refine wpAnyU_take (i := 9) (v := ?_) (by decide) rfl (by kernel_rfl) (by kernel_rfl) (by kernel_rfl) (fun _ _ _ h => h) (Steady.plain (by kernel_rfl) ?_) ?_
          rotate_left
          · intro b W hS
            have z0 := kept y0 hS
            have z1 := kept y1 hS
            have z2 := kept y2 hS
            have z3 := kept y3 hS
            go_simp
            first | done | with_reducible rfl
          simp only [Act.put, List.getElem_toArray, List.getElem_cons_succ, List.getElem_cons_zero, List.setIfInBounds_toArray, List.set_cons_zero, List.set_cons_succ]
          refine wpAnyU_take (i := 10) (v := ?_) (by decide) rfl (by kernel_rfl) (by kernel_rfl) (by kernel_rfl) (fun _ _ _ h => h) (Steady.plain (by kernel_rfl) ?_) ?_
          rotate_left
          · intro b W hS
            have z0 := kept y0 hS
            have z1 := kept y1 hS
            have z2 := kept y2 hS
            have z3 := kept y3 hS
            go_simp
            first | done | with_reducible rfl
          simp only [Act.put, List.getElem_toArray, List.getElem_cons_succ, List.getElem_cons_zero, List.setIfInBounds_toArray, List.set_cons_zero, List.set_cons_succ]
          refine wpAnyU_take (i := 11) (v := ?_) (by decide) rfl (by kernel_rfl) (by kernel_rfl) (by kernel_rfl) (fun _ _ _ h => h) (Steady.plain (by kernel_rfl) ?_) ?_
          rotate_left
          · intro b W hS
            have z0 := kept y0 hS
            have z1 := kept y1 hS
            have z2 := kept y2 hS
            have z3 := kept y3 hS
            go_simp
            first | done | with_reducible rfl
          simp only [Act.put, List.getElem_toArray, List.getElem_cons_succ, List.getElem_cons_zero, List.setIfInBounds_toArray, List.set_cons_zero, List.set_cons_succ]
          refine wpAnyU_take (i := 12) (v := ?_) (by decide) rfl (by kernel_rfl) (by kernel_rfl) (by kernel_rfl) (fun _ _ _ h => h) (Steady.plain (by kernel_rfl) ?_) ?_
          rotate_left
          · intro b W hS
            have z0 := kept y0 hS
            have z1 := kept y1 hS
            have z2 := kept y2 hS
            have z3 := kept y3 hS
            go_simp
            first | done | with_reducible rfl
          simp only [Act.put, List.getElem_toArray, List.getElem_cons_succ, List.getElem_cons_zero, List.setIfInBounds_toArray, List.set_cons_zero, List.set_cons_succ]
          refine wpAnyU_take (i := 13) (v := strV D2) (by decide) rfl (by kernel_rfl) (by kernel_rfl) (by kernel_rfl) (fun _ _ _ h => h) (Steady.call (f := 78) (args := #[.int .i64 s.min]) (by kernel_rfl) (fun _ => by kernel_rfl) ?_) ?_
          · intro b W hS
            refine (CI2.out W hS).mono ?_
            rintro e w' ⟨he, hb⟩
            exact ⟨he, chainP hS hb⟩
          simp only [Act.put, List.getElem_toArray, List.getElem_cons_succ, List.getElem_cons_zero, List.setIfInBounds_toArray, List.set_cons_zero, List.set_cons_succ]
          refine wpAnyU_take (i := 14) (v := ?_) (by decide) rfl (by kernel_rfl) (by kernel_rfl) (by kernel_rfl) (fun _ _ _ h => h) (Steady.plain (by kernel_rfl) ?_) ?_
          rotate_left
          · intro b W hS
            have z0 := kept y0 hS
            have z1 := kept y1 hS
            have z2 := kept y2 hS
            have z3 := kept y3 hS
            go_simp
            first | done | with_reducible rfl
          simp only [Act.put, List.getElem_toArray, List.getElem_cons_succ, List.getElem_cons_zero, List.setIfInBounds_toArray, List.set_cons_zero, List.set_cons_succ]
          refine wpAnyU_take (i := 15) (v := ?_) (by decide) rfl (by kernel_rfl) (by kernel_rfl) (by kernel_rfl) (fun _ _ _ h => h) (Steady.plain (by kernel_rfl) ?_) ?_
          rotate_left
          · intro b W hS
            have z0 := kept y0 hS
            have z1 := kept y1 hS
            have z2 := kept y2 hS
            have z3 := kept y3 hS
            go_simp
            first | done | with_reducible rfl
          simp only [Act.put, List.getElem_toArray, List.getElem_cons_succ, List.getElem_cons_zero, List.setIfInBounds_toArray, List.set_cons_zero, List.set_cons_succ]
          refine wpAnyU_take (i := 16) (v := ?_) (by decide) rfl (by kernel_rfl) (by kernel_rfl) (by kernel_rfl) (fun _ _ _ h => h) (Steady.plain (by kernel_rfl) ?_) ?_
          rotate_left
          · intro b W hS
            have z0 := kept y0 hS
            have z1 := kept y1 hS
            have z2 := kept y2 hS
            have z3 := kept y3 hS
            go_simp
            first | done | with_reducible rfl
          simp only [Act.put, List.getElem_toArray, List.getElem_cons_succ, List.getElem_cons_zero, List.setIfInBounds_toArray, List.set_cons_zero, List.set_cons_succ]
          refine wpAnyU_take (i := 17) (v := ?_) (by decide) rfl (by kernel_rfl) (by kernel_rfl) (by kernel_rfl) (fun _ _ _ h => h) (Steady.plain (by kernel_rfl) ?_) ?_
          rotate_left
          · intro b W hS
            have z0 := kept y0 hS
            have z1 := kept y1 hS
            have z2 := kept y2 hS
            have z3 := kept y3 hS
            go_simp
            first | done | with_reducible rfl
          simp only [Act.put, List.getElem_toArray, List.getElem_cons_succ, List.getElem_cons_zero, List.setIfInBounds_toArray, List.set_cons_zero, List.set_cons_succ]
          refine wpAnyU_take (i := 18) (v := strV D3) (by decide) rfl (by kernel_rfl) (by kernel_rfl) (by kernel_rfl) (fun _ _ _ h => h) (Steady.call (f := 78) (args := #[.int .i64 s.max]) (by kernel_rfl) (fun _ => by kernel_rfl) ?_) ?_
          · intro b W hS
            refine (CI3.out W hS).mono ?_
            rintro e w' ⟨he, hb⟩
            exact ⟨he, chainP hS hb⟩
          simp only [Act.put, List.getElem_toArray, List.getElem_cons_succ, List.getElem_cons_zero, List.setIfInBounds_toArray, List.set_cons_zero, List.set_cons_succ]
          refine wpAnyU_take (i := 19) (v := ?_) (by decide) rfl (by kernel_rfl) (by kernel_rfl) (by kernel_rfl) (fun _ _ _ h => h) (Steady.plain (by kernel_rfl) ?_) ?_
          rotate_left
          · intro b W hS
            have z0 := kept y0 hS
            have z1 := kept y1 hS
            have z2 := kept y2 hS
            have z3 := kept y3 hS
            go_simp
            first | done | with_reducible rfl
          simp only [Act.put, List.getElem_toArray, List.getElem_cons_succ, List.getElem_cons_zero, List.setIfInBounds_toArray, List.set_cons_zero, List.set_cons_succ]
          refine wpAnyU_take (i := 20) (v := ?_) (by decide) rfl (by kernel_rfl) (by kernel_rfl) (by kernel_rfl) (fun _ _ _ h => h) (Steady.plain (by kernel_rfl) ?_) ?_
          rotate_left
          · intro b W hS
            have z0 := kept y0 hS
            have z1 := kept y1 hS
            have z2 := kept y2 hS
            have z3 := kept y3 hS
            go_simp
            first | done | with_reducible rfl
          simp only [Act.put, List.getElem_toArray, List.getElem_cons_succ, List.getElem_cons_zero, List.setIfInBounds_toArray, List.set_cons_zero, List.set_cons_succ]
          refine wpAnyU_take (i := 21) (v := ?_) (by decide) rfl (by kernel_rfl) (by kernel_rfl) (by kernel_rfl) (fun _ _ _ h => h) (Steady.plain (by kernel_rfl) ?_) ?_
          rotate_left
          · intro b W hS
            have z0 := kept y0 hS
            have z1 := kept y1 hS
            have z2 := kept y2 hS
            have z3 := kept y3 hS
            go_simp
            first | done | with_reducible rfl
          simp only [Act.put, List.getElem_toArray, List.getElem_cons_succ, List.getElem_cons_zero, List.setIfInBounds_toArray, List.set_cons_zero, List.set_cons_succ]
          refine wpAnyU_take (i := 22) (v := ?_) (by decide) rfl (by kernel_rfl) (by kernel_rfl) (by kernel_rfl) (fun _ _ _ h => h) (Steady.plain (by kernel_rfl) ?_) ?_
          rotate_left
          · intro b W hS
            have z0 := kept y0 hS
            have z1 := kept y1 hS
            have z2 := kept y2 hS
            have z3 := kept y3 hS
            go_simp
            first | done | with_reducible rfl
          simp only [Act.put, List.getElem_toArray, List.getElem_cons_succ, List.getElem_cons_zero, List.setIfInBounds_toArray, List.set_cons_zero, List.set_cons_succ]
          refine wpAnyU_take (i := 23) (v := ?_) (by decide) rfl (by kernel_rfl) (by kernel_rfl) (by kernel_rfl) (fun _ _ _ h => h) (Steady.plain (by kernel_rfl) ?_) ?_
          rotate_left
          · intro b W hS
            have z0 := kept y0 hS
            have z1 := kept y1 hS
            have z2 := kept y2 hS
            have z3 := kept y3 hS
            go_simp
            first | done | with_reducible rfl
          simp only [Act.put, List.getElem_toArray, List.getElem_cons_succ, List.getElem_cons_zero, List.setIfInBounds_toArray, List.set_cons_zero, List.set_cons_succ]
          refine wpAnyU_take (i := 24) (v := ?_) (by decide) rfl (by kernel_rfl) (by kernel_rfl) (by kernel_rfl) (fun _ _ _ h => h) (Steady.plain (by kernel_rfl) ?_) ?_
          rotate_left
          · intro b W hS
            have z0 := kept y0 hS
            have z1 := kept y1 hS
            have z2 := kept y2 hS
            have z3 := kept y3 hS
            go_simp
            first | done | with_reducible rfl
          simp only [Act.put, List.getElem_toArray, List.getElem_cons_succ, List.getElem_cons_zero, List.setIfInBounds_toArray, List.set_cons_zero, List.set_cons_succ]
          refine wpAnyU_take (i := 25) (v := ?_) (by decide) rfl (by kernel_rfl) (by kernel_rfl) (by kernel_rfl) (fun _ _ _ h => h) (Steady.plain (by kernel_rfl) ?_) ?_
          rotate_left
          · intro b W hS
            have z0 := kept y0 hS
            have z1 := kept y1 hS
            have z2 := kept y2 hS
            have z3 := kept y3 hS
            go_simp
            first | done | with_reducible rfl
          simp only [Act.put, List.getElem_toArray, List.getElem_cons_succ, List.getElem_cons_zero, List.setIfInBounds_toArray, List.set_cons_zero, List.set_cons_succ]
          refine wpAnyU_take (i := 26) (v := ?_) (by decide) rfl (by kernel_rfl) (by kernel_rfl) (by kernel_rfl) (fun _ _ _ h => h) (Steady.plain (by kernel_rfl) ?_) ?_
          rotate_left
          · intro b W hS
            have z0 := kept y0 hS
            have z1 := kept y1 hS
            have z2 := kept y2 hS
            have z3 := kept y3 hS
            go_simp
            first | done | with_reducible rfl
          simp only [Act.put, List.getElem_toArray, List.getElem_cons_succ, List.getElem_cons_zero, List.setIfInBounds_toArray, List.set_cons_zero, List.set_cons_succ]
          refine wpAnyU_take (i := 27) (v := ?_) (by decide) rfl (by kernel_rfl) (by kernel_rfl) (by kernel_rfl) (fun _ _ _ h => h) (Steady.plain (by kernel_rfl) ?_) ?_
          rotate_left
          · intro b W hS
            have z0 := kept y0 hS
            have z1 := kept y1 hS
            have z2 := kept y2 hS
            have z3 := kept y3 hS
            go_simp
            first | done | with_reducible rfl
          simp only [Act.put, List.getElem_toArray, List.getElem_cons_succ, List.getElem_cons_zero, List.setIfInBounds_toArray, List.set_cons_zero, List.set_cons_succ]
          refine wpAnyU_take (i := 28) (v := ?_) (by decide) rfl (by kernel_rfl) (by kernel_rfl) (by kernel_rfl) (fun _ _ _ h => h) (Steady.plain (by kernel_rfl) ?_) ?_
          rotate_left
          · intro b W hS
            have z0 := kept y0 hS
            have z1 := kept y1 hS
            have z2 := kept y2 hS
            have z3 := kept y3 hS
            go_simp
            first | done | with_reducible rfl
          simp only [Act.put, List.getElem_toArray, List.getElem_cons_succ, List.getElem_cons_zero, List.setIfInBounds_toArray, List.set_cons_zero, List.set_cons_succ]
          refine wpAnyU_take (i := 29) (v := ?_) (by decide) rfl (by kernel_rfl) (by kernel_rfl) (by kernel_rfl) (fun _ _ _ h => h) (Steady.plain (by kernel_rfl) ?_) ?_
          rotate_left
          · intro b W hS
            have z0 := kept y0 hS
            have z1 := kept y1 hS
            have z2 := kept y2 hS
            have z3 := kept y3 hS
            go_simp
            first | done | with_reducible rfl
          simp only [Act.put, List.getElem_toArray, List.getElem_cons_succ, List.getElem_cons_zero, List.setIfInBounds_toArray, List.set_cons_zero, List.set_cons_succ]
          refine wpAnyU_take (i := 30) (v := ?_) (by decide) rfl (by kernel_rfl) (by kernel_rfl) (by kernel_rfl) (fun _ _ _ h => h) (Steady.plain (by kernel_rfl) ?_) ?_
          rotate_left
          · intro b W hS
            have z0 := kept y0 hS
            have z1 := kept y1 hS
            have z2 := kept y2 hS
            have z3 := kept y3 hS
            go_simp
            first | done | with_reducible rfl
          simp only [Act.put, List.getElem_toArray, List.getElem_cons_succ, List.getElem_cons_zero, List.setIfInBounds_toArray, List.set_cons_zero, List.set_cons_succ]
          refine wpAnyU_done (b := []) (by kernel_rfl) (by kernel_rfl) ?_ _
          intro w5 hS5
          go_wp2_with fail
          go_ret
          exact ⟨by rw [HE.out]; rfl, chainP HBE.out hS5⟩
end Go.Proofs.YtffenndchmcncaaGreatDoor
namespace Go.Pantry
open Go.RowKit
theorem plainC_take {C : List SiteZ} {k : Nat} {s : SiteZ} (h : C[k]? = some s) : plainC (C.take (k + 1)) = plainC (C.take k) ++ plainS s := by
  rw [List.take_add_one, h]
  unfold plainC
  rw [List.flatMap_append]
  simp
theorem plainS_len {s : SiteZ} (h1 : s.host.length ≤ 100000) (hh : ∀ y ∈ s.heads, y.length ≤ 100000) (hl : s.heads.length ≤ 4) : (plainS s).length ≤ 1000000 := by
  have e1 := keyT_len s.query s.heads 100000 hh
  have e2 : (100000 + 8) * s.heads.length ≤ 100008 * 4 := Nat.mul_le_mul (by decide) hl
  have d1 : (decZ s.origin).length ≤ 11 := digF_len 11 _
  have d2 : (decZ s.min).length ≤ 11 := digF_len 11 _
  have d3 : (decZ s.max).length ≤ 11 := digF_len 11 _
  have d4 : (onW s.keep).length ≤ 3 := by cases s.keep <;> decide
  rw [plainS_is]
  simp only [List.length_append, List.length_cons, List.length_nil]
  omega
end Go.Pantry
namespace Go.Proofs.YtffenndchmcncaaGreatDoor
open Go.RowKit Go.Pantry

set_option maxRecDepth 8000 in
theorem show_any (v : Value) (L : List (SiteZ × Value)) (w : World) (h : ReadsP w v L) (hf : Few L) (hm : MaxOk w) (ht : Tab10 w) :
    Calls Tryz.prog 20 #[.agg #[v]] w fun e w' =>
      e = .returned (if rightC (L.map (·.1)) then .tuple #[strV (plainC (L.map (·.1))), .int .i64 0] else .tuple #[strV [], .int .i64 10]) ∧ Below w.heap.size w w' := by
  obtain ⟨n, hn⟩ : ∃ n, L.length = n := ⟨_, rfl⟩
  obtain ⟨ao, c, e1, f1⟩ := h.form
  rw [hn] at e1
  subst e1
  obtain ⟨W, hW⟩ : ∃ W, w.alloc (.cells #[.slice ao n c] 25) = W := ⟨_, rfl⟩
  have hbW : Below w.heap.size w W := by rw [← hW]; exact below_alloc _ _
  have hrow : rowIs W w.heap.size #[.slice ao n c] 25 := by rw [← hW]; exact rowIs_new _ _ _
  have cr := configRight_any (.slice ao n c) L W (h.below hbW) hf (hm.below hbW) (ht.below hbW)
  have HR := hid h
  have HF := hid hf
  have HL := hid hn
  have HC := hid (And.intro hbW (And.intro hrow (ht.below hbW)))
  obtain ⟨q, hq⟩ : ∃ q, rightC (L.map (·.1)) = q := ⟨_, rfl⟩
  rw [hq] at cr ⊢
  have CR := hid cr
  cases q
  · simp only [Bool.false_eq_true, if_false]
    clear h hf hn f1 hm ht hq cr hbW
    go_enter Tryz.func20, Tryz.ntmps20
    go_wp2_with (refine wpList_load_row rfl 25 _ rfl w.heap.size rfl 25 _ (0, 0) _ hrow Tryz.underlying25 rfl infoCfg ?_)
    refine CR.out.mono ?_
    rintro e w1 ⟨rfl, hb1⟩
    go_wp2_with fail
    go_ret2
    exact ⟨rfl, chainP HC.out.1 hb1⟩
  obtain ⟨h8, hr, -⟩ := rightC_iff.1 hq
  rw [List.length_map, hn] at h8
  have HRT := hid hr
  simp only [if_true]
  have y0 := hrow.cell 0
  clear h hf hn f1 hm ht hq cr hbW hr
  go_enter Tryz.func20, Tryz.ntmps20
  go_wp2_with (refine wpList_load_row rfl 25 _ rfl w.heap.size rfl 25 _ (0, 0) _ hrow Tryz.underlying25 rfl infoCfg ?_)
  refine CR.out.mono ?_
  rintro e w1 ⟨rfl, hb1⟩
  replace y0 := kept y0 hb1
  have HBW := hid (chainP HC.out.1 hb1)
  have HT1 := hid (HC.out.2.2.below hb1)
  clear hrow hb1 hW
  go_wp2_with fail
  clear y0
  go_loopw [4, 13] (fun t z wr => ∃ (k : Nat), z = .int .i64 (k : Int) ∧ k ≤ n ∧ t = strV (plainC ((L.map (·.1)).take k)) ∧ (plainC ((L.map (·.1)).take k)).length ≤ k * 1000000 ∧ Below w1.heap.size w1 wr) (fun _ z _ => n - (intOf z).toNat)
  case atStart => exact ⟨0, rfl, Nat.zero_le _, rfl, Nat.le_refl _, Below.refl _ _⟩
  case round =>
    obtain ⟨k, rfl, hk, rfl, hkl, hb⟩ := hrel
    have hbr := chainP HBW.out hb
    by_cases hlt : k < n
    · obtain ⟨⟨s, hv⟩, hx⟩ : ∃ x, L[k]? = some x := by
        have := HL.out
        exact ⟨L[k]'(by omega), List.getElem?_eq_getElem (by omega)⟩
      have hmem := List.mem_of_getElem? hx
      have hrd := (HR.out.heads _ hmem).below hbr
      obtain ⟨ah, ch, hfv⟩ := hrd.form
      simp only at hfv hrd
      obtain ⟨nh, hnh⟩ : ∃ nh, (s.heads.map strV).length = nh := ⟨_, rfl⟩
      rw [hnh] at hfv
      subst hfv
      obtain ⟨b1, o1, g1, i1⟩ := (HR.out.below hbr).at_ hx
      subst g1
      have hkI : (k : Int) < (n : Int) := by omega
      have hk0 : (0 : Int) ≤ (k : Int) := by omega
      have hkw : IntKind.i64.wrap ((k : Int) + 1) = (k : Int) + 1 := IntWalk.i64_in _ (by omega)
      obtain ⟨p1, hp1⟩ : ∃ p, o1 + k * 7 = p := ⟨_, rfl⟩
      rw [hp1] at i1
      have y0 := i1 0 _ rfl
      have y1 := i1 1 _ rfl
      have y2 := i1 2 _ rfl
      have y3 := i1 3 _ rfl
      have y4 := i1 4 _ rfl
      have y5 := i1 5 _ rfl
      have y6 := i1 6 _ rfl
      rw [Nat.add_zero] at y0
      obtain ⟨W1, hW1⟩ : ∃ W, wr.alloc (.cells (rowZ (.slice ah nh ch) s) 42) = W := ⟨_, rfl⟩
      have hb1 : Below wr.heap.size wr W1 := by rw [← hW1]; exact below_alloc _ _
      have hr1 : rowIs W1 wr.heap.size (rowZ (.slice ah nh ch) s) 42 := by rw [← hW1]; exact rowIs_new _ _ _
      have hx2 : (L.map (·.1))[k]? = some s := by rw [List.getElem?_map, hx]; rfl
      obtain ⟨_, ⟨ro1, ro2⟩, ⟨rm1, rm2, rm3⟩, rh⟩ := rightZ_iff.1 (HRT.out s (List.mem_of_getElem? hx2))
      have hh4 := (headsB_iff.1 rh).1
      have cs := plain_any (.slice ah nh ch) s W1 (hrd.below hb1) (HF.out.host _ hmem) hh4 (HF.out.texts _ hmem) ⟨by omega, ro2⟩ ⟨rm1, by omega⟩ ⟨by omega, rm3⟩ (HT1.out.below (chainP hb hb1))
      have hpl := plainS_len (HF.out.host _ hmem) (HF.out.texts _ hmem) hh4
      have CS := hid cs
      have HPT := hid (plainC_take hx2)
      obtain ⟨T, hT⟩ : ∃ T, plainC ((L.map (·.1)).take k) = T := ⟨_, rfl⟩
      obtain ⟨U, hU⟩ : ∃ U, plainS s = U := ⟨_, rfl⟩
      simp only at hpl
      rw [hT] at hkl HPT ⊢
      rw [hU] at hpl HPT CS
      obtain ⟨X1, hX1, hl1, s1⟩ := sumU Tryz.prog T U (by omega)
      rw [← hX1] at HPT
      have HX := hid (And.intro (chainP hb hb1) (show X1.length ≤ (k + 1) * 1000000 by rw [hl1]; omega))
      clear hb hx i1 hnh hrd hmem cs hb1 hx2 ro1 ro2 rm1 rm2 rm3 rh hh4 hpl hkl hT hU hX1 hl1 hbr
      go_wp2_with (refine wpList_load_row rfl 42 _ rfl wr.heap.size rfl 42 _ (0, 0) _ hr1 Tryz.underlying42 rfl infoSite ?_)
      refine CS.out.mono ?_
      rintro e w2 ⟨rfl, hb2⟩
      have HX2 := hid (chainP HX.out.1 hb2)
      clear hr1 y0 y1 y2 y3 y4 y5 y6 hW1 hb2
      go_wp2_with fail
      go_roundw
      case rel => exact ⟨k + 1, by go_num, hlt, by rw [HPT.out], by rw [HPT.out]; exact HX.out.2, HX2.out⟩
      case measure => simp [intOf]; omega
    · have e0 : (L.map (·.1)).take k = L.map (·.1) := List.take_of_length_le (by have := HL.out; rw [List.length_map]; omega)
      have HBR := hid hbr
      rw [e0]
      clear hb hbr hkl e0
      go_wp2_with fail
      go_ret2
      exact ⟨rfl, HBR.out⟩
end Go.Proofs.YtffenndchmcncaaGreatDoor
