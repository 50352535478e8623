/-
  The document's answers of layer 9: digits, Show of a config.
-/
import Derived.Test.YtffenndchmcncaaGreatDoorRef8L
import Derived.Test.YtffenndchmcncaaGreatDoorConfU
namespace Go.Pantry
open Go.RowKit
/-- a site's text up to its key's first word -/
def preT (s : SiteZ) : List UInt8 := (((((((([115, 105, 116, 101, 32] ++ s.host) ++ [32, 123, 10, 32, 32, 111, 114, 105, 103, 105, 110, 32]) ++ decZ s.origin) ++ [59, 10, 32, 32, 116, 116, 108, 32]) ++ decZ s.min) ++ [32]) ++ decZ s.max) ++ [59, 10, 32, 32, 107, 101, 121, 32, 112, 97, 116, 104])
/-- what stands behind, up to the end of the headers -/
def restT (b : Bool) (hs : List (List UInt8)) : List UInt8 := (if b then [32, 113, 117, 101, 114, 121] else []) ++ hs.flatMap fun h => [32, 104, 101, 97, 100, 101, 114, 32] ++ h
def endT (b : Bool) : List UInt8 := if b then [59, 10, 32, 32, 107, 101, 101, 112, 32, 111, 110, 59, 10, 125, 10] else [59, 10, 32, 32, 107, 101, 101, 112, 32, 111, 102, 102, 59, 10, 125, 10]
theorem restT_snoc (b : Bool) (hs : List (List UInt8)) (h : List UInt8) : restT b (hs ++ [h]) = restT b hs ++ ([32, 104, 101, 97, 100, 101, 114, 32] ++ h) := by
  unfold restT
  rw [List.flatMap_append, List.flatMap_singleton, List.append_assoc]
theorem restT_len (b : Bool) (hs : List (List UInt8)) (M : Nat) (h : ∀ x ∈ hs, x.length ≤ M) : (restT b hs).length ≤ 10 + (M + 8) * hs.length := by
  have h1 := keyT_len b hs M h
  unfold keyT at h1
  unfold restT
  rw [List.length_append] at h1 ⊢
  cases b <;> simp [wPath] at h1 ⊢ <;> omega
theorem plainS_parts (s : SiteZ) : plainS s = preT s ++ (restT s.query s.heads ++ endT s.keep) := by
  unfold plainS plainR preT restT endT
  cases s.query <;> cases s.keep <;> simp only [queryT, headsT_flat, wSite, wOrigin, wTtl, wKey, wKeep, wPath, wQuery, onW, wOn, wOff, List.append_assoc, List.cons_append, List.nil_append, if_true, if_false, Bool.false_eq_true]
end Go.Pantry
namespace Go.Proofs.YtffenndchmcncaaGreatDoor
open Go.RowKit Go.Pantry Go.Sort

set_option maxRecDepth 4000 in
theorem refDigits9_any (f : Nat) : ∀ (n : Nat) (z : Int) (w : World), z = (n : Int) → n < 10 ^ (f + 1) → f ≤ 17 →
    Calls Tryz.prog 53 #[.int .i64 z] w fun e w' => e = .returned (strV (digF (f + 1) n)) ∧ Below w.heap.size w w' := by
  induction f with
  | zero =>
    intro n z w hz h _
    subst hz
    simp at h
    have hcv := run_one_byte (P := Tryz.prog) 123 9 5 Tryz.underlying123 Tryz.underlying5 Tryz.underlying9 (w.alloc (.cells #[.int .u8 (48 + (n : Int))] 5)) w.heap.size (48 + (n : Int)) (World.cell?_alloc_at _ _ _ _ rfl)
    go_enter Tryz.func53, Tryz.ntmps53
    go_wp2
    go_ret
    refine ⟨ret_str ?_, below_alloc _ _⟩
    rw [digF, if_pos (by omega)]
  | succ f ih =>
    intro n z w hz h hf
    subst hz
    by_cases hn : n < 10
    · have hcv := run_one_byte (P := Tryz.prog) 123 9 5 Tryz.underlying123 Tryz.underlying5 Tryz.underlying9 (w.alloc (.cells #[.int .u8 (48 + (n : Int))] 5)) w.heap.size (48 + (n : Int)) (World.cell?_alloc_at _ _ _ _ rfl)
      clear h ih
      go_enter Tryz.func53, Tryz.ntmps53
      go_wp2
      go_ret
      refine ⟨ret_str ?_, below_alloc _ _⟩
      rw [digF, if_pos (by omega)]
    · have h1 : n / 10 < 10 ^ (f + 1) := by rw [Nat.pow_succ] at h; omega
      have hnb : n < 1000000000000000000 := Nat.lt_of_lt_of_le h (by
        have := Nat.pow_le_pow_right (n := 10) (by decide) (show f + 1 + 1 ≤ 18 by omega)
        simpa using this)
      have hadd := fun (W : World) (y : UInt8) => run_string_add_lists (P := Tryz.prog) W (digF (f + 1) (n / 10)) [y] (by have := digF_len (f + 1) (n / 10); omega) (by simp)
      have IH := hid ih
      have H1 := hid h1
      clear h h1 ih
      have hcv := fun (W : World) (b : Nat) (c : Int) => run_one_byte (P := Tryz.prog) 123 9 5 Tryz.underlying123 Tryz.underlying5 Tryz.underlying9 W b c
      have w1 : IntKind.i64.wrap ((n : Int) / 10) = (n : Int) / 10 := IntWalk.i64_in _ (by omega)
      go_enter Tryz.func53, Tryz.ntmps53
      go_wp2_with fail
      go_region_with (go_at_call 53; go_must (refine (IH.out (n / 10) _ _ (by omega) H1.out (by omega)).mono ?_); rintro e w' ⟨rfl, hb⟩; first | have hcc := kept_new hb rfl | skip)
      all_goals go_wp2
      all_goals go_ret
      all_goals
        refine ⟨ret_str ?_, ?_⟩
        · rw [digit_byte, show digF (f + 1 + 1) n = digF (f + 1) (n / 10) ++ [(48 + n % 10).toUInt8] from by rw [digF, if_neg hn]]
        · first
            | exact (below_of_drew hb).alloc (below_of_drew hb).size _
            | exact below_of_new hb
            | exact below_of_drew hb
theorem digitsZ_any (n : Int) (h0 : 0 ≤ n) (h1 : n ≤ 2147483648) (w : World) :
    Calls Tryz.prog 53 #[.int .i64 n] w fun e w' => e = .returned (strV (decZ n)) ∧ Below w.heap.size w w' :=
  refDigits9_any 10 n.toNat n w (Int.toNat_of_nonneg h0).symm (by omega) (by decide)
set_option maxRecDepth 8000 in
set_option maxHeartbeats 8000000 in
theorem refShow_any (v : Value) (L : List (SiteZ × Value)) (w : World) (h : ReadsP w v L) (hf : Few L) (hrt : rightC (L.map (·.1)) = true) :
    Calls Tryz.prog 22 #[.agg #[v]] w fun e w' => e = .returned (strV (plainC (L.map (·.1)))) ∧ Below w.heap.size w w' := by
  obtain ⟨n, hn⟩ : ∃ n, L.length = n := ⟨_, rfl⟩
  obtain ⟨ao, c, e1, f1⟩ := h.form
  rw [hn] at e1
  subst e1
  obtain ⟨h8, hr, -⟩ := rightC_iff.1 hrt
  rw [List.length_map, hn] at h8
  have HRT := hid hr
  obtain ⟨W, hW⟩ : ∃ W, w.alloc (.cells #[.slice ao n c] 33) = W := ⟨_, rfl⟩
  have hbW : Below w.heap.size w W := by rw [← hW]; exact below_alloc _ _
  have hrow : rowIs W w.heap.size #[.slice ao n c] 33 := by rw [← hW]; exact rowIs_new _ _ _
  have HR := hid h
  have HF := hid hf
  have HL := hid hn
  have HC := hid (And.intro hbW hrow)
  clear h hf hn f1 hrt hr hbW hrow
  go_enter Tryz.func22, Tryz.ntmps22
  go_wp2_with fail
  clear hW
  go_loopw [3, 4] (fun t z wr => ∃ (k : Nat), z = .int .i64 (k : Int) ∧ k ≤ n ∧ t = strV (plainC ((L.map (·.1)).take k)) ∧ (plainC ((L.map (·.1)).take k)).length ≤ k * 1000000 ∧ Below W.heap.size W wr) (fun _ z _ => n - (intOf z).toNat)
  case atStart => exact ⟨0, rfl, Nat.zero_le _, rfl, Nat.le_refl _, Below.refl _ _⟩
  case round =>
    obtain ⟨k, rfl, hk, rfl, hkl, hb⟩ := hrel
    have hbr := chainP HC.out.1 hb
    have j1 := kept (HC.out.2.cell 0) hb
    by_cases hlt : k < n
    · obtain ⟨⟨s, hv⟩, hx⟩ : ∃ x, L[k]? = some x := by
        have := HL.out
        exact ⟨L[k]'(by omega), List.getElem?_eq_getElem (by omega)⟩
      have hmem := List.mem_of_getElem? hx
      have hrd := (HR.out.heads _ hmem).below hbr
      have HRD := hid (HR.out.heads _ hmem)
      obtain ⟨ah, ch, hfv⟩ := hrd.form
      simp only at hfv hrd HRD
      obtain ⟨nh, hnh⟩ : ∃ nh, s.heads.length = nh := ⟨_, rfl⟩
      rw [List.length_map, hnh] at hfv
      subst hfv
      obtain ⟨b1, o1, g1, i1⟩ := (HR.out.below hbr).at_ hx
      subst g1
      have hkI : (k : Int) < (n : Int) := by omega
      have hk0 : (0 : Int) ≤ (k : Int) := by omega
      have hkw : IntKind.i64.wrap ((k : Int) + 1) = (k : Int) + 1 := IntWalk.i64_in _ (by omega)
      obtain ⟨p1, hp1⟩ : ∃ p, o1 + k * 7 = p := ⟨_, rfl⟩
      rw [hp1] at i1
      have y0 := i1 0 _ rfl
      have y1 := i1 1 _ rfl
      have y2 := i1 2 _ rfl
      have y3 := i1 3 _ rfl
      have y4 := i1 4 _ rfl
      have y5 := i1 5 _ rfl
      have y6 := i1 6 _ rfl
      rw [Nat.add_zero] at y0
      obtain ⟨W1, hW1⟩ : ∃ W, wr.alloc (.cells (rowZ (.slice ah nh ch) s) 43) = W := ⟨_, rfl⟩
      have hb1 : Below wr.heap.size wr W1 := by rw [← hW1]; exact below_alloc _ _
      have hr1 : rowIs W1 wr.heap.size (rowZ (.slice ah nh ch) s) 43 := by rw [← hW1]; exact rowIs_new _ _ _
      have hx2 : (L.map (·.1))[k]? = some s := by rw [List.getElem?_map, hx]; rfl
      obtain ⟨_, ⟨ro1, ro2⟩, ⟨rm1, rm2, rm3⟩, rh⟩ := rightZ_iff.1 (HRT.out s (List.mem_of_getElem? hx2))
      have hh4 := (headsB_iff.1 rh).1
      have hhost := HF.out.host _ hmem
      have HTX := hid (HF.out.texts _ hmem)
      have hpl := plainS_len hhost (HF.out.texts _ hmem) hh4
      have HPT := hid (plainC_take hx2)
      have HNH := hid hnh
      simp only at hpl hhost HTX
      have hrl : ∀ m, (restT s.query (s.heads.take m)).length ≤ 500000 := fun m => by
        have e1 := restT_len s.query (s.heads.take m) 100000 (fun x hx => HTX.out x (List.mem_of_mem_take hx))
        have e2 := List.length_take (i := m) (l := s.heads)
        have e3 : (100000 + 8) * (s.heads.take m).length ≤ 100008 * 4 := Nat.mul_le_mul (by decide) (by omega)
        omega
      have HTL := hid hkl
      have HUL := hid hpl
      obtain ⟨T, hT⟩ : ∃ T, plainC ((L.map (·.1)).take k) = T := ⟨_, rfl⟩
      rw [hT] at hkl HPT HTL ⊢
      obtain ⟨D1, hD1⟩ : ∃ D, decZ s.origin = D := ⟨_, rfl⟩
      obtain ⟨D2, hD2⟩ : ∃ D, decZ s.min = D := ⟨_, rfl⟩
      obtain ⟨D3, hD3⟩ : ∃ D, decZ s.max = D := ⟨_, rfl⟩
      have hd1 : D1.length ≤ 11 := by rw [← hD1]; exact digF_len 11 _
      have hd2 : D2.length ≤ 11 := by rw [← hD2]; exact digF_len 11 _
      have hd3 : D3.length ≤ 11 := by rw [← hD3]; exact digF_len 11 _
      have CI1 : Hid (∀ W, Calls Tryz.prog 53 #[.int .i64 s.origin] W fun e w' => e = .returned (strV D1) ∧ Below W.heap.size W w') := fun W => by rw [← hD1]; exact digitsZ_any _ (by omega) (by omega) W
      have CI2 : Hid (∀ W, Calls Tryz.prog 53 #[.int .i64 s.min] W fun e w' => e = .returned (strV D2) ∧ Below W.heap.size W w') := fun W => by rw [← hD2]; exact digitsZ_any _ rm1 (by omega) W
      have CI3 : Hid (∀ W, Calls Tryz.prog 53 #[.int .i64 s.max] W fun e w' => e = .returned (strV D3) ∧ Below W.heap.size W w') := fun W => by rw [← hD3]; exact digitsZ_any _ (by omega) rm3 W
      obtain ⟨X1, hX1, hl1, s1⟩ := sumU Tryz.prog [115, 105, 116, 101, 32] s.host (by first | omega | (simp only [List.length_cons, List.length_nil]; omega))
      try simp only [List.length_cons, List.length_nil] at hl1
      obtain ⟨X2, hX2, hl2, s2⟩ := sumU Tryz.prog X1 [32, 123, 10, 32, 32, 111, 114, 105, 103, 105, 110, 32] (by first | omega | (simp only [List.length_cons, List.length_nil]; omega))
      try simp only [List.length_cons, List.length_nil] at hl2
      obtain ⟨X3, hX3, hl3, s3⟩ := sumU Tryz.prog X2 D1 (by first | omega | (simp only [List.length_cons, List.length_nil]; omega))
      try simp only [List.length_cons, List.length_nil] at hl3
      obtain ⟨X4, hX4, hl4, s4⟩ := sumU Tryz.prog X3 [59, 10, 32, 32, 116, 116, 108, 32] (by first | omega | (simp only [List.length_cons, List.length_nil]; omega))
      try simp only [List.length_cons, List.length_nil] at hl4
      obtain ⟨X5, hX5, hl5, s5⟩ := sumU Tryz.prog X4 D2 (by first | omega | (simp only [List.length_cons, List.length_nil]; omega))
      try simp only [List.length_cons, List.length_nil] at hl5
      obtain ⟨X6, hX6, hl6, s6⟩ := sumU Tryz.prog X5 [32] (by first | omega | (simp only [List.length_cons, List.length_nil]; omega))
      try simp only [List.length_cons, List.length_nil] at hl6
      obtain ⟨X7, hX7, hl7, s7⟩ := sumU Tryz.prog X6 D3 (by first | omega | (simp only [List.length_cons, List.length_nil]; omega))
      try simp only [List.length_cons, List.length_nil] at hl7
      obtain ⟨X8, hX8, hl8, s8⟩ := sumU Tryz.prog X7 [59, 10, 32, 32, 107, 101, 121, 32, 112, 97, 116, 104] (by first | omega | (simp only [List.length_cons, List.length_nil]; omega))
      try simp only [List.length_cons, List.length_nil] at hl8
      have HPRE := hid (show preT s = X8 from by
        unfold preT
        rw [hX8, hX7, hX6, hX5, hX4, hX3, hX2, hX1, hD1, hD2, hD3])
      have hnh4 : nh ≤ 4 := by omega
      have hk8 : k * 1000000 ≤ 8000000 := by omega
      obtain ⟨X9, hX9, hl9, s9⟩ := sumU Tryz.prog T X8 (by omega)
      obtain ⟨X10, hX10, hl10, s10⟩ := sumU Tryz.prog X9 [32, 113, 117, 101, 114, 121] (by simp only [List.length_cons, List.length_nil]; omega)
      try simp only [List.length_cons, List.length_nil] at hl10
      have HY := hid (show X9 = T ++ preT s from by rw [hX9, HPRE.out])
      have HYL := hid (show X9.length ≤ 90000000 from by omega)
      have HSQ := hid (And.intro hX10 s10)
      have HB1 := hid (chainP hbr hb1)
      have HBB1 := hid (chainP hb hb1)
      have Z0 := hid (hr1.cell 0)
      have Z1 := hid (hr1.cell 1)
      have Z2 := hid (hr1.cell 2)
      have Z3 := hid (hr1.cell 3)
      have Z456 := hid (And.intro (hr1.cell 4) (And.intro (hr1.cell 5) (hr1.cell 6)))
      have HRL := hid hrl
      clear hX1 hl1 hX2 hl2 hX3 hl3 hX4 hl4 hX5 hl5 hX6 hl6 hX7 hl7 hX8 hl8 hX9 hl9 hX10 hl10 hb hb1 hx i1 hnh hrd hmem hx2 ro1 ro2 rm1 rm2 rm3 rh hh4 hpl hkl hT hbr hD1 hD2 hD3 hd1 hd2 hd3 hrl hhost hr1 s10 hk8
      go_wp2_with fail
      clear y0 y1 y2 y3 y4 y5 y6 j1 hW1
      refine wp_region_U [] (by kernel_rfl) (fun _ W => Below W1.heap.size W1 W) (b := []) (by kernel_rfl) ((Below.refl _ _).drew) ?_
      refine wpAnyU_take (i := 0) (v := ?_) (by decide) rfl (by kernel_rfl) (by kernel_rfl) (by kernel_rfl) (fun _ _ _ h => h) (Steady.plain (by kernel_rfl) ?_) ?_
      rotate_left
      · intro b W hS
        have z0 := kept Z0.out hS
        have z1 := kept Z1.out hS
        have z2 := kept Z2.out hS
        have z3 := kept Z3.out hS
        go_simp
        first | done | with_reducible rfl
      simp only [Act.put, List.getElem_toArray, List.getElem_cons_succ, List.getElem_cons_zero, List.setIfInBounds_toArray, List.set_cons_zero, List.set_cons_succ]
      refine wpAnyU_take (i := 1) (v := ?_) (by decide) rfl (by kernel_rfl) (by kernel_rfl) (by kernel_rfl) (fun _ _ _ h => h) (Steady.plain (by kernel_rfl) ?_) ?_
      rotate_left
      · intro b W hS
        have z0 := kept Z0.out hS
        have z1 := kept Z1.out hS
        have z2 := kept Z2.out hS
        have z3 := kept Z3.out hS
        go_simp
        first | done | with_reducible rfl
      simp only [Act.put, List.getElem_toArray, List.getElem_cons_succ, List.getElem_cons_zero, List.setIfInBounds_toArray, List.set_cons_zero, List.set_cons_succ]
      refine wpAnyU_take (i := 2) (v := ?_) (by decide) rfl (by kernel_rfl) (by kernel_rfl) (by kernel_rfl) (fun _ _ _ h => h) (Steady.plain (by kernel_rfl) ?_) ?_
      rotate_left
      · intro b W hS
        have z0 := kept Z0.out hS
        have z1 := kept Z1.out hS
        have z2 := kept Z2.out hS
        have z3 := kept Z3.out hS
        go_simp
        first | done | with_reducible rfl
      simp only [Act.put, List.getElem_toArray, List.getElem_cons_succ, List.getElem_cons_zero, List.setIfInBounds_toArray, List.set_cons_zero, List.set_cons_succ]
      refine wpAnyU_take (i := 3) (v := ?_) (by decide) rfl (by kernel_rfl) (by kernel_rfl) (by kernel_rfl) (fun _ _ _ h => h) (Steady.plain (by kernel_rfl) ?_) ?_
      rotate_left
      · intro b W hS
        have z0 := kept Z0.out hS
        have z1 := kept Z1.out hS
        have z2 := kept Z2.out hS
        have z3 := kept Z3.out hS
        go_simp
        first | done | with_reducible rfl
      simp only [Act.put, List.getElem_toArray, List.getElem_cons_succ, List.getElem_cons_zero, List.setIfInBounds_toArray, List.set_cons_zero, List.set_cons_succ]
      refine wpAnyU_take (i := 4) (v := ?_) (by decide) rfl (by kernel_rfl) (by kernel_rfl) (by kernel_rfl) (fun _ _ _ h => h) (Steady.plain (by kernel_rfl) ?_) ?_
      rotate_left
      · intro b W hS
        have z0 := kept Z0.out hS
        have z1 := kept Z1.out hS
        have z2 := kept Z2.out hS
        have z3 := kept Z3.out hS
        go_simp
        first | done | with_reducible rfl
      simp only [Act.put, List.getElem_toArray, List.getElem_cons_succ, List.getElem_cons_zero, List.setIfInBounds_toArray, List.set_cons_zero, List.set_cons_succ]
      refine wpAnyU_take (i := 5) (v := ?_) (by decide) rfl (by kernel_rfl) (by kernel_rfl) (by kernel_rfl) (fun _ _ _ h => h) (Steady.plain (by kernel_rfl) ?_) ?_
      rotate_left
      · intro b W hS
        have z0 := kept Z0.out hS
        have z1 := kept Z1.out hS
        have z2 := kept Z2.out hS
        have z3 := kept Z3.out hS
        go_simp
        first | done | with_reducible rfl
      simp only [Act.put, List.getElem_toArray, List.getElem_cons_succ, List.getElem_cons_zero, List.setIfInBounds_toArray, List.set_cons_zero, List.set_cons_succ]
      refine wpAnyU_take (i := 6) (v := ?_) (by decide) rfl (by kernel_rfl) (by kernel_rfl) (by kernel_rfl) (fun _ _ _ h => h) (Steady.plain (by kernel_rfl) ?_) ?_
      rotate_left
      · intro b W hS
        have z0 := kept Z0.out hS
        have z1 := kept Z1.out hS
        have z2 := kept Z2.out hS
        have z3 := kept Z3.out hS
        go_simp
        first | done | with_reducible rfl
      simp only [Act.put, List.getElem_toArray, List.getElem_cons_succ, List.getElem_cons_zero, List.setIfInBounds_toArray, List.set_cons_zero, List.set_cons_succ]
      refine wpAnyU_take (i := 7) (v := strV D1) (by decide) rfl (by kernel_rfl) (by kernel_rfl) (by kernel_rfl) (fun _ _ _ h => h) (Steady.call (f := 53) (args := #[.int .i64 s.origin]) (by kernel_rfl) (fun _ => by kernel_rfl) ?_) ?_
      · intro b W hS
        refine (CI1.out W).mono ?_
        rintro e w' ⟨he, hb⟩
        exact ⟨he, chainP hS hb⟩
      simp only [Act.put, List.getElem_toArray, List.getElem_cons_succ, List.getElem_cons_zero, List.setIfInBounds_toArray, List.set_cons_zero, List.set_cons_succ]
      refine wpAnyU_take (i := 8) (v := ?_) (by decide) rfl (by kernel_rfl) (by kernel_rfl) (by kernel_rfl) (fun _ _ _ h => h) (Steady.plain (by kernel_rfl) ?_) ?_
      rotate_left
      · intro b W hS
        have z0 := kept Z0.out hS
        have z1 := kept Z1.out hS
        have z2 := kept Z2.out hS
        have z3 := kept Z3.out hS
        go_simp
        first | done | with_reducible rfl
      simp only [Act.put, List.getElem_toArray, List.getElem_cons_succ, List.getElem_cons_zero, List.setIfInBounds_toArray, List.set_cons_zero, List.set_cons_succ]
      refine wpAnyU_take (i := 9) (v := ?_) (by decide) rfl (by kernel_rfl) (by kernel_rfl) (by kernel_rfl) (fun _ _ _ h => h) (Steady.plain (by kernel_rfl) ?_) ?_
      rotate_left
      · intro b W hS
        have z0 := kept Z0.out hS
        have z1 := kept Z1.out hS
        have z2 := kept Z2.out hS
        have z3 := kept Z3.out hS
        go_simp
        first | done | with_reducible rfl
      simp only [Act.put, List.getElem_toArray, List.getElem_cons_succ, List.getElem_cons_zero, List.setIfInBounds_toArray, List.set_cons_zero, List.set_cons_succ]
      refine wpAnyU_take (i := 10) (v := ?_) (by decide) rfl (by kernel_rfl) (by kernel_rfl) (by kernel_rfl) (fun _ _ _ h => h) (Steady.plain (by kernel_rfl) ?_) ?_
      rotate_left
      · intro b W hS
        have z0 := kept Z0.out hS
        have z1 := kept Z1.out hS
        have z2 := kept Z2.out hS
        have z3 := kept Z3.out hS
        go_simp
        first | done | with_reducible rfl
      simp only [Act.put, List.getElem_toArray, List.getElem_cons_succ, List.getElem_cons_zero, List.setIfInBounds_toArray, List.set_cons_zero, List.set_cons_succ]
      refine wpAnyU_take (i := 11) (v := ?_) (by decide) rfl (by kernel_rfl) (by kernel_rfl) (by kernel_rfl) (fun _ _ _ h => h) (Steady.plain (by kernel_rfl) ?_) ?_
      rotate_left
      · intro b W hS
        have z0 := kept Z0.out hS
        have z1 := kept Z1.out hS
        have z2 := kept Z2.out hS
        have z3 := kept Z3.out hS
        go_simp
        first | done | with_reducible rfl
      simp only [Act.put, List.getElem_toArray, List.getElem_cons_succ, List.getElem_cons_zero, List.setIfInBounds_toArray, List.set_cons_zero, List.set_cons_succ]
      refine wpAnyU_take (i := 12) (v := strV D2) (by decide) rfl (by kernel_rfl) (by kernel_rfl) (by kernel_rfl) (fun _ _ _ h => h) (Steady.call (f := 53) (args := #[.int .i64 s.min]) (by kernel_rfl) (fun _ => by kernel_rfl) ?_) ?_
      · intro b W hS
        refine (CI2.out W).mono ?_
        rintro e w' ⟨he, hb⟩
        exact ⟨he, chainP hS hb⟩
      simp only [Act.put, List.getElem_toArray, List.getElem_cons_succ, List.getElem_cons_zero, List.setIfInBounds_toArray, List.set_cons_zero, List.set_cons_succ]
      refine wpAnyU_take (i := 13) (v := ?_) (by decide) rfl (by kernel_rfl) (by kernel_rfl) (by kernel_rfl) (fun _ _ _ h => h) (Steady.plain (by kernel_rfl) ?_) ?_
      rotate_left
      · intro b W hS
        have z0 := kept Z0.out hS
        have z1 := kept Z1.out hS
        have z2 := kept Z2.out hS
        have z3 := kept Z3.out hS
        go_simp
        first | done | with_reducible rfl
      simp only [Act.put, List.getElem_toArray, List.getElem_cons_succ, List.getElem_cons_zero, List.setIfInBounds_toArray, List.set_cons_zero, List.set_cons_succ]
      refine wpAnyU_take (i := 14) (v := ?_) (by decide) rfl (by kernel_rfl) (by kernel_rfl) (by kernel_rfl) (fun _ _ _ h => h) (Steady.plain (by kernel_rfl) ?_) ?_
      rotate_left
      · intro b W hS
        have z0 := kept Z0.out hS
        have z1 := kept Z1.out hS
        have z2 := kept Z2.out hS
        have z3 := kept Z3.out hS
        go_simp
        first | done | with_reducible rfl
      simp only [Act.put, List.getElem_toArray, List.getElem_cons_succ, List.getElem_cons_zero, List.setIfInBounds_toArray, List.set_cons_zero, List.set_cons_succ]
      refine wpAnyU_take (i := 15) (v := ?_) (by decide) rfl (by kernel_rfl) (by kernel_rfl) (by kernel_rfl) (fun _ _ _ h => h) (Steady.plain (by kernel_rfl) ?_) ?_
      rotate_left
      · intro b W hS
        have z0 := kept Z0.out hS
        have z1 := kept Z1.out hS
        have z2 := kept Z2.out hS
        have z3 := kept Z3.out hS
        go_simp
        first | done | with_reducible rfl
      simp only [Act.put, List.getElem_toArray, List.getElem_cons_succ, List.getElem_cons_zero, List.setIfInBounds_toArray, List.set_cons_zero, List.set_cons_succ]
      refine wpAnyU_take (i := 16) (v := ?_) (by decide) rfl (by kernel_rfl) (by kernel_rfl) (by kernel_rfl) (fun _ _ _ h => h) (Steady.plain (by kernel_rfl) ?_) ?_
      rotate_left
      · intro b W hS
        have z0 := kept Z0.out hS
        have z1 := kept Z1.out hS
        have z2 := kept Z2.out hS
        have z3 := kept Z3.out hS
        go_simp
        first | done | with_reducible rfl
      simp only [Act.put, List.getElem_toArray, List.getElem_cons_succ, List.getElem_cons_zero, List.setIfInBounds_toArray, List.set_cons_zero, List.set_cons_succ]
      refine wpAnyU_take (i := 17) (v := strV D3) (by decide) rfl (by kernel_rfl) (by kernel_rfl) (by kernel_rfl) (fun _ _ _ h => h) (Steady.call (f := 53) (args := #[.int .i64 s.max]) (by kernel_rfl) (fun _ => by kernel_rfl) ?_) ?_
      · intro b W hS
        refine (CI3.out W).mono ?_
        rintro e w' ⟨he, hb⟩
        exact ⟨he, chainP hS hb⟩
      simp only [Act.put, List.getElem_toArray, List.getElem_cons_succ, List.getElem_cons_zero, List.setIfInBounds_toArray, List.set_cons_zero, List.set_cons_succ]
      refine wpAnyU_take (i := 18) (v := ?_) (by decide) rfl (by kernel_rfl) (by kernel_rfl) (by kernel_rfl) (fun _ _ _ h => h) (Steady.plain (by kernel_rfl) ?_) ?_
      rotate_left
      · intro b W hS
        have z0 := kept Z0.out hS
        have z1 := kept Z1.out hS
        have z2 := kept Z2.out hS
        have z3 := kept Z3.out hS
        go_simp
        first | done | with_reducible rfl
      simp only [Act.put, List.getElem_toArray, List.getElem_cons_succ, List.getElem_cons_zero, List.setIfInBounds_toArray, List.set_cons_zero, List.set_cons_succ]
      refine wpAnyU_take (i := 19) (v := ?_) (by decide) rfl (by kernel_rfl) (by kernel_rfl) (by kernel_rfl) (fun _ _ _ h => h) (Steady.plain (by kernel_rfl) ?_) ?_
      rotate_left
      · intro b W hS
        have z0 := kept Z0.out hS
        have z1 := kept Z1.out hS
        have z2 := kept Z2.out hS
        have z3 := kept Z3.out hS
        go_simp
        first | done | with_reducible rfl
      simp only [Act.put, List.getElem_toArray, List.getElem_cons_succ, List.getElem_cons_zero, List.setIfInBounds_toArray, List.set_cons_zero, List.set_cons_succ]
      refine wpAnyU_take (i := 20) (v := ?_) (by decide) rfl (by kernel_rfl) (by kernel_rfl) (by kernel_rfl) (fun _ _ _ h => h) (Steady.plain (by kernel_rfl) ?_) ?_
      rotate_left
      · intro b W hS
        have z0 := kept Z0.out hS
        have z1 := kept Z1.out hS
        have z2 := kept Z2.out hS
        have z3 := kept Z3.out hS
        go_simp
        first | done | with_reducible rfl
      simp only [Act.put, List.getElem_toArray, List.getElem_cons_succ, List.getElem_cons_zero, List.setIfInBounds_toArray, List.set_cons_zero, List.set_cons_succ]
      refine wpAnyU_take (i := 21) (v := ?_) (by decide) rfl (by kernel_rfl) (by kernel_rfl) (by kernel_rfl) (fun _ _ _ h => h) (Steady.plain (by kernel_rfl) ?_) ?_
      rotate_left
      · intro b W hS
        have z0 := kept Z0.out hS
        have z1 := kept Z1.out hS
        have z2 := kept Z2.out hS
        have z3 := kept Z3.out hS
        go_simp
        first | done | with_reducible rfl
      simp only [Act.put, List.getElem_toArray, List.getElem_cons_succ, List.getElem_cons_zero, List.setIfInBounds_toArray, List.set_cons_zero, List.set_cons_succ]
      refine wpAnyU_done (b := []) (by kernel_rfl) (by kernel_rfl) ?_ _
      intro w3 hS3
      have HB3 := hid (chainP HB1.out hS3)
      have HB4 := hid (chainP HBB1.out hS3)
      clear s1 s2 s3 s4 s5 s6 s7 s8 s9
      have y4 : w3.cell? ⟨wr.heap.size, 4, none⟩ = some (.bool s.query) := kept Z456.out.1 hS3
      have Y5 : Hid (w3.cell? ⟨wr.heap.size, 5, none⟩ = some (.bool s.keep)) := kept Z456.out.2.1 hS3
      have Y6 := hid (kept Z456.out.2.2 hS3)
      obtain ⟨Y, hYY⟩ : ∃ Y, X9 = Y := ⟨_, rfl⟩
      rw [hYY] at HY HYL HSQ ⊢
      clear hYY hS3
      cases hq : s.query
      · have HQY := hid hq
        rw [hq] at y4 HRL
        clear hq
        go_wp2_with fail
        clear y4
        go_loopw [3, 6] (fun t z wq => ∃ (m : Nat), z = .int .i64 (m : Int) ∧ m ≤ nh ∧ t = strV (Y ++ restT false (s.heads.take m)) ∧ Below w3.heap.size w3 wq) (fun _ z _ => nh - (intOf z).toNat)
        case atStart => exact ⟨0, rfl, Nat.zero_le _, (by rw [show restT false (s.heads.take 0) = [] from rfl, List.append_nil]), Below.refl _ _⟩
        case round =>
          obtain ⟨m, rfl, hm, rfl, hb⟩ := hrel
          have HB6 := hid (chainP HB3.out hb)
          have y6 := kept Y6.out hb
          have y5 := kept Y5.out hb
          have hml := HRL.out m
          by_cases hlm : m < nh
          · obtain ⟨x, hx⟩ : ∃ x, s.heads[m]? = some x := by
              have := HNH.out
              exact ⟨s.heads[m]'(by omega), List.getElem?_eq_getElem (by omega)⟩
            have hxm : (s.heads.map strV)[m]? = some (strV x) := by rw [List.getElem?_map, hx]; rfl
            obtain ⟨a1, c1', e1, f1, hz1⟩ := HRD.out.below HB6.out
            injection e1 with e1 k1 k2
            clear k1 k2
            subst e1
            obtain ⟨b2, o2, g2, i2⟩ := f1 m _ hxm
            subst g2
            have hmI : (m : Int) < (nh : Int) := by omega
            have hm0 : (0 : Int) ≤ (m : Int) := by omega
            have hmw : IntKind.i64.wrap ((m : Int) + 1) = (m : Int) + 1 := IntWalk.i64_in _ (by omega)
            have hxl := HTX.out x (List.mem_of_getElem? hx)
            have HKS := hid (show Y ++ restT false (s.heads.take (m + 1)) = (Y ++ restT false (s.heads.take m)) ++ ([32, 104, 101, 97, 100, 101, 114, 32] ++ x) from by
              rw [List.take_add_one, hx, List.append_assoc]
              congr 1
              exact restT_snoc _ _ _)
            obtain ⟨K, hK⟩ : ∃ K, Y ++ restT false (s.heads.take m) = K := ⟨_, rfl⟩
            have hKl : K.length ≤ 100000000 := by rw [← hK, List.length_append]; have := HYL.out; omega
            rw [hK] at HKS ⊢
            obtain ⟨X1, hX1, hl1, s1⟩ := sumU Tryz.prog [32, 104, 101, 97, 100, 101, 114, 32] x (by simp only [List.length_cons, List.length_nil]; omega)
            try simp only [List.length_cons, List.length_nil] at hl1
            obtain ⟨X2, hX2, hl2, s2⟩ := sumU Tryz.prog K X1 (by omega)
            rw [← hX1, ← hX2] at HKS
            have HBB := hid hb
            clear hb f1 hx hxm hz1 hX1 hX2 hl1 hl2 hml hxl hK hKl
            go_wp2_with fail
            go_roundw
            case rel => exact ⟨m + 1, by go_num, hlm, by rw [HKS.out], HBB.out⟩
            case measure => simp [intOf]; omega
          · have e0 : s.heads.take m = s.heads := List.take_of_length_le (by have := HNH.out; omega)
            rw [e0] at hml ⊢
            obtain ⟨K, hK⟩ : ∃ K, Y ++ restT false s.heads = K := ⟨_, rfl⟩
            have hKl : K.length ≤ 100000000 := by rw [← hK, List.length_append]; have := HYL.out; omega
            have HKK := hid hK
            rw [hK]
            cases hkp : s.keep
            all_goals
              rw [hkp] at y5
              obtain ⟨E, hE⟩ : ∃ E, endT s.keep = E := ⟨_, rfl⟩
              have hE2 := hE
              rw [hkp] at hE2
              obtain ⟨X1, hX1, hl1, s1⟩ := sumU Tryz.prog K E (by rw [← hE2]; simp only [endT, if_true, if_false, Bool.false_eq_true, List.length_cons, List.length_nil]; omega)
              have HX1 := hid (show X1 = T ++ plainS s from by
                rw [hX1, plainS_parts, ← HKK.out, ← hE, HY.out, HQY.out]
                simp only [List.append_assoc])
              rw [← hE2] at s1
              simp only [endT, if_true, if_false, Bool.false_eq_true] at s1
              have HB7 := hid (chainP HB4.out hb)
              clear hX1 hl1 hE hE2 hK hKl hml hb hkp e0
              go_wp2_with fail
              go_roundw
              case rel =>
                refine ⟨k + 1, by go_num, hlt, ?_, ?_, HB7.out⟩
                · rw [HPT.out, HX1.out]
                · rw [HPT.out, List.length_append]; have := HTL.out; have := HUL.out; omega
              case measure => simp [intOf]; omega
      · have HQY := hid hq
        have s10 := HSQ.out.2
        rw [hq] at y4 HRL
        clear hq
        go_wp2_with fail
        clear y4 s10
        go_loopw [3, 6] (fun t z wq => ∃ (m : Nat), z = .int .i64 (m : Int) ∧ m ≤ nh ∧ t = strV (Y ++ restT true (s.heads.take m)) ∧ Below w3.heap.size w3 wq) (fun _ z _ => nh - (intOf z).toNat)
        case atStart => exact ⟨0, rfl, Nat.zero_le _, (by rw [HSQ.out.1]; rfl), Below.refl _ _⟩
        case round =>
          obtain ⟨m, rfl, hm, rfl, hb⟩ := hrel
          have HB6 := hid (chainP HB3.out hb)
          have y6 := kept Y6.out hb
          have y5 := kept Y5.out hb
          have hml := HRL.out m
          by_cases hlm : m < nh
          · obtain ⟨x, hx⟩ : ∃ x, s.heads[m]? = some x := by
              have := HNH.out
              exact ⟨s.heads[m]'(by omega), List.getElem?_eq_getElem (by omega)⟩
            have hxm : (s.heads.map strV)[m]? = some (strV x) := by rw [List.getElem?_map, hx]; rfl
            obtain ⟨a1, c1', e1, f1, hz1⟩ := HRD.out.below HB6.out
            injection e1 with e1 k1 k2
            clear k1 k2
            subst e1
            obtain ⟨b2, o2, g2, i2⟩ := f1 m _ hxm
            subst g2
            have hmI : (m : Int) < (nh : Int) := by omega
            have hm0 : (0 : Int) ≤ (m : Int) := by omega
            have hmw : IntKind.i64.wrap ((m : Int) + 1) = (m : Int) + 1 := IntWalk.i64_in _ (by omega)
            have hxl := HTX.out x (List.mem_of_getElem? hx)
            have HKS := hid (show Y ++ restT true (s.heads.take (m + 1)) = (Y ++ restT true (s.heads.take m)) ++ ([32, 104, 101, 97, 100, 101, 114, 32] ++ x) from by
              rw [List.take_add_one, hx, List.append_assoc]
              congr 1
              exact restT_snoc _ _ _)
            obtain ⟨K, hK⟩ : ∃ K, Y ++ restT true (s.heads.take m) = K := ⟨_, rfl⟩
            have hKl : K.length ≤ 100000000 := by rw [← hK, List.length_append]; have := HYL.out; omega
            rw [hK] at HKS ⊢
            obtain ⟨X1, hX1, hl1, s1⟩ := sumU Tryz.prog [32, 104, 101, 97, 100, 101, 114, 32] x (by simp only [List.length_cons, List.length_nil]; omega)
            try simp only [List.length_cons, List.length_nil] at hl1
            obtain ⟨X2, hX2, hl2, s2⟩ := sumU Tryz.prog K X1 (by omega)
            rw [← hX1, ← hX2] at HKS
            have HBB := hid hb
            clear hb f1 hx hxm hz1 hX1 hX2 hl1 hl2 hml hxl hK hKl
            go_wp2_with fail
            go_roundw
            case rel => exact ⟨m + 1, by go_num, hlm, by rw [HKS.out], HBB.out⟩
            case measure => simp [intOf]; omega
          · have e0 : s.heads.take m = s.heads := List.take_of_length_le (by have := HNH.out; omega)
            rw [e0] at hml ⊢
            obtain ⟨K, hK⟩ : ∃ K, Y ++ restT true s.heads = K := ⟨_, rfl⟩
            have hKl : K.length ≤ 100000000 := by rw [← hK, List.length_append]; have := HYL.out; omega
            have HKK := hid hK
            rw [hK]
            cases hkp : s.keep
            all_goals
              rw [hkp] at y5
              obtain ⟨E, hE⟩ : ∃ E, endT s.keep = E := ⟨_, rfl⟩
              have hE2 := hE
              rw [hkp] at hE2
              obtain ⟨X1, hX1, hl1, s1⟩ := sumU Tryz.prog K E (by rw [← hE2]; simp only [endT, if_true, if_false, Bool.false_eq_true, List.length_cons, List.length_nil]; omega)
              have HX1 := hid (show X1 = T ++ plainS s from by
                rw [hX1, plainS_parts, ← HKK.out, ← hE, HY.out, HQY.out]
                simp only [List.append_assoc])
              rw [← hE2] at s1
              simp only [endT, if_true, if_false, Bool.false_eq_true] at s1
              have HB7 := hid (chainP HB4.out hb)
              clear hX1 hl1 hE hE2 hK hKl hml hb hkp e0
              go_wp2_with fail
              go_roundw
              case rel =>
                refine ⟨k + 1, by go_num, hlt, ?_, ?_, HB7.out⟩
                · rw [HPT.out, HX1.out]
                · rw [HPT.out, List.length_append]; have := HTL.out; have := HUL.out; omega
              case measure => simp [intOf]; omega
    · have e0 : (L.map (·.1)).take k = L.map (·.1) := List.take_of_length_le (by have := HL.out; rw [List.length_map]; omega)
      have HBR := hid hbr
      rw [e0]
      clear hb hbr hkl e0
      go_wp2_with fail
      go_ret
      exact ⟨rfl, HBR.out⟩
end Go.Proofs.YtffenndchmcncaaGreatDoor
