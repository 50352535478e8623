/-
  The walk of FreshLife.
-/
import Derived.Test.YtejdlplgkmelkaaGreatDoorF12Law12C
import Derived.Test.YtejdlplgkmelkaaGreatDoorF12DateRefShow
import Derived.Deep.RegionWith
import Derived.Deep.CutRange
set_option linter.unusedVariables false
set_option linter.unusedSimpArgs false

namespace Go.Proofs.YtejdlplgkmelkaaGreatDoor
open Go.RowKit Go.Pantry

set_option maxRecDepth 4000 in
theorem l12Digits_any (f : Nat) : ∀ (n : Nat) (z : Int) (w : World), z = (n : Int) → n < 10 ^ (f + 1) → f ≤ 17 →
    Calls Tryz.prog 24 #[.int .i64 z] w fun e w' => e = .returned (strV (digF (f + 1) n)) ∧ Below w.heap.size w w' := by
  induction f with
  | zero =>
    intro n z w hz h _
    subst hz
    simp at h
    have hcv := run_one_byte (P := Tryz.prog) 83 9 5 Tryz.underlying83 Tryz.underlying5 Tryz.underlying9 (w.alloc (.cells #[.int .u8 (48 + (n : Int))] 5)) w.heap.size (48 + (n : Int)) (World.cell?_alloc_at _ _ _ _ rfl)
    go_enter Tryz.func24, Tryz.ntmps24
    go_wp2
    go_ret
    refine ⟨ret_str ?_, below_alloc _ _⟩
    rw [digF, if_pos (by omega)]
  | succ f ih =>
    intro n z w hz h hf
    subst hz
    by_cases hn : n < 10
    · have hcv := run_one_byte (P := Tryz.prog) 83 9 5 Tryz.underlying83 Tryz.underlying5 Tryz.underlying9 (w.alloc (.cells #[.int .u8 (48 + (n : Int))] 5)) w.heap.size (48 + (n : Int)) (World.cell?_alloc_at _ _ _ _ rfl)
      clear h ih
      go_enter Tryz.func24, Tryz.ntmps24
      go_wp2
      go_ret
      refine ⟨ret_str ?_, below_alloc _ _⟩
      rw [digF, if_pos (by omega)]
    · have h1 : n / 10 < 10 ^ (f + 1) := by rw [Nat.pow_succ] at h; omega
      have hnb : n < 1000000000000000000 := Nat.lt_of_lt_of_le h (by
        have := Nat.pow_le_pow_right (n := 10) (by decide) (show f + 1 + 1 ≤ 18 by omega)
        simpa using this)
      have hadd := fun (W : World) (y : UInt8) => run_string_add_lists (P := Tryz.prog) W (digF (f + 1) (n / 10)) [y] (by have := digF_len (f + 1) (n / 10); omega) (by simp)
      have IH := hid ih
      have H1 := hid h1
      clear h h1 ih
      have hcv := fun (W : World) (b : Nat) (c : Int) => run_one_byte (P := Tryz.prog) 83 9 5 Tryz.underlying83 Tryz.underlying5 Tryz.underlying9 W b c
      have w1 : IntKind.i64.wrap ((n : Int) / 10) = (n : Int) / 10 := IntWalk.i64_in _ (by omega)
      go_enter Tryz.func24, Tryz.ntmps24
      go_wp2_with fail
      go_region_with (go_at_call 24; go_must (refine (IH.out (n / 10) _ _ (by omega) H1.out (by omega)).mono ?_); rintro e w' ⟨rfl, hb⟩; first | have hcc := kept_new hb rfl | skip)
      all_goals go_wp2
      all_goals go_ret
      all_goals
        refine ⟨ret_str ?_, ?_⟩
        · rw [digit_byte, show digF (f + 1 + 1) n = digF (f + 1) (n / 10) ++ [(48 + n % 10).toUInt8] from by rw [digF, if_neg hn]]
        · first
            | exact (below_of_drew hb).alloc (below_of_drew hb).size _
            | exact below_of_new hb
            | exact below_of_drew hb
theorem l12Dec_any (n : Nat) (w : World) (h : n ≤ 2147483648) : Calls Tryz.prog 24 #[.int .i64 (n : Int)] w fun e w' => e = .returned (strV (decL n)) ∧ Below w.heap.size w w' := by
  have h2 : n < 10 ^ (9 + 1) := by omega
  have c := l12Digits_any 9 n (n : Int) w rfl h2 (by decide)
  rw [← decL_digF 9 n h2] at c
  exact c
theorem infoFldL : (Tryz.prog.info? 46).map (·.size) = some 2 := by kernel_rfl
theorem reads2_of3 (w : World) (f g h : Fld) (e : TypeId) : Reads2 (w.alloc (.cells #[strV f.1, strV f.2, strV g.1, strV g.2, strV h.1, strV h.2] e)) (.slice (some ⟨w.heap.size, 0, none⟩) 3 3) [f, g, h] := by
  have ho : (w.alloc (.cells #[strV f.1, strV f.2, strV g.1, strV g.2, strV h.1, strV h.2] e)).ownsRow w.heap.size e 2 (.slice (some ⟨w.heap.size, 0, none⟩) 3 3) 3 (fldCells [f, g, h]) :=
    ⟨rfl, .inr ⟨w.heap.size, 3, _, rfl, Nat.le_refl _, Array.getElem?_push_size, Nat.le_refl _, by decide, rfl, rfl⟩⟩
  exact ho.reads2.2
theorem reads2_of2 (w : World) (f g : Fld) (e : TypeId) : Reads2 (w.alloc (.cells #[strV f.1, strV f.2, strV g.1, strV g.2] e)) (.slice (some ⟨w.heap.size, 0, none⟩) 2 2) [f, g] := by
  have ho : (w.alloc (.cells #[strV f.1, strV f.2, strV g.1, strV g.2] e)).ownsRow w.heap.size e 2 (.slice (some ⟨w.heap.size, 0, none⟩) 2 2) 2 (fldCells [f, g]) :=
    ⟨rfl, .inr ⟨w.heap.size, 2, _, rfl, Nat.le_refl _, Array.getElem?_push_size, Nat.le_refl _, by decide, rfl, rfl⟩⟩
  exact ho.reads2.2
abbrev topS : SiteZ := ⟨[], 0, 0, 2147483648, false, false, []⟩
set_option maxRecDepth 8000 in
set_option maxHeartbeats 4000000 in
theorem freshLife_over {Ok : World → Prop} (K : Freshs Ok) (a b c z : Int) (w : World) (ok : Ok w) :
    Calls Tryz.prog 8 #[.int .i64 a, .int .i64 b, .int .i64 c, .int .i64 z] w fun e w' => e = .returned (.bool true) ∧ Below w.heap.size w w' := by
  have cA := hid (anchor_any K w ok)
  have OK := hid ok
  clear ok
  go_enter Tryz.func8, Tryz.ntmps8
  go_wp2_with fail
  refine cA.out.mono ?_
  rintro e w1 ⟨rfl, hb1⟩
  have HB1 := hid hb1
  clear hb1 cA
  by_cases t0 : a < 0
  · have d0 : decide (a < 0) = true := decide_eq_true t0
    go_wp2_with fail
    go_ret
    exact ⟨rfl, HB1.out⟩
  have d0 : decide (a < 0) = false := decide_eq_false t0
  by_cases t1 : 2147483648 < a
  · have d1 : decide (2147483648 < a) = true := decide_eq_true t1
    go_wp2_with fail
    go_ret
    exact ⟨rfl, HB1.out⟩
  have d1 : decide (2147483648 < a) = false := decide_eq_false t1
  by_cases t2 : b < 0
  · have d2 : decide (b < 0) = true := decide_eq_true t2
    go_wp2_with fail
    go_ret
    exact ⟨rfl, HB1.out⟩
  have d2 : decide (b < 0) = false := decide_eq_false t2
  by_cases t3 : 2147483648 < b
  · have d3 : decide (2147483648 < b) = true := decide_eq_true t3
    go_wp2_with fail
    go_ret
    exact ⟨rfl, HB1.out⟩
  have d3 : decide (2147483648 < b) = false := decide_eq_false t3
  by_cases t4 : z < 0
  · have d4 : decide (z < 0) = true := decide_eq_true t4
    go_wp2_with fail
    go_ret
    exact ⟨rfl, HB1.out⟩
  have d4 : decide (z < 0) = false := decide_eq_false t4
  by_cases t5 : 68719476736 < z
  · have d5 : decide (68719476736 < z) = true := decide_eq_true t5
    go_wp2_with fail
    go_ret
    exact ⟨rfl, HB1.out⟩
  have d5 : decide (68719476736 < z) = false := decide_eq_false t5
  by_cases t6 : c < 0
  · have d6 : decide (c < 0) = true := decide_eq_true t6
    go_wp2_with fail
    go_ret
    exact ⟨rfl, HB1.out⟩
  have d6 : decide (c < 0) = false := decide_eq_false t6
  by_cases t7 : 68719476736 < c
  · have d7 : decide (68719476736 < c) = true := decide_eq_true t7
    go_wp2_with fail
    go_ret
    exact ⟨rfl, HB1.out⟩
  have d7 : decide (68719476736 < c) = false := decide_eq_false t7
  obtain ⟨na, rfl⟩ : ∃ n : Nat, a = (n : Int) := ⟨a.toNat, by omega⟩
  obtain ⟨nb, rfl⟩ : ∃ n : Nat, b = (n : Int) := ⟨b.toNat, by omega⟩
  have hT := isT_of (t := z) (by omega) (by omega)
  have cDa := hid (fun (W : World) => l12Dec_any na W (by omega))
  have cDb := hid (fun (W : World) => l12Dec_any nb W (by omega))
  have cSh := hid (fun (W : World) => refShow_any c W (by omega) (by omega))
  have da : (decL na).length ≤ 10 := decL_len 9 na (by omega)
  have db : (decL nb).length ≤ 10 := decL_len 9 nb (by omega)
  have dc := showL_len c (by omega) (by omega)
  have e1 := life_shared (s := na) (m := nb) (x := showL c) (by omega) hT
  have e2 := life_most (m := nb) (x := showL c) (by omega) hT
  have e3 := life_expires (x := c) (at_ := z) (by omega) (by omega) hT
  have e4 := life_nil hT
  have hz : InI z := ⟨by omega, by omega⟩
  have hlim : LimS topS := by decide
  have s3 : SmallF [fS na, fM nb, fE (showL c)] := by
    refine ⟨by simp, fun f hf => ?_, fun f hf => ?_⟩
    all_goals
      simp only [List.mem_cons, List.not_mem_nil, or_false] at hf
      rcases hf with rfl | rfl | rfl
    · simp [sCC]
    · simp [nCC]
    · simp [sExpires]
    · simp [nShared]; omega
    · simp [nMaxAge]; omega
    · show (showL c).length ≤ 300; omega
  have s2 : SmallF [fE (showL c), fM nb] := ⟨by simp, fun f hf => s3.name f (by simp only [List.mem_cons, List.not_mem_nil, or_false] at hf ⊢; rcases hf with rfl | rfl <;> simp), fun f hf => s3.val f (by simp only [List.mem_cons, List.not_mem_nil, or_false] at hf ⊢; rcases hf with rfl | rfl <;> simp)⟩
  have s1 : SmallF [fE (showL c)] := ⟨by simp, fun f hf => s2.name f (by rw [List.mem_singleton] at hf; subst hf; simp), fun f hf => s2.val f (by rw [List.mem_singleton] at hf; subst hf; simp)⟩
  have c1 := fun (W : World) (v : Value) (h : Below w.heap.size w W) (hr : Reads2 W v [fS na, fM nb, fE (showL c)]) => K.life none 0 0 topS v _ z W (K.keep _ _ OK.out h) hr s3 hlim hz
  have c2 := fun (W : World) (v : Value) (h : Below w.heap.size w W) (hr : Reads2 W v [fE (showL c), fM nb]) => K.life none 0 0 topS v _ z W (K.keep _ _ OK.out h) hr s2 hlim hz
  have c3 := fun (W : World) (v : Value) (h : Below w.heap.size w W) (hr : Reads2 W v [fE (showL c)]) => K.life none 0 0 topS v _ z W (K.keep _ _ OK.out h) hr s1 hlim hz
  have c4 := fun (W : World) (h : Below w.heap.size w W) => K.life none 0 0 topS (.slice none 0 0) [] z W (K.keep _ _ OK.out h) (reads2_nil W) small_nil hlim hz
  simp only [e1] at c1
  simp only [e2] at c2
  simp only [e3] at c3
  simp only [e4] at c4
  clear e1 e2 e3 e4 s1 s2 s3 hT hlim
  unfold fS fM fE at c1
  unfold fM fE at c2
  unfold fE at c3
  obtain ⟨SX, hSX⟩ : ∃ x, nShared ++ 61 :: decL na = x := ⟨_, rfl⟩
  obtain ⟨SM, hSM⟩ : ∃ x, nMaxAge ++ 61 :: decL nb = x := ⟨_, rfl⟩
  rw [hSX, hSM] at c1
  rw [hSM] at c2
  generalize showL c = SE at c1 c2 c3 cSh dc
  have k1 : ∀ W : World, (Op.stringOp .add ⟨#[115, 45, 109, 97, 120, 97, 103, 101, 61]⟩ ⟨(decL na).toArray⟩).run Tryz.prog W = .ok (strV SX) W := fun W => by
    obtain ⟨X, x1, -, sx⟩ := sum_lists (P := Tryz.prog) [115, 45, 109, 97, 120, 97, 103, 101, 61] (decL na) (by simp) (by omega)
    have e : X = SX := by rw [x1, ← hSX]; rfl
    rw [← e]; exact sx W
  have k2 : ∀ W : World, (Op.stringOp .add ⟨#[109, 97, 120, 45, 97, 103, 101, 61]⟩ ⟨(decL nb).toArray⟩).run Tryz.prog W = .ok (strV SM) W := fun W => by
    obtain ⟨X, x1, -, sx⟩ := sum_lists (P := Tryz.prog) [109, 97, 120, 45, 97, 103, 101, 61] (decL nb) (by simp) (by omega)
    have e : X = SM := by rw [x1, ← hSM]; rfl
    rw [← e]; exact sx W
  generalize decL na = DA at cDa k1 da
  generalize decL nb = DB at cDb k2 db
  have C1 := hid c1
  have C2 := hid c2
  have C3 := hid c3
  have C4 := hid c4
  clear c1 c2 c3 c4 hSX hSM da db dc
  go_upto_region 6 with fail
  have hbS := below_alloc w1 (.cells (rowZ (.slice none 0 0) topS) 24)
  have qS := rowIs_new w1 (rowZ (.slice none 0 0) topS) 24
  change Code.wp _ _ _ _ (w1.alloc (.cells (rowZ (.slice none 0 0) topS) 24))
  obtain ⟨GS, hGS⟩ : ∃ G, w1.heap.size = G := ⟨_, rfl⟩
  rw [hGS] at qS ⊢
  generalize w1.alloc (.cells (rowZ (.slice none 0 0) topS) 24) = wS at hbS qS ⊢
  clear hGS
  have HBS := hid (chain2 HB1.out HB1.out.size hbS)
  have RS := hid qS
  clear hbS qS HB1
  go_wp2_with fail
  refine (cDa.out _).mono ?_
  rintro e w2 ⟨rfl, hb2⟩
  have HB2 := hid (chain2 HBS.out HBS.out.size hb2)
  have RS2 := hid (RS.out.below hb2)
  clear hb2 HBS RS
  go_upto_region 7 with fail
  have hbA := below_alloc w2 (.cells #[strV sCC, strV SX] 46)
  have qA := rowIs_new w2 #[strV sCC, strV SX] 46
  change Code.wp _ _ _ _ (w2.alloc (.cells #[strV sCC, strV SX] 46))
  obtain ⟨GA, hGA⟩ : ∃ G, w2.heap.size = G := ⟨_, rfl⟩
  rw [hGA] at qA ⊢
  generalize w2.alloc (.cells #[strV sCC, strV SX] 46) = wA at hbA qA ⊢
  clear hGA
  have HBA := hid (chain2 HB2.out HB2.out.size hbA)
  have RSA := hid (RS2.out.below hbA)
  have RA := hid qA
  clear hbA qA HB2 RS2
  go_wp2_with fail
  refine (cDb.out _).mono ?_
  rintro e w3 ⟨rfl, hb3⟩
  have HB3 := hid (chain2 HBA.out HBA.out.size hb3)
  have RS3 := hid (And.intro (RSA.out.below hb3) (RA.out.below hb3))
  clear hb3 HBA RSA RA
  go_upto_region 8 with fail
  have hbB := below_alloc w3 (.cells #[strV nCC, strV SM] 46)
  have qB := rowIs_new w3 #[strV nCC, strV SM] 46
  change Code.wp _ _ _ _ (w3.alloc (.cells #[strV nCC, strV SM] 46))
  obtain ⟨GB, hGB⟩ : ∃ G, w3.heap.size = G := ⟨_, rfl⟩
  rw [hGB] at qB ⊢
  generalize w3.alloc (.cells #[strV nCC, strV SM] 46) = wB at hbB qB ⊢
  clear hGB
  have HBB := hid (chain2 HB3.out HB3.out.size hbB)
  have RSB := hid (And.intro (RS3.out.1.below hbB) (And.intro (RS3.out.2.below hbB) qB))
  clear hbB qB HB3 RS3
  go_wp2_with fail
  refine (cSh.out _).mono ?_
  rintro e w4 ⟨rfl, hb4⟩
  have HB4 := hid (chain2 HBB.out HBB.out.size hb4)
  have RS4 := hid (And.intro (RSB.out.1.below hb4) (And.intro (RSB.out.2.1.below hb4) (RSB.out.2.2.below hb4)))
  clear hb4 HBB RSB
  go_upto_region 9 with fail
  have hbC := below_alloc w4 (.cells #[strV sExpires, strV SE] 46)
  have qC := rowIs_new w4 #[strV sExpires, strV SE] 46
  change Code.wp _ _ _ _ (w4.alloc (.cells #[strV sExpires, strV SE] 46))
  obtain ⟨GC, hGC⟩ : ∃ G, w4.heap.size = G := ⟨_, rfl⟩
  rw [hGC] at qC ⊢
  generalize w4.alloc (.cells #[strV sExpires, strV SE] 46) = wC at hbC qC ⊢
  clear hGC
  have HBC := hid (chain2 HB4.out HB4.out.size hbC)
  have p1 := RS4.out.1.below hbC
  have p2 := RS4.out.2.1.below hbC
  have p3 := RS4.out.2.2.below hbC
  have p4 := qC
  have RC := hid (And.intro p1 (And.intro p2 (And.intro p3 p4)))
  clear hbC qC HB4 RS4
  have hb0 := below_alloc wC (.cells #[strV sCC, strV SX, strV nCC, strV SM, strV sExpires, strV SE] 46)
  have hr0 := reads2_of3 wC (sCC, SX) (nCC, SM) (sExpires, SE) 46
  go_wp2_with (first
    | (refine wpList_load_row rfl 24 _ rfl GS rfl 24 _ (0, 0) _ p1 Tryz.underlying24 rfl infoSiteK ?_)
    | (refine wpList_load_row rfl 46 _ rfl GA rfl 46 _ (0, 0) _ p2 Tryz.underlying46 rfl infoFldL ?_)
    | (refine wpList_load_row rfl 46 _ rfl GB rfl 46 _ (0, 0) _ p3 Tryz.underlying46 rfl infoFldL ?_)
    | (refine wpList_load_row rfl 46 _ rfl GC rfl 46 _ (0, 0) _ p4 Tryz.underlying46 rfl infoFldL ?_))
  refine (C1.out _ _ (chain2 HBC.out HBC.out.size hb0) hr0).mono ?_
  rintro e w5 ⟨rfl, hb5⟩
  have hb05 := chain2 hb0 hb0.size hb5
  have HB5 := hid (chain2 HBC.out HBC.out.size hb05)
  have p1 := RC.out.1.below hb05
  have p3 := RC.out.2.2.1.below hb05
  have p4 := RC.out.2.2.2.below hb05
  have RC5 := hid (And.intro p1 p4)
  have z1 : ((na : Int) == (na : Int)) = true := by simp
  have z2 : ((nb : Int) == (nb : Int)) = true := by simp
  clear hb0 hr0 hb5 hb05 RC HBC
  have hb0 := below_alloc w5 (.cells #[strV sExpires, strV SE, strV nCC, strV SM] 46)
  have hr0 := reads2_of2 w5 (sExpires, SE) (nCC, SM) 46
  go_wp2_with (first
    | (refine wpList_unguard rfl ?_; refine wpList_load_row rfl 24 _ rfl GS rfl 24 _ (0, 0) _ p1 Tryz.underlying24 rfl infoSiteK ?_)
    | (refine wpList_unguard rfl ?_; refine wpList_load_row rfl 46 _ rfl GB rfl 46 _ (0, 0) _ p3 Tryz.underlying46 rfl infoFldL ?_)
    | (refine wpList_unguard rfl ?_; refine wpList_load_row rfl 46 _ rfl GC rfl 46 _ (0, 0) _ p4 Tryz.underlying46 rfl infoFldL ?_))
  refine (C2.out _ _ (chain2 HB5.out HB5.out.size hb0) hr0).mono ?_
  rintro e w6 ⟨rfl, hb6⟩
  have hb06 := chain2 hb0 hb0.size hb6
  have HB6 := hid (chain2 HB5.out HB5.out.size hb06)
  have p1 := RC5.out.1.below hb06
  have p4 := RC5.out.2.below hb06
  have RC6 := hid p1
  clear hb0 hr0 hb6 hb06 RC5 HB5 p3
  have hb0 := below_alloc w6 (.cells #[strV sExpires, strV SE] 46)
  have hr0 := reads2_new_at w6 (sExpires, SE) 46 1 w6.heap.size rfl
  go_wp2_with (first
    | (refine wpList_unguard rfl ?_; refine wpList_load_row rfl 24 _ rfl GS rfl 24 _ (0, 0) _ p1 Tryz.underlying24 rfl infoSiteK ?_)
    | (refine wpList_unguard rfl ?_; refine wpList_load_row rfl 46 _ rfl GC rfl 46 _ (0, 0) _ p4 Tryz.underlying46 rfl infoFldL ?_))
  refine (C3.out _ _ (chain2 HB6.out HB6.out.size hb0) hr0).mono ?_
  rintro e w7 ⟨rfl, hb7⟩
  have hb07 := chain2 hb0 hb0.size hb7
  have HB7 := hid (chain2 HB6.out HB6.out.size hb07)
  have p1 := RC6.out.below hb07
  clear hb0 hr0 hb7 hb07 RC6 HB6 p4
  have k3 : IntKind.i64.wrap (c - z) = c - z := IntWalk.i64_in _ (by omega)
  obtain ⟨m1, hm1⟩ : ∃ m, max (c - z) 0 = m := ⟨_, rfl⟩
  obtain ⟨m2, hm2⟩ : ∃ m, min m1 2147483648 = m := ⟨_, rfl⟩
  have z3 : (m2 == m2) = true := by simp
  rw [hm1, hm2]
  go_wp2_with (first
    | (refine wpList_unguard rfl ?_; refine wpList_load_row rfl 24 _ rfl GS rfl 24 _ (0, 0) _ p1 Tryz.underlying24 rfl infoSiteK ?_))
  refine (C4.out _ HB7.out).mono ?_
  rintro e w8 ⟨rfl, hb8⟩
  have HB8 := hid (chain2 HB7.out HB7.out.size hb8)
  clear p1 hb8
  go_wp2_with fail
  go_ret
  exact ⟨rfl, HB8.out⟩
end Go.Proofs.YtejdlplgkmelkaaGreatDoor
