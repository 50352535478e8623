/-
  What the walks of layer 12 take of package fresh; the example.
-/
import Derived.Test.YtejdlplgkmelkaaGreatDoorF1203
import Derived.Test.YtejdlplgkmelkaaGreatDoorF1201
import Derived.Deep.CutRange
set_option linter.unusedVariables false
set_option linter.unusedSimpArgs false

namespace Go.Proofs.YtejdlplgkmelkaaGreatDoor
open Go.RowKit Go.Pantry

abbrev InI (z : Int) : Prop := -9223372036854775808 ≤ z ∧ z ≤ 9223372036854775807
abbrev LimS (s : SiteZ) : Prop := (0 ≤ s.min ∧ s.min ≤ 2147483648) ∧ (0 ≤ s.max ∧ s.max ≤ 2147483648)
/-- package fresh's contracts, in worlds where Ok holds -/
structure Freshs (Ok : World → Prop) : Prop where
  keep : ∀ w w', Ok w → Below w.heap.size w w' → Ok w'
  kept : ∀ (no : Option Addr) (n nc : Nat) (s : SiteZ) (m : List UInt8) (av cv : Value) (asked came : List Fld) (st : Int) (w : World), Ok w → Reads2 w av asked → Reads2 w cv came → SmallF asked → SmallF came → m.length ≤ 1000 → InI st →
    Calls Tryz.prog 13 #[.agg (rowZ (.slice no n nc) s), strV m, av, .int .i64 st, cv] w fun e w' => e = .returned (.bool (keptF s.keep m asked st came)) ∧ Below w.heap.size w w'
  life : ∀ (no : Option Addr) (n nc : Nat) (s : SiteZ) (cv : Value) (came : List Fld) (z : Int) (w : World), Ok w → Reads2 w cv came → SmallF came → LimS s → InI z →
    Calls Tryz.prog 17 #[.agg (rowZ (.slice no n nc) s), cv, .int .i64 z] w fun e w' => e = .returned (.int .i64 (lifeF s.min s.max came z)) ∧ Below w.heap.size w w'
  age : ∀ (cv : Value) (came : List Fld) (x y z : Int) (w : World), Ok w → Reads2 w cv came → SmallF came → InI x → InI y → InI z →
    Calls Tryz.prog 19 #[cv, .int .i64 x, .int .i64 y, .int .i64 z] w fun e w' => e = .returned (.int .i64 (ageF came x y z)) ∧ Below w.heap.size w w'
  use : ∀ (no : Option Addr) (n nc : Nat) (s : SiteZ) (rv cv : Value) (req came : List Fld) (x y z : Int) (w : World), Ok w → Reads2 w rv req → Reads2 w cv came → SmallF req → SmallF came → LimS s → InI x → InI y → InI z →
    Calls Tryz.prog 21 #[.agg (rowZ (.slice no n nc) s), rv, cv, .int .i64 x, .int .i64 y, .int .i64 z] w fun e w' => e = .returned (.int .i64 (useF s.min s.max req came x y z)) ∧ Below w.heap.size w w'
abbrev exS : SiteZ := ⟨[], 0, 0, 3600, false, true, []⟩
theorem reads2_nil (W : World) : Reads2 W (.slice none 0 0) [] := ⟨none, 0, rfl, (fun j p hj => by simp at hj), fun _ => rfl, Nat.le_refl _⟩
theorem small_nil : SmallF [] := ⟨by decide, by simp, by simp⟩
theorem small_ex : SmallF exF := ⟨by decide, by simp [sCC], by simp⟩
set_option maxRecDepth 8000 in
set_option maxHeartbeats 4000000 in
theorem anchor_any {Ok : World → Prop} (K : Freshs Ok) (w : World) (ok : Ok w) :
    Calls Tryz.prog 10 #[] w fun e w' => e = .returned (.bool true) ∧ Below w.heap.size w w' := by
  have c1 := fun (W : World) (cv : Value) (o : Ok W) (h : Reads2 W cv exF) => K.use none 0 0 exS (.slice none 0 0) cv [] exF 100 100 110 W o (reads2_nil W) h small_nil small_ex (by decide) (by decide) (by decide) (by decide)
  have c2 := fun (W : World) (cv : Value) (o : Ok W) (h : Reads2 W cv exF) => K.use none 0 0 exS (.slice none 0 0) cv [] exF 100 100 160 W o (reads2_nil W) h small_nil small_ex (by decide) (by decide) (by decide) (by decide)
  have c3 := fun (W : World) (cv : Value) (o : Ok W) (h : Reads2 W cv exF) => K.kept none 0 0 exS nGet (.slice none 0 0) cv [] exF 200 W o (reads2_nil W) h small_nil small_ex (by decide) (by decide)
  have c4 := fun (W : World) (cv : Value) (o : Ok W) (h : Reads2 W cv exF) => K.life none 0 0 exS cv exF 100 W o h small_ex (by decide) (by decide)
  have e1 : useF exS.min exS.max [] exF 100 100 110 = 0 := ex_use1
  have e2 : useF exS.min exS.max [] exF 100 100 160 = 1 := ex_use2
  have e3 : keptF exS.keep nGet [] 200 exF = true := ex_kept
  have e4 : lifeF exS.min exS.max exF 100 = 60 := ex_life 100 (by decide)
  simp only [e1] at c1
  simp only [e2] at c2
  simp only [e3] at c3
  simp only [e4] at c4
  have C1 := hid c1
  have C2 := hid c2
  have C3 := hid c3
  have C4 := hid c4
  clear c1 c2 c3 c4 e1 e2 e3 e4
  go_enter Tryz.func10, Tryz.ntmps10
  go_upto_region 2 with fail
  have q0 := rowIs_new w (rowZ (.slice none 0 0) exS) 24
  have hb0 := below_alloc w (.cells (rowZ (.slice none 0 0) exS) 24)
  change Code.wp _ _ _ _ (w.alloc (.cells (rowZ (.slice none 0 0) exS) 24))
  generalize w.alloc (.cells (rowZ (.slice none 0 0) exS) 24) = W at q0 hb0 ⊢
  obtain ⟨G, hG⟩ : ∃ G, w.heap.size = G := ⟨_, rfl⟩
  rw [hG] at q0 ⊢
  have HB0 := hid hb0
  have Q0 := hid q0
  clear hb0 q0 hG
  go_upto_region 3 with fail
  have hb1 := below_alloc W (.cells #[strV sCC, strV [109, 97, 120, 45, 97, 103, 101, 61, 54, 48]] 46)
  have hr1 := reads2_new_at W (sCC, [109, 97, 120, 45, 97, 103, 101, 61, 54, 48]) 46 1 W.heap.size rfl
  have q1 := Q0.out.below hb1
  have HB := hid (chain2 HB0.out HB0.out.size hb1)
  change Code.wp _ _ _ _ (W.alloc (.cells #[strV sCC, strV [109, 97, 120, 45, 97, 103, 101, 61, 54, 48]] 46))
  obtain ⟨B, hBe⟩ : ∃ B, W.heap.size = B := ⟨_, rfl⟩
  rw [hBe] at hr1 ⊢
  generalize W.alloc (.cells #[strV sCC, strV [109, 97, 120, 45, 97, 103, 101, 61, 54, 48]] 46) = W1 at hr1 q1 HB ⊢
  have HR := hid hr1
  have HQ := hid q1
  have HO := hid (K.keep _ _ ok HB.out)
  clear hb1 hr1 hBe Q0 HB0
  go_wp2_with (refine wpList_load_row rfl 24 _ rfl G rfl 24 _ (0, 0) _ q1 Tryz.underlying24 rfl infoSiteK ?_)
  refine (C1.out _ _ HO.out HR.out).mono ?_
  rintro e w2 ⟨rfl, hb2⟩
  have q2 := HQ.out.below hb2
  have HB2 := hid (chain2 HB.out HB.out.size hb2)
  have HR2 := hid (HR.out.below hb2)
  have HO2 := hid (K.keep _ _ HO.out hb2)
  clear q1 hb2 HB HR HO HQ
  have HQ2 := hid q2
  go_wp2_with (refine wpList_unguard rfl ?_; refine wpList_load_row rfl 24 _ rfl G rfl 24 _ (0, 0) _ q2 Tryz.underlying24 rfl infoSiteK ?_)
  refine (C2.out _ _ HO2.out HR2.out).mono ?_
  rintro e w3 ⟨rfl, hb3⟩
  have q3 := HQ2.out.below hb3
  have HB3 := hid (chain2 HB2.out HB2.out.size hb3)
  have HR3 := hid (HR2.out.below hb3)
  have HO3 := hid (K.keep _ _ HO2.out hb3)
  clear q2 hb3 HB2 HR2 HO2 HQ2
  have HQ3 := hid q3
  go_wp2_with (refine wpList_unguard rfl ?_; refine wpList_load_row rfl 24 _ rfl G rfl 24 _ (0, 0) _ q3 Tryz.underlying24 rfl infoSiteK ?_)
  refine (C3.out _ _ HO3.out HR3.out).mono ?_
  rintro e w4 ⟨rfl, hb4⟩
  have q4 := HQ3.out.below hb4
  have HB4 := hid (chain2 HB3.out HB3.out.size hb4)
  have HR4 := hid (HR3.out.below hb4)
  have HO4 := hid (K.keep _ _ HO3.out hb4)
  clear q3 hb4 HB3 HR3 HO3 HQ3
  go_wp2_with (refine wpList_unguard rfl ?_; refine wpList_load_row rfl 24 _ rfl G rfl 24 _ (0, 0) _ q4 Tryz.underlying24 rfl infoSiteK ?_)
  refine (C4.out _ _ HO4.out HR4.out).mono ?_
  rintro e w5 ⟨rfl, hb5⟩
  have HB5 := hid (chain2 HB4.out HB4.out.size hb5)
  clear q4 hb5
  go_wp2_with fail
  go_ret
  exact ⟨rfl, HB5.out⟩
end Go.Proofs.YtejdlplgkmelkaaGreatDoor
