/-
  Contract of package date: Show.
-/
import Derived.Test.YtoolboafbkikjaaDoorF1309
import Derived.Deep.RegionWith
import Derived.IntWalk
import Derived.StillTailTactics
set_option linter.unusedVariables false
set_option linter.unusedSimpArgs false

namespace Go.Proofs.YtoolboafbkikjaaDoor
open Go.RowKit Go.Pantry

/-- The tables of package date lie as its text lays them. -/
structure Tables (w : World) : Prop where
  wd : ∀ j, j < 7 → w.cell? ⟨0, j, none⟩ = some (strV (wdT.getD j []))
  mo : ∀ j, j < 12 → w.cell? ⟨1, j, none⟩ = some (strV (moT.getD j []))
theorem Tables.lt {w : World} (h : Tables w) : 0 < w.heap.size ∧ 1 < w.heap.size := ⟨World.block_lt_of_cell? w _ (h.wd 0 (by omega)), World.block_lt_of_cell? w _ (h.mo 0 (by omega))⟩
theorem Tables.below {B : Nat} {w w' : World} (h : Tables w) (hb : Below B w w') (hB : 0 < B ∧ 1 < B) : Tables w' :=
  ⟨fun j hj => (hb.cell (p := ⟨0, j, none⟩) hB.1).trans (h.wd j hj), fun j hj => (hb.cell (p := ⟨1, j, none⟩) hB.2).trans (h.mo j hj)⟩
theorem Tables.wdAt {w : World} (h : Tables w) (i : Int) (h1 : 0 ≤ i) (h2 : i < 7) : w.cell? ⟨0, i.toNat, none⟩ = some (strV (wdL i)) := h.wd _ (by omega)
theorem Tables.moAt {w : World} (h : Tables w) (m : Int) (h1 : 1 ≤ m) (h2 : m ≤ 12) : w.cell? ⟨1, (m - 1).toNat, none⟩ = some (strV (moL m)) := h.mo _ (by omega)

/-- the parts of a date -/
def partsL (i y m d r : Int) : List Part :=
  [.str (wdL i), .str [44, 32], .two d, .str [32], .str (moL m), .str [32], .four y, .str [32], .two (r / 3600), .str [58], .two (r / 60 % 60), .str [58], .two (r % 60), .str [32, 71, 77, 84]]
theorem partsL_text (i y m d r : Int) : joinL (partsL i y m d r) = textL i y m d r := by
  simp [joinL, partsL, Part.text, textL, clockL]
theorem wdL_len (i : Int) (h1 : 0 ≤ i) (h2 : i < 7) : (wdL i).length = 3 := by obtain ⟨a, b, c, h⟩ := wdL_three i h1 h2; rw [h]; rfl
theorem moL_len (m : Int) (h1 : 1 ≤ m) (h2 : m ≤ 12) : (moL m).length = 3 := by obtain ⟨a, b, c, h⟩ := moL_three m h1 h2; rw [h]; rfl
theorem partsL_ok (i y m d r : Int) (h1 : 0 ≤ i) (h2 : i < 7) (h3 : 1 ≤ m) (h4 : m ≤ 12) (h5 : 0 ≤ y ∧ y ≤ 9999) (h6 : 0 ≤ d ∧ d ≤ 31) (h7 : 0 ≤ r ∧ r < 86400) : ∀ p ∈ partsL i y m d r, p.ok := by
  have a := wdL_len i h1 h2
  have b := moL_len m h3 h4
  intro p hp
  simp only [partsL, List.mem_cons, List.not_mem_nil, or_false] at hp
  rcases hp with rfl | rfl | rfl | rfl | rfl | rfl | rfl | rfl | rfl | rfl | rfl | rfl | rfl | rfl <;> simp only [Part.ok, List.length_cons, List.length_nil] <;> omega

theorem Show_no (t : Int) (w : World) (h : t < 0 ∨ 253402300799 < t) :
    Calls Tryd.prog 72 #[.int .i64 t] w fun e w' => e = .returned (.tuple #[strV [], .int .i64 11]) ∧ w = w' := by
  go_enter Tryd.func72, Tryd.ntmps72
  go_wp2_with (go_at_call 93; go_must (refine (Split_no _ _ h).mono ?_); rintro e w' ⟨rfl, rfl⟩)
  go_ret2
  exact ⟨rfl, rfl⟩

set_option maxHeartbeats 4000000 in
set_option maxRecDepth 8000 in
theorem Show_yes (t : Int) (w : World) (h0 : 0 ≤ t) (h1 : t ≤ 253402300799) (hT : Tables w) :
    Calls Tryd.prog 72 #[.int .i64 t] w fun e w' => e = .returned (.tuple #[strV (showL t), .int .i64 0]) ∧ Below w.heap.size w w' := by
  have hD0 : 0 ≤ t / 86400 := by omega
  have hD1 : t / 86400 ≤ 2932896 := by omega
  have hd := dateI_is (t / 86400) hD0 hD1
  have hx : showL t = textL (t / 86400 % 7) (dateI (t / 86400)).1 (dateI (t / 86400)).2.1 (dateI (t / 86400)).2.2 (t % 86400) := rfl
  have hc := fun w => Split_yes t w h0 h1
  obtain ⟨y, m, d, hymd⟩ : ∃ y m d, dateI (t / 86400) = (y, m, d) := ⟨_, _, _, rfl⟩
  rw [hymd] at hd hx hc
  simp only at hd hx hc
  clear hymd
  have hdb := daysI_bd y m
  obtain ⟨y1, y2, m1, m2, d1, d2, -⟩ := hd
  have hr0 : 0 ≤ t % 86400 := by omega
  have hr1 : t % 86400 < 86400 := by omega
  have q1 : IntKind.i64.wrap (t.tdiv 86400) = t / 86400 := by rw [Int.tdiv_eq_ediv_of_nonneg h0]; exact IntWalk.i64_in _ (by omega)
  have HX := hid hx
  have HC := hid hc
  clear hx hc
  obtain ⟨D, hD⟩ : ∃ D, t / 86400 = D := ⟨_, rfl⟩
  obtain ⟨r, hr⟩ : ∃ r, t % 86400 = r := ⟨_, rfl⟩
  rw [hD] at hD0 hD1 HX q1
  rw [hr] at hr0 hr1 HX HC
  clear hD hr
  have hi0 : 0 ≤ D % 7 := by omega
  have hi1 : D % 7 < 7 := by omega
  have cw := hT.wdAt (D % 7) hi0 hi1
  have cm := hT.moAt m m1 m2
  rw [show (m - 1).toNat = m.toNat - 1 by omega] at cm
  have hm0 : 0 ≤ m - 1 := by omega
  have hm1 : m - 1 < 12 := by omega
  have b1 : 0 ≤ r / 3600 ∧ r / 3600 < 24 := by omega
  have b2 : 0 ≤ r / 60 ∧ r / 60 < 1440 := by omega
  have b3 : 0 ≤ r / 60 % 60 ∧ r / 60 % 60 < 60 := by omega
  have b4 : 0 ≤ r % 60 ∧ r % 60 < 60 := by omega
  have q2 : D.tmod 7 = D % 7 := Int.tmod_eq_emod_of_nonneg hD0
  have q3 : IntKind.i64.wrap (m - 1) = m - 1 := IntWalk.i64_in _ (by omega)
  have q4 : IntKind.i64.wrap (r.tdiv 3600) = r / 3600 := by rw [Int.tdiv_eq_ediv_of_nonneg hr0]; exact IntWalk.i64_in _ (by omega)
  have q5 : IntKind.i64.wrap (r.tdiv 60) = r / 60 := by rw [Int.tdiv_eq_ediv_of_nonneg hr0]; exact IntWalk.i64_in _ (by omega)
  have q6 : (r / 60).tmod 60 = r / 60 % 60 := Int.tmod_eq_emod_of_nonneg b2.1
  have q7 : r.tmod 60 = r % 60 := Int.tmod_eq_emod_of_nonneg hr0
  have hB := hT.lt
  go_enter Tryd.func72, Tryd.ntmps72
  go_wp2_with fail
  refine (HC.out _).mono ?_
  rintro e w' ⟨rfl, rfl⟩
  go_wp2_with fail
  refine wp_region_still_tail 32 (by kernel_rfl) (by kernel_rfl) ?_
  simp only [List.take_succ_cons, List.take_zero, List.drop_succ_cons, List.drop_zero]
  repeat still_step
  refine wpStill_nil ?_
  clear q1 q2 q3 q4 q5 q6 q7
  change wpList _ _ _ _ _ w.drew
  have hbd : Below w.heap.size w w.drew := (Below.refl _ _).drew
  have hsz : w.drew.heap.size = w.heap.size := rfl
  generalize w.drew = w2 at hbd hsz ⊢
  have hok := hid (partsL_ok (D % 7) y m d r hi0 hi1 m1 m2 (by omega) (by omega) (by omega))
  have HZ := hid hsz
  clear hsz
  go_wp2_with fail
  refine (join_any _ (partsL (D % 7) y m d r) _ (reads_new _ ((partsL (D % 7) y m d r).map Part.val) _ 14) (by simp [partsL]) hok.out).mono ?_
  rintro e w3 ⟨rfl, hb⟩
  rw [partsL_text, ← HX.out]
  go_wp2
  go_ret2
  refine ⟨rfl, hbd.trans ?_⟩
  rw [← HZ.out]
  exact (below_alloc _ _).trans (hb.mono (by simp))
end Go.Proofs.YtoolboafbkikjaaDoor
