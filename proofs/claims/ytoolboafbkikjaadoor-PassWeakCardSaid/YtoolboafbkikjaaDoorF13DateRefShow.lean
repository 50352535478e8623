/-
  Contract of the document's Show.
-/
import Derived.Test.YtoolboafbkikjaaDoorF13DateShow
import Derived.Deep.RegionHeld3
set_option linter.unusedVariables false
set_option linter.unusedSimpArgs false

namespace Go.Proofs.YtoolboafbkikjaaDoor
open Go.RowKit Go.Pantry

theorem below_alloc2 (w : World) (a b : Obj) : Below w.heap.size w ((w.alloc a).alloc b) := (below_alloc w a).alloc (by simp) b
theorem refTwo_any (n : Int) (w : World) (h1 : 0 ≤ n) (h2 : n ≤ 99) :
    Calls Tryd.prog 96 #[.int .i64 n] w fun e w' => e = .returned (strV (twoL n)) ∧ Below w.heap.size w w' := by
  have hcv : ∀ W : World, (convert 46 9 (.slice (some ⟨W.heap.size, 0, none⟩) 2 2)).run Tryd.prog (W.alloc (.cells #[.int .u8 (48 + n / 10), .int .u8 (48 + n % 10)] 5)) = .ok (strV (twoL n)) (W.alloc (.cells #[.int .u8 (48 + n / 10), .int .u8 (48 + n % 10)] 5)) := by
    intro W
    have e : (#[.int .u8 (48 + n / 10), .int .u8 (48 + n % 10)] : Array Value) = ((twoL n).map byteV).toArray := by
      have a : n / 10 % 10 = n / 10 := by omega
      simp only [twoL, List.map]
      rw [← byteV_dig _ (by omega) (by omega), ← byteV_dig _ (by omega) (by omega), a]
    rw [e]
    have hr := (reads_new W ((twoL n).map byteV) 5 2).at_some (by simp [twoL])
    obtain ⟨b, off, cap, hv, hc⟩ := hr
    have hv' := hv
    simp only [List.length_map, twoL, List.length_cons, List.length_nil] at hv'
    cases hv'
    refine run_convert_bytes_back _ 46 9 5 ⟨W.heap.size, 0, none⟩ 2 (twoL n) Tryd.underlying46 Tryd.underlying5 Tryd.underlying9 (fun j hj => ?_)
    have := hc j (byteV (twoL n)[j]) (by simp [List.getElem?_eq_getElem hj])
    rw [show (⟨W.heap.size, 0, none⟩ : Addr).add j = ⟨W.heap.size, 0 + j, none⟩ by unfold Addr.add; split <;> simp_all]
    exact this
  go_enter Tryd.func96, Tryd.ntmps96
  go_wp2
  go_ret
  exact ⟨rfl, below_alloc _ _⟩

theorem wd_cell (w : World) (i : Int) (h1 : 0 ≤ i) (h2 : i < 7) {o : Obj} {t : TypeId} :
    ((w.alloc (Obj.cells #[Value.string { data := #[84, 104, 117] }, Value.string { data := #[70, 114, 105] }, Value.string { data := #[83, 97, 116] }, Value.string { data := #[83, 117, 110] }, Value.string { data := #[77, 111, 110] }, Value.string { data := #[84, 117, 101] }, Value.string { data := #[87, 101, 100] }] t)).alloc o).cell? ⟨w.heap.size, i.toNat, none⟩ = some (strV (wdL i)) := by
  have a : i = 0 ∨ i = 1 ∨ i = 2 ∨ i = 3 ∨ i = 4 ∨ i = 5 ∨ i = 6 := by omega
  have hold := World.cell?_of_block (w := w.alloc (Obj.cells #[Value.string { data := #[84, 104, 117] }, Value.string { data := #[70, 114, 105] }, Value.string { data := #[83, 97, 116] }, Value.string { data := #[83, 117, 110] }, Value.string { data := #[77, 111, 110] }, Value.string { data := #[84, 117, 101] }, Value.string { data := #[87, 101, 100] }] t)) (a := ⟨w.heap.size, i.toNat, none⟩) (Below.heap_alloc _ o w.heap.size (by simp))
  rw [hold, World.cell?_alloc_at _ _ _ _ rfl]
  rcases a with rfl | rfl | rfl | rfl | rfl | rfl | rfl <;> rfl
theorem mo_cell (w : World) (m : Int) (h1 : 1 ≤ m) (h2 : m ≤ 12) {o : Obj} {t : TypeId} :
    ((w.alloc o).alloc (Obj.cells #[Value.string { data := #[] }, Value.string { data := #[74, 97, 110] }, Value.string { data := #[70, 101, 98] }, Value.string { data := #[77, 97, 114] }, Value.string { data := #[65, 112, 114] }, Value.string { data := #[77, 97, 121] }, Value.string { data := #[74, 117, 110] }, Value.string { data := #[74, 117, 108] }, Value.string { data := #[65, 117, 103] }, Value.string { data := #[83, 101, 112] }, Value.string { data := #[79, 99, 116] }, Value.string { data := #[78, 111, 118] }, Value.string { data := #[68, 101, 99] }] t)).cell? ⟨w.heap.size + 1, m.toNat, none⟩ = some (strV (moL m)) := by
  have e : w.heap.size + 1 = (w.alloc o).heap.size := by simp
  rw [e, World.cell?_alloc_at _ _ _ _ rfl]
  rcases month_all h1 h2 with rfl | rfl | rfl | rfl | rfl | rfl | rfl | rfl | rfl | rfl | rfl | rfl <;> rfl
theorem refTwo_keep (n : Int) (a1 a2 : Addr) (v1 v2 : Value) (w0 W : World) (h1 : 0 ≤ n) (h2 : n ≤ 99) (hS : W.cell? a1 = some v1 ∧ W.cell? a2 = some v2 ∧ Below w0.heap.size w0 W) :
    Calls Tryd.prog 96 #[.int .i64 n] W fun e w' => e = .returned (strV (twoL n)) ∧ w'.cell? a1 = some v1 ∧ w'.cell? a2 = some v2 ∧ Below w0.heap.size w0 w' := by
  refine (refTwo_any n W h1 h2).mono ?_
  rintro e w' ⟨he, hb⟩
  exact ⟨he, (hb.cell (World.block_lt_of_cell? W _ hS.1)).trans hS.1, (hb.cell (World.block_lt_of_cell? W _ hS.2.1)).trans hS.2.1, chainB hS.2.2 hS.2.2.size hb⟩

/-- a sum of two texts, laid ahead -/
theorem sum_ex {P : Program} (a b : List UInt8) (ha : a.length ≤ 1000) (hb : b.length ≤ 1000) :
    ∃ c : List UInt8, c = a ++ b ∧ c.length = a.length + b.length ∧ ∀ W : World, (Op.stringOp .add ⟨a.toArray⟩ ⟨b.toArray⟩).run P W = .ok (strV c) W :=
  ⟨a ++ b, rfl, List.length_append, fun W => run_string_add_lists W a b (by omega) (by omega)⟩

set_option maxHeartbeats 4000000 in
set_option maxRecDepth 8000 in
theorem refShow_any (t : Int) (w : World) (h0 : 0 ≤ t) (h1 : t ≤ 253402300799) :
    Calls Tryd.prog 76 #[.int .i64 t] w fun e w' => e = .returned (strV (showL t)) ∧ Below w.heap.size w w' := by
  have hD0 : 0 ≤ t / 86400 := by omega
  have hD1 : t / 86400 ≤ 2932896 := by omega
  have hd := dateI_is (t / 86400) hD0 hD1
  have hx : showL t = textL (t / 86400 % 7) (dateI (t / 86400)).1 (dateI (t / 86400)).2.1 (dateI (t / 86400)).2.2 (t % 86400) := rfl
  have hc := fun w => refSplit_any t w h0 h1
  obtain ⟨y, m, d, hymd⟩ : ∃ y m d, dateI (t / 86400) = (y, m, d) := ⟨_, _, _, rfl⟩
  rw [hymd] at hd hx hc
  simp only at hd hx hc
  clear hymd
  have hdb := daysI_bd y m
  obtain ⟨y1, y2, m1, m2, d1, d2, -⟩ := hd
  have hr0 : 0 ≤ t % 86400 := by omega
  have hr1 : t % 86400 < 86400 := by omega
  have q1 : IntKind.i64.wrap (t.tdiv 86400) = t / 86400 := by rw [Int.tdiv_eq_ediv_of_nonneg h0]; exact IntWalk.i64_in _ (by omega)
  have HX := hid hx
  have HC := hid hc
  clear hx hc
  obtain ⟨D, hD⟩ : ∃ D, t / 86400 = D := ⟨_, rfl⟩
  obtain ⟨r, hr⟩ : ∃ r, t % 86400 = r := ⟨_, rfl⟩
  rw [hD] at hD0 hD1 HX q1
  rw [hr] at hr0 hr1 HX HC
  clear hD hr
  have hi0 : 0 ≤ D % 7 := by omega
  have hi1 : D % 7 < 7 := by omega
  have hm0 : 0 ≤ m := by omega
  have hm1 : m < 13 := by omega
  have b1 : 0 ≤ r / 3600 ∧ r / 3600 < 24 := by omega
  have b2 : 0 ≤ r / 60 ∧ r / 60 < 1440 := by omega
  have b3 : 0 ≤ r / 60 % 60 ∧ r / 60 % 60 < 60 := by omega
  have b4 : 0 ≤ r % 60 ∧ r % 60 < 60 := by omega
  have q2 : D.tmod 7 = D % 7 := Int.tmod_eq_emod_of_nonneg hD0
  go_enter Tryd.func76, Tryd.ntmps76
  go_wp2_with fail
  refine (HC.out _).mono ?_
  rintro e w1 ⟨rfl, hb1⟩
  go_wp2_with fail
  have tab : ∃ W : World, ((w1.alloc (Obj.cells #[Value.string { data := #[84, 104, 117] }, Value.string { data := #[70, 114, 105] }, Value.string { data := #[83, 97, 116] }, Value.string { data := #[83, 117, 110] }, Value.string { data := #[77, 111, 110] }, Value.string { data := #[84, 117, 101] }, Value.string { data := #[87, 101, 100] }] 112)).alloc
      (Obj.cells #[Value.string { data := #[] }, Value.string { data := #[74, 97, 110] }, Value.string { data := #[70, 101, 98] }, Value.string { data := #[77, 97, 114] }, Value.string { data := #[65, 112, 114] }, Value.string { data := #[77, 97, 121] }, Value.string { data := #[74, 117, 110] }, Value.string { data := #[74, 117, 108] }, Value.string { data := #[65, 117, 103] }, Value.string { data := #[83, 101, 112] }, Value.string { data := #[79, 99, 116] }, Value.string { data := #[78, 111, 118] }, Value.string { data := #[68, 101, 99] }] 93)) = W ∧
      W.cell? ⟨w1.heap.size, (D % 7).toNat, none⟩ = some (strV (wdL (D % 7))) ∧ W.cell? ⟨w1.heap.size + 1, m.toNat, none⟩ = some (strV (moL m)) ∧ Below w1.heap.size w1 W :=
    ⟨_, rfl, wd_cell w1 _ hi0 hi1, mo_cell w1 _ m1 m2, below_alloc2 _ _ _⟩
  obtain ⟨W, hW, cw, cm, hbW⟩ := tab
  rw [hW]
  clear hW
  have q3 : IntKind.i64.wrap (y.tdiv 100) = y / 100 := by rw [Int.tdiv_eq_ediv_of_nonneg (by omega)]; exact IntWalk.i64_in _ (by omega)
  have q4 : y.tmod 100 = y % 100 := Int.tmod_eq_emod_of_nonneg (by omega)
  have d0 : 0 ≤ d := by omega
  have d9 : d ≤ 99 := by omega
  have y0 : 0 ≤ y / 100 := by omega
  have y9 : y / 100 ≤ 99 := by omega
  have z0 : 0 ≤ y % 100 := by omega
  have z9 : y % 100 ≤ 99 := by omega
  have lw := wdL_len (D % 7) hi0 hi1
  have lm := moL_len m m1 m2
  obtain ⟨X1, e1, l1, s1⟩ := sum_ex (P := Tryd.prog) (wdL (D % 7)) ([44, 32]) (by omega) (by decide)
  rw [lw, show ([44, 32] : List UInt8).length = 2 from rfl] at l1
  obtain ⟨X2, e2, l2, s2⟩ := sum_ex (P := Tryd.prog) (X1) (twoL d) (by omega) (by rw [show (twoL d).length = 2 from rfl]; decide)
  rw [l1, show (twoL d : List UInt8).length = 2 from rfl] at l2
  obtain ⟨X3, e3, l3, s3⟩ := sum_ex (P := Tryd.prog) (X2) ([32]) (by omega) (by decide)
  rw [l2, show ([32] : List UInt8).length = 1 from rfl] at l3
  obtain ⟨X4, e4, l4, s4⟩ := sum_ex (P := Tryd.prog) (X3) (moL m) (by omega) (by omega)
  rw [l3, lm] at l4
  obtain ⟨X5, e5, l5, s5⟩ := sum_ex (P := Tryd.prog) (X4) ([32]) (by omega) (by decide)
  rw [l4, show ([32] : List UInt8).length = 1 from rfl] at l5
  obtain ⟨X6, e6, l6, s6⟩ := sum_ex (P := Tryd.prog) (X5) (twoL (y / 100)) (by omega) (by rw [show (twoL (y / 100)).length = 2 from rfl]; decide)
  rw [l5, show (twoL (y / 100) : List UInt8).length = 2 from rfl] at l6
  obtain ⟨X7, e7, l7, s7⟩ := sum_ex (P := Tryd.prog) (X6) (twoL (y % 100)) (by omega) (by rw [show (twoL (y % 100)).length = 2 from rfl]; decide)
  rw [l6, show (twoL (y % 100) : List UInt8).length = 2 from rfl] at l7
  obtain ⟨X8, e8, l8, s8⟩ := sum_ex (P := Tryd.prog) (X7) ([32]) (by omega) (by decide)
  rw [l7, show ([32] : List UInt8).length = 1 from rfl] at l8
  obtain ⟨X9, e9, l9, s9⟩ := sum_ex (P := Tryd.prog) (X8) (twoL (r / 3600)) (by omega) (by rw [show (twoL (r / 3600)).length = 2 from rfl]; decide)
  rw [l8, show (twoL (r / 3600) : List UInt8).length = 2 from rfl] at l9
  obtain ⟨X10, e10, l10, s10⟩ := sum_ex (P := Tryd.prog) (X9) ([58]) (by omega) (by decide)
  rw [l9, show ([58] : List UInt8).length = 1 from rfl] at l10
  obtain ⟨X11, e11, l11, s11⟩ := sum_ex (P := Tryd.prog) (X10) (twoL (r / 60 % 60)) (by omega) (by rw [show (twoL (r / 60 % 60)).length = 2 from rfl]; decide)
  rw [l10, show (twoL (r / 60 % 60) : List UInt8).length = 2 from rfl] at l11
  obtain ⟨X12, e12, l12, s12⟩ := sum_ex (P := Tryd.prog) (X11) ([58]) (by omega) (by decide)
  rw [l11, show ([58] : List UInt8).length = 1 from rfl] at l12
  obtain ⟨X13, e13, l13, s13⟩ := sum_ex (P := Tryd.prog) (X12) (twoL (r % 60)) (by omega) (by rw [show (twoL (r % 60)).length = 2 from rfl]; decide)
  rw [l12, show (twoL (r % 60) : List UInt8).length = 2 from rfl] at l13
  obtain ⟨X14, e14, l14, s14⟩ := sum_ex (P := Tryd.prog) (X13) ([32, 71, 77, 84]) (by omega) (by decide)
  rw [l13, show ([32, 71, 77, 84] : List UInt8).length = 4 from rfl] at l14
  have HT : Hid (X14 = showL t) := by
    show X14 = showL t
    rw [HX.out, e14, e13, e12, e11, e10, e9, e8, e7, e6, e5, e4, e3, e2, e1]
    have f : fourL y = twoL (y / 100) ++ twoL (y % 100) := by
      have a1 : y / 100 / 10 % 10 = y / 1000 % 10 := by omega
      have a2 : y % 100 / 10 % 10 = y / 10 % 10 := by omega
      have a3 : y % 100 % 10 = y % 10 := by omega
      simp only [fourL, twoL, a1, a2, a3, List.cons_append, List.nil_append]
    simp only [textL, clockL, f, List.append_assoc, List.cons_append, List.nil_append]
  clear e1 e2 e3 e4 e5 e6 e7 e8 e9 e10 e11 e12 e13 e14 HX HC
  clear l1 l2 l3 l4 l5 l6 l7 l8 l9 l10 l11 l12 l13 l14 lw lm
  go_region_held3 (fun w' => w'.cell? ⟨w1.heap.size, (D % 7).toNat, none⟩ = some (strV (wdL (D % 7))) ∧ w'.cell? ⟨w1.heap.size + 1, m.toNat, none⟩ = some (strV (moL m)) ∧ Below w1.heap.size w1 w') (first | exact ⟨cw, cm, hbW.drew⟩ | exact ⟨hS1, hS2, hS3⟩)
    (first | (go_at_call 96; refine (refTwo_keep _ _ _ _ _ w1 _ (by omega) (by omega) (by assumption)).mono ?_; rintro e w' ⟨rfl, hS1, hS2, hS3⟩))
  clear q1 q2 q3 q4 s1 s2 s3 s4 s5 s6 s7 cw cm hbW
  all_goals
    clear hS1 hS2
    have HB := chainB hb1 hb1.size hS3
    clear hS3
    go_wp2_with (go_at_call 96; refine (refTwo_any _ _ (by omega) (by omega)).mono ?_; rintro e w9 ⟨rfl, hb9⟩; replace HB := chainB HB HB.size hb9; clear hb9)
    go_ret
    exact ⟨by rw [HT.out]; rfl, HB⟩
end Go.Proofs.YtoolboafbkikjaaDoor
