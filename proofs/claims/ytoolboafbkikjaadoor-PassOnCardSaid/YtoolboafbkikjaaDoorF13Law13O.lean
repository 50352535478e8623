/-
  The walk of PassOn.
-/
import Derived.Test.YtoolboafbkikjaaDoorF13Law13V
import Derived.Test.YtoolboafbkikjaaDoorF1306
set_option linter.unusedVariables false
set_option linter.unusedSimpArgs false

namespace Go.Proofs.YtoolboafbkikjaaDoor
open Go.RowKit Go.Pantry

/-- names that go no further, whatever Connection says -/
def nn3 : List (List UInt8) := [[67, 111, 110, 110, 101, 99, 116, 105, 111, 110], [116, 114, 97, 110, 115, 102, 101, 114, 45, 101, 110, 99, 111, 100, 105, 110, 103], [99, 111, 110, 116, 101, 110, 116, 45, 76, 69, 78, 71, 84, 72]]
theorem nn3_low : ∀ n ∈ nn3, lowerL n ∈ fixedN := by decide
theorem fixed_low : ∀ n ∈ fixedN, lowerL n = n := by decide
theorem named_none {l : List Fld} {n : List UInt8} (h : n ∈ elementsF l nConn ++ nn3) : allF (stripF l) n = [] := by
  rcases List.mem_append.1 h with h | h
  · exact strip_named h
  · exact strip_fixed (nn3_low n h) (fixed_low _ (nn3_low n h))
set_option maxRecDepth 8000 in
set_option maxHeartbeats 4000000 in
theorem passOn_over {Ok : World → Prop} (K : Moves Ok) (lv : Value) (l : List Fld) (w : World) (ok : Ok w) (hl : Reads2 w lv l ∧ l.length ≤ maxLen) :
    Calls Tryd.prog 3 #[lv] w fun e w' => e = .returned (.bool true) ∧ Below w.heap.size w w' := by
  have cA := hid (anchor13_any K w ok)
  have cSl := hid (fun (w' : World) (h : Below w.heap.size w w') => smallK_any lv l w' (hl.1.below h) (by have := hl.2; unfold maxLen at this; omega))
  have HRl := hid hl.1
  have OK := hid ok
  clear ok hl
  go_enter Tryd.func3, Tryd.ntmps3
  go_wp2_with fail
  refine cA.out.mono ?_
  rintro e w1 ⟨rfl, hb1⟩
  have HB1 := hid hb1
  clear hb1 cA
  go_wp2_with fail
  refine (cSl.out _ HB1.out).mono ?_
  rintro e w2 ⟨rfl, hb2⟩
  have HB2 := hid (chain2 HB1.out HB1.out.size hb2)
  clear hb2 HB1 cSl
  cases hsl : smallK l with
  | false =>
    go_wp2_with fail
    go_ret
    exact ⟨rfl, HB2.out⟩
  | true =>
  have Sl := hid (smallK_ok hsl)
  have Nl := hid (smallK_len hsl)
  clear hsl
  have c1 := hid (fun (W : World) (h : Below w.heap.size w W) => K.strip lv l W (K.keep _ _ OK.out h) (HRl.out.below h) Sl.out.wide)
  have c2 := hid (fun (W : World) (h : Below w.heap.size w W) => lElements_any lv l ⟨nConn.toArray⟩ W (HRl.out.below h) Sl.out.wide.okFs (by decide))
  simp only [dtL] at c2
  have c3 := hid (fun (W : World) (x : Value) (n : List UInt8) (h : Reads2 W x (stripF l)) (hn : n.length ≤ 100000) => lGetW_any x (stripF l) n W h Sl.out.wide.strip hn)
  have hEl := Sl.out.get nConn
  have hE1 : (elementsF l nConn).length ≤ 18120 := Nat.le_trans (listL_len _) hEl
  have hE2 : ∀ e ∈ elementsF l nConn, e.length ≤ 18120 := fun e he => Nat.le_trans (listL_size _ e he) hEl
  have HNN := hid (fun (n : List UInt8) (h : n ∈ elementsF l nConn ++ nn3) => named_none h)
  generalize elementsF l nConn = E at c2 hE1 hE2 HNN
  have hNB : ∀ n ∈ E ++ nn3, n.length ≤ 100000 := by
    intro n hn
    rcases List.mem_append.1 hn with h | h
    · exact Nat.le_trans (hE2 n h) (by decide)
    · exact Nat.le_trans ((show ∀ m ∈ nn3, m.length ≤ 100 by decide) n h) (by decide)
  have HNB := hid hNB
  have HE1 := hid hE1
  clear hEl hE1 hE2 hNB
  go_wp2_with fail
  refine (c1.out _ HB2.out).mono ?_
  rintro e w3 ⟨⟨v3, rfl, hr⟩, hb⟩
  have HB3 := hid (chain2 HB2.out HB2.out.size hb)
  have S3 := hid (hr)
  clear hr
  clear hb HB2
  go_wp2_with fail
  refine (c2.out _ HB3.out).mono ?_
  rintro e w4 ⟨⟨v4, rfl, ho⟩, hb⟩
  have hbX := below_alloc w4 (.cells (nn3.map strV).toArray 9)
  have hrX := reads_new w4 (nn3.map strV) 9 3
  have hoX := ho.below hbX
  have hbx := chain2 hb hb.size hbX
  have hsX := hbx.size
  have HBX := hid hbx
  have hle := HE1.out
  have hn3 : (nn3.map strV).length = 3 := rfl
  obtain ⟨N, hN⟩ : ∃ N, E ++ nn3 = N := ⟨_, rfl⟩
  rw [hN] at HNN HNB
  obtain ⟨n, hn⟩ : ∃ n, N.length = n := ⟨_, rfl⟩
  have hnb : n ≤ 18130 := by rw [← hn, ← hN, List.length_append]; simp [nn3]; omega
  clear hbX hbx hb ho
  go_wp2_with (at_builtin; go_must (refine wpList_append_all _ rfl _ _ 27 rfl w3.heap.size 9 Tryd.underlying27 infoStr rfl (by decide) rfl hoX hrX (by simp [nn3, Value.oneCell']) rfl (by rw [hn3]; omega) hsX ?_); intro v5 w5 ho5 hg5 hb5; have hr5 := ho5.reads; rw [← List.map_append, hN] at hr5; obtain ⟨no, nc, rfl⟩ := hr5.strs; rw [hn] at hr5 ⊢)
  have HN := hid hn
  have R5 := hid hr5
  have hb35 := HBX.out.trans hb5
  have HB5 := hid (chain2 HB3.out HB3.out.size hb35)
  have S5 := hid (S3.out.below hb35)
  clear hoX hrX hsX HBX S3 HB3 hle ho5 hg5 hb5 hb35 hr5 hn hN hn3
  go_loopw [21] (fun i wr => ∃ k : Nat, k ≤ n ∧ i = .int .i64 (k : Int) ∧ Below w5.heap.size w5 wr) (fun i _ => n - (intOf i).toNat)
  case atStart => exact ⟨0, Nat.zero_le _, rfl, Below.refl _ _⟩
  case round =>
    obtain ⟨k, hk, rfl, hbr⟩ := hrel
    by_cases hlt : k < n
    · obtain ⟨y, hy⟩ : ∃ y, N[k]? = some y := ⟨_, List.getElem?_eq_getElem (by rw [HN.out]; exact hlt)⟩
      obtain ⟨bb, off, hao, d0⟩ := (R5.out.below hbr).str hy
      subst hao
      have hkI : (k : Int) < (n : Int) := by omega
      have hk0 : (0 : Int) ≤ (k : Int) := by omega
      have hkw : IntKind.i64.wrap ((k : Int) + 1) = (k : Int) + 1 := IntWalk.i64_in _ (by omega)
      have hmem := List.mem_of_getElem? hy
      have cg := c3.out wr _ y (S5.out.below hbr) (HNB.out y hmem)
      rw [HNN.out y hmem] at cg
      have cG := hid cg
      have HBR := hid hbr
      clear hy hmem cg hbr
      go_wp2_with fail
      refine cG.out.mono ?_
      rintro e w6 ⟨rfl, hb6⟩
      have HB6 := hid (chain2 HBR.out HBR.out.size hb6)
      clear hb6 cG
      go_wp2_with fail
      go_roundw
      case rel => exact ⟨k + 1, hlt, by go_num, HB6.out⟩
      case measure => simp [intOf]; omega
    · have hkn : k = n := by omega
      subst hkn
      have hdk : decide ((k : Int) < (k : Int)) = false := decide_eq_false (by omega)
      have HBA := hid (chain2 HB5.out HB5.out.size hbr)
      have SA := hid (S5.out.below hbr)
      clear hbr R5 HN HNN HNB c2 c3 HE1
      have HB10 := HBA
      have S10 := SA
      clear HBA SA
      have hs1 : (stripF l).length < 1000000 := Nat.lt_of_le_of_lt (strip_len l) (Nat.lt_of_le_of_lt Sl.out.len (by decide))
      have hs2 : (onwardF l).length < 1000000 := Nat.lt_of_le_of_lt (small_onward Sl.out).len (by decide)
      have d1 := hid (fun (W : World) (h : Below w.heap.size w W) => Fields_any lv l W (HRl.out.below h) (Nat.lt_of_le_of_lt Sl.out.len (by decide)))
      have d2 := hid (fun (W : World) (x : Value) (h : Reads2 W x l) => r13Strip_any x l W h Sl.out.wide)
      have d3 := hid (fun (W : World) (x : Value) (h : Reads2 W x l) => r13Onward_any x l W h Sl.out.wide)
      have d4 := hid (fun (W : World) (h : Below w.heap.size w W) => K.onward lv l W (K.keep _ _ OK.out h) (HRl.out.below h) Sl.out.wide)
      have d5 := hid (fun (W : World) (x : Value) (h : Below w.heap.size w W) (hx : Reads2 W x (stripF l)) => by
        have h5 := K.strip x (stripF l) W (K.keep _ _ OK.out h) hx Sl.out.wide.strip
        rw [strip_strip] at h5
        exact h5)
      have e1 := hid (fun (W : World) (x y : Value) (h1 : Reads2 W x (stripF l)) (h2 : Reads2 W y (stripF l)) => same13_self x y (stripF l) W h1 h2 hs1)
      have e2 := hid (fun (W : World) (x y : Value) (h1 : Reads2 W x (onwardF l)) (h2 : Reads2 W y (onwardF l)) => same13_self x y (onwardF l) W h1 h2 hs2)
      clear hs1 hs2
      go_wp2_with fail
      refine (d1.out _ HB10.out).mono ?_
      rintro e w11 ⟨vb, rfl, ho, hb⟩
      have HB11 := hid (chain2 HB10.out HB10.out.size hb)
      have S11 := hid (S10.out.below hb)
      have X11 := hid (ho.reads2.2)
      clear ho
      clear hb HB10 S10
      go_wp2_with fail
      refine (d2.out _ _ X11.out).mono ?_
      rintro e w12 ⟨⟨vc, rfl, hr⟩, hb⟩
      have HB12 := hid (chain2 HB11.out HB11.out.size hb)
      have S12 := hid (S11.out.below hb)
      have X12 := hid (X11.out.below hb)
      have U12 := hid (hr)
      clear hr
      clear hb HB11 S11 X11
      go_wp2_with fail
      refine (e1.out _ _ _ S12.out U12.out).mono ?_
      rintro e w13 ⟨rfl, hb⟩
      have HB13 := hid (chain2 HB12.out HB12.out.size hb)
      have S13 := hid (S12.out.below hb)
      have X13 := hid (X12.out.below hb)
      have U13 := hid (U12.out.below hb)
      clear hb HB12 S12 X12 U12
      clear U13
      go_wp2_with fail
      refine (d4.out _ HB13.out).mono ?_
      rintro e w14 ⟨⟨vd, rfl, hr⟩, hb⟩
      have HB14 := hid (chain2 HB13.out HB13.out.size hb)
      have S14 := hid (S13.out.below hb)
      have X14 := hid (X13.out.below hb)
      have A14 := hid (hr)
      clear hr
      clear hb HB13 S13 X13
      go_wp2_with fail
      refine (d3.out _ _ X14.out).mono ?_
      rintro e w15 ⟨⟨ve, rfl, hr⟩, hb⟩
      have HB15 := hid (chain2 HB14.out HB14.out.size hb)
      have S15 := hid (S14.out.below hb)
      have X15 := hid (X14.out.below hb)
      have A15 := hid (A14.out.below hb)
      have B15 := hid (hr)
      clear hr
      clear hb HB14 S14 X14 A14
      go_wp2_with fail
      refine (e2.out _ _ _ A15.out B15.out).mono ?_
      rintro e w16 ⟨rfl, hb⟩
      have HB16 := hid (chain2 HB15.out HB15.out.size hb)
      have S16 := hid (S15.out.below hb)
      have X16 := hid (X15.out.below hb)
      have A16 := hid (A15.out.below hb)
      have B16 := hid (B15.out.below hb)
      clear hb HB15 S15 X15 A15 B15
      clear A16
      clear B16
      go_wp2_with fail
      refine (d5.out _ _ HB16.out S16.out).mono ?_
      rintro e w17 ⟨⟨vf, rfl, hr⟩, hb⟩
      have HB17 := hid (chain2 HB16.out HB16.out.size hb)
      have S17 := hid (S16.out.below hb)
      have X17 := hid (X16.out.below hb)
      have A17 := hid (hr)
      clear hr
      clear hb HB16 S16 X16
      go_wp2_with fail
      refine (d2.out _ _ X17.out).mono ?_
      rintro e w18 ⟨⟨vg, rfl, hr⟩, hb⟩
      have HB18 := hid (chain2 HB17.out HB17.out.size hb)
      have S18 := hid (S17.out.below hb)
      have X18 := hid (X17.out.below hb)
      have A18 := hid (A17.out.below hb)
      have B18 := hid (hr)
      clear hr
      clear hb HB17 S17 X17 A17
      go_wp2_with fail
      refine (e1.out _ _ _ A18.out B18.out).mono ?_
      rintro e w19 ⟨rfl, hb⟩
      have HB19 := hid (chain2 HB18.out HB18.out.size hb)
      have S19 := hid (S18.out.below hb)
      have X19 := hid (X18.out.below hb)
      have A19 := hid (A18.out.below hb)
      have B19 := hid (B18.out.below hb)
      clear hb HB18 S18 X18 A18 B18
      clear A19
      clear B19
      go_wp2_with fail
      go_ret
      exact ⟨rfl, HB19.out⟩
end Go.Proofs.YtoolboafbkikjaaDoor
