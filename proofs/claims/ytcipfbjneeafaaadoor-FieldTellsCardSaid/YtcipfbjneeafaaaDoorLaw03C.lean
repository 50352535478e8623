/-
  The walk of the statement FieldTells.
-/
import Derived.Test.YtcipfbjneeafaaaDoorLaw03B
import Derived.Test.YtcipfbjneeafaaaDoorRefFieldC
import Derived.Deep.RegionHeld3
namespace Go.Proofs.YtcipfbjneeafaaaDoor
open Go.RowKit Go.Pantry

/-- four cells and a frame, kept by whatever leaves what was there as it was -/
theorem keep4 {w0 W w' : World} {a1 a2 a3 a4 : Addr} {v1 v2 v3 v4 : Value} (hS : W.cell? a1 = some v1 ∧ W.cell? a2 = some v2 ∧ W.cell? a3 = some v3 ∧ W.cell? a4 = some v4 ∧ Below w0.heap.size w0 W) (hb : Below W.heap.size W w') :
    w'.cell? a1 = some v1 ∧ w'.cell? a2 = some v2 ∧ w'.cell? a3 = some v3 ∧ w'.cell? a4 = some v4 ∧ Below w0.heap.size w0 w' :=
  ⟨(hb.cell (World.block_lt_of_cell? W _ hS.1)).trans hS.1, (hb.cell (World.block_lt_of_cell? W _ hS.2.1)).trans hS.2.1, (hb.cell (World.block_lt_of_cell? W _ hS.2.2.1)).trans hS.2.2.1, (hb.cell (World.block_lt_of_cell? W _ hS.2.2.2.1)).trans hS.2.2.2.1, chain2 hS.2.2.2.2 hS.2.2.2.2.size hb⟩

/-- a contract that makes memory, where four cells are wanted behind it -/
theorem call4 {P : Program} {fid : FuncId} {args : Array Value} {z : Value} (c : ∀ W, Calls P fid args W fun e w' => e = .returned z ∧ Below W.heap.size W w') {w0 W : World} {a1 a2 a3 a4 : Addr} {v1 v2 v3 v4 : Value}
    (hS : W.cell? a1 = some v1 ∧ W.cell? a2 = some v2 ∧ W.cell? a3 = some v3 ∧ W.cell? a4 = some v4 ∧ Below w0.heap.size w0 W) :
    Calls P fid args W fun e w' => e = .returned z ∧ w'.cell? a1 = some v1 ∧ w'.cell? a2 = some v2 ∧ w'.cell? a3 = some v3 ∧ w'.cell? a4 = some v4 ∧ Below w0.heap.size w0 w' :=
  (c W).mono fun _ _ h => ⟨h.1, keep4 hS h.2⟩

set_option maxHeartbeats 8000000 in
theorem fieldTells_main (ao0 : Option Addr) (cap0 : Nat) (L : List Fld) (N X : List UInt8) (w : World) (hr : Reads2 w (.slice ao0 L.length cap0) L) (hsm : smallF L = true) (hN : N.length ≤ 100) (hX : X.length ≤ 100) :
    Calls Tryd.prog 3 #[.slice ao0 L.length cap0, strV N, strV X] w fun e w' => e = .returned (.bool true) ∧ Below w.heap.size w w' := by
  obtain ⟨hk, hl70, hk2⟩ := small_ok hsm
  have cs := fun W h => small_any (.slice ao0 L.length cap0) L W h (by omega)
  rw [hsm] at cs
  have CS := hid cs
  have HR := hid hr
  have HK2 := hid hk2
  have p1 : (N.length : Int) ≤ 100 := by omega
  have p2 : (X.length : Int) ≤ 100 := by omega
  have hN1 : ∀ f ∈ L, f.1.length < 4294967296 := fun f hf => by have := hk2 f hf; omega
  have hV1 : ∀ f ∈ L, f.2.length ≤ 100000 := fun f hf => by have := hk2 f hf; omega
  have hV2 : ∀ f ∈ L, f.2.length < 4294967296 := fun f hf => by have := hk2 f hf; omega
  have f1 := fun W h => Fields_any (.slice ao0 L.length cap0) L W h (by omega)
  have g1 := fun W h => lGet_any (.slice ao0 L.length cap0) L ⟨N.toArray⟩ W h hk (by rw [szL]; omega)
  have g2 := fun W v h => refGet_any v L ⟨N.toArray⟩ W h hN1 hV1 (by omega) (by rw [szL]; omega)
  have r1 := fun W h => lRight_any (.slice ao0 L.length cap0) L W h hk
  have r2 := fun W v h => refRights_any v L W h hN1 hV2 (by omega)
  have a1 := fun W h => lAll_any (.slice ao0 L.length cap0) L ⟨N.toArray⟩ W h hk (by rw [szL]; omega)
  have e1 := fun W h => lElements_any (.slice ao0 L.length cap0) L ⟨N.toArray⟩ W h hk (by rw [szL]; omega)
  have e2 := fun W v h => refElements_any v L ⟨N.toArray⟩ W h hN1 hV1 (by omega) (by rw [szL]; omega)
  have b1 := fun W h => lHas_any (.slice ao0 L.length cap0) L ⟨N.toArray⟩ ⟨X.toArray⟩ W h hk (by rw [szL]; omega) (by rw [szL]; omega)
  have b2 := fun W v h => refHas_any v L ⟨N.toArray⟩ ⟨X.toArray⟩ W h hN1 hV1 (by omega) (by rw [szL]; omega) (by rw [szL]; omega)
  have hel := (elementsF_size (L := L) (n := N) hV1 (by omega)).1
  have hal := allF_len L N
  rw [dtL] at g1 g2 a1 e1 e2 b1 b2
  rw [dtL] at b1 b2
  generalize getF L N = G at g1 g2
  generalize allF L N = T at g1 g2 a1 hal
  generalize elementsF L N = E at e1 e2 hel
  generalize hasF L N X = q at b1 b2
  generalize rightFs L = rr at r1 r2
  have hz : (!T.isEmpty) = decide ((0 : Int) < (T.length : Int)) := by cases T <;> simp
  rw [hz] at g1
  have F1 := hid f1
  have G1 := hid g1
  have G2 := hid g2
  have R1 := hid r1
  have R2 := hid r2
  have A1 := hid a1
  have E1 := hid e1
  have E2 := hid e2
  have B1 := hid b1
  have B2 := hid b2
  clear cs hr hk2 hN1 hV1 hV2 f1 g1 g2 r1 r2 a1 e1 e2 b1 b2 hz hk hsm
  go_enter Tryd.func3, Tryd.ntmps3
  go_wp2_with fail
  refine (anchor_any _).mono ?_
  rintro e w1 ⟨rfl, hb⟩
  go_wp2_with fail
  refine (CS.out _ (HR.out.below hb)).mono ?_
  rintro e w2 ⟨rfl, hb2⟩
  replace hb := chain2 hb hb.size hb2
  clear hb2
  go_wp2_with fail
  refine (F1.out _ (HR.out.below hb)).mono ?_
  rintro e w3 ⟨vx, rfl, hox, hb2⟩
  replace hb := chain2 hb hb.size hb2
  clear hb2
  have hrx := hox.reads2.2
  obtain ⟨aox, capx, rfl⟩ := hrx.form
  have HX := hid hrx
  clear hox hrx
  go_wp2_with fail
  go_loopw [33] (fun i wr => ∃ (k : Nat), k ≤ L.length ∧ i = .int .i64 k ∧ Below w3.heap.size w3 wr) (fun i _ => L.length - (intOf i).toNat)
  case atStart => exact ⟨0, Nat.zero_le _, rfl, Below.refl _ _⟩
  case round =>
    obtain ⟨k, hk, rfl, hbr⟩ := hrel
    have hbw := chain2 hb hb.size hbr
    by_cases hlt : k < L.length
    · obtain ⟨f, hf⟩ : ∃ f, L[k]? = some f := ⟨_, List.getElem?_eq_getElem hlt⟩
      obtain ⟨b1, off1, rfl, hc1, hc2⟩ := (HR.out.below hbw).fld hf
      obtain ⟨b2, off2, rfl, hd1, hd2⟩ := (HX.out.below hbr).fld hf
      have hfz := HK2.out f (List.mem_of_getElem? hf)
      have q1 := fun W => fRight_any f W ⟨by omega, by omega⟩
      have q2 := fun W => refRight_any f W (by omega) (by omega)
      generalize rightF f = z at q1 q2
      have Q1 := hid q1
      have Q2 := hid q2
      clear hf q1 q2 hfz
      go_wp2_with fail
      obtain ⟨W0, hW0⟩ : ∃ W0, W0 = wr.alloc (.cells #[strV f.1, strV f.2] 29) := ⟨_, rfl⟩
      have hbW : Below wr.heap.size wr W0 := by rw [hW0]; exact below_alloc _ _
      have hx1 : W0.cell? ⟨wr.heap.size, 0, none⟩ = some (strV f.1) := by rw [hW0, World.cell?_alloc_at _ _ _ _ rfl]; rfl
      have hx2 : W0.cell? ⟨wr.heap.size, 1, none⟩ = some (strV f.2) := by rw [hW0, World.cell?_alloc_at _ _ _ _ rfl]; rfl
      have hy1 := (hbW.cell (p := ⟨b2, off2 + k * 2, none⟩) (World.block_lt_of_cell? wr _ hd1)).trans hd1
      have hy2 := (hbW.cell (p := ⟨b2, off2 + k * 2 + 1, none⟩) (World.block_lt_of_cell? wr _ hd2)).trans hd2
      have hz0 := chain2 hbr hbr.size hbW
      have hkI : (k : Int) < (L.length : Int) := by omega
      have hk0 : (0 : Int) ≤ (k : Int) := by omega
      rw [← hW0]
      clear hW0 hc1 hc2 hd1 hd2 hbW
      go_region_held3 (fun w' => w'.cell? ⟨wr.heap.size, 0, none⟩ = some (strV f.1) ∧ w'.cell? ⟨wr.heap.size, 1, none⟩ = some (strV f.2) ∧ w'.cell? ⟨b2, off2 + k * 2, none⟩ = some (strV f.1) ∧ w'.cell? ⟨b2, off2 + k * 2 + 1, none⟩ = some (strV f.2) ∧ Below w3.heap.size w3 w') (first | exact ⟨hx1, hx2, hy1, hy2, hz0.drew⟩ | exact hS1)
        (first
          | (go_at_call 13; refine (call4 Q1.out (by assumption)).mono ?_; rintro e w' ⟨rfl, hS1⟩)
          | (go_at_call 14; refine (call4 Q2.out (by assumption)).mono ?_; rintro e w' ⟨rfl, hS1⟩))
      all_goals
        obtain ⟨-, -, -, -, hbn⟩ := hS1
        have zz : (z != z) = false := by simp
        clear hx1 hx2 hy1 hy2 hz0
        go_wp2_with fail
        go_roundw
        case rel => exact ⟨k + 1, hlt, by go_num, hbn⟩
        case measure => simp [intOf]; omega
    · skip
      go_wp2_with fail
      refine (G1.out _ (HR.out.below (chain2 hb hb.size hbr))).mono ?_
      rintro e w4 ⟨rfl, hb2⟩
      replace hbr := chain2 hbr hbr.size hb2
      clear hb2
      go_wp2_with fail
      refine (G2.out _ _ (HX.out.below hbr)).mono ?_
      rintro e w5 ⟨rfl, hb2⟩
      replace hbr := chain2 hbr hbr.size hb2
      clear hb2
      have gg : (G == G) = true := by simp
      go_wp2_with fail
      refine (R1.out _ (HR.out.below (chain2 hb hb.size hbr))).mono ?_
      rintro e w6 ⟨rfl, hb2⟩
      replace hbr := chain2 hbr hbr.size hb2
      clear hb2
      go_wp2_with fail
      refine (R2.out _ _ (HX.out.below hbr)).mono ?_
      rintro e w7 ⟨rfl, hb2⟩
      replace hbr := chain2 hbr hbr.size hb2
      clear hb2
      go_wp2_with fail
      refine (A1.out _ (HR.out.below (chain2 hb hb.size hbr))).mono ?_
      rintro e w8 ⟨⟨v8, rfl, ho8⟩, hb2⟩
      replace hbr := chain2 hbr hbr.size hb2
      obtain ⟨ao8, cap8, rfl⟩ := Reads.strs ho8.reads
      clear hb2 ho8
      go_wp2_with fail
      refine (E1.out _ (HR.out.below (chain2 hb hb.size hbr))).mono ?_
      rintro e w9 ⟨⟨v9, rfl, ho9⟩, hb2⟩
      replace hbr := chain2 hbr hbr.size hb2
      have hr9 := ho9.reads
      clear hb2 ho9
      go_wp2_with fail
      refine (E2.out _ _ (HX.out.below hbr)).mono ?_
      rintro e w10 ⟨⟨v10, rfl, ho10⟩, hb2⟩
      replace hbr := chain2 hbr hbr.size hb2
      have hr10 := ho10.reads
      have hr9' := hr9.below hb2
      clear hb2 ho10 hr9
      go_wp2_with fail
      refine (words_any _ _ E E _ hr9' hr10 (by omega)).mono ?_
      rintro e w11 ⟨rfl, rfl⟩
      have ee : decide (E = E) = true := by simp
      clear hr9' hr10
      go_wp2_with fail
      refine (B1.out _ (HR.out.below (chain2 hb hb.size hbr))).mono ?_
      rintro e w12 ⟨rfl, hb2⟩
      replace hbr := chain2 hbr hbr.size hb2
      clear hb2
      go_wp2_with fail
      refine (B2.out _ _ (HX.out.below hbr)).mono ?_
      rintro e w13 ⟨rfl, hb2⟩
      replace hbr := chain2 hbr hbr.size hb2
      clear hb2
      go_wp2_with fail
      go_ret
      exact ⟨rfl, chain2 hb hb.size hbr⟩

set_option maxHeartbeats 4000000 in
theorem fieldTells_walk (v : Value) (L : List Fld) (n x : ByteArray) (w : World) (hl : Reads2 w v L ∧ (∀ f ∈ L, f.1.length ≤ maxLen ∧ f.2.length ≤ maxLen) ∧ L.length ≤ maxLen) (hn : n.size ≤ maxLen) (hx : x.size ≤ maxLen) :
    Calls Tryd.prog 3 #[v, .string n, .string x] w fun e w' => e = .returned (.bool true) ∧ Below w.heap.size w w' := by
  obtain ⟨hr, -, hLl⟩ := hl
  unfold maxLen at hn hx hLl
  have cs := fun W h => small_any v L W h (by omega)
  obtain ⟨q, hq⟩ : ∃ q, smallF L = q := ⟨_, rfl⟩
  rw [hq] at cs
  have CS := hid cs
  have HR := hid hr
  clear cs
  cases q
  · clear hq hr
    go_enter Tryd.func3, Tryd.ntmps3
    go_wp2_with fail
    refine (anchor_any _).mono ?_
    rintro e w1 ⟨rfl, hb⟩
    go_wp2_with fail
    refine (CS.out _ (HR.out.below hb)).mono ?_
    rintro e w2 ⟨rfl, hb2⟩
    go_wp2_with fail
    go_ret
    exact ⟨rfl, chain2 hb hb.size hb2⟩
  · by_cases h1 : (100 : Int) < (n.size : Int) ∨ (100 : Int) < (x.size : Int)
    · have hcase : (100 : Int) < (n.size : Int) ∨ ((n.size : Int) ≤ 100 ∧ (100 : Int) < (x.size : Int)) := by omega
      clear h1 hq hr
      rcases hcase with p | ⟨p, p2⟩
      all_goals
        go_enter Tryd.func3, Tryd.ntmps3
        go_wp2_with fail
        refine (anchor_any _).mono ?_
        rintro e w1 ⟨rfl, hb⟩
        go_wp2_with fail
        refine (CS.out _ (HR.out.below hb)).mono ?_
        rintro e w2 ⟨rfl, hb2⟩
        go_wp2_with fail
        go_ret
        exact ⟨rfl, chain2 hb hb.size hb2⟩
    · obtain ⟨ao0, cap0, rfl⟩ := hr.form
      obtain ⟨N, rfl⟩ := as_list n
      obtain ⟨X, rfl⟩ := as_list x
      exact fieldTells_main ao0 cap0 L N X w hr hq (by rw [szL] at h1; omega) (by rw [szL, szL] at h1; omega)
end Go.Proofs.YtcipfbjneeafaaaDoor
