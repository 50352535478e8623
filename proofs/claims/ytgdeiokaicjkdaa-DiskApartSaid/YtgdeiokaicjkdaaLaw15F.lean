/-
  Layer 15: DiskApart.
-/
import Derived.Test.YtgdeiokaicjkdaaLaw15A
import Derived.Test.YtgdeiokaicjkdaaPureApart
import Derived.Deep.QuietTactic
import Derived.BigQuiet
set_option linter.unusedVariables false
set_option linter.unusedSimpArgs false
namespace Go.Pantry
open Go.RowKit
theorem run_index_arr {P : Program} (t e : TypeId) (n : Nat) (cs : Array Value) (i : Nat) (u : Value) (h : P.underlying t = some (.array n e)) (ha : ∀ W, (isAgg e).run P W = .ok false W) (hs : ∀ W, (sizeOf e).run P W = .ok 1 W) (hi : i < n) (hu : cs[i]? = some u) (W : World) :
    (Instr.index t (.agg cs) (.int .i64 (i : Int))).run P W = .ok u W := by
  have hn : (0 : Int) ≤ (i : Int) ∧ (i : Int) < (n : Int) := by omega
  have hni : ¬ n ≤ i := by omega
  simp [Instr.index, run_underlying h, asIntOf, hn, hni, hi, part, ha, hs, hu]
theorem rem16 (x : Int) : (x.tmod 16 + 16).tmod 16 = x % 16 := by
  rcases Int.le_total 0 x with h | h
  · rw [Int.tmod_eq_emod_of_nonneg h, Int.tmod_eq_emod_of_nonneg (by have := Int.emod_nonneg x (by decide : (16 : Int) ≠ 0); omega)]
    omega
  · obtain ⟨y, rfl⟩ : ∃ y, x = -y := ⟨-x, by omega⟩
    have hy : 0 ≤ y := by omega
    rw [Int.neg_tmod, Int.tmod_eq_emod_of_nonneg hy]
    have h1 := Int.emod_nonneg y (by decide : (16 : Int) ≠ 0)
    have h2 := Int.emod_lt_of_pos y (by decide : (0 : Int) < 16)
    rw [Int.tmod_eq_emod_of_nonneg (by omega)]
    omega
theorem tmod16_bd (x : Int) : -16 < x.tmod 16 ∧ x.tmod 16 < 16 := by
  rcases Int.le_total 0 x with h | h
  · rw [Int.tmod_eq_emod_of_nonneg h]; omega
  · obtain ⟨y, rfl⟩ : ∃ y, x = -y := ⟨-x, by omega⟩
    rw [Int.neg_tmod, Int.tmod_eq_emod_of_nonneg (by omega)]; omega
end Go.Pantry
namespace Go.Proofs.Ytgdeiokaicjkdaa
open Go.RowKit Go.Pantry
theorem info16 : (Try.prog.info? 54).map (·.size) = some 16 := by kernel_rfl
abbrev rowB (W : List UInt8) : Array Value := (W.map byteV).toArray
set_option maxRecDepth 8000 in
set_option maxHeartbeats 16000000 in
theorem diskApart_over {Ok : World → Prop} {R : Rp} (D : Disks Ok R) (vw : Value) (xs : List Int) (fl : Bool) (w : World) (ho : Ok w) (hX : Reads w vw (xs.map (Value.int .i64))) (hI : ∀ x ∈ xs, In15 x) (hxm : xs.length ≤ 9223372036854775807) :
    Calls Try.prog 7 #[vw, .bool fl] w fun e w' => e = .returned (.bool true) ∧ Below w.heap.size w w' := by
  have C0 := hid (anchor15_any D w ho)
  obtain ⟨ax, cx, rfl⟩ : ∃ a c, vw = .slice a xs.length c := by obtain ⟨a, c, h, _⟩ := hX; exact ⟨a, c, by rw [h, List.length_map]⟩
  obtain ⟨n, hn⟩ : ∃ n, xs.length = n := ⟨_, rfl⟩
  have HN := hid hn
  have HX := hid hX
  rw [hn] at hxm ⊢
  clear hX hn
  by_cases h60 : n ≤ 60
  case neg =>
    have hgt : (60 : Int) < (n : Int) := by omega
    clear h60
    go_enter Try.func7, Try.ntmps7
    go_wp2_with fail
    refine C0.out.mono ?_
    rintro e w0 ⟨rfl, hb0⟩
    have HB := hid hb0
    clear C0 hb0
    go_wp2_with fail
    go_ret
    exact ⟨rfl, HB.out⟩
  have hng : ¬ (60 : Int) < (n : Int) := by omega
  go_enter Try.func7, Try.ntmps7
  go_wp2_with fail
  refine C0.out.mono ?_
  rintro e w0 ⟨rfl, hb0⟩
  have C1 := hid (D.newK 16 hb0 ho (by decide) (by decide))
  clear C0 hb0
  go_wp2_with fail
  refine C1.out.mono ?_
  rintro e w1 ⟨hb1, g, F1, rfl, k1, hF1⟩
  have hl1 := D.lt k1.rep
  obtain ⟨w2, hw2⟩ : ∃ W, w1.alloc (.cells #[.int .u8 0, .int .u8 0, .int .u8 0, .int .u8 0, .int .u8 0, .int .u8 0, .int .u8 0, .int .u8 0, .int .u8 0, .int .u8 0, .int .u8 0, .int .u8 0, .int .u8 0, .int .u8 0, .int .u8 0, .int .u8 0] 54) = W := ⟨_, rfl⟩
  have e16 : rowB (List.replicate 16 0) = #[.int .u8 0, .int .u8 0, .int .u8 0, .int .u8 0, .int .u8 0, .int .u8 0, .int .u8 0, .int .u8 0, .int .u8 0, .int .u8 0, .int .u8 0, .int .u8 0, .int .u8 0, .int .u8 0, .int .u8 0, .int .u8 0] := rfl
  have hb2 : Below w1.heap.size w1 w2 := by rw [← hw2]; exact below_alloc _ _
  have hr2 : rowIs w2 w1.heap.size (rowB (List.replicate 16 0)) 54 := by rw [← hw2, e16]; exact rowIs_new _ _ _
  have k2 := k1.then D hb2
  have HL : Hid (∃ (k : Nat) (F : Nat → Prop) (m : DiskM) (W : List UInt8), k ≤ n ∧ Value.int .i64 0 = .int .i64 (k : Int) ∧ ApAt fl m W k ∧ rowIs w2 w1.heap.size (rowB W) 54 ∧ Dk R w w2 g F m ∧ ∀ x, F x → x ≠ w1.heap.size) :=
    hid ⟨0, F1, newDk 16, List.replicate 16 0, Nat.zero_le _, rfl, ap_new fl, hr2, k2, fun x hx => by have := hl1 x hx; omega⟩
  have HW1 := hid (show w.heap.size ≤ w1.heap.size from k1.bl.size)
  clear hb1 k1 hF1 C1 hl1 hb2 hr2 k2
  go_wp2_with fail
  try rw [hw2]
  clear hw2
  go_loopw [24] (fun i wr => ∃ (k : Nat) (F : Nat → Prop) (m : DiskM) (W : List UInt8), k ≤ n ∧ i = .int .i64 (k : Int) ∧ ApAt fl m W k ∧ rowIs wr w1.heap.size (rowB W) 54 ∧ Dk R w wr g F m ∧ ∀ x, F x → x ≠ w1.heap.size) (fun i _ => n - (intOf i).toNat)
  case atStart => exact HL.out
  case round =>
    clear HL
    obtain ⟨k, F, m, W, hk, rfl, hap, hrow, hD, hF⟩ := hrel
    by_cases hkl : k < n
    · have hkz : (k : Int) < (n : Int) := by omega
      have hk0 : (0 : Int) ≤ (k : Int) := by omega
      have hwk : IntKind.i64.wrap ((k : Int) + 1) = (k : Int) + 1 := IntWalk.i64_in _ (by omega)
      have hwc : IntKind.u8.wrap ((k : Int) + 1) = (k : Int) + 1 := IntWalk.u8_in _ (by omega)
      have hwm : ((k : Int) + 1) % 256 = (k : Int) + 1 := by omega
      obtain ⟨x, hx⟩ : ∃ x, xs[k]? = some x := ⟨_, List.getElem?_eq_getElem (by rw [HN.out]; exact hkl)⟩
      have hxi := hI x (List.mem_of_getElem? hx)
      obtain ⟨_, _, hv, hck, _⟩ := HX.out.below hD.bl
      obtain ⟨bk, off, hax, hcell⟩ := hck k (.int .i64 x) (by rw [List.getElem?_map, hx]; rfl)
      obtain rfl : ax = some ⟨bk, off, none⟩ := by injection hv with e _ _; rw [e]; exact hax
      obtain ⟨iN, hiN⟩ : ∃ iN : Nat, x % 16 = (iN : Int) := ⟨(x % 16).toNat, by omega⟩
      have hi16 : iN < 16 := by omega
      have htb := tmod16_bd x
      have hm2 : IntKind.i64.wrap (x.tmod 16 + 16) = x.tmod 16 + 16 := IntWalk.i64_in _ (by omega)
      have hm1 : IntKind.i64.wrap (x.tmod 16) = x.tmod 16 := IntWalk.i64_in _ (by omega)
      have hm3 : (x.tmod 16 + 16).tmod 16 = (iN : Int) := by rw [rem16, hiN]
      have hm4 : IntKind.i64.wrap ((x.tmod 16 + 16).tmod 16) = (iN : Int) := by rw [hm3]; exact IntWalk.i64_in _ (by omega)
      have hc8 : ((UInt8.ofNat (k + 1)).toNat : Int) = (k : Int) + 1 := by rw [UInt8.toNat_ofNat']; omega
      have hbv : byteV (UInt8.ofNat (k + 1)) = .int .u8 ((k : Int) + 1) := by show Value.int .u8 _ = _; rw [hc8]
      obtain ⟨c, hc⟩ : ∃ c, UInt8.ofNat (k + 1) = c := ⟨_, rfl⟩
      rw [hc] at hbv hc8
      obtain ⟨wa, hwa⟩ : ∃ W, wr.alloc (.cells #[.int .u8 ((k : Int) + 1)] 5) = W := ⟨_, rfl⟩
      have hba : Below wr.heap.size wr wa := by rw [← hwa]; exact below_alloc _ _
      have hDa := hD.then D hba
      have hbyt : Bytes wa (.slice (some ⟨wr.heap.size, 0, none⟩) 1 1) [c] := by
        refine ⟨_, _, rfl, Nat.le_refl _, ⟨some ⟨wr.heap.size, 0, none⟩, 1, rfl, fun j u hj => ⟨wr.heap.size, 0, rfl, ?_⟩, fun e => by cases e⟩⟩
        cases j with
        | zero => cases hj; rw [← hwa, hbv]; exact World.cell?_alloc_at _ _ _ _ rfl
        | succ j => cases hj
      have hlt := D.lt hD.rep
      obtain ⟨p1, p2, p3⟩ := ap_write hap hi16 c
      have C := hid (D.writeK hDa ho (iN : Int) _ [c] ⟨by omega, by omega⟩ hbyt (fun _ y hy hf => by have e : wr.heap.size = y := Option.some.inj hy; have := hlt y hf; omega))
      rw [p1] at C
      have HROW := hid (hrow.below hba)
      have HGL := hid (show w1.heap.size < wa.heap.size from (hrow.below hba).lt)
      have HF := hid (And.intro hF hbv)
      have HP2 := hid p2
      have HP3 := hid p3
      have HWL := hid hap.len
      clear hv hck hax hx hxi hiN htb hD hDa hba hbyt hlt p1 p2 p3 hrow hF hc hc8 hbv hap
      cases fl
      case false =>
        go_wp2_with fail
        try rw [hwa]
        clear hwa
        refine C.out.mono ?_
        rintro e w3 ⟨rfl, F3, hD, hk3, hF3⟩
        have hF3' : ∀ y, F3 y → y ≠ w1.heap.size := fun y hy e => by
          rcases hF3 y hy with h | h
          · exact HF.out.1 y h e
          · have := HGL.out; omega
        have hrow3 := HROW.out.kept hk3 (fun h => HF.out.1 _ h rfl)
        clear hk3 hF3 C hcell
        have HAP := hid (HP2.out (by first | rfl | trivial))
        clear HP2 HP3
        have hset := hrow3.setCell iN (byteV c)
        have hkk := (Kept.refl (fun y => y = w1.heap.size) w3).setCell (g := w1.heap.size) (i := iN) (.inl rfl) (byteV c)
        have hD5 := hD.away D hkk (fun y hy e => hF3' y hy e) (fun y e _ => by rw [e]; exact HW1.out)
        have hfree := hrow3.free iN
        have hcel : ∃ u, w3.cell? ⟨w1.heap.size, iN, none⟩ = some u := by
          have hl : iN < (rowB W).size := by have := HWL.out; simp [rowB]; omega
          exact ⟨_, by rw [hrow3.cell]; exact Array.getElem?_eq_getElem hl⟩
        obtain ⟨u0, hcel⟩ := hcel
        have hrs : (rowB W).setIfInBounds iN (byteV c) = rowB (W.set iN c) := by
          unfold rowB; rw [List.setIfInBounds_toArray, List.map_set]
        rw [hrs] at hset
        rw [HF.out.2] at hset hD5
        have H5 := hid (And.intro hset hD5)
        clear hset hkk hD5 hrs hrow3 hD
        go_wp2_with fail
        go_roundw
        case rel => exact ⟨k + 1, F3, _, W.set iN c, hkl, by simp, HAP.out, H5.out.1, H5.out.2, hF3'⟩
        case measure => simp only [intOf]; omega
      case true =>
        go_wp2_with fail
        try rw [hwa]
        clear hwa
        refine C.out.mono ?_
        rintro e w3 ⟨rfl, F3, hD, hk3, hF3⟩
        have hF3' : ∀ y, F3 y → y ≠ w1.heap.size := fun y hy e => by
          rcases hF3 y hy with h | h
          · exact HF.out.1 y h e
          · have := HGL.out; omega
        have hrow3 := HROW.out.kept hk3 (fun h => HF.out.1 _ h rfl)
        clear hk3 hF3 C hcell
        have C2 := hid (D.flushK hD ho)
        rw [(HP3.out (by first | rfl | trivial)).1] at C2
        have HAP := hid (HP3.out (by first | rfl | trivial)).2
        clear hD HP2 HP3
        go_wp2_with fail
        refine C2.out.mono ?_
        rintro e w4 ⟨rfl, F4, hD, hk4, hF4⟩
        have hF4' : ∀ y, F4 y → y ≠ w1.heap.size := fun y hy e => by
          rcases hF4 y hy with h | h
          · exact hF3' y h e
          · have := hrow3.lt; omega
        have hrow4 := hrow3.kept hk4 (fun h => hF3' _ h rfl)
        clear hk4 hF4 C2
        have hset := hrow4.setCell iN (byteV c)
        have hkk := (Kept.refl (fun y => y = w1.heap.size) w4).setCell (g := w1.heap.size) (i := iN) (.inl rfl) (byteV c)
        have hD5 := hD.away D hkk (fun y hy e => hF4' y hy e) (fun y e _ => by rw [e]; exact HW1.out)
        have hfree := hrow4.free iN
        have hcel : ∃ u, w4.cell? ⟨w1.heap.size, iN, none⟩ = some u := by
          have hl : iN < (rowB W).size := by have := HWL.out; simp [rowB]; omega
          exact ⟨_, by rw [hrow4.cell]; exact Array.getElem?_eq_getElem hl⟩
        obtain ⟨u0, hcel⟩ := hcel
        have hrs : (rowB W).setIfInBounds iN (byteV c) = rowB (W.set iN c) := by
          unfold rowB; rw [List.setIfInBounds_toArray, List.map_set]
        rw [hrs] at hset
        rw [HF.out.2] at hset hD5
        have H5 := hid (And.intro hset hD5)
        clear hset hkk hD5 hrs hrow4 hD
        go_wp2_with fail
        go_roundw
        case rel => exact ⟨k + 1, F4, _, W.set iN c, hkl, by simp, HAP.out, H5.out.1, H5.out.2, hF4'⟩
        case measure => simp only [intOf]; omega
    · have hkn : k = n := by omega
      subst hkn
      have hkz : ¬ (k : Int) < (k : Int) := by omega
      have HAP := hid hap
      have hinf : (Try.prog.info? 54).map (·.size) = some (rowB W).size := by
        have hl : (rowB W).size = 16 := by simp [rowB]; exact hap.len
        rw [hl]; exact info16
      have HL2 : Hid (∃ (j : Nat), j ≤ 16 ∧ Value.int .i64 0 = .int .i64 (j : Int) ∧ Dk R w wr g F m) := hid ⟨0, Nat.zero_le _, rfl, hD⟩
      clear hap hD hF
      go_wp2_with (refine wpList_load_row rfl 54 _ rfl w1.heap.size rfl 54 _ (0, 0) _ hrow Try.underlying54 rfl hinf ?_)
      clear hrow hinf
      go_loopw [56] (fun i wr => ∃ (j : Nat), j ≤ 16 ∧ i = .int .i64 (j : Int) ∧ Dk R w wr g F m) (fun i _ => 16 - (intOf i).toNat)
      case atStart => exact HL2.out
      case round =>
        clear HL2
        obtain ⟨j, hj, rfl, hD⟩ := hrel
        by_cases hj16 : j < 16
        · have hjz : (j : Int) < 16 := by omega
          have hj0 : (0 : Int) ≤ (j : Int) := by omega
          have hwj : IntKind.i64.wrap ((j : Int) + 1) = ((j + 1 : Nat) : Int) := by rw [IntWalk.i64_in _ (by omega)]; simp
          have C := hid (D.readK hD ho (j : Int) ⟨by omega, by omega⟩)
          rw [ap_read HAP.out hj16] at C
          obtain ⟨c, hc⟩ : ∃ c, W.getD j 0 = c := ⟨_, rfl⟩
          have hu : (rowB W)[j]? = some (.int .u8 (c.toNat : Int)) := by
            have hl : j < W.length := by rw [HAP.out.len]; exact hj16
            have e : W[j] = c := by rw [← hc, List.getD_eq_getElem?_getD, List.getElem?_eq_getElem hl]; rfl
            simp [rowB, hl, e]
          have hix := fun W' => run_index_arr (P := Try.prog) 54 5 16 (rowB W) j (.int .u8 (c.toNat : Int)) Try.underlying54 (fun _ => by kernel_rfl) (fun _ => by kernel_rfl) hj16 hu W'
          rw [hc] at C
          have hz1 : ((c.toNat : Int) == (c.toNat : Int)) = true := beq_self_eq_true _
          have hz2 : ((c.toNat : Int) != (c.toNat : Int)) = false := by rw [bne, hz1]; rfl
          clear hD hu
          go_wp2_with fail
          refine C.out.mono ?_
          rintro e w5 ⟨hD, hb5, vg, rfl, hog⟩
          have hpl : (padS [c]).length = 64 := padS_len (by simp)
          obtain ⟨gx, cgx, hvg, -, hcx, -⟩ := own1_cells hog (by simp only [hpl]; decide)
          simp only [hpl] at hvg
          subst hvg
          have x0 : w5.cell? ⟨gx, 0, none⟩ = some (.int .u8 (c.toNat : Int)) := hcx 0 _ rfl
          have x63 : w5.cell? ⟨gx, 63, none⟩ = some (.int .u8 0) := hcx 63 _ rfl
          have HD := hid hD
          clear hD hb5 hog hcx C
          go_wp2_with fail
          go_roundw
          case rel => exact ⟨j + 1, hj16, by simp, HD.out⟩
          case measure => simp only [intOf]; omega
        · have hje : j = 16 := by omega
          subst hje
          have C := hid (D.pendK hD ho)
          clear hD hj16
          go_wp2_with fail
          refine C.out.mono ?_
          rintro e w5 ⟨hD, hb5, vg, rfl, hog⟩
          have HB := hid hD.bl
          obtain ⟨ag, cg, hvg⟩ : ∃ a c, vg = .slice a (pendDkL 0 m.pend).length c := by
            obtain ⟨a, c, h, -⟩ := hog.reads
            exact ⟨a, c, by rw [h, List.length_map]⟩
          subst hvg
          have hq := fun h => ap_pend HAP.out h
          obtain ⟨z, hz⟩ : ∃ z, (pendDkL 0 m.pend).length = z := ⟨_, rfl⟩
          rw [hz] at hq ⊢
          have HQ := hid hq
          clear hD hb5 hog C hz hq
          by_cases hk1 : 0 < k
          · have h1 := HQ.out hk1
            have hzz : ((z : Int) == 0) = fl := by rw [← h1, Bool.eq_iff_iff, beq_iff_eq, decide_eq_true_eq]; omega
            have hff : (fl == fl) = true := beq_self_eq_true _
            clear h1
            go_wp2_with fail
            go_ret
            exact ⟨rfl, HB.out⟩
          · have hk0' : k = 0 := by omega
            subst hk0'
            obtain ⟨q, hqq⟩ : ∃ q, ((z : Int) == 0) = q := ⟨_, rfl⟩
            cases fl <;> cases q
            all_goals
              go_wp2_with fail
              go_ret
              exact ⟨rfl, HB.out⟩
end Go.Proofs.Ytgdeiokaicjkdaa
