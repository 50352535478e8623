/-
  The walk of the statement ControlFlags.
-/
import Derived.Test.YtofkiihajhkmdaaDoorLaw04A
import Derived.Test.YtofkiihajhkmdaaDoorCtlEq
import Derived.Test.YtofkiihajhkmdaaDoorInfo
import Derived.Test.YtofkiihajhkmdaaDoorPureFlag
import Derived.Deep.RegionHeld3
namespace Go.Proofs.YtofkiihajhkmdaaDoor
open Go.RowKit Go.Pantry

theorem flBox (w : World) (c : Ctl) : ∃ V, V = (w.alloc (.cells #[.bool false, .bool false, .bool false, .bool false, .bool false, .bool false, .int .i64 0, .int .i64 0, .int .i64 0, .int .i64 0] 29)).setRow w.heap.size #[.bool c.noStore, .bool c.noCache, .bool c.priv, .bool c.pub, .bool c.must, .bool c.only, .int .i64 (intO c.maxAge), .int .i64 (intO c.shared), .int .i64 (intO c.minFresh), .int .i64 (intO c.maxStale)]
    ∧ Below w.heap.size w V ∧ V.heap.size = w.heap.size + 1 ∧ rowIs V w.heap.size #[.bool c.noStore, .bool c.noCache, .bool c.priv, .bool c.pub, .bool c.must, .bool c.only, .int .i64 (intO c.maxAge), .int .i64 (intO c.shared), .int .i64 (intO c.minFresh), .int .i64 (intO c.maxStale)] 29 :=
  ⟨_, rfl, below_setRow (below_alloc _ _) (Nat.le_refl _) _, by simp [World.setRow], (rowIs_new _ _ _).setRow _⟩

theorem fl_calls (k : Nat) (hk : k ≤ 7) (gr : Bool) (s : ByteArray) (hs : (s.size : Int) ≤ 50) (h44 : (44 : UInt8) ∉ s.data.toList) : ∃ T1 T2 : List UInt8, (∀ W : World, (Op.stringOp .add ⟨(flG gr (flN k)).toArray⟩ ⟨#[61]⟩).run Tryd.prog W = .ok (strV T1) W) ∧ (∀ W : World, (Op.stringOp .add ⟨T1.toArray⟩ s).run Tryd.prog W = .ok (strV T2) W)
    ∧ (∀ W, Calls Tryd.prog 15 #[strV (flG gr (flN k))] W fun e w' => e = .returned (ctlV (flC k)) ∧ Below W.heap.size W w') ∧ (∀ W, Calls Tryd.prog 15 #[strV T2] W fun e w' => e = .returned (ctlV (flC k)) ∧ Below W.heap.size W w') := by
  obtain ⟨c0, r0, hnm, _, hgn, hnl⟩ := fl_first hk
  have hgl : (flG gr (flN k)).length ≤ 20 := by
    cases gr
    · exact hnl
    · rw [hgn, List.length_cons]
      rw [hnm, List.length_cons] at hnl
      exact hnl
  have hA : s.data.toList.length ≤ 50 := by rw [size_list]; omega
  obtain ⟨T1, h1, l1, s1⟩ := sum_lists (P := Tryd.prog) (flG gr (flN k)) [61] (by omega) (by decide)
  obtain ⟨T2, h2, l2, s2⟩ := sum_lists (P := Tryd.prog) T1 s.data.toList (by rw [l1]; simp; omega) (by omega)
  have hss : (⟨s.data.toList.toArray⟩ : ByteArray) = s := by apply bytes_ext; simp
  rw [hss] at s2
  have hT : T2 = flG gr (flN k) ++ 61 :: s.data.toList := by rw [h2, h1]; simp
  refine ⟨T1, T2, s1, s2, fun W => ?_, fun W => ?_⟩
  · have h := of_any (flG gr (flN k)) W (by omega)
    rw [flag_bare hk] at h
    exact h
  · have h := of_any T2 W (by rw [l2, l1]; simp; omega)
    rw [hT, flag_arg hk gr _ h44] at h
    rw [hT]
    exact h

set_option maxRecDepth 8000 in
set_option maxHeartbeats 16000000 in
theorem controlFlags_main (k : Nat) (gr : Bool) (s : ByteArray) (w : World) (hk : k ≤ 7) (hs : (s.size : Int) ≤ 50) :
    Calls Tryd.prog 7 #[.int .i64 (k : Int), .bool gr, .string s] w fun e w' => e = .returned (.bool true) ∧ Below w.heap.size w w' := by
  have hkI : (k : Int) ≤ 7 := by omega
  obtain ⟨c0, r0, hnm, hc97, hgn, hnl⟩ := fl_first hk
  obtain ⟨nm, hnmq⟩ : ∃ nm, flN k = nm := ⟨_, rfl⟩
  have d1 : decide ((k : Int) < 0) = false := decide_eq_false (by omega)
  have d2 : decide (7 < (k : Int)) = false := decide_eq_false (by omega)
  have FC := fun h44 => fl_calls k hk gr s hs h44
  have HFC := hid FC
  clear FC
  have HNM := hid hnmq
  have HC0 := hid hnm
  have HGN := hid hgn
  have HC97 := hid hc97
  have HNL := hid hnl
  clear hnm hgn hc97 hnl hnmq
  go_enter Tryd.func7, Tryd.ntmps7
  go_wp2_with fail
  refine (anchor_any _).mono ?_
  rintro e w1 ⟨rfl, hb1⟩
  go_wp2_with fail
  go_loop [28] (fun i => ∃ j : Nat, j ≤ s.size ∧ i = .int .i64 j ∧ (44 : UInt8) ∉ s.data.toList.take j) (fun i => s.size - (intOf i).toNat)
  case atStart => exact ⟨0, Nat.zero_le _, rfl, by simp⟩
  case round =>
    obtain ⟨j, hj, rfl, hall⟩ := hrel
    have HA := hid hall
    clear hall
    by_cases hlt : j < s.size
    · go_wp2_with fail
      · go_ret
        exact ⟨rfl, hb1⟩
      · go_ret
        exact ⟨rfl, hb1⟩
      · have hc : s[j] ≠ 44 := by
          intro e
          have h44 : ¬ (s[j].toNat : Int) = 44 := by assumption
          exact h44 (by rw [e]; rfl)
        go_round
        case rel => exact ⟨j + 1, hlt, by go_num, by rw [take_succ_list s j hlt]; simp [HA.out, Ne.symm hc]⟩
        case measure => simp [intOf]; omega
    · have h44 : (44 : UInt8) ∉ s.data.toList := by rw [← take_all s j hlt]; exact HA.out
      have HS := hid h44
      clear h44 HA
      obtain ⟨V, hV⟩ : ∃ V, V = w1.alloc (.cells #[strV [110, 111, 45, 115, 116, 111, 114, 101], strV [110, 111, 45, 99, 97, 99, 104, 101], strV [112, 114, 105, 118, 97, 116, 101], strV [112, 117, 98, 108, 105, 99], strV [109, 117, 115, 116, 45, 114, 101, 118, 97, 108, 105, 100, 97, 116, 101], strV [112, 114, 111, 120, 121, 45, 114, 101, 118, 97, 108, 105, 100, 97, 116, 101], strV [111, 110, 108, 121, 45, 105, 102, 45, 99, 97, 99, 104, 101, 100], strV [110, 111, 45, 116, 114, 97, 110, 115, 102, 111, 114, 109]] 9) := ⟨_, rfl⟩
      have hbV : Below w1.heap.size w1 V := by rw [hV]; exact below_alloc _ _
      have hsV : V.heap.size = w1.heap.size + 1 := by rw [hV]; simp
      have hcn : V.cell? ⟨w1.heap.size, k, none⟩ = some (strV nm) := by
        rw [hV, World.cell?_alloc_at _ _ _ _ rfl, ← HNM.out]
        rcases fl_cases hk with rfl | rfl | rfl | rfl | rfl | rfl | rfl | rfl <;> rfl
      rw [hV] at hcn
      go_wp2_with fail
      rw [← hV]
      rw [← hV] at hcn
      clear hcn hV
      refine (ctlNone_any _).mono ?_
      rintro e w2 ⟨rfl, hb2⟩
      replace hb1 := chain2 hb1 hb1.size (hbV.trans (hb2.mono hbV.size))
      have hbW2 := hb1
      clear hbV hb2 hsV
      obtain ⟨Z, hZ, hbZ, hsZ, hrz⟩ := flBox w2 ctl0
      have h1 := ctl_one ctl0.noStore ctl0.noCache ctl0.priv ctl0.pub ctl0.must ctl0.only (intO ctl0.maxAge) (intO ctl0.shared) (intO ctl0.minFresh) (intO ctl0.maxStale)
      go_wp2_with (refine wpList_store_row rfl 29 _ _ rfl w2.heap.size _ rfl rfl 29 zeroC (rowIs_new _ _ _) infoCtl rfl h1 ?_)
      rw [← hZ]
      clear hZ h1
      obtain ⟨X, hX⟩ : ∃ X, X = Z.alloc (.cells #[.pointer (some ⟨w2.heap.size, 0, none⟩), .pointer (some ⟨w2.heap.size, 1, none⟩), .pointer (some ⟨w2.heap.size, 2, none⟩), .pointer (some ⟨w2.heap.size, 3, none⟩), .pointer (some ⟨w2.heap.size, 4, none⟩), .pointer (some ⟨w2.heap.size, 4, none⟩), .pointer (some ⟨w2.heap.size, 5, none⟩)] 48) := ⟨_, rfl⟩
      have hbX : Below Z.heap.size Z X := by rw [hX]; exact below_alloc _ _
      have hrp : rowIs X (w2.heap.size + 1) #[.pointer (some ⟨w2.heap.size, 0, none⟩), .pointer (some ⟨w2.heap.size, 1, none⟩), .pointer (some ⟨w2.heap.size, 2, none⟩), .pointer (some ⟨w2.heap.size, 3, none⟩), .pointer (some ⟨w2.heap.size, 4, none⟩), .pointer (some ⟨w2.heap.size, 4, none⟩), .pointer (some ⟨w2.heap.size, 5, none⟩)] 48 := by rw [hX]; exact rowIs_new_at _ _ _ _ hsZ.symm
      rw [← hX]
      clear hX
      replace hrz := hrz.below hbX
      replace hb1 := chain2 hb1 hb1.size (hbZ.trans (hbX.mono hbZ.size))
      have hg1 : w.heap.size ≤ w2.heap.size ∧ w2.heap.size < X.heap.size := by
        have h2 := hb1.size
        have h3 := hbX.size
        refine ⟨?_, by omega⟩
        have h4 := hbW2.size
        omega
      clear hbX hbZ hsZ hbW2
      generalize w2.heap.size = g at hrz hrp hg1 ⊢
      go_loopw [56] (fun i wr => ∃ j : Nat, j ≤ 7 ∧ i = .int .i64 j ∧ rowIs wr g #[.bool (setF k j).noStore, .bool (setF k j).noCache, .bool (setF k j).priv, .bool (setF k j).pub, .bool (setF k j).must, .bool (setF k j).only, .int .i64 (intO (setF k j).maxAge), .int .i64 (intO (setF k j).shared), .int .i64 (intO (setF k j).minFresh), .int .i64 (intO (setF k j).maxStale)] 29 ∧ X.grownBy wr (some g)) (fun i _ => 7 - (intOf i).toNat)
      case atStart => exact ⟨0, Nat.zero_le _, rfl, hrz, grown_refl _ _⟩
      case round =>
        obtain ⟨j2, hj2, rfl, hrj, hgr⟩ := hrel
        have hrpj := rowIs_grown hrp hgr (by omega)
        by_cases hl7 : j2 < 7
        · have hc7 : j2 = 0 ∨ j2 = 1 ∨ j2 = 2 ∨ j2 = 3 ∨ j2 = 4 ∨ j2 = 5 ∨ j2 = 6 := by omega
          rcases hc7 with rfl | rfl | rfl | rfl | rfl | rfl | rfl
          · have hp : wr.cell? ⟨g + 1, 0, none⟩ = some (.pointer (some ⟨g, 0, none⟩)) := hrpj.cell 0
            by_cases hkj : k = 0
            · subst hkj
              have hc : wr.cell? ⟨g, 0, none⟩ = some (.bool false) := hrj.cell 0
              have hf := hrj.free 0
              go_wp2_with fail
              go_roundw
              case rel => exact ⟨1, by decide, by go_num, hrj.setCell 0 (.bool true), grown_set hgr 0 _⟩
              case measure => simp [intOf]
            · have he : ((0 : Int) == (k : Int)) = false := by simp; omega
              go_wp2_with fail
              go_roundw
              case rel => exact ⟨1, by decide, by go_num, by rw [setF_other hkj]; exact hrj, hgr⟩
              case measure => simp [intOf]
          · have hp : wr.cell? ⟨g + 1, 1, none⟩ = some (.pointer (some ⟨g, 1, none⟩)) := hrpj.cell 1
            by_cases hkj : k = 1
            · subst hkj
              have hc : wr.cell? ⟨g, 1, none⟩ = some (.bool false) := hrj.cell 1
              have hf := hrj.free 1
              go_wp2_with fail
              go_roundw
              case rel => exact ⟨2, by decide, by go_num, hrj.setCell 1 (.bool true), grown_set hgr 1 _⟩
              case measure => simp [intOf]
            · have he : ((1 : Int) == (k : Int)) = false := by simp; omega
              go_wp2_with fail
              go_roundw
              case rel => exact ⟨2, by decide, by go_num, by rw [setF_other hkj]; exact hrj, hgr⟩
              case measure => simp [intOf]
          · have hp : wr.cell? ⟨g + 1, 2, none⟩ = some (.pointer (some ⟨g, 2, none⟩)) := hrpj.cell 2
            by_cases hkj : k = 2
            · subst hkj
              have hc : wr.cell? ⟨g, 2, none⟩ = some (.bool false) := hrj.cell 2
              have hf := hrj.free 2
              go_wp2_with fail
              go_roundw
              case rel => exact ⟨3, by decide, by go_num, hrj.setCell 2 (.bool true), grown_set hgr 2 _⟩
              case measure => simp [intOf]
            · have he : ((2 : Int) == (k : Int)) = false := by simp; omega
              go_wp2_with fail
              go_roundw
              case rel => exact ⟨3, by decide, by go_num, by rw [setF_other hkj]; exact hrj, hgr⟩
              case measure => simp [intOf]
          · have hp : wr.cell? ⟨g + 1, 3, none⟩ = some (.pointer (some ⟨g, 3, none⟩)) := hrpj.cell 3
            by_cases hkj : k = 3
            · subst hkj
              have hc : wr.cell? ⟨g, 3, none⟩ = some (.bool false) := hrj.cell 3
              have hf := hrj.free 3
              go_wp2_with fail
              go_roundw
              case rel => exact ⟨4, by decide, by go_num, hrj.setCell 3 (.bool true), grown_set hgr 3 _⟩
              case measure => simp [intOf]
            · have he : ((3 : Int) == (k : Int)) = false := by simp; omega
              go_wp2_with fail
              go_roundw
              case rel => exact ⟨4, by decide, by go_num, by rw [setF_other hkj]; exact hrj, hgr⟩
              case measure => simp [intOf]
          · have hp : wr.cell? ⟨g + 1, 4, none⟩ = some (.pointer (some ⟨g, 4, none⟩)) := hrpj.cell 4
            by_cases hkj : k = 4
            · subst hkj
              have hc : wr.cell? ⟨g, 4, none⟩ = some (.bool false) := hrj.cell 4
              have hf := hrj.free 4
              go_wp2_with fail
              go_roundw
              case rel => exact ⟨5, by decide, by go_num, hrj.setCell 4 (.bool true), grown_set hgr 4 _⟩
              case measure => simp [intOf]
            · have he : ((4 : Int) == (k : Int)) = false := by simp; omega
              go_wp2_with fail
              go_roundw
              case rel => exact ⟨5, by decide, by go_num, by rw [setF_other hkj]; exact hrj, hgr⟩
              case measure => simp [intOf]
          · have hp : wr.cell? ⟨g + 1, 5, none⟩ = some (.pointer (some ⟨g, 4, none⟩)) := hrpj.cell 5
            by_cases hkj : k = 5
            · subst hkj
              have hc : wr.cell? ⟨g, 4, none⟩ = some (.bool false) := hrj.cell 4
              have hf := hrj.free 4
              go_wp2_with fail
              go_roundw
              case rel => exact ⟨6, by decide, by go_num, hrj.setCell 4 (.bool true), grown_set hgr 4 _⟩
              case measure => simp [intOf]
            · have he : ((5 : Int) == (k : Int)) = false := by simp; omega
              go_wp2_with fail
              go_roundw
              case rel => exact ⟨6, by decide, by go_num, by rw [setF_other hkj]; exact hrj, hgr⟩
              case measure => simp [intOf]
          · have hp : wr.cell? ⟨g + 1, 6, none⟩ = some (.pointer (some ⟨g, 5, none⟩)) := hrpj.cell 6
            by_cases hkj : k = 6
            · subst hkj
              have hc : wr.cell? ⟨g, 5, none⟩ = some (.bool false) := hrj.cell 5
              have hf := hrj.free 5
              go_wp2_with fail
              go_roundw
              case rel => exact ⟨7, by decide, by go_num, hrj.setCell 5 (.bool true), grown_set hgr 5 _⟩
              case measure => simp [intOf]
            · have he : ((6 : Int) == (k : Int)) = false := by simp; omega
              go_wp2_with fail
              go_roundw
              case rel => exact ⟨7, by decide, by go_num, by rw [setF_other hkj]; exact hrj, hgr⟩
              case measure => simp [intOf]
        · obtain rfl : j2 = 7 := by omega
          rw [setF_all hk] at hrj
          have hbc : Below w.heap.size w _ := hb1.trans (grown_below hgr hg1.1 (by omega))
          have hgw := hgr.size
          clear hrp hrpj hrz hb1 hgr hl7
          obtain ⟨T1, T2, s1, s2, co1, co2⟩ := HFC.out HS.out
          clear HFC HS
          cases gr
          focus
            rw [show flG false (flN k) = nm from HNM.out] at s1 co1
            generalize flC k = c at hrj co1 co2
            have CO1 := hid co1
            have CO2 := hid co2
            clear co1 co2 HNM HC0 HGN HC97 HNL
            go_wp2_with fail
          rotate_left
          focus
            have hcv := fun w' => run_bytes_of_string (P := Tryd.prog) w' 9 50 5 ⟨nm.toArray⟩ Tryd.underlying9 Tryd.underlying50 Tryd.underlying5
            have hnm0 : nm = c0 :: r0 := by rw [← HNM.out]; exact HC0.out
            have hnl : nm.length ≤ 20 := by rw [← HNM.out]; exact HNL.out
            have hnl0 : 0 < nm.length := by rw [hnm0]; simp
            have hby := bytesAt_row wr ⟨nm.toArray⟩ (grownCap wr nm.length 0 5) 5
            rw [dtL] at hby
            obtain ⟨B, hB⟩ : ∃ B, B = wr.alloc (.cells (bytesRow ⟨nm.toArray⟩ (grownCap wr nm.length 0 5)) 5 ((bytesRow ⟨nm.toArray⟩ (grownCap wr nm.length 0 5)).size, (bytesRow ⟨nm.toArray⟩ (grownCap wr nm.length 0 5)).size + 1)) := ⟨_, rfl⟩
            have hbB : Below wr.heap.size wr B := by rw [hB]; exact below_alloc _ _
            have hsB : wr.heap.size < B.heap.size := by rw [hB]; simp
            rw [← hB] at hby
            replace hby : bytesAt B wr.heap.size nm := ⟨hby.cell, hby.free⟩
            have hcell : B.cell? ⟨wr.heap.size, 0, none⟩ = some (.int .u8 (c0.toNat : Int)) := hby.cell 0 c0 (by rw [hnm0]; rfl)
            have hfree : B.frozen? ⟨wr.heap.size, 0, none⟩ = false := hby.free 0 hnl0
            have hset := hby.set 0 hnl0 (c0 - 32)
            rw [sub_byte c0 HC97.out] at hset
            have hback := hset.drew.back 50 9 5 nm.length (grownCap wr nm.length 0 5) (by simp) Tryd.underlying50 Tryd.underlying5 Tryd.underlying9
            have hc0 := c0.toNat_lt
            have hc97 := HC97.out
            have hw8 : IntKind.u8.wrap ((c0.toNat : Int) - 32) = (c0.toNat : Int) - 32 := IntWalk.u8_in _ (by omega)
            have hnm2 : nm.set 0 (c0 - 32) = flG true nm := by rw [hnm0]; rfl
            rw [hnm2] at hset hback
            clear hby hnm2 hnm0 hc0 hc97
            rw [hB] at hcell hfree
            have HBK := hid hback
            clear hback
            rw [HNM.out] at s1 co1
            replace hrj : rowIs (B.setCell ⟨wr.heap.size, 0, none⟩ (.int .u8 ((c0.toNat : Int) - 32))).drew g #[.bool (flC k).noStore, .bool (flC k).noCache, .bool (flC k).priv, .bool (flC k).pub, .bool (flC k).must, .bool (flC k).only, .int .i64 (intO (flC k).maxAge), .int .i64 (intO (flC k).shared), .int .i64 (intO (flC k).minFresh), .int .i64 (intO (flC k).maxStale)] 29 := (hrj.below hbB).setCell_block (g' := wr.heap.size) (by have := hrj.lt; omega) 0 (.int .u8 ((c0.toNat : Int) - 32))
            replace hbc : Below w.heap.size w (B.setCell ⟨wr.heap.size, 0, none⟩ (.int .u8 ((c0.toNat : Int) - 32))).drew := ((chain2 hbc hbc.size hbB).setCell hbc.size _).drew
            generalize flC k = c at hrj co1 co2
            have CO1 := hid co1
            have CO2 := hid co2
            have HRJ := hid hrj
            clear co1 co2 HNM HC0 HGN HC97 HNL hrj
            go_wp2_with fail
            rw [← hB]
            have hrj := HRJ.out
            have hback := HBK.out
            clear HRJ HBK hB hcell hfree
            generalize (B.setCell ⟨wr.heap.size, 0, none⟩ (.int .u8 ((c0.toNat : Int) - 32))).drew = wr2 at hrj hbc hback ⊢
            rw [hback]
            simp only [Result.andThen]
            rw [Oper.upon_value]
            clear hback
            go_wp2_with fail
          all_goals
            have ge := eql_ctl c
            have gg := guard_ctl
            refine wp_region_held_drew (S := fun w' => rowIs w' g #[.bool c.noStore, .bool c.noCache, .bool c.priv, .bool c.pub, .bool c.must, .bool c.only, .int .i64 (intO c.maxAge), .int .i64 (intO c.shared), .int .i64 (intO c.minFresh), .int .i64 (intO c.maxStale)] 29 ∧ Below w.heap.size w w') (by kernel_rfl) ⟨hrj, hbc.drew⟩ (fun hHeld => ?_)
            refine wpAnyH_take (i := 0) (v := ?_) rfl (by kernel_rfl) (by kernel_rfl) (by kernel_rfl) (fun _ _ _ h => h) (Or.inl ⟨by kernel_rfl, ?_⟩) hHeld ?_
            rotate_left
            · intro W hSW
              obtain ⟨hSa, hSd⟩ := hSW
              go_simp
              first | done | with_reducible rfl
            simp only [List.getElem_toArray, List.getElem_cons_succ, List.getElem_cons_zero, Act.put, List.setIfInBounds_toArray, List.set_cons_zero, List.set_cons_succ]
            refine wpAnyH_take (i := 2) (v := ?_) rfl (by kernel_rfl) (by kernel_rfl) (by kernel_rfl) (fun _ _ _ h => h) (Or.inl ⟨by kernel_rfl, ?_⟩) hHeld ?_
            rotate_left
            · intro W hSW
              obtain ⟨hSa, hSd⟩ := hSW
              refine load_gives (x := .tmp 9) ?_ g ?_ hSa Tryd.underlying29 rfl infoCtl
              · rfl
              · rfl
            simp only [List.getElem_toArray, List.getElem_cons_succ, List.getElem_cons_zero, Act.put, List.setIfInBounds_toArray, List.set_cons_zero, List.set_cons_succ]
            refine wpAnyH_ready (rs := [1]) (by kernel_rfl) (by simp) ?_
            refine AllReadyH.cons rfl (fun K hK => ?_) AllReadyH.nil
            go_simp
            refine (CO1.out _).mono ?_
            rintro e w9 ⟨rfl, hb9⟩
            refine hK.out _ _ ⟨hHeld.1.below hb9, chain2 hHeld.2 hHeld.2.size hb9⟩ (fun hHeld2 => ?_)
            clear hK K hHeld
            try simp only [Act.put, List.setIfInBounds_toArray, List.set_cons_zero, List.set_cons_succ]
            refine wpAnyH_take (i := 3) (v := ?_) rfl (by kernel_rfl) (by kernel_rfl) (by kernel_rfl) (fun _ _ _ h => h) (Or.inl ⟨by kernel_rfl, ?_⟩) hHeld2 ?_
            rotate_left
            · intro W hSW
              obtain ⟨hSa, hSd⟩ := hSW
              go_simp
              first | done | with_reducible rfl
            simp only [List.getElem_toArray, List.getElem_cons_succ, List.getElem_cons_zero, Act.put, List.setIfInBounds_toArray, List.set_cons_zero, List.set_cons_succ]
            refine wpAnyH_take (i := 4) (v := ?_) rfl (by kernel_rfl) (by kernel_rfl) (by kernel_rfl) (fun _ _ _ h => h) (Or.inl ⟨by kernel_rfl, ?_⟩) hHeld2 ?_
            rotate_left
            · intro W hSW
              obtain ⟨hSa, hSd⟩ := hSW
              go_simp
              first | done | with_reducible rfl
            simp only [List.getElem_toArray, List.getElem_cons_succ, List.getElem_cons_zero, Act.put, List.setIfInBounds_toArray, List.set_cons_zero, List.set_cons_succ]
            refine wpAnyH_take (i := 5) (v := ?_) rfl (by kernel_rfl) (by kernel_rfl) (by kernel_rfl) (fun _ _ _ h => h) (Or.inl ⟨by kernel_rfl, ?_⟩) hHeld2 ?_
            rotate_left
            · intro W hSW
              obtain ⟨hSa, hSd⟩ := hSW
              go_simp
              first | done | with_reducible rfl
            simp only [List.getElem_toArray, List.getElem_cons_succ, List.getElem_cons_zero, Act.put, List.setIfInBounds_toArray, List.set_cons_zero, List.set_cons_succ]
            refine wpAnyH_take (i := 6) (v := ?_) rfl (by kernel_rfl) (by kernel_rfl) (by kernel_rfl) (fun _ _ _ h => h) (Or.inl ⟨by kernel_rfl, ?_⟩) hHeld2 ?_
            rotate_left
            · intro W hSW
              obtain ⟨hSa, hSd⟩ := hSW
              go_simp
              first | done | with_reducible rfl
            simp only [List.getElem_toArray, List.getElem_cons_succ, List.getElem_cons_zero, Act.put, List.setIfInBounds_toArray, List.set_cons_zero, List.set_cons_succ]
            refine wpAnyH_take (i := 7) (v := ?_) rfl (by kernel_rfl) (by kernel_rfl) (by kernel_rfl) (fun _ _ _ h => h) (Or.inl ⟨by kernel_rfl, ?_⟩) hHeld2 ?_
            rotate_left
            · intro W hSW
              obtain ⟨hSa, hSd⟩ := hSW
              go_simp
              first | done | with_reducible rfl
            simp only [List.getElem_toArray, List.getElem_cons_succ, List.getElem_cons_zero, Act.put, List.setIfInBounds_toArray, List.set_cons_zero, List.set_cons_succ]
            refine wpAnyH_take (i := 8) (v := ?_) rfl (by kernel_rfl) (by kernel_rfl) (by kernel_rfl) (fun _ _ _ h => h) (Or.inl ⟨by kernel_rfl, ?_⟩) hHeld2 ?_
            rotate_left
            · intro W hSW
              obtain ⟨hSa, hSd⟩ := hSW
              go_simp
              first | done | with_reducible rfl
            simp only [List.getElem_toArray, List.getElem_cons_succ, List.getElem_cons_zero, Act.put, List.setIfInBounds_toArray, List.set_cons_zero, List.set_cons_succ]
            refine wpAnyH_take (i := 10) (v := ?_) rfl (by kernel_rfl) (by kernel_rfl) (by kernel_rfl) (fun _ _ _ h => h) (Or.inl ⟨by kernel_rfl, ?_⟩) hHeld2 ?_
            rotate_left
            · intro W hSW
              obtain ⟨hSa, hSd⟩ := hSW
              refine load_gives (x := .tmp 9) ?_ g ?_ hSa Tryd.underlying29 rfl infoCtl
              · rfl
              · rfl
            simp only [List.getElem_toArray, List.getElem_cons_succ, List.getElem_cons_zero, Act.put, List.setIfInBounds_toArray, List.set_cons_zero, List.set_cons_succ]
            refine wpAnyH_ready (rs := [9]) (by kernel_rfl) (by simp) ?_
            refine AllReadyH.cons rfl (fun K hK => ?_) AllReadyH.nil
            go_simp
            refine (CO2.out _).mono ?_
            rintro e w9 ⟨rfl, hb9⟩
            refine hK.out _ _ ⟨hHeld2.1.below hb9, chain2 hHeld2.2 hHeld2.2.size hb9⟩ (fun hHeld3 => ?_)
            clear hK K hHeld2
            try simp only [Act.put, List.setIfInBounds_toArray, List.set_cons_zero, List.set_cons_succ]
            refine wpAnyH_take (i := 11) (v := ?_) rfl (by kernel_rfl) (by kernel_rfl) (by kernel_rfl) (fun _ _ _ h => h) (Or.inl ⟨by kernel_rfl, ?_⟩) hHeld3 ?_
            rotate_left
            · intro W hSW
              obtain ⟨hSa, hSd⟩ := hSW
              go_simp
              first | done | with_reducible rfl
            simp only [List.getElem_toArray, List.getElem_cons_succ, List.getElem_cons_zero, Act.put, List.setIfInBounds_toArray, List.set_cons_zero, List.set_cons_succ]
            refine wpAnyH_take (i := 12) (v := ?_) rfl (by kernel_rfl) (by kernel_rfl) (by kernel_rfl) (fun _ _ _ h => h) (Or.inl ⟨by kernel_rfl, ?_⟩) hHeld3 ?_
            rotate_left
            · intro W hSW
              obtain ⟨hSa, hSd⟩ := hSW
              go_simp
              first | done | with_reducible rfl
            simp only [List.getElem_toArray, List.getElem_cons_succ, List.getElem_cons_zero, Act.put, List.setIfInBounds_toArray, List.set_cons_zero, List.set_cons_succ]
            refine wpAnyH_take (i := 13) (v := ?_) rfl (by kernel_rfl) (by kernel_rfl) (by kernel_rfl) (fun _ _ _ h => h) (Or.inl ⟨by kernel_rfl, ?_⟩) hHeld3 ?_
            rotate_left
            · intro W hSW
              obtain ⟨hSa, hSd⟩ := hSW
              go_simp
              first | done | with_reducible rfl
            simp only [List.getElem_toArray, List.getElem_cons_succ, List.getElem_cons_zero, Act.put, List.setIfInBounds_toArray, List.set_cons_zero, List.set_cons_succ]
            refine wpAnyH_done (by kernel_rfl) ?_ _
            go_wp2_with fail
            go_ret
            exact ⟨rfl, hHeld3.2⟩
set_option maxRecDepth 8000 in
theorem controlFlags_walk (z : Int) (gr : Bool) (s : ByteArray) (w : World) (_hs : s.size ≤ maxLen) :
    Calls Tryd.prog 7 #[.int .i64 z, .bool gr, .string s] w fun e w' => e = .returned (.bool true) ∧ Below w.heap.size w w' := by
  by_cases hall : 0 ≤ z ∧ z ≤ 7 ∧ (s.size : Int) ≤ 50
  · obtain ⟨a0, a1, b0⟩ := hall
    obtain ⟨k, rfl⟩ : ∃ k : Nat, z = (k : Int) := ⟨z.toNat, by omega⟩
    exact controlFlags_main k gr s w (by omega) b0
  · have hcase : (decide (z < 0) = true) ∨ (decide (z < 0) = false ∧ decide (7 < z) = true) ∨ (decide (z < 0) = false ∧ decide (7 < z) = false ∧ decide ((50 : Int) < (s.size : Int)) = true) := by
      simp only [decide_eq_true_eq, decide_eq_false_iff_not]
      omega
    clear hall
    rcases hcase with h1 | ⟨h1, h2⟩ | ⟨h1, h2, h3⟩
    all_goals
      go_enter Tryd.func7, Tryd.ntmps7
      go_wp2_with fail
      refine (anchor_any _).mono ?_
      rintro e w1 ⟨rfl, hb⟩
      go_wp2_with fail
      go_ret
      exact ⟨rfl, hb⟩
end Go.Proofs.YtofkiihajhkmdaaDoor
