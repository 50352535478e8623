/-
  Contracts of the library: a number's hexadecimal digits appended (strconv.AppendInt at base 16).
-/
import Derived.Test.YtefplhkjcclppaaDoorBodyA
namespace Go.Proofs.YtefplhkjcclppaaDoor
open Go.RowKit Go.Pantry

def Tab64 (w : World) : Prop := w.cell? ⟨3, 15, none⟩ = some (.int .u8 4)
theorem Tab64.below {w w' : World} (h : Tab64 w) (hb : Below w.heap.size w w') : Tab64 w' := kept h hb
theorem tz64_any (w : World) (h : Tab64 w) : Calls Tryd.prog 71 #[.int .u64 16] w fun e w' => e = .returned (.int .i64 4) ∧ w = w' := by
  unfold Tab64 at h
  have e1 : IntKind.u64.wrap (-16) = 18446744073709551600 := by kernel_rfl
  have e2 : bits BinOp.and IntKind.u64 16 18446744073709551600 = 16 := by kernel_rfl
  have e3 : IntKind.u64.wrap (16 * 285870213051353865) = 4573923408821661840 := by kernel_rfl
  have e4 : IntKind.u64.wrap 4573923408821661840 = 4573923408821661840 := by kernel_rfl
  have e5 : (4573923408821661840 : Int) / 288230376151711744 = 15 := by decide
  go_enter Tryd.func71, Tryd.ntmps71
  go_wp2
  go_ret
  exact ⟨rfl, rfl⟩
theorem tz_any (w : World) (h : Tab64 w) : Calls Tryd.prog 65 #[.int .u64 16] w fun e w' => e = .returned (.int .i64 4) ∧ w = w' := by
  have c := tz64_any w h
  have C := hid c
  clear c
  go_enter Tryd.func65, Tryd.ntmps65
  go_wp2_with fail
  refine C.out.mono ?_
  rintro e w' ⟨rfl, rfl⟩
  go_wp2
  go_ret
  exact ⟨rfl, rfl⟩
theorem pow2_any (w : World) : Calls Tryd.prog 64 #[.int .i64 16] w fun e w' => e = .returned (.bool true) ∧ w = w' := by
  go_enter Tryd.func64, Tryd.ntmps64
  go_wp2
  go_ret
  exact ⟨rfl, rfl⟩
theorem and15 (u : Nat) (h : u < 4294967296) : bits .and .u64 (u : Int) 15 = ((u % 16 : Nat) : Int) := by
  have e := bits_and_u64_nat u 15 (by omega) (by decide)
  have e2 := Nat.and_two_pow_sub_one_eq_mod u 4
  have e3 : (2 ^ 4 - 1 : Nat) = 15 := by decide
  have e4 : (2 ^ 4 : Nat) = 16 := by decide
  rw [e3, e4] at e2
  rw [e2] at e
  exact e
def digitsS : ByteArray := ⟨#[48, 49, 50, 51, 52, 53, 54, 55, 56, 57, 97, 98, 99, 100, 101, 102, 103, 104, 105, 106, 107, 108, 109, 110, 111, 112, 113, 114, 115, 116, 117, 118, 119, 120, 121, 122]⟩
theorem hexD_index : ∀ d : Nat, d < 16 → digitsS.data.toList[d]? = some (hexD d) := by decide
theorem hexD_at (d : Nat) (h : d < 16) (h' : d < digitsS.size) : digitsS[d]'h' = hexD d := by
  have e := hexD_index d h
  obtain ⟨_, e2⟩ := List.getElem?_eq_some_iff.1 e
  exact e2
theorem array_low (j g : Nat) (hj : j ≤ 64) (W : World) : (Instr.sliceAt 108 (.pointer (some ⟨g, 0, none⟩)) (some (.int .i64 (j : Int))) none none).run Tryd.prog W = .ok (.slice (some ⟨g, j, none⟩) (65 - j) (65 - j)) W := by
  have hal : Tryd.prog.arrayLen 108 = 65 := by kernel_rfl
  have hsz : (sizeOf (Tryd.prog.elem 108)).run Tryd.prog W = .ok 1 W := by kernel_rfl
  rw [run_sliceAt_array_l W 108 ⟨g, 0, none⟩ (by kernel_rfl) .i64 (j : Int) (by omega) (by rw [hal]; omega), hsz, hal]
  simp only [Result.andThen, slicedAt, Int.toNat_natCast]
  rw [if_neg (by omega), addAt2]
  simp
theorem row_front (cs : Array Value) (L : List UInt8) (c : UInt8) (k : Nat) (hs : cs.size = 65) (hk : L.length = k) (hk64 : k ≤ 64) (h : cs.toList.drop (65 - k) = L.map byteV) :
    (cs.setIfInBounds (64 - k) (byteV c)).toList.drop (65 - (k + 1)) = (c :: L).map byteV := by
  rw [Array.toList_setIfInBounds, show 65 - (k + 1) = 64 - k by omega, List.drop_eq_getElem_cons (by rw [List.length_set, Array.length_toList]; omega), List.getElem_set_self, List.drop_set_of_lt (by omega), show 64 - k + 1 = 65 - k by omega, h]
  rfl
set_option maxRecDepth 100000 in
set_option maxHeartbeats 8000000 in
theorem bits16_any (v : Value) (E : List UInt8) (B n : Nat) (w : World) (ht : Tab64 w) (hn : n < 4294967296) (hown : w.ownsRow B 5 1 v E.length (E.map byteV)) (hB : B ≤ w.heap.size) (hE : E.length < 2000000) :
    Calls Tryd.prog 51 #[v, .int .u64 (n : Int), .int .i64 16, .bool false, .bool true] w fun e w' => ∃ v', e = .returned (.tuple #[v', .string ⟨#[]⟩]) ∧ w'.ownsRow B 5 1 v' (E ++ hexN n).length ((E ++ hexN n).map byteV) ∧ Below B w w' := by
  have c1 := fun W h => tz_any W h
  have c2 := fun W => pow2_any W
  have C1 := hid c1
  have C2 := hid c2
  obtain ⟨W1, hW1⟩ : ∃ W, W = w.alloc (.cells Tryd.zeroCells108 108) := ⟨_, rfl⟩
  have hb1 : Below w.heap.size w W1 := by rw [hW1]; exact below_alloc _ _
  have hg1 : rowIs W1 w.heap.size Tryd.zeroCells108 108 := by rw [hW1]; exact rowIs_new _ _ _
  have hz : Tryd.zeroCells108.size = 65 := by kernel_rfl
  have ht1 := ht.below hb1
  have HT := hid ht1
  have HO := hid hown
  have HN := hid hn
  obtain ⟨R, hR⟩ : ∃ R, hexN n = R := ⟨_, rfl⟩
  have hRl : R.length ≤ 8 := by rw [← hR]; exact hexN_len 7 n hn
  rw [hR]
  have HRR := hid hR
  obtain ⟨aov, capv, rfl⟩ := ownsRow_bytes_form hown
  clear c1 c2 ht ht1 hown hR
  go_enter Tryd.func51, Tryd.ntmps51
  go_wp2_with fail
  rw [← hW1]
  clear hW1
  refine (C2.out _).mono ?_
  rintro e w1 ⟨rfl, rfl⟩
  go_wp2_with fail
  refine (C1.out _ HT.out).mono ?_
  rintro e w1 ⟨rfl, rfl⟩
  generalize Tryd.zeroCells108 = zs at *
  have hgb : B ≤ w.heap.size := hB
  generalize hgd : w.heap.size = g at *
  have GEQ := hid hgd
  clear hgd
  go_wp2_with fail
  go_loopw [1, 13] (fun uv iv wr => ∃ (u : Nat) (L : List UInt8) (cs : Array Value), uv = .int .u64 (u : Int) ∧ iv = .int .i64 ((65 - L.length : Nat) : Int) ∧ L.length ≤ 7 ∧ u < 16 ^ (8 - L.length) ∧ rowIs wr g cs 108 ∧ cs.size = 65 ∧ cs.toList.drop (65 - L.length) = L.map byteV ∧ hexN u ++ L = R ∧ Below g w wr) (fun uv _ _ => (intOf uv).toNat)
  case atStart => exact ⟨n, [], zs, rfl, rfl, by simp, HN.out, hg1, hz, by simp [hz], by rw [HRR.out]; simp, hb1⟩
  case round =>
    obtain ⟨u, L, cs, rfl, rfl, hL7, hu, hg, hcs, hdr, hLR, hb⟩ := hrel
    have hu2 : u < 4294967296 := Nat.lt_of_lt_of_le hu (Nat.pow_le_pow_right (n := 16) (by decide) (Nat.sub_le 8 L.length))
    obtain ⟨j, hj⟩ : ∃ j, 65 - L.length = j + 1 := ⟨64 - L.length, by omega⟩
    have hj64 : j ≤ 64 := by omega
    have hjL : 64 - L.length = j := by omega
    rw [hj]
    have hold : ∃ old, cs[j]? = some old := ⟨cs[j]'(by omega), Array.getElem?_eq_getElem _⟩
    obtain ⟨old, hold⟩ := hold
    have hcell := (hg.cell j).trans hold
    have hfree := hg.free j
    by_cases hge : (16 : Int) ≤ (u : Int)
    · have h15 := and15 u hu2
      have hd := Nat.mod_lt u (show 0 < 16 by decide)
      have hidx := fun h' => hexD_at (u % 16) hd h'
      unfold digitsS at hidx
      have hstep := hexN_big (n := u) (by omega)
      obtain ⟨dg, hdg⟩ : ∃ d, u % 16 = d := ⟨_, rfl⟩
      rw [hdg] at h15 hd hidx hstep
      have hrf := row_front cs L (hexD dg) L.length hcs rfl (by omega) hdr
      rw [hjL] at hrf
      have HRF := hid hrf
      have HLR := hid hLR
      have HST := hid hstep
      have HU := hid hu
      have HG := hid hg
      have HCS := hid hcs
      clear hrf hLR hstep hu hdr hcs hg hold
      go_wp2_with fail
      go_roundw
      case rel =>
        refine ⟨u / 16, hexD dg :: L, cs.setIfInBounds j (byteV (hexD dg)), by go_num, ?_, ?_, ?_, HG.out.setCell j _, by rw [Array.size_setIfInBounds]; exact HCS.out, HRF.out, ?_, hb.setCell (p := ⟨g, j, none⟩) (Nat.le_refl _) _⟩
        · have : j = 65 - (hexD dg :: L).length := by simp; omega
          rw [← this]
        · have hu := HU.out
          have : L.length ≠ 7 := fun h => by rw [h] at hu; omega
          simp; omega
        · have hu := HU.out
          have : L.length ≠ 7 := fun h => by rw [h] at hu; omega
          rw [show 8 - L.length = (8 - (hexD dg :: L).length) + 1 by simp; omega, Nat.pow_succ] at hu
          exact Nat.div_lt_of_lt_mul (by rw [Nat.mul_comm]; exact hu)
        · have h1 := HST.out
          have h2 := HLR.out
          rw [h1] at h2
          rw [← h2]; simp
      case measure => simp [intOf]; omega
    · have hd : u < 16 := by omega
      have hidx := fun h' => hexD_at u hd h'
      unfold digitsS at hidx
      have hrf := row_front cs L (hexD u) L.length hcs rfl (by omega) hdr
      rw [hjL] at hrf
      have hRe : R = hexD u :: L := by rw [← hLR, hexN_small hd]; rfl
      subst hRe
      have HRF := hid hrf
      obtain ⟨W2, hW2⟩ : ∃ W, W = wr.setCell ⟨g, j, none⟩ (byteV (hexD u)) := ⟨_, rfl⟩
      have hg2 : rowIs W2 g (cs.setIfInBounds j (byteV (hexD u))) 108 := by rw [hW2]; exact hg.setCell j _
      have hb2 : Below g w W2 := by rw [hW2]; exact hb.setCell (p := ⟨g, j, none⟩) (Nat.le_refl _) _
      have hrd : Reads W2 (.slice (some ⟨g, j, none⟩) (65 - j) (65 - j)) ((hexD u :: L).map byteV) := by
        have hl : ((hexD u :: L).map byteV).length = 65 - j := by simp; omega
        refine ⟨_, _, by rw [hl], fun i x hi => ⟨g, j, rfl, ?_⟩, fun e => by cases e⟩
        rw [hg2.cell (j + i)]
        rw [← hrf, show 65 - (L.length + 1) = j by omega, List.getElem?_drop] at hi
        rw [Array.getElem?_toList] at hi
        exact hi
      have ho2 := HO.out.below (by rw [GEQ.out]; exact hb2)
      have hs2 : B ≤ W2.heap.size := by have := hb2.size; have := GEQ.out; omega
      have HRD := hid hrd
      have HB2 := hid hb2
      clear hrf hLR hu hdr hcs hg hold hrd hg2 hb
      have hsl := array_low j g hj64
      subst hW2
      have hul : (hexD u :: L).length ≤ 8 := hRl
      go_wp2_with ((at_builtin; go_must (refine wpList_append_all _ rfl _ _ 41 rfl B 5 Tryd.underlying41 infoU8 rfl (by decide) rfl ho2 HRD.out (oneCell_bytes _) rfl (by rw [List.length_map]; omega) hs2 ?_); intro v' w3 hown3 hg3 hb3))
      go_ret2
      refine ⟨v', rfl, by simpa using hown3, ?_⟩
      have hbw : Below B w (wr.setCell ⟨g, j, none⟩ (byteV (hexD u))) := HB2.out.mono hgb
      exact hbw.trans hb3
end Go.Proofs.YtefplhkjcclppaaDoor
