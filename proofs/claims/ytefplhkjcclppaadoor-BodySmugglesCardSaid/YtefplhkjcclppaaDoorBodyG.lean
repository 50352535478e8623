/-
  Contracts: strconv.AppendInt at base 16; of package body: addChunk, Chunks.
-/
import Derived.Test.YtefplhkjcclppaaDoorBodyF
import Derived.Test.YtefplhkjcclppaaDoorAppStr
namespace Go.Proofs.YtefplhkjcclppaaDoor
open Go.RowKit Go.Pantry

/-- what an appending leaves: E, and T behind it -/
def Appended (t : TypeId) (B : Nat) (L : List UInt8) (w : World) (e : Ending) (w' : World) : Prop := ∃ v', e = .returned v' ∧ w'.ownsRow B t 1 v' L.length (L.map byteV) ∧ Below B w w'
set_option maxRecDepth 100000 in
set_option maxHeartbeats 4000000 in
theorem appendUint_any (v : Value) (E : List UInt8) (B n : Nat) (w : World) (ht : Tab64 w) (hn : n < 4294967296) (hown : w.ownsRow B 5 1 v E.length (E.map byteV)) (hB : B ≤ w.heap.size) (hE : E.length < 2000000) :
    Calls Tryd.prog 43 #[v, .int .u64 (n : Int), .int .i64 16] w fun e w' => Appended 5 B (E ++ hexN n) w e w' := by
  have c := bits16_any v E B n w ht hn hown hB hE
  obtain ⟨aov, capv, rfl⟩ := ownsRow_bytes_form hown
  have C := hid c
  clear c hown ht
  go_enter Tryd.func43, Tryd.ntmps43
  go_wp2_with fail
  refine C.out.mono ?_
  rintro e w1 ⟨v', rfl, ho, hb⟩
  go_wp2_with fail
  go_ret
  exact ⟨v', rfl, ho, hb⟩
set_option maxRecDepth 100000 in
set_option maxHeartbeats 4000000 in
theorem appendInt0_any (v : Value) (E : List UInt8) (B n : Nat) (w : World) (ht : Tab64 w) (hn : n < 4294967296) (hown : w.ownsRow B 5 1 v E.length (E.map byteV)) (hB : B ≤ w.heap.size) (hE : E.length < 2000000) :
    Calls Tryd.prog 34 #[v, .int .i64 (n : Int), .int .i64 16] w fun e w' => Appended 5 B (E ++ hexN n) w e w' := by
  have c := appendUint_any v E B n w ht hn hown hB hE
  obtain ⟨aov, capv, rfl⟩ := ownsRow_bytes_form hown
  have C := hid c
  clear c hown ht
  go_enter Tryd.func34, Tryd.ntmps34
  go_wp2_with fail
  refine C.out.mono ?_
  rintro e w1 ⟨v', rfl, ho, hb⟩
  go_wp2_with fail
  go_ret
  exact ⟨v', rfl, ho, hb⟩
set_option maxRecDepth 100000 in
set_option maxHeartbeats 4000000 in
theorem appendInt_any (v : Value) (E : List UInt8) (B n : Nat) (w : World) (ht : Tab64 w) (hn : n < 4294967296) (hown : w.ownsRow B 5 1 v E.length (E.map byteV)) (hB : B ≤ w.heap.size) (hE : E.length < 2000000) :
    Calls Tryd.prog 26 #[v, .int .i64 (n : Int), .int .i64 16] w fun e w' => Appended 5 B (E ++ hexN n) w e w' := by
  have c := appendInt0_any v E B n w ht hn hown hB hE
  obtain ⟨aov, capv, rfl⟩ := ownsRow_bytes_form hown
  have C := hid c
  clear c hown ht
  go_enter Tryd.func26, Tryd.ntmps26
  go_wp2_with fail
  refine C.out.mono ?_
  rintro e w1 ⟨v', rfl, ho, hb⟩
  go_wp2_with fail
  go_ret
  exact ⟨v', rfl, ho, hb⟩
set_option maxRecDepth 100000 in
set_option maxHeartbeats 8000000 in
theorem addChunk_any (v vc : Value) (E c : List UInt8) (B : Nat) (w0 w : World) (h0 : w0.heap.size ≤ B) (hb : Below w0.heap.size w0 w) (ht : Tab64 w) (hown : w.ownsRow B 5 1 v E.length (E.map byteV)) (hB : B ≤ w.heap.size) (hE : E.length < 1000000) (hc : Bytes w0 vc c) (hcl : c.length < 1000000) :
    Calls Tryd.prog 17 #[v, vc] w fun e w' => Appended 5 B (E ++ chunkT c) w e w' := by
  have c1 := appendInt_any v E B c.length w ht (by omega) hown hB (by omega)
  have h8 := hexN_len 7 c.length (by omega)
  have hT : E ++ chunkT c = E ++ hexN c.length ++ [13, 10] ++ c ++ [13, 10] := by unfold chunkT crlfB; simp
  generalize hexN c.length = H at c1 h8 hT
  rw [hT]
  clear hT
  obtain ⟨aov, capv, rfl⟩ := ownsRow_bytes_form hown
  obtain ⟨aoc, capc, rfl, -⟩ := bytes_form hc
  have C1 := hid c1
  have HC := hid hc
  have HB := hid hb
  clear c1 hown ht hc hb
  go_enter Tryd.func17, Tryd.ntmps17
  go_wp2_with fail
  refine C1.out.mono ?_
  rintro e w1 ⟨v1, rfl, ho1, hb1⟩
  have hs1 : B ≤ w1.heap.size := Nat.le_trans hB hb1.size
  have hl1 : (E ++ H).length < 1000100 := by rw [List.length_append]; omega
  clear C1
  generalize hE1 : E ++ H = E1 at *
  have HE1 := hid hE1
  clear hE1
  have hrd := fun W (h : Below w0.heap.size w0 W) => bytesRead (bytes_below HC.out h)
  have hbw1 := HB.out.trans (hb1.mono h0)
  go_wp2_with (first
    | (at_builtin; refine wpList_append_str _ rfl _ _ 41 9 rfl B 5 Tryd.underlying41 Tryd.underlying9 infoU8 rfl ho1 (l := [13, 10]) rfl (by simp; omega) hs1 ?_; intro v2 w2 ho2 hb2; have hs2 : B ≤ w2.heap.size := Nat.le_trans hs1 hb2.size; have hbw2 := hbw1.trans (hb2.mono h0); have hrd2 := hrd _ hbw2)
    | (at_builtin; refine wpList_append_all _ rfl _ _ 41 rfl B 5 Tryd.underlying41 infoU8 rfl (by decide) rfl ho2 hrd2 (oneCell_bytes _) rfl (by simp; omega) hs2 ?_; intro v3 w3 ho3 hg3 hb3; have hs3 : B ≤ w3.heap.size := Nat.le_trans hs2 hb3.size)
    | (at_builtin; refine wpList_append_str _ rfl _ _ 41 9 rfl B 5 Tryd.underlying41 Tryd.underlying9 infoU8 rfl ho3 (l := [13, 10]) rfl (by simp; omega) hs3 ?_; intro v4 w4 ho4 hb4))
  go_ret
  refine ⟨v4, rfl, ?_, ((hb1.trans hb2).trans hb3).trans hb4⟩
  rw [HE1.out]
  have h1 : (E1 ++ [13, 10] ++ c ++ [13, 10]).length = E1.length + 2 + (c.map byteV).length + 2 := by simp; omega
  have h2 : (E1 ++ [13, 10] ++ c ++ [13, 10]).map byteV = E1.map byteV ++ ([13, 10] : List UInt8).map byteV ++ c.map byteV ++ ([13, 10] : List UInt8).map byteV := by simp
  rw [h1, h2]
  exact ho4
/-- what Chunks tells -/
def ChunksMade (t : TypeId) (B : Nat) (R : List UInt8) (e : Ending) (w' : World) : Prop := ∃ v', e = .returned v' ∧ w'.ownsRow B t 1 v' R.length (R.map byteV)
def chunksA (cs : List (List UInt8)) : List UInt8 := cs.flatMap chunkT
theorem chunksA_cons (c : List UInt8) (cs : List (List UInt8)) : chunksA (c :: cs) = chunkT c ++ chunksA cs := by unfold chunksA; simp
theorem cutS_take (b : List UInt8) (z : Int) (zs : List Int) (n : Nat) (h : min z (b.length : Int) = (n : Int)) (hn : 0 < n) : cutS b (z :: zs) = b.take n :: cutS (b.drop n) zs := by
  rw [cutS, h, if_pos (by omega), Int.toNat_natCast]
theorem cutS_skip (b : List UInt8) (z : Int) (zs : List Int) (h : min z (b.length : Int) ≤ 0) : cutS b (z :: zs) = cutS b zs := by
  rw [cutS, if_neg (by omega)]
set_option maxRecDepth 100000 in
set_option maxHeartbeats 8000000 in
theorem Chunks_any (vb vz : Value) (b : List UInt8) (zs : List Int) (w : World) (ht : Tab64 w) (hbb : Bytes w vb b) (hbl : b.length ≤ 10000) (hz : Reads w vz (zs.map (Value.int .i64))) (hzl : zs.length ≤ 1000) :
    Calls Tryd.prog 11 #[vb, vz] w fun e w' => ChunksMade 5 w.heap.size (chunksT (cutS b zs)) e w' ∧ Below w.heap.size w w' := by
  obtain ⟨R, hR⟩ : ∃ R, chunksA (cutS b zs) = R := ⟨_, rfl⟩
  have hT : chunksT (cutS b zs) = R ++ chunkT [] := by rw [← hR]; rfl
  rw [hT]
  have hRl : R.length ≤ 40000 := by
    have h1 := cutS_text_len (cutS b zs) (fun c hc => by have := (cutS_pos zs b c hc).2; omega)
    have h2 := cutS_len zs b
    rw [cutS_flat, hT, List.length_append] at h1
    omega
  have c1 := fun W v vc E c h1 h2 h3 h4 h5 h6 h7 h8 => addChunk_any v vc E c w.heap.size w W h1 h2 h3 h4 h5 h6 h7 h8
  obtain ⟨aoz, capz, rfl⟩ := hz.form
  rw [List.length_map] at *
  have C1 := hid c1
  have HZ := hid hz
  have HTB := hid ht
  have HRR := hid hR
  have HBB := hid hbb
  obtain ⟨aob, capb, rfl, -⟩ := bytes_form hbb
  clear c1 hz ht hR hbb hT
  go_enter Tryd.func11, Tryd.ntmps11
  go_wp2_with fail
  go_loopw [0, 5, 11] (fun bv tv i wr => ∃ (k : Nat) (b' T : List UInt8), k ≤ zs.length ∧ i = .int .i64 (k : Int) ∧ Bytes w bv b' ∧ b'.length ≤ 10000 ∧ wr.ownsRow w.heap.size 5 1 tv T.length (T.map byteV) ∧ T ++ chunksA (cutS b' (zs.drop k)) = R ∧ Below w.heap.size w wr) (fun _ _ i _ => zs.length - (intOf i).toNat)
  case atStart => exact ⟨0, b, [], Nat.zero_le _, rfl, HBB.out, hbl, World.ownsRow_nil _ _ _ _, by rw [List.drop_zero]; exact HRR.out, Below.refl _ _⟩
  case round =>
    obtain ⟨k, b', T, hk, rfl, hb', hbl', ho, hTR, hb⟩ := hrel
    have hTl : T.length ≤ 40000 := by
      have := congrArg List.length hTR
      rw [List.length_append] at this
      omega
    have hs := hb.size
    have HTR := hid hTR
    have HB' := hid hb'
    have HT' := hid (HTB.out.below hb)
    obtain ⟨ao1, cap1, rfl, hc1⟩ := bytes_form hb'
    obtain ⟨ao2, cap2, rfl⟩ := ownsRow_bytes_form ho
    clear hTR hb'
    by_cases hlt : k < zs.length
    · obtain ⟨z, hzx⟩ : ∃ z, zs[k]? = some z := ⟨_, List.getElem?_eq_getElem hlt⟩
      have hdr : zs.drop k = z :: zs.drop (k + 1) := by
        rw [List.drop_eq_getElem_cons hlt]
        obtain ⟨_, e⟩ := List.getElem?_eq_some_iff.1 hzx
        rw [e]
      obtain ⟨b2, off, cap', hv, hcell⟩ := (HZ.out.below hb).at_some (by rw [List.length_map]; omega)
      have hce := hcell k (.int .i64 z) (by rw [List.getElem?_map, hzx]; rfl)
      rw [List.length_map] at hv
      cases hv
      have HDR := hid hdr
      clear hdr hzx hcell
      obtain ⟨M, hM⟩ : ∃ M : Int, (if (b'.length : Int) < z then (b'.length : Int) else z) = M := ⟨_, rfl⟩
      have hmin : min z (b'.length : Int) = M := by
        rw [← hM]
        split <;> omega
      by_cases hpos : 0 < M
      · obtain ⟨n, rfl⟩ : ∃ n : Nat, M = (n : Int) := ⟨M.toNat, by omega⟩
        have hnl : n ≤ b'.length := by omega
        have hcut := cutS_take b' z (zs.drop (k + 1)) n hmin (by omega)
        obtain ⟨aoc, cc, hhigh, hvc⟩ := bytes_high (P := Tryd.prog) 41 (by kernel_rfl) (fun _ => by kernel_rfl) HB'.out n hnl
        obtain ⟨aot, ct, htail, hv3⟩ := bytes_low (P := Tryd.prog) 41 (by kernel_rfl) (fun _ => by kernel_rfl) HB'.out n hnl
        have hl3 : (b'.drop n).length ≤ 10000 := by rw [List.length_drop]; omega
        have hl4 : (b'.take n).length < 1000000 := by rw [List.length_take]; omega
        have hRs : (T ++ chunkT (b'.take n)) ++ chunksA (cutS (b'.drop n) (zs.drop (k + 1))) = R := by
          rw [← HTR.out, HDR.out, hcut, chunksA_cons, List.append_assoc]
        have c2 := C1.out wr _ _ T (b'.take n) (Nat.le_refl _) hb HT'.out ho hs (by omega) hvc hl4
        have HRS := hid hRs
        have C2 := hid c2
        have HH := hid hhigh
        have HL := hid htail
        have HV3 := hid hv3
        have HL3 := hid hl3
        clear hRs c2 hhigh htail hv3 hl3 hl4 hcut hmin hvc ho
        generalize b'.take n = C at HRS C2
        go_wp2_with (refine wpList_slice_high rfl 41 _ _ rfl rfl rfl (by kernel_rfl) (HH.out _) ?_)
        refine C2.out.mono ?_
        rintro e w2 ⟨v2, rfl, ho2, hb2⟩
        go_wp2_with (refine wpList_slice_low rfl 41 _ _ rfl rfl rfl (by kernel_rfl) (HL.out _) ?_)
        go_roundw
        case rel => exact ⟨k + 1, b'.drop n, T ++ chunkT C, hlt, by go_num, HV3.out, HL3.out, ho2, HRS.out, hb.trans hb2⟩
        case measure => simp [intOf]; omega
      · have hcut := cutS_skip b' z (zs.drop (k + 1)) (by omega)
        have hRs : T ++ chunksA (cutS b' (zs.drop (k + 1))) = R := by rw [← HTR.out, HDR.out, hcut]
        have HRS := hid hRs
        clear hRs hcut hmin
        go_wp2_with fail
        go_roundw
        case rel => exact ⟨k + 1, b', T, hlt, by go_num, HB'.out, hbl', ho, HRS.out, hb⟩
        case measure => simp [intOf]; omega
    · have hdr : zs.drop k = [] := List.drop_eq_nil_of_le (by omega)
      have hTR := HTR.out
      rw [hdr] at hTR
      by_cases hpos : (0 : Int) < (b'.length : Int)
      · have hR2 : T ++ chunkT b' = R := by
          rw [← hTR]
          unfold cutS
          rw [if_neg (by omega), chunksA_cons]
          unfold chunksA
          simp
        have c2 := C1.out wr _ _ T b' (Nat.le_refl _) hb HT'.out ho hs (by omega) HB'.out (by omega)
        rw [hR2] at c2
        have C2 := hid c2
        clear c2 hR2 hTR hdr ho
        go_wp2_with fail
        refine C2.out.mono ?_
        rintro e w2 ⟨v2, rfl, ho2, hb2⟩
        obtain ⟨ao3, cap3, rfl⟩ := ownsRow_bytes_form ho2
        have hb3 := hb.trans hb2
        have c3 := C1.out w2 _ _ R [] (Nat.le_refl _) hb3 (HTB.out.below hb3) ho2 hb3.size (by omega) (bytes_nil w) (by simp)
        have C3 := hid c3
        clear c3 ho2 hb2
        go_wp2_with fail
        refine C3.out.mono ?_
        rintro e w4 ⟨v4, rfl, ho4, hb4⟩
        go_wp2_with fail
        go_ret
        exact ⟨⟨v4, rfl, ho4⟩, hb3.trans hb4⟩
      · have hR2 : T = R := by
          rw [← hTR]
          unfold cutS
          rw [if_pos (by omega)]
          unfold chunksA
          simp
        subst hR2
        have c3 := C1.out wr _ _ T [] (Nat.le_refl _) hb HT'.out ho hs (by omega) (bytes_nil w) (by simp)
        have C3 := hid c3
        clear c3 ho hTR hdr
        go_wp2_with fail
        refine C3.out.mono ?_
        rintro e w4 ⟨v4, rfl, ho4, hb4⟩
        go_wp2_with fail
        go_ret
        exact ⟨⟨v4, rfl, ho4⟩, hb.trans hb4⟩
end Go.Proofs.YtefplhkjcclppaaDoor
