/-
  Layer 15: DiskKeeps.
-/
import Derived.Test.YtgdeiokaicjkdaaLaw15A
import Derived.Test.YtgdeiokaicjkdaaPureDisk3
import Derived.Test.YtgdeiokaicjkdaaCopyPad
import Derived.Deep.QuietTactic
import Derived.BigQuiet
import Derived.Deep.CutRange
set_option linter.unusedVariables false
set_option linter.unusedSimpArgs false
namespace Go.Pantry
open Go.RowKit
theorem pdK_zero (M : DiskM) (h : M.pend = List.replicate 20 []) (b : List (List UInt8)) : ({ M with pend := pdK b 0 } : DiskM) = M := by
  obtain ⟨s, p, bd, ar, dn⟩ := M
  obtain rfl : p = List.replicate 20 [] := h
  unfold pdK
  simp
/-- what a list of slices of bytes is of, at its place k -/
theorem readsBB_get {w : World} {ao : Option Addr} {n cap : Nat} {M : List (List UInt8)} (h : ReadsBB w (.slice ao n cap) M) {k : Nat} (hk : k < M.length) :
    ∃ b off al c, ao = some ⟨b, off, none⟩ ∧ w.cell? ⟨b, off + k, none⟩ = some (.slice al (M[k]).length c) ∧ Bytes w (.slice al (M[k]).length c) M[k] := readsBB_at h (List.getElem?_eq_getElem hk)
end Go.Pantry
namespace Go.Proofs.Ytgdeiokaicjkdaa
open Go.RowKit Go.Pantry
set_option maxRecDepth 8000 in
set_option maxHeartbeats 16000000 in
theorem diskKeeps_over {Ok : World → Prop} {R : Rp} (D : Disks Ok R) (va vb vk : Value) (a b : List (List UInt8)) (keep : List Bool) (w : World) (ho : Ok w) (hA : ReadsBB w va a) (hB : ReadsBB w vb b) (hK : Reads w vk (keep.map .bool)) :
    Calls Try.prog 4 #[va, vb, vk] w fun e w' => e = .returned (.bool true) ∧ Below w.heap.size w w' := by
  have C0 := hid (anchor15_any D w ho)
  obtain ⟨aa, ca, rfl⟩ := readsBB_form hA
  obtain ⟨ab, cb, rfl⟩ := readsBB_form hB
  obtain ⟨ak, ck, rfl⟩ : ∃ x c, vk = .slice x keep.length c := by obtain ⟨x, c, h, _⟩ := hK; exact ⟨x, c, by rw [h, List.length_map]⟩
  have HI := hid (And.intro hA (And.intro hB hK))
  clear hA hB hK
  by_cases hr : a.length ≤ 20 ∧ b.length ≤ 20 ∧ keep.length ≤ 40
  case neg =>
    have hout : (decide ((20 : Int) < (a.length : Int)) || decide ((20 : Int) < (b.length : Int)) || decide ((40 : Int) < (keep.length : Int))) = true := by
      simp only [Bool.or_eq_true, decide_eq_true_eq]
      omega
    clear hr
    go_enter Try.func4, Try.ntmps4
    go_wp2_with fail
    refine C0.out.mono ?_
    rintro e w0 ⟨rfl, hb0⟩
    have HB := hid hb0
    clear C0 hb0
    go_wp2_with fail
    all_goals go_ret
    all_goals exact ⟨rfl, HB.out⟩
  obtain ⟨ha20, hb20, hk40⟩ := hr
  have q1 : decide ((20 : Int) < (a.length : Int)) = false := decide_eq_false (by omega)
  have q2 : decide ((20 : Int) < (b.length : Int)) = false := decide_eq_false (by omega)
  have q3 : decide ((40 : Int) < (keep.length : Int)) = false := decide_eq_false (by omega)
  have m64 : ∀ w : World, (Instr.makeSlice 29 (.int .i64 64) (.int .i64 64)).run Try.prog w = .ok (.slice (some ⟨w.heap.size, 0, none⟩) 64 64) (w.alloc (.cells (Array.replicate 64 (.int .u8 0)) 5)) := fun _ => by kernel_rfl
  go_enter Try.func4, Try.ntmps4
  go_wp2_with fail
  refine C0.out.mono ?_
  rintro e w0 ⟨rfl, hb0⟩
  have C1 := hid (D.newK 20 hb0 ho (by decide) (by decide))
  clear C0 hb0
  go_wp2_with fail
  refine C1.out.mono ?_
  rintro e w1 ⟨hb1, g, F1, rfl, k1, hF1⟩
  have HL : Hid (∃ (k : Nat) (F : Nat → Prop), k ≤ a.length ∧ Value.int .i64 0 = .int .i64 (k : Int) ∧ (∀ x, x ∈ a.take k → x.length ≤ 64) ∧ Dk R w w1 g F { newDk 20 with pend := pdK a k }) :=
    ⟨0, F1, Nat.zero_le _, rfl, (fun x hx => by simp at hx), by rw [pdK_zero (newDk 20) rfl]; exact k1⟩
  clear hb1 k1 hF1 C1
  go_wp2_with fail
  go_loopw [37] (fun i wr => ∃ (k : Nat) (F : Nat → Prop), k ≤ a.length ∧ i = .int .i64 (k : Int) ∧ (∀ x, x ∈ a.take k → x.length ≤ 64) ∧ Dk R w wr g F { newDk 20 with pend := pdK a k }) (fun i _ => a.length - (intOf i).toNat)
  case atStart => exact HL.out
  case round =>
    clear HL
    obtain ⟨k, F, hk, rfl, h64, hD⟩ := hrel
    by_cases hkl : k < a.length
    · have hkz : (k : Int) < (a.length : Int) := by omega
      have hwk : IntKind.i64.wrap ((k : Int) + 1) = ((k + 1 : Nat) : Int) := by rw [IntWalk.i64_in _ (by omega)]; simp
      obtain ⟨bk, off, al, cl, rfl, hcell, hby⟩ := readsBB_get (readsBB_below HI.out.1 hD.bl) hkl
      have hlt : a[k] ≠ [] → In (fun x => x < w.heap.size) (.slice al (a[k]).length cl) := fun hne => by
        obtain ⟨b0, off0, al0, c0, e0, hc0, hb0⟩ := readsBB_get HI.out.1 hkl
        cases e0
        have e1 := (Below.cell hD.bl (p := ⟨bk, off + k, none⟩) (World.block_lt_of_cell? w _ hc0)).symm.trans hcell |> fun h => hc0.symm.trans h
        cases e1
        exact reads_ltS (bytesRead hb0) (fun e => hne (by simpa using e))
      by_cases hx : (a[k]).length ≤ 64
      · have hxz : ¬ (64 : Int) < ((a[k]).length : Int) := by omega
        have C := hid (D.writeK hD ho (k : Int) _ a[k] ⟨by omega, by omega⟩ hby (fun hne x hx' hf => by have := hlt hne x hx'; have := hD.lo x hf; omega))
        rw [pdK_write (M := newDk 20) rfl rfl rfl hkl ha20 hx] at C
        have h64' : ∀ x, x ∈ a.take (k + 1) → x.length ≤ 64 := fun x hx' => by
          rw [take_snoc hkl] at hx'
          rcases List.mem_append.1 hx' with h | h
          · exact h64 x h
          · rw [List.mem_singleton.1 h]; exact hx
        have H64 := hid h64'
        clear hD h64 hlt hby hx h64'
        generalize a[k] = X0 at *
        go_wp2_with fail
        refine C.out.mono ?_
        rintro e w3 ⟨rfl, F3, hD, -, -⟩
        have HD := hid hD
        clear hD C
        go_wp2_with fail
        go_roundw
        case rel => exact ⟨k + 1, F3, hkl, by simp, H64.out, HD.out⟩
        case measure => simp only [intOf]; omega
      · have hxz : (64 : Int) < ((a[k]).length : Int) := by omega
        have HB := hid hD.bl
        clear hD h64 hlt hby hx
        generalize a[k] = X0 at *
        go_wp2_with fail
        go_ret
        exact ⟨rfl, HB.out⟩
    · have hke : k = a.length := by omega
      subst hke
      have hkz : ¬ (a.length : Int) < (a.length : Int) := by omega
      rw [List.take_length] at h64
      have C := hid (D.flushK hD ho)
      rw [(kpF_eq ha20).1] at C
      have HA64 := hid h64
      clear hD h64 hk hkl
      go_wp2_with fail
      refine C.out.mono ?_
      rintro e w4 ⟨rfl, F4, hD, -, -⟩
      have HL2 : Hid (∃ (k : Nat) (F : Nat → Prop), k ≤ b.length ∧ Value.int .i64 0 = .int .i64 (k : Int) ∧ (∀ x, x ∈ b.take k → x.length ≤ 64) ∧ Dk R w w4 g F { kpF a with pend := pdK b k }) :=
        ⟨0, F4, Nat.zero_le _, rfl, (fun x hx => by simp at hx), by rw [pdK_zero (kpF a) (by rw [(kpF_eq ha20).2])]; exact hD⟩
      clear hD C
      go_wp2_with fail
      go_loopw [61] (fun i wr => ∃ (k : Nat) (F : Nat → Prop), k ≤ b.length ∧ i = .int .i64 (k : Int) ∧ (∀ x, x ∈ b.take k → x.length ≤ 64) ∧ Dk R w wr g F { kpF a with pend := pdK b k }) (fun i _ => b.length - (intOf i).toNat)
      case atStart => exact HL2.out
      case round =>
        clear HL2
        obtain ⟨k, F, hk, rfl, h64, hD⟩ := hrel
        by_cases hkl : k < b.length
        · have hkz : (k : Int) < (b.length : Int) := by omega
          have hwk : IntKind.i64.wrap ((k : Int) + 1) = ((k + 1 : Nat) : Int) := by rw [IntWalk.i64_in _ (by omega)]; simp
          obtain ⟨bk, off, al, cl, rfl, hcell, hby⟩ := readsBB_get (readsBB_below HI.out.2.1 hD.bl) hkl
          have hlt : b[k] ≠ [] → In (fun x => x < w.heap.size) (.slice al (b[k]).length cl) := fun hne => by
            obtain ⟨b0, off0, al0, c0, e0, hc0, hb0⟩ := readsBB_get HI.out.2.1 hkl
            cases e0
            have e1 := (Below.cell hD.bl (p := ⟨bk, off + k, none⟩) (World.block_lt_of_cell? w _ hc0)).symm.trans hcell |> fun h => hc0.symm.trans h
            cases e1
            exact reads_ltS (bytesRead hb0) (fun e => hne (by simpa using e))
          by_cases hx : (b[k]).length ≤ 64
          · have hxz : ¬ (64 : Int) < ((b[k]).length : Int) := by omega
            have C := hid (D.writeK hD ho (k : Int) _ b[k] ⟨by omega, by omega⟩ hby (fun hne x hx' hf => by have := hlt hne x hx'; have := hD.lo x hf; omega))
            rw [pdK_write (kpF_facts ha20).1 (kpF_facts ha20).2.1 (kpF_facts ha20).2.2.1 hkl hb20 hx] at C
            have h64' : ∀ x, x ∈ b.take (k + 1) → x.length ≤ 64 := fun x hx' => by
              rw [take_snoc hkl] at hx'
              rcases List.mem_append.1 hx' with h | h
              · exact h64 x h
              · rw [List.mem_singleton.1 h]; exact hx
            have H64 := hid h64'
            clear hD h64 hlt hby hx h64'
            generalize b[k] = X0 at *
            go_wp2_with fail
            refine C.out.mono ?_
            rintro e w3 ⟨rfl, F3, hD, -, -⟩
            have HD := hid hD
            clear hD C
            go_wp2_with fail
            go_roundw
            case rel => exact ⟨k + 1, F3, hkl, by simp, H64.out, HD.out⟩
            case measure => simp only [intOf]; omega
          · have hxz : (64 : Int) < ((b[k]).length : Int) := by omega
            have HB := hid hD.bl
            clear hD h64 hlt hby hx
            generalize b[k] = X0 at *
            go_wp2_with fail
            go_ret
            exact ⟨rfl, HB.out⟩
        · have hke : k = b.length := by omega
          subst hke
          have hkz : ¬ (b.length : Int) < (b.length : Int) := by omega
          rw [List.take_length] at h64
          have hK := HI.out.2.2.below hD.bl
          have hlo := hD.lo
          have C := hid (D.crashK hD ho _ keep hK (fun hne x hx hf => by have := reads_ltS HI.out.2.2 (fun e => hne (by simpa using e)) x hx; have := hlo x hf; omega))
          have HB64 := hid h64
          clear hD h64 hk hkl hK hlo
          go_wp2_with fail
          refine C.out.mono ?_
          rintro e w5 ⟨⟨u, rfl⟩, F5, hD, -, -⟩
          have HL3 : Hid (∃ (k : Nat), k ≤ 20 ∧ Value.int .i64 0 = .int .i64 (k : Int) ∧ Dk R w w5 g F5 (kpE a b keep)) := ⟨0, Nat.zero_le _, rfl, hD⟩
          clear hD C
          go_wp2_with fail
          go_loopw [83] (fun i wr => ∃ (k : Nat), k ≤ 20 ∧ i = .int .i64 (k : Int) ∧ Dk R w wr g F5 (kpE a b keep)) (fun i _ => 20 - (intOf i).toNat)
          case atStart => exact HL3.out
          case round =>
            clear HL3
            obtain ⟨i, hi, rfl, hD⟩ := hrel
            by_cases hil : i < 20
            case neg =>
              have hke : i = 20 := by omega
              subst hke
              have HB := hid hD.bl
              clear hD hi hil
              go_wp2_with fail
              go_ret
              exact ⟨rfl, HB.out⟩
            have hiz : (i : Int) < 20 := by omega
            have hwk : IntKind.i64.wrap ((i : Int) + 1) = ((i + 1 : Nat) : Int) := by rw [IntWalk.i64_in _ (by omega)]; simp
            have C := hid (D.readK hD ho (i : Int) ⟨by omega, by omega⟩)
            rw [kp_read ha20 hb20 HA64.out HB64.out keep hil] at C
            have hwl : (wantK a b keep i).length ≤ 64 := by
              unfold wantK
              split
              · rename_i h
                rw [List.getD_eq_getElem?_getD, List.getElem?_eq_getElem h.1]
                exact HB64.out _ (List.getElem_mem h.1)
              · split
                · rename_i h
                  rw [List.getD_eq_getElem?_getD, List.getElem?_eq_getElem h]
                  exact HA64.out _ (List.getElem_mem h)
                · exact Nat.zero_le _
            have HWL := hid hwl
            clear hD hwl
            go_wp2_with fail
            refine C.out.mono ?_
            rintro e w6 ⟨hD, hb6, vg, rfl, hog⟩
            simp only [padS_len HWL.out] at hog
            obtain ⟨ag, cg, rfl⟩ := own1_form hog
            have HD := hid (And.intro hD (ownsRow_bytes hog))
            clear hD hb6 hog C
            have hA6 := readsBB_below HI.out.1 HD.out.1.bl
            have hB6 := readsBB_below HI.out.2.1 HD.out.1.bl
            have hK6 := HI.out.2.2.below HD.out.1.bl
            by_cases hib : i < b.length ∧ keep.getD i false = true
            · have hik : i < keep.length := by
                refine Decidable.byContradiction fun h => ?_
                have := hib.2
                rw [List.getD_eq_getElem?_getD, List.getElem?_eq_none (by omega)] at this
                cases this
              have hkv : (keep.map Value.bool)[i]? = some (.bool true) := by
                have := hib.2
                rw [List.getD_eq_getElem?_getD, List.getElem?_eq_getElem hik] at this
                rw [List.getElem?_map, List.getElem?_eq_getElem hik]
                show some (Value.bool keep[i]) = _
                rw [show keep[i] = true from this]
              obtain ⟨_, _, hv, hck, _⟩ := hK6
              obtain ⟨kb, ko, hke, hkc⟩ := hck i _ hkv
              obtain rfl : ak = some ⟨kb, ko, none⟩ := by injection hv with e _ _; rw [e]; exact hke
              obtain ⟨bk, off, al, cl, rfl, hcell, hby⟩ := readsBB_get hB6 hib.1
              have hbz : (i : Int) < (b.length : Int) := by omega
              have hkz : (i : Int) < (keep.length : Int) := by omega
              have HW : Hid (Bytes w6 (.slice al (b[i]'hib.1).length cl) (wantK a b keep i)) := hid (by
                unfold wantK
                rw [if_pos hib]
                have e : b.getD i [] = b[i]'hib.1 := by rw [List.getD_eq_getElem?_getD, List.getElem?_eq_getElem hib.1]; rfl
                rw [e]
                exact hby)
              clear hv hck hke hkv hby
              by_cases hia : i < a.length
              · obtain ⟨bk2, off2, al2, cl2, rfl, hcell2, hby2⟩ := readsBB_get hA6 hia
                have haz : (i : Int) < (a.length : Int) := by omega
                clear hA6 hB6 hby2
                generalize a[i] = A0 at *
                generalize b[i] = B0 at *
                have hbX := (bytesRead HW.out).below (below_alloc w6 (.cells (Array.replicate 64 (.int .u8 0)) 5))
                obtain ⟨W7, hcp, r7, k7, s7⟩ := copy_pad (P := Try.prog) 29 29 3 5 Try.underlying29 (by kernel_rfl) (rowIs_new w6 (Array.replicate 64 (.int .u8 0)) 5) hbX HWL.out
                have hb67 : Below w6.heap.size w6 W7 := (below_alloc w6 _).trans (k7.below (fun x hx _ => by omega) (by simp))
                have cv1 := reads_string (P := Try.prog) (bytesRead (bytes_below HD.out.2 hb67)) 29 9 5 Try.underlying29 Try.underlying5 Try.underlying9
                have cv2 := reads_string (P := Try.prog) (bytesRead (bytes_padded r7 HWL.out)) 29 9 5 Try.underlying29 Try.underlying5 Try.underlying9
                have HD7 := hid (HD.out.1.then D hb67)
                clear hbX r7 k7 s7 hb67
                go_wp2_with fail
                go_roundw
                case rel => exact ⟨i + 1, hil, by simp, HD7.out⟩
                case measure => simp only [intOf]; omega
              · have haz : ¬ (i : Int) < (a.length : Int) := by omega
                clear hA6 hB6
                generalize b[i] = B0 at *
                have hbX := (bytesRead HW.out).below (below_alloc w6 (.cells (Array.replicate 64 (.int .u8 0)) 5))
                obtain ⟨W7, hcp, r7, k7, s7⟩ := copy_pad (P := Try.prog) 29 29 3 5 Try.underlying29 (by kernel_rfl) (rowIs_new w6 (Array.replicate 64 (.int .u8 0)) 5) hbX HWL.out
                have hb67 : Below w6.heap.size w6 W7 := (below_alloc w6 _).trans (k7.below (fun x hx _ => by omega) (by simp))
                have cv1 := reads_string (P := Try.prog) (bytesRead (bytes_below HD.out.2 hb67)) 29 9 5 Try.underlying29 Try.underlying5 Try.underlying9
                have cv2 := reads_string (P := Try.prog) (bytesRead (bytes_padded r7 HWL.out)) 29 9 5 Try.underlying29 Try.underlying5 Try.underlying9
                have HD7 := hid (HD.out.1.then D hb67)
                clear hbX r7 k7 s7 hb67
                go_wp2_with fail
                go_roundw
                case rel => exact ⟨i + 1, hil, by simp, HD7.out⟩
                case measure => simp only [intOf]; omega
            · have hnot : ∀ v : Value, Bytes w6 v (if i < a.length then a.getD i [] else []) → Bytes w6 v (wantK a b keep i) := fun v h => by
                unfold wantK
                rw [if_neg hib]
                exact h
              have HNOT := hid hnot
              clear hnot hB6
              have hgo : (¬ i < b.length) ∨ (i < b.length ∧ ¬ i < keep.length) ∨ (i < b.length ∧ i < keep.length ∧ (keep.map Value.bool)[i]? = some (.bool false)) := by
                by_cases h1 : i < b.length
                · by_cases h2 : i < keep.length
                  · refine .inr (.inr ⟨h1, h2, ?_⟩)
                    have h3 : ¬ keep.getD i false = true := fun h => hib ⟨h1, h⟩
                    rw [List.getD_eq_getElem?_getD, List.getElem?_eq_getElem h2] at h3
                    rw [List.getElem?_map, List.getElem?_eq_getElem h2]
                    show some (Value.bool keep[i]) = _
                    rw [show keep[i] = false from Bool.eq_false_iff.2 h3]
                  · exact .inr (.inl ⟨h1, h2⟩)
                · exact .inl h1
              clear hib
              rcases hgo with h1 | ⟨h1, h2⟩ | ⟨h1, h2, h3⟩
              · have hbz : ¬ (i : Int) < (b.length : Int) := by omega
                by_cases hia : i < a.length
                · obtain ⟨bk2, off2, al2, cl2, rfl, hcell2, hby2⟩ := readsBB_get hA6 hia
                  have haz : (i : Int) < (a.length : Int) := by omega
                  have HW : Hid (Bytes w6 (.slice al2 (a[i]'hia).length cl2) (wantK a b keep i)) := hid (HNOT.out _ (by
                    rw [if_pos hia, List.getD_eq_getElem?_getD, List.getElem?_eq_getElem hia]
                    exact hby2))
                  clear hA6 hby2 hK6
                  generalize a[i] = A0 at *
                  have hbX := (bytesRead HW.out).below (below_alloc w6 (.cells (Array.replicate 64 (.int .u8 0)) 5))
                  obtain ⟨W7, hcp, r7, k7, s7⟩ := copy_pad (P := Try.prog) 29 29 3 5 Try.underlying29 (by kernel_rfl) (rowIs_new w6 (Array.replicate 64 (.int .u8 0)) 5) hbX HWL.out
                  have hb67 : Below w6.heap.size w6 W7 := (below_alloc w6 _).trans (k7.below (fun x hx _ => by omega) (by simp))
                  have cv1 := reads_string (P := Try.prog) (bytesRead (bytes_below HD.out.2 hb67)) 29 9 5 Try.underlying29 Try.underlying5 Try.underlying9
                  have cv2 := reads_string (P := Try.prog) (bytesRead (bytes_padded r7 HWL.out)) 29 9 5 Try.underlying29 Try.underlying5 Try.underlying9
                  have HD7 := hid (HD.out.1.then D hb67)
                  clear hbX r7 k7 s7 hb67
                  go_wp2_with fail
                  go_roundw
                  case rel => exact ⟨i + 1, hil, by simp, HD7.out⟩
                  case measure => simp only [intOf]; omega
                · have haz : ¬ (i : Int) < (a.length : Int) := by omega
                  have HW : Hid (Bytes w6 (.slice none 0 0) (wantK a b keep i)) := hid (HNOT.out _ (by
                    rw [if_neg hia]
                    exact bytes_nil _))
                  clear hA6 hK6
                  have hbX := (bytesRead HW.out).below (below_alloc w6 (.cells (Array.replicate 64 (.int .u8 0)) 5))
                  obtain ⟨W7, hcp, r7, k7, s7⟩ := copy_pad (P := Try.prog) 29 29 3 5 Try.underlying29 (by kernel_rfl) (rowIs_new w6 (Array.replicate 64 (.int .u8 0)) 5) hbX HWL.out
                  have hb67 : Below w6.heap.size w6 W7 := (below_alloc w6 _).trans (k7.below (fun x hx _ => by omega) (by simp))
                  have cv1 := reads_string (P := Try.prog) (bytesRead (bytes_below HD.out.2 hb67)) 29 9 5 Try.underlying29 Try.underlying5 Try.underlying9
                  have cv2 := reads_string (P := Try.prog) (bytesRead (bytes_padded r7 HWL.out)) 29 9 5 Try.underlying29 Try.underlying5 Try.underlying9
                  have HD7 := hid (HD.out.1.then D hb67)
                  clear hbX r7 k7 s7 hb67
                  go_wp2_with fail
                  go_roundw
                  case rel => exact ⟨i + 1, hil, by simp, HD7.out⟩
                  case measure => simp only [intOf]; omega
              · have hbz : (i : Int) < (b.length : Int) := by omega
                have hkz : ¬ (i : Int) < (keep.length : Int) := by omega
                by_cases hia : i < a.length
                · obtain ⟨bk2, off2, al2, cl2, rfl, hcell2, hby2⟩ := readsBB_get hA6 hia
                  have haz : (i : Int) < (a.length : Int) := by omega
                  have HW : Hid (Bytes w6 (.slice al2 (a[i]'hia).length cl2) (wantK a b keep i)) := hid (HNOT.out _ (by
                    rw [if_pos hia, List.getD_eq_getElem?_getD, List.getElem?_eq_getElem hia]
                    exact hby2))
                  clear hA6 hby2 hK6
                  generalize a[i] = A0 at *
                  have hbX := (bytesRead HW.out).below (below_alloc w6 (.cells (Array.replicate 64 (.int .u8 0)) 5))
                  obtain ⟨W7, hcp, r7, k7, s7⟩ := copy_pad (P := Try.prog) 29 29 3 5 Try.underlying29 (by kernel_rfl) (rowIs_new w6 (Array.replicate 64 (.int .u8 0)) 5) hbX HWL.out
                  have hb67 : Below w6.heap.size w6 W7 := (below_alloc w6 _).trans (k7.below (fun x hx _ => by omega) (by simp))
                  have cv1 := reads_string (P := Try.prog) (bytesRead (bytes_below HD.out.2 hb67)) 29 9 5 Try.underlying29 Try.underlying5 Try.underlying9
                  have cv2 := reads_string (P := Try.prog) (bytesRead (bytes_padded r7 HWL.out)) 29 9 5 Try.underlying29 Try.underlying5 Try.underlying9
                  have HD7 := hid (HD.out.1.then D hb67)
                  clear hbX r7 k7 s7 hb67
                  go_wp2_with fail
                  go_roundw
                  case rel => exact ⟨i + 1, hil, by simp, HD7.out⟩
                  case measure => simp only [intOf]; omega
                · have haz : ¬ (i : Int) < (a.length : Int) := by omega
                  have HW : Hid (Bytes w6 (.slice none 0 0) (wantK a b keep i)) := hid (HNOT.out _ (by
                    rw [if_neg hia]
                    exact bytes_nil _))
                  clear hA6 hK6
                  have hbX := (bytesRead HW.out).below (below_alloc w6 (.cells (Array.replicate 64 (.int .u8 0)) 5))
                  obtain ⟨W7, hcp, r7, k7, s7⟩ := copy_pad (P := Try.prog) 29 29 3 5 Try.underlying29 (by kernel_rfl) (rowIs_new w6 (Array.replicate 64 (.int .u8 0)) 5) hbX HWL.out
                  have hb67 : Below w6.heap.size w6 W7 := (below_alloc w6 _).trans (k7.below (fun x hx _ => by omega) (by simp))
                  have cv1 := reads_string (P := Try.prog) (bytesRead (bytes_below HD.out.2 hb67)) 29 9 5 Try.underlying29 Try.underlying5 Try.underlying9
                  have cv2 := reads_string (P := Try.prog) (bytesRead (bytes_padded r7 HWL.out)) 29 9 5 Try.underlying29 Try.underlying5 Try.underlying9
                  have HD7 := hid (HD.out.1.then D hb67)
                  clear hbX r7 k7 s7 hb67
                  go_wp2_with fail
                  go_roundw
                  case rel => exact ⟨i + 1, hil, by simp, HD7.out⟩
                  case measure => simp only [intOf]; omega
              · have hbz : (i : Int) < (b.length : Int) := by omega
                have hkz : (i : Int) < (keep.length : Int) := by omega
                obtain ⟨_, _, hv, hck, _⟩ := hK6
                obtain ⟨kb, ko, hke, hkc⟩ := hck i _ h3
                obtain rfl : ak = some ⟨kb, ko, none⟩ := by injection hv with e _ _; rw [e]; exact hke
                have hK6 := True.intro
                clear hv hck hke h3
                by_cases hia : i < a.length
                · obtain ⟨bk2, off2, al2, cl2, rfl, hcell2, hby2⟩ := readsBB_get hA6 hia
                  have haz : (i : Int) < (a.length : Int) := by omega
                  have HW : Hid (Bytes w6 (.slice al2 (a[i]'hia).length cl2) (wantK a b keep i)) := hid (HNOT.out _ (by
                    rw [if_pos hia, List.getD_eq_getElem?_getD, List.getElem?_eq_getElem hia]
                    exact hby2))
                  clear hA6 hby2 hK6
                  generalize a[i] = A0 at *
                  have hbX := (bytesRead HW.out).below (below_alloc w6 (.cells (Array.replicate 64 (.int .u8 0)) 5))
                  obtain ⟨W7, hcp, r7, k7, s7⟩ := copy_pad (P := Try.prog) 29 29 3 5 Try.underlying29 (by kernel_rfl) (rowIs_new w6 (Array.replicate 64 (.int .u8 0)) 5) hbX HWL.out
                  have hb67 : Below w6.heap.size w6 W7 := (below_alloc w6 _).trans (k7.below (fun x hx _ => by omega) (by simp))
                  have cv1 := reads_string (P := Try.prog) (bytesRead (bytes_below HD.out.2 hb67)) 29 9 5 Try.underlying29 Try.underlying5 Try.underlying9
                  have cv2 := reads_string (P := Try.prog) (bytesRead (bytes_padded r7 HWL.out)) 29 9 5 Try.underlying29 Try.underlying5 Try.underlying9
                  have HD7 := hid (HD.out.1.then D hb67)
                  clear hbX r7 k7 s7 hb67
                  go_wp2_with fail
                  go_roundw
                  case rel => exact ⟨i + 1, hil, by simp, HD7.out⟩
                  case measure => simp only [intOf]; omega
                · have haz : ¬ (i : Int) < (a.length : Int) := by omega
                  have HW : Hid (Bytes w6 (.slice none 0 0) (wantK a b keep i)) := hid (HNOT.out _ (by
                    rw [if_neg hia]
                    exact bytes_nil _))
                  clear hA6 hK6
                  have hbX := (bytesRead HW.out).below (below_alloc w6 (.cells (Array.replicate 64 (.int .u8 0)) 5))
                  obtain ⟨W7, hcp, r7, k7, s7⟩ := copy_pad (P := Try.prog) 29 29 3 5 Try.underlying29 (by kernel_rfl) (rowIs_new w6 (Array.replicate 64 (.int .u8 0)) 5) hbX HWL.out
                  have hb67 : Below w6.heap.size w6 W7 := (below_alloc w6 _).trans (k7.below (fun x hx _ => by omega) (by simp))
                  have cv1 := reads_string (P := Try.prog) (bytesRead (bytes_below HD.out.2 hb67)) 29 9 5 Try.underlying29 Try.underlying5 Try.underlying9
                  have cv2 := reads_string (P := Try.prog) (bytesRead (bytes_padded r7 HWL.out)) 29 9 5 Try.underlying29 Try.underlying5 Try.underlying9
                  have HD7 := hid (HD.out.1.then D hb67)
                  clear hbX r7 k7 s7 hb67
                  go_wp2_with fail
                  go_roundw
                  case rel => exact ⟨i + 1, hil, by simp, HD7.out⟩
                  case measure => simp only [intOf]; omega
end Go.Proofs.Ytgdeiokaicjkdaa
