/-
  Layer 15: DiskOwn.
-/
import Derived.Test.YtgdeiokaicjkdaaLaw15A
import Derived.Deep.QuietTactic
import Derived.BigQuiet
set_option linter.unusedVariables false
set_option linter.unusedSimpArgs false
namespace Go.Pantry
open Go.RowKit
def owM (b : List UInt8) : DiskM := (writeDk (newDk 1) 0 b).2
theorem ow_write {b : List UInt8} (hb : b.length ≤ 64) : (writeDk (newDk 1) 0 b).1 = 0 ∧ owM b = { newDk 1 with pend := [padS b] } := by
  have e : writeDk (newDk 1) 0 b = (0, { lessDk (newDk 1) with pend := (newDk 1).pend.set 0 (padS b) }) := by
    unfold writeDk
    rw [if_neg (by simp [newDk]), if_neg (by intro h; rcases h with h | h; exact h (by decide); omega), if_neg (by simp [newDk])]
    rfl
  unfold owM
  rw [e]
  exact ⟨rfl, rfl⟩
theorem ow_read {b : List UInt8} (hb : b.length ≤ 64) : readDk (owM b) 0 = (0, padS b) := by
  rw [(ow_write hb).2]
  have hp := padS_ne hb
  unfold readDk valueDk
  rw [if_neg (by simp [newDk]), if_neg (by intro h; exact h ⟨by decide, by show (0 : Int) < ((newDk 1).stands.length : Int); decide⟩), if_neg (by simp [newDk])]
  show (0, if padS b = [] then _ else padS b) = _
  rw [if_neg hp]
theorem own_set15 {w : World} {B : Nat} {e : TypeId} {g n cap : Nat} {xs : List Value} (h : w.ownsRow B e 1 (.slice (some ⟨g, 0, none⟩) n cap) n xs) (k : Nat) (u : Value) : (w.setCell ⟨g, k, none⟩ u).ownsRow B e 1 (.slice (some ⟨g, 0, none⟩) n cap) n (xs.set k u) := by
  refine ⟨by rw [List.length_set]; exact h.1, ?_⟩
  rcases h.2 with ⟨hv, _⟩ | ⟨g', cap', cur, hv, hb, hg, hnc, hcm, hcs, htake⟩
  · cases hv
  · cases hv
    refine .inr ⟨g, cap, cur.setIfInBounds k u, rfl, hb, ?_, hnc, hcm, by simpa using hcs, ?_⟩
    · rw [setCell_eq_setRow w g k cur e (0, 0) u hg]
      exact setRow_heap w g cur _ e _ hg
    · rw [Array.toList_setIfInBounds, ← htake, List.take_set]
end Go.Pantry
namespace Go.Proofs.Ytgdeiokaicjkdaa
open Go.RowKit Go.Pantry
set_option maxRecDepth 8000 in
set_option maxHeartbeats 8000000 in
theorem diskOwn_over {Ok : World → Prop} {R : Rp} (D : Disks Ok R) (vb : Value) (b : List UInt8) (w : World) (ho : Ok w) (hb : Reads w vb (b.map byteV)) (hbm : b.length ≤ 9223372036854775807) :
    Calls Try.prog 5 #[vb] w fun e w' => e = .returned (.bool true) ∧ Below w.heap.size w w' := by
  have C0 := hid (anchor15_any D w ho)
  obtain ⟨av, cv, rfl⟩ : ∃ a c, vb = .slice a b.length c := by obtain ⟨a, c, h, _⟩ := hb; exact ⟨a, c, by rw [h, List.length_map]⟩
  by_cases h64 : b.length ≤ 64
  case neg =>
    have hgt : (64 : Int) < (b.length : Int) := by omega
    clear h64
    go_enter Try.func5, Try.ntmps5
    go_wp2_with fail
    refine C0.out.mono ?_
    rintro e w0 ⟨rfl, hb0⟩
    have HB := hid hb0
    clear C0 hb0 hb
    go_wp2_with fail
    go_ret
    exact ⟨rfl, HB.out⟩
  have hng : ¬ (64 : Int) < (b.length : Int) := by omega
  have HR := hid hb
  have HL := hid h64
  clear hb h64
  go_enter Try.func5, Try.ntmps5
  go_wp2_with fail
  refine C0.out.mono ?_
  rintro e w0 ⟨rfl, hb0⟩
  have C1 := hid (D.newK 1 hb0 ho (by decide) (by decide))
  clear C0 hb0
  go_wp2_with fail
  refine C1.out.mono ?_
  rintro e w1 ⟨hb1, g, F1, rfl, k1, hF1⟩
  have hl1 := D.lt k1.rep
  have LO : Hid (w.heap.size ≤ w1.heap.size) := hid k1.bl.size
  have ho4 : (w1.alloc (.cells #[] 5)).ownsRow w1.heap.size 5 1 (.slice (some ⟨w1.heap.size, 0, none⟩) 0 0) 0 [] := World.ownsRow_made w1 #[] 0 (Nat.le_refl _) (by simp) (by simp)
  have k4 := k1.then D (below_alloc w1 (.cells #[] 5))
  have hr4 := HR.out.below k4.bl
  have hs4 : w1.heap.size ≤ (w1.alloc (.cells #[] 5)).heap.size := by simp
  have H4 := hid (And.intro ho4 (And.intro k4 (And.intro hr4 (And.intro hl1 hs4))))
  clear ho4 k4 hr4 hl1 hs4 k1 hF1 hb1 C1
  go_wp2_with (at_builtin; refine wpList_append_more _ rfl _ _ 29 rfl w1.heap.size 5 Try.underlying29 infoU8 rfl (by decide) rfl H4.out.1 H4.out.2.2.1 (oneCell_bytes _) rfl (by rw [List.length_map]; have := HL.out; omega) H4.out.2.2.2.2 ?_; intro v6 w6 ho6 hg6 hi6; simp only [Nat.zero_add, List.length_map, List.nil_append] at ho6 ⊢; obtain ⟨a6, c6, rfl⟩ := own1_form ho6; have HG6 := hid (And.intro ho6 (And.intro hg6 hi6)); clear ho6 hg6 hi6)
  have k6 : Dk R w w6 g F1 (newDk 1) := by
    obtain ⟨ho6, hg6, hi6⟩ := HG6.out
    obtain ⟨-, k4, -, hl1, hs4⟩ := H4.out
    exact k4.away D ((Kept.refl (fun x => (Value.slice (some ⟨w1.heap.size, 0, none⟩) 0 0).ownBlock = some x) _).grown hg6 (fun x hx _ => hx)) (fun x hx e => by cases e; exact Nat.lt_irrefl _ (hl1 _ hx)) (fun x e _ => by cases e; have := k4.bl.size; have := hl1; exact LO.out)
  obtain ⟨ho6, hg6, hi6⟩ := HG6.out
  obtain ⟨-, k4, -, hl1, hs4⟩ := H4.out
  have n6 : In (fun x => ¬ F1 x) (.slice a6 b.length c6) := fun x hx hf => by
    have := hl1 x hf
    rcases hi6 x hx with e | e
    · cases e; exact absurd this (Nat.lt_irrefl _)
    · omega
  have b6 := ownsRow_bytes ho6
  have C2 := hid (D.writeK k6 ho 0 _ b (by decide) b6 (fun _ => n6))
  rw [(ow_write HL.out).1] at C2
  have HN6 := hid (And.intro n6 (And.intro ho6 (ho6.lt)))
  clear k6 ho6 hg6 hi6 k4 hl1 hs4 n6 b6 HG6 H4
  go_wp2_with fail
  refine C2.out.mono ?_
  rintro e w2 ⟨rfl, F2, k2, hk2, hF2⟩
  have HXA : Hid (In (fun x => ¬ F2 x) (.slice a6 b.length c6) ∧ w.heap.size ≤ w1.heap.size) := by
    refine ⟨fun x hx hf => ?_, LO.out⟩
    rcases hF2 x hf with e | e
    · exact HN6.out.1 x hx e
    · have := (HN6.out.2.2 x hx).2; omega
  have HIX : Hid (∃ (k : Nat) (l : List Int), k ≤ b.length ∧ Value.int .i64 0 = .int .i64 (k : Int) ∧ l.length = b.length ∧ w2.ownsRow w1.heap.size 5 1 (.slice a6 b.length c6) b.length (l.map (Value.int .u8)) ∧ Dk R w w2 g F2 (owM b)) :=
    ⟨0, b.map (fun c => (c.toNat : Int)), Nat.zero_le _, rfl, by simp, by rw [List.map_map]; exact ownsRow_kept HN6.out.2.1 hk2 HN6.out.1, k2⟩
  clear k2 hk2 hF2 C2 HN6
  go_wp2_with fail
  go_loopw [30] (fun i wr => ∃ (k : Nat) (l : List Int), k ≤ b.length ∧ i = .int .i64 (k : Int) ∧ l.length = b.length ∧ wr.ownsRow w1.heap.size 5 1 (.slice a6 b.length c6) b.length (l.map (Value.int .u8)) ∧ Dk R w wr g F2 (owM b)) (fun i _ => b.length - (intOf i).toNat)
  case atStart => exact HIX.out
  case round =>
    clear HIX
    obtain ⟨k, l, hk, rfl, hll, hob, hD⟩ := hrel
    by_cases hkl : k < b.length
    · have hkz : (k : Int) < ((b.length : Nat) : Int) := by omega
      have hwk : IntKind.i64.wrap ((k : Int) + 1) = ((k + 1 : Nat) : Int) := by rw [IntWalk.i64_in _ (by have := HL.out; omega)]; simp
      obtain ⟨gx, cx, hv, -, hcx, hfx⟩ := own1_cells hob (by omega)
      obtain ⟨rfl, rfl⟩ : _ = some (⟨gx, 0, none⟩ : Addr) ∧ _ = cx := by injection hv with e1 _ e3; exact ⟨e1, e3⟩
      have hcell := hcx k (.int .u8 l[k]) (by rw [List.getElem?_map, List.getElem?_eq_getElem (by omega)]; rfl)
      have hfree := hfx k
      generalize l[k] = ch at *
      have HO := hid (And.intro hll (And.intro hob hD))
      clear hll hob hD hcx hfx hv
      go_wp2_with fail
      generalize bits BinOp.xor IntKind.u8 ch 255 = nz
      go_roundw
      case rel =>
        obtain ⟨hll, hob, hD⟩ := HO.out
        have hkS := (Kept.refl (fun x => x = gx) wr).setCell (i := k) (.inl rfl) (.int .u8 nz)
        have hlo := (hob.lt gx rfl).1
        refine ⟨k + 1, l.set k nz, hkl, by simp, by rw [List.length_set]; exact hll, by rw [List.map_set]; exact own_set15 hob k _, hD.away D hkS (fun x hx e => ?_) (fun x hx _ => ?_)⟩
        · exact HXA.out.1 gx rfl (e ▸ hx)
        · subst hx; have := HXA.out.2; omega
      case measure => simp only [intOf]; omega
    · have hkz : ¬ (k : Int) < ((b.length : Nat) : Int) := by omega
      have C5 := hid (D.readK hD ho 0 (by decide))
      rw [ow_read HL.out] at C5
      simp only [padS_len HL.out] at C5
      have hlF := D.lt hD.rep
      obtain ⟨G, hG⟩ : ∃ G, wr.heap.size = G := ⟨_, rfl⟩
      rw [hG] at C5
      have HG := hid (And.intro hlF (And.intro hD.bl.size hG))
      clear hob hD hll hkl hk hlF hG
      go_wp2_with fail
      refine C5.out.mono ?_
      rintro e w5 ⟨k5, hb5, vy, rfl, hoy⟩
      obtain ⟨ay, cy, rfl⟩ := own1_form hoy
      have HYA : Hid (In (fun x => ¬ F2 x) (.slice ay 64 cy) ∧ w.heap.size ≤ G) := by
        obtain ⟨hlF, h2, hG⟩ := HG.out
        rw [hG] at h2
        refine ⟨fun x hx hf => ?_, h2⟩
        have := hlF x hf
        have := (hoy.lt x hx).1
        omega
      have HIY : Hid (∃ (k : Nat) (l : List Int), k ≤ 64 ∧ Value.int .i64 0 = .int .i64 (k : Int) ∧ l.length = 64 ∧ w5.ownsRow G 5 1 (.slice ay 64 cy) 64 (l.map (Value.int .u8)) ∧ Dk R w w5 g F2 (owM b)) :=
        ⟨0, (padS b).map (fun c => (c.toNat : Int)), Nat.zero_le _, rfl, by rw [List.length_map]; exact padS_len HL.out, by rw [List.map_map]; exact hoy, k5⟩
      clear k5 hb5 hoy C5 HG
      go_wp2_with fail
      go_loopw [47] (fun i wr => ∃ (k : Nat) (l : List Int), k ≤ 64 ∧ i = .int .i64 (k : Int) ∧ l.length = 64 ∧ wr.ownsRow G 5 1 (.slice ay 64 cy) 64 (l.map (Value.int .u8)) ∧ Dk R w wr g F2 (owM b)) (fun i _ => 64 - (intOf i).toNat)
      case atStart => exact HIY.out
      case round =>
        clear HIY
        obtain ⟨k, l, hk, rfl, hll, hob, hD⟩ := hrel
        by_cases hkl : k < 64
        · have hkz : (k : Int) < ((64 : Nat) : Int) := by omega
          have hwk : IntKind.i64.wrap ((k : Int) + 1) = ((k + 1 : Nat) : Int) := by rw [IntWalk.i64_in _ (by have := HL.out; omega)]; simp
          obtain ⟨gx, cx, hv, -, hcx, hfx⟩ := own1_cells hob (by omega)
          obtain ⟨rfl, rfl⟩ : _ = some (⟨gx, 0, none⟩ : Addr) ∧ _ = cx := by injection hv with e1 _ e3; exact ⟨e1, e3⟩
          have hcell := hcx k (.int .u8 l[k]) (by rw [List.getElem?_map, List.getElem?_eq_getElem (by omega)]; rfl)
          have hfree := hfx k
          generalize l[k] = ch at *
          have HO := hid (And.intro hll (And.intro hob hD))
          clear hll hob hD hcx hfx hv
          go_wp2_with fail
          generalize bits BinOp.xor IntKind.u8 ch 255 = nz
          go_roundw
          case rel =>
            obtain ⟨hll, hob, hD⟩ := HO.out
            have hkS := (Kept.refl (fun x => x = gx) wr).setCell (i := k) (.inl rfl) (.int .u8 nz)
            have hlo := (hob.lt gx rfl).1
            refine ⟨k + 1, l.set k nz, hkl, by simp, by rw [List.length_set]; exact hll, by rw [List.map_set]; exact own_set15 hob k _, hD.away D hkS (fun x hx e => ?_) (fun x hx _ => ?_)⟩
            · exact HYA.out.1 gx rfl (e ▸ hx)
            · subst hx; have := HYA.out.2; omega
          case measure => simp only [intOf]; omega
        · have hkz : ¬ (k : Int) < 64 := by omega
          have C7 := hid (D.readK hD ho 0 (by decide))
          rw [ow_read HL.out] at C7
          simp only [padS_len HL.out] at C7
          clear hob hD hll hkl hk
          go_wp2_with fail
          refine C7.out.mono ?_
          rintro e w7 ⟨k7, hb7, vz, rfl, hoz⟩
          obtain ⟨az, cz, rfl⟩ := own1_form hoz
          have hbz := ownsRow_bytes hoz
          obtain ⟨aq, cq, hsl, hbq⟩ := bytes_high (P := Try.prog) 29 (by kernel_rfl) (fun _ => by kernel_rfl) hbz b.length (by rw [padS_len HL.out]; exact HL.out)
          have htk : (padS b).take b.length = b := by unfold padS; rw [List.take_left]
          rw [htk] at hbq
          have cv1 := fun k => reads_string (P := Try.prog) (w := w7.drewN k) ((bytesRead hbq).below (below_drewN (Below.refl _ _) k)) 29 9 5 Try.underlying29 Try.underlying5 Try.underlying9
          have cv2 := fun k => reads_string (P := Try.prog) (w := w7.drewN k) ((HR.out.below k7.bl).below (below_drewN (Below.refl _ _) k)) 29 9 5 Try.underlying29 Try.underlying5 Try.underlying9
          have HB := hid (k7.bl)
          clear k7 hb7 hoz hbz hbq C7 htk hkz
          go_wp2_with fail
          go_quiet (fail)
          go_wp2
          go_ret
          exact ⟨rfl, below_drewN HB.out _⟩
end Go.Proofs.Ytgdeiokaicjkdaa
