/-
  Contract of package body: readChunks.
-/
import Derived.Test.YtefplhkjcclppaaDoorBodyC
namespace Go.Proofs.YtefplhkjcclppaaDoor
open Go.RowKit Go.Pantry

def lackN (closed : Bool) : Nat := if closed then 21 else 20
theorem lackN_ne (b : Bool) : lackN b ≠ 0 := by cases b <;> decide
theorem lackN_any (b : Bool) (w : World) : Calls Tryd.prog 23 #[.bool b] w fun e w' => e = .returned (.int .i64 ((lackN b : Nat) : Int)) ∧ w = w' := by
  have h := lacking_any b w
  cases b <;> exact h
/-- what the reading of chunks tells -/
def ChunksPost (B n : Nat) (x : Except Nat (List UInt8 × List UInt8)) (e : Ending) (w' : World) : Prop := match x with
  | .error k => k ≠ 0 ∧ e = .returned (.tuple #[.slice none 0 0, .int .i64 0, .int .i64 (k : Int)])
  | .ok (c, t) => t.length ≤ n ∧ ∃ v, e = .returned (.tuple #[v, .int .i64 ((n - t.length : Nat) : Int), .int .i64 0]) ∧ w'.ownsRow B 5 1 v c.length (c.map byteV)
set_option maxRecDepth 100000 in
set_option maxHeartbeats 8000000 in
theorem readChunks_any (v : Value) (l : List UInt8) (closed : Bool) (w : World) (hr : Bytes w v l) (hl : l.length ≤ 1000000) :
    Calls Tryd.prog 15 #[v, .bool closed] w fun e w' => ChunksPost w.heap.size l.length (chunksL (lackN closed) (l.length + 1) [] l) e w' ∧ Below w.heap.size w w' := by
  have hlk := lackN_ne closed
  have c0 := lackN_any closed
  obtain ⟨lack, hlack⟩ : ∃ k, lackN closed = k := ⟨_, rfl⟩
  rw [hlack] at hlk c0 ⊢
  obtain ⟨R, hR⟩ : ∃ R, chunksL lack (l.length + 1) [] l = R := ⟨_, rfl⟩
  rw [hR]
  have c1 := fun W v' t most h1 h2 h3 h4 => chunk_any w.heap.size lack most v' t w W hlk (Nat.le_refl _) h1 h2 h3 h4
  obtain ⟨W1, hW1⟩ : ∃ W, W = w.alloc (.cells #[v, .int .i64 (lack : Int)] 61) := ⟨_, rfl⟩
  have hb1 : Below w.heap.size w W1 := by rw [hW1]; exact below_alloc _ _
  have hg1 : rowIs W1 w.heap.size #[v, .int .i64 (lack : Int)] 61 := by rw [hW1]; exact rowIs_new _ _ _
  have hs1 : w.heap.size + 1 ≤ W1.heap.size := by rw [hW1]; simp
  obtain ⟨ao, cap, rfl, hc⟩ := bytes_form hr
  have C0 := hid c0
  have C1 := hid c1
  have HR := hid hr
  have HRR := hid hR
  have HLK := hid hlk
  have HC := hid hc
  clear c0 c1 hr hR hlk hlack hc
  go_enter Tryd.func15, Tryd.ntmps15
  go_wp2_with fail
  refine (C0.out _).mono ?_
  rintro e w1 ⟨rfl, rfl⟩
  go_wp2_with fail
  rw [← hW1]
  clear hW1 C0
  have hb2 := hb1
  generalize hgd : w.heap.size = g at *
  have GEQ := hid hgd
  clear hgd
  go_loopw [7] (fun bv wr => ∃ (acc t : List UInt8) (vt : Value), wr.ownsRow (g + 1) 5 1 bv acc.length (acc.map byteV) ∧ rowIs wr g #[vt, .int .i64 (lack : Int)] 61 ∧ Bytes w vt t ∧ Below g w wr ∧ g + 1 ≤ wr.heap.size ∧ chunksL lack (t.length + 1) acc t = R ∧ acc.length ≤ 2048 ∧ t.length ≤ l.length) (fun _ wr => match wr.cell? ⟨g, 0, none⟩ with | some (.slice _ n _) => n | _ => 0)
  case atStart => exact ⟨[], l, _, World.ownsRow_nil _ _ _ _, hg1, HR.out, hb1, hs1, HRR.out, by simp, Nat.le_refl _⟩
  case round =>
    obtain ⟨acc, t, vt, ho, hgt, hvt, hb, hs, hRt, ha, htl⟩ := hrel
    obtain ⟨aob, capb, rfl⟩ := ownsRow_bytes_form ho
    obtain ⟨aot, capt, rfl, hct⟩ := bytes_form hvt
    have h2048 : (2048 : Int) - (acc.length : Int) = ((2048 - acc.length : Nat) : Int) := by omega
    have HRT := hid hRt
    have HCT := hid hct
    have c2 := C1.out wr (.slice aot t.length capt) t (2048 - acc.length) hb hgt hvt (by omega)
    cases hx : chunkL lack (2048 - acc.length) t with
    | error k =>
      have hk := chunkL_err hx HLK.out
      have hRk : R = .error k := by rw [← HRT.out]; exact chunksL_fail hx
      rw [hx] at c2
      have C2 := hid c2
      have hk3 : (((k : Nat) : Int) == 0) = false := by simpa using hk
      have hk4 : (((k : Nat) : Int) != 0) = true := by simpa using hk
      have HK := hid hk
      subst hRk
      clear c2 hx hk hRt hct C1 HR HRR
      go_wp2_with fail
      refine C2.out.mono ?_
      rintro e w2 ⟨hgr, v2, rfl⟩
      have hbb := hb.trans (grown_below hgr (Nat.le_refl _) (by omega))
      clear hgr hgt
      go_wp2_with fail
      go_ret3
      exact ⟨⟨HK.out, rfl⟩, by rw [GEQ.out]; exact hbb⟩
    | ok p =>
      obtain ⟨c, t'⟩ := p
      obtain ⟨hcl, hlen, -⟩ := chunkL_ok HLK.out hx
      rw [hx] at c2
      have C2 := hid c2
      by_cases h0 : c.length = 0
      · have hRk : R = .ok (acc, t') := by
          rw [← HRT.out, chunksL, hx]
          simp only
          rw [if_pos h0]
        subst hRk
        obtain rfl := List.length_eq_zero_iff.1 h0
        clear c2 hx hRt hct C1 HR HRR h0 hcl
        go_wp2_with fail
        refine C2.out.mono ?_
        rintro e w2 ⟨hgr, v2, v3, rfl, hv2, hv3, hg2⟩
        obtain ⟨ao2, cap2, rfl, -⟩ := bytes_form hv2
        obtain ⟨ao3, cap3, rfl, -⟩ := bytes_form hv3
        have hbb := hb.trans (grown_below hgr (Nat.le_refl _) (by omega))
        have ho2 := ownsRow_grown ho hgr (by omega)
        have g0 := hg2.cell 0
        have hsub : (l.length : Int) - (t'.length : Int) = ((l.length - t'.length : Nat) : Int) := by omega
        clear hgr hgt ho hv2 hv3
        go_wp2_with fail
        go_quiet (fail)
        go_wp2
        go_ret3
        refine ⟨⟨by omega, _, rfl, ?_⟩, ?_⟩
        · rw [GEQ.out]
          exact (ho2.below (below_drewN (Below.refl _ _) _)).base (by omega)
        · rw [GEQ.out]
          exact below_drewN hbb _
      · have hRk : chunksL lack (t'.length + 1) (acc ++ c) t' = R := by
          rw [← HRT.out, chunksL_step hx (by omega)]
          exact chunksL_fuel HLK.out _ _ _ _ (by omega) (by omega)
        have HRK := hid hRk
        have hn0 : ((c.length : Int) == 0) = false := beq_eq_false_iff_ne.2 (by omega)
        clear c2 hx hRt hct HRR hRk
        go_wp2_with fail
        refine C2.out.mono ?_
        rintro e w2 ⟨hgr, v2, v3, rfl, hv2, hv3, hg2⟩
        obtain ⟨ao2, cap2, rfl, -⟩ := bytes_form hv2
        have hbb := hb.trans (grown_below hgr (Nat.le_refl _) (by omega))
        have ho2 := ownsRow_grown ho hgr (by omega)
        have hs2 : g + 1 ≤ w2.heap.size := by have := hgr.size; omega
        have hrd := (bytesRead (bytes_below hv2 (by rw [GEQ.out]; exact hbb)))
        have HV3 := hid hv3
        have q0 := hgt.cell 0
        have Q0 := hid q0
        clear q0
        have HRD := hid hrd
        have hll : acc.length + c.length < 4294967296 := by omega
        clear hgr hgt ho hv2 hv3 hvt hrd
        go_wp2_with ((at_builtin; go_must (refine wpList_append_all _ rfl _ _ 41 rfl (g + 1) 5 Tryd.underlying41 infoU8 rfl (by decide) rfl ho2 HRD.out (oneCell_bytes _) rfl (by rw [List.length_map]; exact hll) hs2 ?_); intro v' w3 hown3 hg3 hb3))
        go_roundw
        case rel =>
          obtain ⟨ao3, cap3, rfl, -⟩ := bytes_form HV3.out
          refine ⟨acc ++ c, t', _, ?_, (hb3.block g (by omega)).trans hg2, HV3.out, hbb.trans (hb3.mono (by omega)), ?_, HRK.out, ?_, by omega⟩
          · simpa using hown3
          · have := hb3.size; omega
          · rw [List.length_append]; omega
        case measure =>
          obtain ⟨ao3, cap3, rfl, -⟩ := bytes_form HV3.out
          have q1 := hg2.cell 0
          have q3 : w3.cell? ⟨g, 0, none⟩ = some (.slice ao3 t'.length cap3) := (hb3.cell (p := ⟨g, 0, none⟩) (by show g < g + 1; omega)).trans q1
          have q0 : wr.cell? ⟨g, 0, none⟩ = some (.slice aot t.length capt) := Q0.out
          simp only [q0, q3]
          omega
end Go.Proofs.YtefplhkjcclppaaDoor
