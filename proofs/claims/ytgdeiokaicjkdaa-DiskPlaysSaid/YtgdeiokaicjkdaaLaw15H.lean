/-
  Layer 15: both disks side by side: pending, ends.
-/
import Derived.Test.YtgdeiokaicjkdaaLaw15G
set_option linter.unusedVariables false
set_option linter.unusedSimpArgs false
namespace Go.Pantry
open Go.RowKit
theorem pend_at : ∀ (k : Nat) (pp : List (List UInt8)) (i : Nat), i < pp.length → pp.getD i [] ≠ [] → (pendDkL k pp)[cntDk (pp.take i)]? = some (k + i)
  | _, [], _, h, _ => by cases h
  | k, p :: pp, 0, _, h => by
    have hp : p ≠ [] := by simpa using h
    unfold pendDkL
    rw [if_neg hp]
    rfl
  | k, p :: pp, i + 1, hi, h => by
    have hi' : i < pp.length := by simpa using hi
    have h' : pp.getD i [] ≠ [] := by simpa using h
    have ih := pend_at (k + 1) pp i hi' h'
    unfold pendDkL
    rw [List.take_succ_cons, cntDk]
    by_cases hp : p = []
    · rw [if_pos hp, if_pos hp, ih, show k + 1 + i = k + (i + 1) by omega]
    · rw [if_neg hp, if_neg hp, List.getElem?_cons_succ, ih, show k + 1 + i = k + (i + 1) by omega]
theorem pend_cnt : ∀ (k : Nat) (pp : List (List UInt8)), (pendDkL k pp).length = cntDk pp
  | _, [] => rfl
  | k, p :: pp => by
    unfold pendDkL cntDk
    by_cases hp : p = []
    · rw [if_pos hp, if_pos hp, pend_cnt (k + 1) pp]
    · rw [if_neg hp, if_neg hp, List.length_cons, pend_cnt (k + 1) pp]
theorem cnt_next {pp : List (List UInt8)} {i : Nat} (hi : i < pp.length) : cntDk (pp.take (i + 1)) = if pp.getD i [] = [] then cntDk (pp.take i) else cntDk (pp.take i) + 1 := by
  rw [take_snoc hi, cntDk_snoc, List.getD_eq_getElem?_getD, List.getElem?_eq_getElem hi]; rfl
end Go.Pantry
namespace Go.Proofs.Ytgdeiokaicjkdaa
open Go.RowKit Go.Pantry

/-- both disks, apart from each other -/
structure Both (R : Rp) (w0 w : World) (g : Nat) (F : Nat → Prop) (m : DiskM) (g2 : Nat) (F2 : Nat → Prop) (m2 : DiskM) : Prop where
  a : Dk R w0 w g F m
  b : Dk Rd15 w0 w g2 F2 m2
  dis : ∀ k, F k → ¬ F2 k
section
variable {Ok : World → Prop} {R : Rp} (D : Disks Ok R) {w0 w w' : World} {g g2 : Nat} {F F2 : Nat → Prop} {m m2 m' : DiskM}
theorem Both.left {F' : Nat → Prop} (h : Both R w0 w g F m g2 F2 m2) (h1 : Dk R w0 w' g F' m') (hk : Kept F w w') (hf : ∀ k, F' k → F k ∨ w.heap.size ≤ k) : Both R w0 w' g F' m' g2 F2 m2 :=
  ⟨h1, rd_away h.b hk (fun k h2 h1 => h.dis k h1 h2) (fun k h1 _ => h.a.lo k h1), fun k h1 h2 => by
    rcases hf k h1 with e | e
    · exact h.dis k e h2
    · have := rd_lt h.b.rep k h2; omega⟩
include D
theorem Both.right {e : Ending} (h : Both R w0 w g F m g2 F2 m2) (hp : WritPost Rd15 w g2 F2 m' e w') : ∃ F2', Both R w0 w' g F m g2 F2' m' := by
  obtain ⟨F2', h1, hk, hf⟩ := hp
  refine ⟨F2', h.a.away D hk (fun k h1 h2 => h.dis k h1 h2) (fun k h2 _ => h.b.lo k h2), ⟨h1, fun k hk' => ?_, h.b.bl.trans (hk.below (fun k h2 _ => h.b.lo k h2) h.b.bl.size)⟩, fun k h1 h2 => ?_⟩
  · rcases hf k hk' with e | e
    · exact h.b.lo k e
    · have := h.b.bl.size; omega
  · rcases hf k h2 with e | e
    · exact h.dis k h1 e
    · have := D.lt h.a.rep k h1; omega
theorem Both.then (h : Both R w0 w g F m g2 F2 m2) (hb : Below w.heap.size w w') : Both R w0 w' g F m g2 F2 m2 := ⟨h.a.then D hb, rd_then h.b hb, h.dis⟩
end
set_option maxRecDepth 8000 in
set_option maxHeartbeats 8000000 in
theorem pending_any {Ok : World → Prop} {R : Rp} (D : Disks Ok R) {w0 w : World} {g g2 n : Nat} {F F2 : Nat → Prop} {m : DiskM} (h : Both R w0 w g F m g2 F2 m) (ho : Ok w0) (hn : DiskOk n m) (hn0 : 0 < n) (hn1 : n ≤ 4096) :
    Calls Try.prog 24 #[.pointer (some ⟨g, 0, none⟩), .pointer (some ⟨g2, 0, none⟩)] w fun e w' => e = .returned (.bool true) ∧ Below w.heap.size w w' := by
  have C := hid (D.pendK h.a ho)
  have HB2 := hid h.b.rep
  have HPL := hid hn.lenP
  have HN := hid hn
  clear h hn
  go_enter Try.func24, Try.ntmps24
  go_wp2_with fail
  refine C.out.mono ?_
  rintro e w1 ⟨-, hb1, vl, rfl, hol⟩
  obtain ⟨al, cl, hvl⟩ : ∃ a c, vl = .slice a (pendDkL 0 m.pend).length c := by
    obtain ⟨a, c, h, -⟩ := hol.reads
    exact ⟨a, c, by rw [h, List.length_map]⟩
  subst hvl
  have HL := hid hol.reads
  have HB1 := hid hb1
  obtain ⟨gp, cp, x1, -, hcp⟩ := docPend (rd_kept HB2.out (Kept.of_below (X := fun _ => False) hb1) (fun _ _ h => h)) HN.out hn0
  have HCP := hid hcp
  have hcl : (pendDkL 0 m.pend).length ≤ n := by have := pendDkL_len 0 m.pend; rw [HPL.out] at this; exact this
  obtain ⟨N, hNl⟩ : ∃ N, (pendDkL 0 m.pend).length = N := ⟨_, rfl⟩
  rw [hNl] at hcl ⊢
  have HNL := hid hNl
  clear hol hb1 hcp C hNl
  go_wp2_with fail
  clear x1
  go_loopw [6, 16] (fun c i wr => ∃ k : Nat, k ≤ n ∧ i = .int .i64 (k : Int) ∧ c = .int .i64 (cntDk (m.pend.take k) : Int) ∧ Below w1.heap.size w1 wr) (fun _ i _ => n - (intOf i).toNat)
  case atStart => exact ⟨0, Nat.zero_le _, rfl, rfl, Below.refl _ _⟩
  case round =>
    obtain ⟨k, hk, rfl, rfl, hb⟩ := hrel
    have HBR := hid hb
    by_cases hkl : k < n
    · have hkz : (k : Int) < (n : Int) := by omega
      have hk0 : (0 : Int) ≤ (k : Int) := by omega
      have hwk : IntKind.i64.wrap ((k : Int) + 1) = (k : Int) + 1 := IntWalk.i64_in _ (by omega)
      obtain ⟨a, c, x0⟩ := HCP.out k hkl
      have x0 := kept x0 hb
      have hnx := cnt_next (pp := m.pend) (i := k) (by rw [HPL.out]; exact hkl)
      have hcm : cntDk (m.pend.take k) ≤ k := by have := cntDk_le (m.pend.take k); rw [List.length_take] at this; omega
      by_cases hp : m.pend.getD k [] = []
      · rw [if_pos hp] at hnx
        have HNX := hid hnx
        rw [hp] at x0
        have x0 : wr.cell? ⟨gp, k, none⟩ = some (.slice a 0 c) := x0
        obtain ⟨q, hq⟩ : ∃ q, cntDk (m.pend.take k) = q := ⟨_, rfl⟩
        rw [hq] at HNX ⊢
        clear hp hnx hb hcm hq
        go_wp2_with fail
        go_roundw
        case rel => exact ⟨k + 1, hkl, by go_num, by rw [HNX.out], HBR.out⟩
        case measure => simp [intOf]; omega
      · rw [if_neg hp] at hnx
        have hat := pend_at 0 m.pend k (by rw [HPL.out]; exact hkl) hp
        have HNX := hid hnx
        obtain ⟨_, _, hv, hck, _⟩ := HL.out.below hb
        obtain ⟨bk, off, hax, hcell⟩ := hck (cntDk (m.pend.take k)) (.int .i64 (k : Int)) (by rw [List.getElem?_map, hat]; simp)
        obtain rfl : al = some ⟨bk, off, none⟩ := by injection hv with e _ _; rw [e]; exact hax
        have hqlt : cntDk (m.pend.take k) < N := by have := (List.getElem?_eq_some_iff.1 hat).1; rw [HNL.out] at this; exact this
        have hpl : 0 < (m.pend.getD k []).length := List.length_pos_iff.2 hp
        obtain ⟨q, hq⟩ : ∃ q, cntDk (m.pend.take k) = q := ⟨_, rfl⟩
        obtain ⟨z, hz⟩ : ∃ z, (m.pend.getD k []).length = z := ⟨_, rfl⟩
        rw [hq] at HNX hcell hqlt hcm ⊢
        rw [hz] at x0 hpl
        have hzz : ((z : Int) == 0) = false := by rw [beq_eq_false_iff_ne]; omega
        have hzd : ¬ (z : Int) = 0 := by omega
        have hqN : (q : Int) < (N : Int) := by omega
        have hq0 : (0 : Int) ≤ (q : Int) := by omega
        have hnge : ¬ (N : Int) ≤ (q : Int) := by omega
        have dge : decide ((N : Int) ≤ (q : Int)) = false := decide_eq_false hnge
        have hkk : ((k : Int) == (k : Int)) = true := beq_self_eq_true _
        have hwq : IntKind.i64.wrap ((q : Int) + 1) = (q : Int) + 1 := IntWalk.i64_in _ (by omega)
        clear hp hnx hb hcm hq hat hv hck hax hpl hz
        go_wp2_with fail
        go_roundw
        case rel => exact ⟨k + 1, hkl, by go_num, by rw [HNX.out]; go_num, HBR.out⟩
        case measure => simp [intOf]; omega
    · have hkn : k = n := by omega
      subst hkn
      have hkz : ¬ (k : Int) < (k : Int) := by omega
      have hfin : cntDk (m.pend.take k) = N := by rw [List.take_of_length_le (by rw [HPL.out]; exact Nat.le_refl _), ← HNL.out, pend_cnt]
      rw [hfin]
      have hNN : ((N : Int) == (N : Int)) = true := beq_self_eq_true _
      clear hfin hb
      go_wp2_with fail
      go_ret
      exact ⟨rfl, chain2 HB1.out (by exact HB1.out.size) HBR.out⟩
end Go.Proofs.Ytgdeiokaicjkdaa
