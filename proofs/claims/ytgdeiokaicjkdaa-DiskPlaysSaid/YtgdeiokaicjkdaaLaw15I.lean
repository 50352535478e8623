/-
  Layer 15: have both disks the same bytes at the end?
-/
import Derived.Test.YtgdeiokaicjkdaaLaw15H
set_option linter.unusedVariables false
set_option linter.unusedSimpArgs false
namespace Go.Pantry
open Go.RowKit
theorem crash_pend0 (m : DiskM) (keep : List Bool) (k : Nat) : (crashDk m keep).pend.getD k [] = [] := by
  show (List.replicate _ _).getD k [] = []
  rw [List.getD_eq_getElem?_getD, List.getElem?_replicate]
  split <;> rfl
theorem reads_nilB (w : World) : Reads w (.slice none 0 0) (([] : List Bool).map Value.bool) := ⟨none, 0, rfl, (fun j u hj => by cases hj), fun _ => rfl⟩
/-- a disk with other bad sectors -/
def badTo (m : DiskM) (bs : List Bool) : DiskM := { m with bad := bs }
theorem badTo_bad {n : Nat} {m : DiskM} (ho : DiskOk n m) {bs : List Bool} {i : Nat} (hi : i < n) : badDk (badTo m bs) (i : Int) false = (0, badTo m (bs.set i false)) := by
  unfold badDk
  rw [if_pos ⟨by omega, by show (i : Int) < (m.stands.length : Int); rw [ho.len]; omega⟩]
  rfl
theorem badTo_read {n : Nat} {m : DiskM} (ho : DiskOk n m) (hu : m.down = false) (hp : ∀ k, m.pend.getD k [] = []) {bs : List Bool} {i : Nat} (hi : i < n) (hb : bs.getD i false = false) : readDk (badTo m bs) (i : Int) = (0, m.stands.getD i []) := by
  unfold readDk
  rw [if_neg (by show ¬ m.down = true; rw [hu]; decide), if_neg (fun hh => hh ⟨by omega, by show (i : Int) < (m.stands.length : Int); rw [ho.len]; omega⟩), Int.toNat_natCast, if_neg (by show ¬ bs.getD i false = true; rw [hb]; decide)]
  unfold valueDk
  rw [if_pos (show (badTo m bs).pend.getD i [] = [] from hp i)]
  rfl
end Go.Pantry
namespace Go.Proofs.Ytgdeiokaicjkdaa
open Go.RowKit Go.Pantry

set_option maxRecDepth 8000 in
set_option maxHeartbeats 8000000 in
theorem ends_any {Ok : World → Prop} {R : Rp} (D : Disks Ok R) {w0 w : World} {g g2 n : Nat} {F F2 : Nat → Prop} {m : DiskM} (h : Both R w0 w g F m g2 F2 m) (ho : Ok w0) (hn : DiskOk n m) (hn0 : 0 < n) (hn1 : n ≤ 4096) :
    Calls Try.prog 26 #[.pointer (some ⟨g, 0, none⟩), .pointer (some ⟨g2, 0, none⟩)] w fun e w' => e = .returned (.bool true) ∧ Below w0.heap.size w0 w' := by
  have C := hid (D.crashK h.a ho (.slice none 0 0) [] (reads_nilB w) (fun hne => absurd rfl hne))
  have HB := hid h
  have HN := hid hn
  clear h hn
  go_enter Try.func26, Try.ntmps26
  go_wp2_with fail
  refine C.out.mono ?_
  rintro e w1 ⟨⟨u, rfl⟩, F1, hD1, hk1, hf1⟩
  have hB1 := HB.out.left hD1 hk1 hf1
  have HB1 := hid hB1
  have C2 := hid (docCrash hB1.b.rep HN.out hn0 hn1 (.slice none 0 0) [] (reads_nilB w1) (fun hne => absurd rfl hne))
  clear hB1 hD1 hk1 hf1 HB C
  go_wp2_with fail
  refine C2.out.mono ?_
  rintro e w2 ⟨⟨u, rfl⟩, hp⟩
  obtain ⟨F3, hB2⟩ := HB1.out.right D hp
  have HO := hid (HN.out.crash [])
  have HU := hid (show (crashDk m []).down = false from rfl)
  have HP0 := hid (crash_pend0 m [])
  generalize crashDk m [] = M at hB2 HO HU HP0 hp HB1
  have HL : Hid (∃ (k : Nat) (F : Nat → Prop) (bs : List Bool), k ≤ n ∧ Value.int .i64 0 = .int .i64 (k : Int) ∧ bs.length = n ∧ Both R w0 w2 g F (badTo M bs) g2 F3 M) := hid ⟨0, F1, M.bad, Nat.zero_le _, rfl, HO.out.lenB, hB2⟩
  obtain ⟨gs, cs, x0, -, hcs⟩ := docStand hB2.b.rep HO.out hn0
  have HRD := hid hB2.b.rep
  have HX0 := hid x0
  clear hp hB2 hcs HB1 C2
  go_wp2_with fail
  clear x0
  go_loopw [18] (fun i wr => ∃ (k : Nat) (F : Nat → Prop) (bs : List Bool), k ≤ n ∧ i = .int .i64 (k : Int) ∧ bs.length = n ∧ Both R w0 wr g F (badTo M bs) g2 F3 M ∧ Kept (fun x => ¬ F3 x) w2 wr) (fun i _ => n - (intOf i).toNat)
  case atStart =>
    obtain ⟨k, F, bs, h1, h2, h3, h4⟩ := HL.out
    exact ⟨k, F, bs, h1, h2, h3, h4, Kept.refl _ _⟩
  case round =>
    clear HL
    obtain ⟨k, F, bs, hk, rfl, hbl, hB, hkp⟩ := hrel
    by_cases hkl : k < n
    · have hkz : (k : Int) < (n : Int) := by omega
      have hk0 : (0 : Int) ≤ (k : Int) := by omega
      have hwk : IntKind.i64.wrap ((k : Int) + 1) = ((k + 1 : Nat) : Int) := by rw [IntWalk.i64_in _ (by omega)]; simp
      obtain ⟨gs', cs', x0', hFs, hcs'⟩ := docStand hB.b.rep HO.out hn0
      have hg2 : F3 g2 := (docDown hB.b.rep).2
      have hsame : wr.cell? ⟨g2, 0, none⟩ = w2.cell? ⟨g2, 0, none⟩ := World.cell?_of_block (w := w2) (w' := wr) (a := ⟨g2, 0, none⟩) (hkp.2 g2 (rd_lt HRD.out g2 hg2) (fun h => h hg2))
      have heq := x0'.symm.trans (hsame.trans HX0.out)
      simp only [Option.some.injEq, Value.slice.injEq, Addr.mk.injEq] at heq
      obtain ⟨⟨rfl, -, -⟩, -, rfl⟩ := heq
      obtain ⟨a, c, hcell, hby, hin⟩ := hcs' k hkl
      have C := hid (D.badK hB.a ho (k : Int) false ⟨by omega, by omega⟩)
      rw [badTo_bad HO.out hkl] at C
      have HB := hid (And.intro hB (And.intro hkp (And.intro hby hin)))
      have HBL := hid hbl
      clear x0' hFs hcs' hsame hB hkp hby hin hbl
      obtain ⟨z, hz⟩ : ∃ z, M.stands.getD k [] = z := ⟨_, rfl⟩
      have HZ := hid hz
      rw [hz] at hcell HB
      clear hz
      go_wp2_with fail
      refine C.out.mono ?_
      rintro e w3 ⟨rfl, F4, hD3, hk3, hf3⟩
      have hB3 := HB.out.1.left hD3 hk3 hf3
      have hkX : Kept (fun x => ¬ F3 x) wr w3 := hk3.mono (fun x hx _ h => HB.out.1.dis x hx h)
      have HB3 := hid (And.intro hB3 (And.intro (HB.out.2.1.trans hkX (fun x h _ => h)) (Pantry.bytes_kept HB.out.2.2.1 hkX (fun x e h => h (HB.out.2.2.2 x e)))))
      have HIN := hid HB.out.2.2.2
      have C3 := hid (D.readK hB3.a ho (k : Int) ⟨by omega, by omega⟩)
      rw [badTo_read HO.out HU.out HP0.out hkl (by rw [List.getD_eq_getElem?_getD, List.getElem?_set_self (by rw [HBL.out]; exact hkl)]; rfl), HZ.out] at C3
      clear hD3 hk3 hf3 hB3 hkX hcell HB C
      go_wp2_with fail
      refine C3.out.mono ?_
      rintro e w4 ⟨hD4, hb4, vg, rfl, hog⟩
      obtain ⟨av, cv, hvg⟩ : ∃ a c, vg = .slice a z.length c := by
        obtain ⟨a, c, h, -⟩ := hog.reads
        exact ⟨a, c, by rw [h, List.length_map]⟩
      subst hvg
      have hc1 := reads_string (P := Try.prog) hog.reads 29 9 5 Try.underlying29 Try.underlying5 Try.underlying9
      have hc2 := reads_string (P := Try.prog) ((bytesRead HB3.out.2.2).below hb4) 29 9 5 Try.underlying29 Try.underlying5 Try.underlying9
      have HB4 := hid (And.intro (HB3.out.1.then D hb4) (HB3.out.2.1.then hb4))
      have hzz : (z == z) = true := beq_self_eq_true _
      have hzn : (z != z) = false := by rw [bne, hzz]; rfl
      clear hD4 hb4 hog HB3 C3
      go_wp2_with fail
      go_roundw
      case rel => exact ⟨k + 1, F4, bs.set k false, hkl, by simp, by rw [List.length_set]; exact HBL.out, HB4.out.1, HB4.out.2⟩
      case measure => simp only [intOf]; omega
    · have hkn : k = n := by omega
      subst hkn
      have hkz : ¬ (k : Int) < (k : Int) := by omega
      have HBL := hid hB.a.bl
      clear hB hkp hbl
      go_wp2_with fail
      go_ret
      exact ⟨rfl, HBL.out⟩
end Go.Proofs.Ytgdeiokaicjkdaa
