/-
  Layer 15: DiskPlays.
-/
import Derived.Test.YtgdeiokaicjkdaaLaw15I
import Derived.Deep.Cut
set_option linter.unusedVariables false
set_option linter.unusedSimpArgs false
namespace Go.Pantry
open Go.RowKit
end Go.Pantry
namespace Go.Proofs.Ytgdeiokaicjkdaa
open Go.RowKit Go.Pantry

set_option maxRecDepth 8000 in
set_option maxHeartbeats 16000000 in
theorem diskPlays_over {Ok : World → Prop} {R : Rp} (D : Disks Ok R) (n : Int) (vo : Value) (M : List OpD) (w : World) (ho : Ok w) (hn : In15 n) (hM : ReadsOpD w vo M) (hI : ∀ o ∈ M, In15 o.kind ∧ In15 o.n) :
    Calls Try.prog 3 #[.int .i64 n, vo] w fun e w' => e = .returned (.bool true) ∧ Below w.heap.size w w' := by
  have C0 := hid (anchor15_any D w ho)
  obtain ⟨ao, co, rfl⟩ : ∃ a c, vo = .slice a M.length c := by obtain ⟨a, c, h, _⟩ := hM; exact ⟨a, c, h⟩
  obtain ⟨L, hL⟩ : ∃ L, M.length = L := ⟨_, rfl⟩
  have HL := hid hL
  have HM := hid hM
  rw [hL]
  clear hM hL
  by_cases hr : 80 < L ∨ (64 < n ∧ n ≤ 4096)
  · have hout : (decide ((80 : Int) < (L : Int)) || (decide ((64 : Int) < n) && decide (n ≤ 4096))) = true := by
      simp only [Bool.or_eq_true, Bool.and_eq_true, decide_eq_true_eq]
      omega
    obtain ⟨b1, hb1⟩ : ∃ b, decide ((80 : Int) < (L : Int)) = b := ⟨_, rfl⟩
    obtain ⟨b2, hb2⟩ : ∃ b, decide ((64 : Int) < n) = b := ⟨_, rfl⟩
    obtain ⟨b3, hb3⟩ : ∃ b, decide (n ≤ 4096) = b := ⟨_, rfl⟩
    rw [hb1, hb2, hb3] at hout
    clear hr
    have HOUT := hid hout
    go_enter Try.func3, Try.ntmps3
    go_wp2_with fail
    refine C0.out.mono ?_
    rintro e w0 ⟨rfl, hb0⟩
    have HB := hid hb0
    clear C0 hb0
    cases b1 <;> cases b2 <;> cases b3 <;> first
      | (exfalso; have h := HOUT.out; revert h; decide)
      | (go_wp2_with fail
         go_ret
         exact ⟨rfl, HB.out⟩)
  have hL80 : L ≤ 80 := by omega
  have q1 : decide ((80 : Int) < (L : Int)) = false := decide_eq_false (by omega)
  by_cases hn1 : n < 1 ∨ 4096 < n
  · have q2 : (decide ((64 : Int) < n) && decide (n ≤ 4096)) = false := by
      rw [Bool.and_eq_false_iff, decide_eq_false_iff_not, decide_eq_false_iff_not]; omega
    have q3 : (decide (n < 1) || decide ((4096 : Int) < n)) = true := by
      simp only [Bool.or_eq_true, decide_eq_true_eq]; omega
    obtain ⟨b2, hb2⟩ : ∃ b, decide ((64 : Int) < n) = b := ⟨_, rfl⟩
    obtain ⟨b3, hb3⟩ : ∃ b, decide (n ≤ 4096) = b := ⟨_, rfl⟩
    obtain ⟨b4, hb4⟩ : ∃ b, decide (n < 1) = b := ⟨_, rfl⟩
    obtain ⟨b5, hb5⟩ : ∃ b, decide ((4096 : Int) < n) = b := ⟨_, rfl⟩
    rw [hb2, hb3] at q2
    rw [hb4, hb5] at q3
    have Q2 := hid q2
    have Q3 := hid q3
    have hnot : ¬ (1 ≤ n ∧ n ≤ 4096) := by omega
    have HNOT := hid hnot
    clear hr hn1 q2 q3 hnot
    go_enter Try.func3, Try.ntmps3
    go_wp2_with fail
    refine C0.out.mono ?_
    rintro e w0 ⟨rfl, hb0⟩
    have C1 := hid (D.nothing w0 n (D.keep ho hb0) hn HNOT.out)
    have HB := hid hb0
    clear C0 hb0
    cases b2 <;> cases b3 <;> cases b4 <;> cases b5 <;> first
      | (exfalso; have h := Q2.out; revert h; decide)
      | (exfalso; have h := Q3.out; revert h; decide)
      | (go_wp2_with fail
         refine C1.out.mono ?_
         rintro e w1 ⟨hb1, rfl⟩
         have HB1 := hid (chain2 HB.out HB.out.size hb1)
         clear hb1
         go_wp2_with fail
         go_ret
         exact ⟨rfl, HB1.out⟩)
  obtain ⟨N, rfl⟩ : ∃ N : Nat, n = (N : Int) := ⟨n.toNat, by omega⟩
  have hN0 : 0 < N := by omega
  have hN1 : N ≤ 64 := by omega
  have q2 : decide ((64 : Int) < (N : Int)) = false := decide_eq_false (by omega)
  have q4 : decide ((N : Int) < 1) = false := decide_eq_false (by omega)
  have q5 : decide ((4096 : Int) < (N : Int)) = false := decide_eq_false (by omega)
  have qN : ((N : Int) == (N : Int)) = true := beq_self_eq_true _
  have qNn : ((N : Int) != (N : Int)) = false := by rw [bne, qN]; rfl
  clear hr hn1
  go_enter Try.func3, Try.ntmps3
  go_wp2_with fail
  refine C0.out.mono ?_
  rintro e w0 ⟨rfl, hb0⟩
  have C1 := hid (D.newK (N : Int) hb0 ho (by omega) (by omega))
  rw [Int.toNat_natCast] at C1
  clear C0 hb0
  go_wp2_with fail
  refine C1.out.mono ?_
  rintro e w1 ⟨-, g, F1, rfl, k1, hF1⟩
  have C2 := hid (D.lenK k1)
  rw [show (newDk N).stands.length = N from List.length_replicate ..] at C2
  clear k1 hF1 C1
  go_wp2_with fail
  refine C2.out.mono ?_
  rintro e w2 ⟨rfl, k2, hb2⟩
  have C3 := hid (docNew N w2 hN0 (by omega))
  have HK2 := hid k2
  clear k2 hb2 C2
  go_wp2_with fail
  refine C3.out.mono ?_
  rintro e w3 ⟨g2, F2, rfl, hr2, hb3, hf2⟩
  have HLP : Hid (∃ (k : Nat) (F F2 : Nat → Prop) (m : DiskM), k ≤ L ∧ Value.int .i64 0 = .int .i64 (k : Int) ∧ DiskOk N m ∧ Both R w w3 g F m g2 F2 m) := hid ⟨0, F1, F2, newDk N, Nat.zero_le _, rfl, ok_new N, ⟨HK2.out.then D hb3, ⟨hr2, fun k hk => by have := hf2 k hk; have := HK2.out.bl.size; omega, HK2.out.bl.trans (hb3.mono HK2.out.bl.size)⟩, fun k h1 h2 => by have := D.lt HK2.out.rep k h1; have := hf2 k h2; omega⟩⟩
  clear hr2 hb3 hf2 HK2 C3
  go_wp2_with fail
  go_loopw [49] (fun i wr => ∃ (k : Nat) (F F2 : Nat → Prop) (m : DiskM), k ≤ L ∧ i = .int .i64 (k : Int) ∧ DiskOk N m ∧ Both R w wr g F m g2 F2 m) (fun i _ => L - (intOf i).toNat)
  case atStart => exact HLP.out
  case round =>
    clear HLP
    obtain ⟨k, F, F2, m, hk, rfl, hok, hB⟩ := hrel
    by_cases hkl : k < L
    case neg =>
      have hke : k = L := by omega
      subst hke
      have hkz : ¬ (k : Int) < (k : Int) := by omega
      have C := hid (ends_any D hB ho hok hN0 (by omega))
      clear hB hok hk hkl
      go_wp2_with fail
      refine C.out.mono ?_
      rintro e w4 ⟨rfl, hb4⟩
      have HB4 := hid hb4
      clear hb4 C
      go_wp2_with fail
      go_ret
      exact ⟨rfl, HB4.out⟩
    have hkz : (k : Int) < (L : Int) := by omega
    have hk0 : (0 : Int) ≤ (k : Int) := by omega
    have hwk : IntKind.i64.wrap ((k : Int) + 1) = ((k + 1 : Nat) : Int) := by rw [IntWalk.i64_in _ (by omega)]; simp
    obtain ⟨o, hok1⟩ : ∃ o, M[k]? = some o := ⟨_, List.getElem?_eq_getElem (by rw [HL.out]; exact hkl)⟩
    obtain ⟨hI1, hI2⟩ := hI o (List.mem_of_getElem? hok1)
    obtain ⟨a1, c1, hv1, hcz⟩ := HM.out
    rw [HL.out] at hv1
    cases hv1
    obtain ⟨bb, off, da, dc, ka, kc, rfl, z0, z1, z2, z3, z4, hdat, hkee⟩ := hcz k o hok1
    have k0 := kept z0 hB.a.bl
    have k1 := kept z1 hB.a.bl
    have k2 := kept z2 hB.a.bl
    have k3 := kept z3 hB.a.bl
    have k4 := kept z4 hB.a.bl
    have hdlt : o.data ≠ [] → In (fun x => x < w.heap.size) (.slice da o.data.length dc) := fun hne => reads_ltS (bytesRead hdat) (fun e => hne (by simpa using e))
    have hklt : o.keep ≠ [] → In (fun x => x < w.heap.size) (.slice ka o.keep.length kc) := fun hne => reads_ltS hkee (fun e => hne (by simpa using e))
    have HD1 := hid (And.intro hdat (And.intro hkee (And.intro hdlt hklt)))
    clear hcz z0 z1 z2 z3 z4 hdat hkee hdlt hklt hok1
    obtain ⟨kd, nn, dt, on, kp⟩ := o
    simp only at hI1 hI2 k0 k1 k2 k3 k4 HD1
    obtain ⟨W1, hW1⟩ : ∃ W, W = wr.alloc (.cells #[.int .i64 kd, .int .i64 nn, .slice da dt.length dc, .bool on, .slice ka kp.length kc] 32) := ⟨_, rfl⟩
    have hb1 : Below wr.heap.size wr W1 := by rw [hW1]; exact below_alloc _ _
    have hbox : rowIs W1 wr.heap.size #[.int .i64 kd, .int .i64 nn, .slice da dt.length dc, .bool on, .slice ka kp.length kc] 32 := by rw [hW1]; exact rowIs_new _ _ _
    have hB1 : Both R w W1 g F m g2 F2 m := hB.then D hb1
    have hgF : ¬ F wr.heap.size := fun h => by have := D.lt hB.a.rep _ h; omega
    have hgF2 : ¬ F2 wr.heap.size := fun h => by have := rd_lt hB.b.rep _ h; omega
    clear hb1 hB
    have HB1 := hid hB1
    have HBX := hid hbox
    by_cases hdl : 200 < dt.length ∨ 100 < kp.length
    · have hout : (decide ((200 : Int) < (dt.length : Int)) || decide ((100 : Int) < (kp.length : Int))) = true := by
        simp only [Bool.or_eq_true, decide_eq_true_eq]; omega
      obtain ⟨b1, hb1⟩ : ∃ b, decide ((200 : Int) < (dt.length : Int)) = b := ⟨_, rfl⟩
      obtain ⟨b2, hb2⟩ : ∃ b, decide ((100 : Int) < (kp.length : Int)) = b := ⟨_, rfl⟩
      rw [hb1, hb2] at hout
      have HOUT := hid hout
      have hbl := hB1.a.bl
      rw [hW1] at hbl
      have HBL := hid hbl
      clear hdl hout hB1 hbox hW1 hgF hgF2 hbl
      cases b1 <;> cases b2 <;> first
        | (exfalso; have h := HOUT.out; revert h; decide)
        | (go_wp2_with fail
           go_ret
           exact ⟨rfl, HBL.out⟩)
    have t1 : decide ((200 : Int) < (dt.length : Int)) = false := decide_eq_false (by omega)
    have t2 : decide ((100 : Int) < (kp.length : Int)) = false := decide_eq_false (by omega)
    have hd200 : dt.length ≤ 200 := by omega
    clear hdl hB1 hbox
    obtain ⟨gb, hgb⟩ : ∃ x, wr.heap.size = x := ⟨_, rfl⟩
    have HGB := hid hgb
    have HWB := hid (show Below w.heap.size w W1 from HB1.out.a.bl)
    by_cases h1 : kd = 1
    · subst h1
      have C := hid (D.readK HB1.out.a ho nn hI2)
      clear hgb
      go_wp2_with fail
      rw [← hW1]
      clear hW1 k0 k1 k2 k3 k4
      refine C.out.mono ?_
      rintro e w4 ⟨hD4, hb4, vg, rfl, hog⟩
      obtain ⟨av, cv, hvg⟩ : ∃ a c, vg = .slice a (readDk m nn).2.length c := by
        obtain ⟨a, c, h, -⟩ := hog.reads
        exact ⟨a, c, by rw [h, List.length_map]⟩
      subst hvg
      have HB4 := hid (HB1.out.then D hb4)
      have y1 : w4.cell? ⟨wr.heap.size, 1, none⟩ = some (.int .i64 nn) := (HBX.out.below hb4).cell 1
      have C2 := hid (docRead HB4.out.b.rep hok nn)
      have HOG := hid hog.reads
      clear hD4 hb4 hog C
      go_wp2_with fail
      refine C2.out.mono ?_
      rintro e w5 ⟨rfl, v2, rfl, hby⟩
      obtain ⟨a2, c2, hv2, -⟩ := bytes_form hby
      subst hv2
      have hc1 := reads_string (P := Try.prog) HOG.out 29 9 5 Try.underlying29 Try.underlying5 Try.underlying9
      have hc2 := reads_string (P := Try.prog) (bytesRead hby) 29 9 5 Try.underlying29 Try.underlying5 Try.underlying9
      have HO := hid hok
      clear hby C2 HOG
      generalize (readDk m nn).2 = bs at *
      generalize (readDk m nn).1 = cd at *
      have e1 : ((cd : Int) == (cd : Int)) = true := beq_self_eq_true _
      have e2 : ((cd : Int) != (cd : Int)) = false := by rw [bne, e1]; rfl
      have e3 : (bs == bs) = true := beq_self_eq_true _
      have e4 : (bs != bs) = false := by rw [bne, e3]; rfl
      go_wp2_with fail
      clear hc1 hc2 y1
      have HOK := hid HO.out
      have HBF := hid HB4.out
      obtain ⟨dn, hdn⟩ : ∃ b, m.down = b := ⟨_, rfl⟩
      have CPd := hid (fun (W : World) (h : Below w4.heap.size w4 W) => pending_any D (HBF.out.then D h) ho HOK.out hN0 (by omega))
      have CDn := hid (fun (W : World) (h : Below w4.heap.size w4 W) => (show Calls Try.prog 25 #[.pointer (some ⟨g, 0, none⟩)] W fun e w' => e = .returned (.bool dn) ∧ Below W.heap.size W w' from by rw [← hdn]; exact (D.downK (HBF.out.then D h).a).mono fun e w' h => ⟨h.1, h.2.2⟩))
      have HDW : Hid (w4.cell? ⟨g2, 5, none⟩ = some (.bool dn)) := by rw [← hdn]; exact hid (docDown HBF.out.b.rep).1
      have hd1 : (dn == dn) = true := beq_self_eq_true _
      have hd2 : (dn != dn) = false := by rw [bne, hd1]; rfl
      clear hdn
      refine wp_region_U [] (by kernel_rfl) (fun _ W => Below w4.heap.size w4 W) (b := []) (by kernel_rfl) ((Below.refl _ _).drew) ?_
      refine wpAnyU_take (i := 0) (v := ?_) (by decide) rfl (by kernel_rfl) (by kernel_rfl) (by kernel_rfl) (fun _ _ _ h => h) (Steady.plain (by kernel_rfl) ?_) ?_
      rotate_left
      · intro b W hS
        have h5 := kept HDW.out hS
        go_simp
        first | done | with_reducible rfl
      simp only [Act.put, List.getElem_toArray, List.getElem_cons_succ, List.getElem_cons_zero, List.setIfInBounds_toArray, List.set_cons_zero, List.set_cons_succ]
      refine wpAnyU_take (i := 1) (v := ?_) (by decide) rfl (by kernel_rfl) (by kernel_rfl) (by kernel_rfl) (fun _ _ _ h => h) (Steady.plain (by kernel_rfl) ?_) ?_
      rotate_left
      · intro b W hS
        have h5 := kept HDW.out hS
        go_simp
        first | done | with_reducible rfl
      simp only [Act.put, List.getElem_toArray, List.getElem_cons_succ, List.getElem_cons_zero, List.setIfInBounds_toArray, List.set_cons_zero, List.set_cons_succ]
      refine wpAnyU_take (i := 2) (v := (.bool true)) (by decide) rfl (by kernel_rfl) (by kernel_rfl) (by kernel_rfl) (fun _ _ _ h => h) (Steady.call (f := 24) (args := #[.pointer (some ⟨g, 0, none⟩), .pointer (some ⟨g2, 0, none⟩)]) (by kernel_rfl) (fun _ => by kernel_rfl) ?_) ?_
      · intro b W hS
        refine (CPd.out W hS).mono ?_
        rintro e w' ⟨he, hb⟩
        exact ⟨he, chain2 hS hS.size hb⟩
      simp only [Act.put, List.getElem_toArray, List.getElem_cons_succ, List.getElem_cons_zero, List.setIfInBounds_toArray, List.set_cons_zero, List.set_cons_succ]
      refine wpAnyU_take (i := 3) (v := ?_) (by decide) rfl (by kernel_rfl) (by kernel_rfl) (by kernel_rfl) (fun _ _ _ h => h) (Steady.plain (by kernel_rfl) ?_) ?_
      rotate_left
      · intro b W hS
        have h5 := kept HDW.out hS
        go_simp
        first | done | with_reducible rfl
      simp only [Act.put, List.getElem_toArray, List.getElem_cons_succ, List.getElem_cons_zero, List.setIfInBounds_toArray, List.set_cons_zero, List.set_cons_succ]
      refine wpAnyU_take (i := 4) (v := ?_) (by decide) rfl (by kernel_rfl) (by kernel_rfl) (by kernel_rfl) (fun _ _ _ h => h) (Steady.plain (by kernel_rfl) ?_) ?_
      rotate_left
      · intro b W hS
        have h5 := kept HDW.out hS
        go_simp
        first | done | with_reducible rfl
      simp only [Act.put, List.getElem_toArray, List.getElem_cons_succ, List.getElem_cons_zero, List.setIfInBounds_toArray, List.set_cons_zero, List.set_cons_succ]
      refine wpAnyU_take (i := 5) (v := ?_) (by decide) rfl (by kernel_rfl) (by kernel_rfl) (by kernel_rfl) (fun _ _ _ h => h) (Steady.plain (by kernel_rfl) ?_) ?_
      rotate_left
      · intro b W hS
        have h5 := kept HDW.out hS
        go_simp
        first | done | with_reducible rfl
      simp only [Act.put, List.getElem_toArray, List.getElem_cons_succ, List.getElem_cons_zero, List.setIfInBounds_toArray, List.set_cons_zero, List.set_cons_succ]
      refine wpAnyU_take (i := 6) (v := (.bool dn)) (by decide) rfl (by kernel_rfl) (by kernel_rfl) (by kernel_rfl) (fun _ _ _ h => h) (Steady.call (f := 25) (args := #[.pointer (some ⟨g, 0, none⟩)]) (by kernel_rfl) (fun _ => by kernel_rfl) ?_) ?_
      · intro b W hS
        refine (CDn.out W hS).mono ?_
        rintro e w' ⟨he, hb⟩
        exact ⟨he, chain2 hS hS.size hb⟩
      simp only [Act.put, List.getElem_toArray, List.getElem_cons_succ, List.getElem_cons_zero, List.setIfInBounds_toArray, List.set_cons_zero, List.set_cons_succ]
      refine wpAnyU_take (i := 7) (v := ?_) (by decide) rfl (by kernel_rfl) (by kernel_rfl) (by kernel_rfl) (fun _ _ _ h => h) (Steady.plain (by kernel_rfl) ?_) ?_
      rotate_left
      · intro b W hS
        have h5 := kept HDW.out hS
        go_simp
        first | done | with_reducible rfl
      simp only [Act.put, List.getElem_toArray, List.getElem_cons_succ, List.getElem_cons_zero, List.setIfInBounds_toArray, List.set_cons_zero, List.set_cons_succ]
      refine wpAnyU_take (i := 8) (v := ?_) (by decide) rfl (by kernel_rfl) (by kernel_rfl) (by kernel_rfl) (fun _ _ _ h => h) (Steady.plain (by kernel_rfl) ?_) ?_
      rotate_left
      · intro b W hS
        have h5 := kept HDW.out hS
        go_simp
        first | done | with_reducible rfl
      simp only [Act.put, List.getElem_toArray, List.getElem_cons_succ, List.getElem_cons_zero, List.setIfInBounds_toArray, List.set_cons_zero, List.set_cons_succ]
      refine wpAnyU_take (i := 9) (v := ?_) (by decide) rfl (by kernel_rfl) (by kernel_rfl) (by kernel_rfl) (fun _ _ _ h => h) (Steady.plain (by kernel_rfl) ?_) ?_
      rotate_left
      · intro b W hS
        have h5 := kept HDW.out hS
        go_simp
        first | done | with_reducible rfl
      simp only [Act.put, List.getElem_toArray, List.getElem_cons_succ, List.getElem_cons_zero, List.setIfInBounds_toArray, List.set_cons_zero, List.set_cons_succ]
      refine wpAnyU_take (i := 10) (v := ?_) (by decide) rfl (by kernel_rfl) (by kernel_rfl) (by kernel_rfl) (fun _ _ _ h => h) (Steady.plain (by kernel_rfl) ?_) ?_
      rotate_left
      · intro b W hS
        have h5 := kept HDW.out hS
        go_simp
        first | done | with_reducible rfl
      simp only [Act.put, List.getElem_toArray, List.getElem_cons_succ, List.getElem_cons_zero, List.setIfInBounds_toArray, List.set_cons_zero, List.set_cons_succ]
      refine wpAnyU_take (i := 11) (v := ?_) (by decide) rfl (by kernel_rfl) (by kernel_rfl) (by kernel_rfl) (fun _ _ _ h => h) (Steady.plain (by kernel_rfl) ?_) ?_
      rotate_left
      · intro b W hS
        have h5 := kept HDW.out hS
        go_simp
        first | done | with_reducible rfl
      simp only [Act.put, List.getElem_toArray, List.getElem_cons_succ, List.getElem_cons_zero, List.setIfInBounds_toArray, List.set_cons_zero, List.set_cons_succ]
      refine wpAnyU_take (i := 12) (v := ?_) (by decide) rfl (by kernel_rfl) (by kernel_rfl) (by kernel_rfl) (fun _ _ _ h => h) (Steady.plain (by kernel_rfl) ?_) ?_
      rotate_left
      · intro b W hS
        have h5 := kept HDW.out hS
        go_simp
        first | done | with_reducible rfl
      simp only [Act.put, List.getElem_toArray, List.getElem_cons_succ, List.getElem_cons_zero, List.setIfInBounds_toArray, List.set_cons_zero, List.set_cons_succ]
      refine wpAnyU_done (b := []) (by kernel_rfl) (by kernel_rfl) ?_ _
      intro W hS
      have HFIN := hid (HBF.out.then D hS)
      clear hS
      go_wp2_with fail
      go_roundw
      case rel => exact ⟨k + 1, F, F2, m, hkl, by simp, HOK.out, HFIN.out⟩
      case measure => simp only [intOf]; omega
    by_cases h2 : kd = 2
    · have n1 : (kd == 1) = false := by rw [beq_eq_false_iff_ne]; exact h1
      have d1 : ¬ kd = 1 := h1
      subst h2
      have HDT := hid (And.intro (bytes_below HD1.out.1 HWB.out) HD1.out.2.2.1)
      have HO := hid hok
      have C := hid (fun (W : World) (hk : Below W1.heap.size W1 W) => D.writeK (HB1.out.then D hk).a ho nn _ dt hI2 (bytes_below HDT.out.1 hk) (fun hne x hx hf => by have h1 := HDT.out.2 hne x hx; have h2 := HB1.out.a.lo x hf; omega))
      clear hgb
      go_wp2_with fail
      rw [← hW1]
      clear hW1 k0 k1 k2 k3 k4
      have c1 : W1.drew.cell? ⟨wr.heap.size, 1, none⟩ = some (.int .i64 nn) := HBX.out.cell 1
      have c2 : W1.drew.cell? ⟨wr.heap.size, 2, none⟩ = some (.slice da dt.length dc) := HBX.out.cell 2
      refine wp_region_held_drew (S := fun W' => W'.cell? ⟨wr.heap.size, 1, none⟩ = some (.int .i64 nn) ∧ W'.cell? ⟨wr.heap.size, 2, none⟩ = some (.slice da dt.length dc)) (by kernel_rfl) ⟨c1, c2⟩ (fun hH => ?_)
      refine wpAnyH_take (i := 0) (v := ?_) rfl (by kernel_rfl) (by kernel_rfl) (by kernel_rfl) (fun _ _ _ h => h) (Or.inl ⟨by kernel_rfl, ?_⟩) hH ?_
      rotate_left
      · intro W hS
        have h1 := hS.1
        have h2 := hS.2
        go_simp
        first | done | with_reducible rfl
      simp only [Act.put, List.getElem_toArray, List.getElem_cons_succ, List.getElem_cons_zero, List.setIfInBounds_toArray, List.set_cons_zero, List.set_cons_succ]
      refine wpAnyH_take (i := 1) (v := ?_) rfl (by kernel_rfl) (by kernel_rfl) (by kernel_rfl) (fun _ _ _ h => h) (Or.inl ⟨by kernel_rfl, ?_⟩) hH ?_
      rotate_left
      · intro W hS
        have h1 := hS.1
        have h2 := hS.2
        go_simp
        first | done | with_reducible rfl
      simp only [Act.put, List.getElem_toArray, List.getElem_cons_succ, List.getElem_cons_zero, List.setIfInBounds_toArray, List.set_cons_zero, List.set_cons_succ]
      refine wpAnyH_take (i := 2) (v := ?_) rfl (by kernel_rfl) (by kernel_rfl) (by kernel_rfl) (fun _ _ _ h => h) (Or.inl ⟨by kernel_rfl, ?_⟩) hH ?_
      rotate_left
      · intro W hS
        have h1 := hS.1
        have h2 := hS.2
        go_simp
        first | done | with_reducible rfl
      simp only [Act.put, List.getElem_toArray, List.getElem_cons_succ, List.getElem_cons_zero, List.setIfInBounds_toArray, List.set_cons_zero, List.set_cons_succ]
      refine wpAnyH_take (i := 3) (v := ?_) rfl (by kernel_rfl) (by kernel_rfl) (by kernel_rfl) (fun _ _ _ h => h) (Or.inl ⟨by kernel_rfl, ?_⟩) hH ?_
      rotate_left
      · intro W hS
        have h1 := hS.1
        have h2 := hS.2
        go_simp
        first | done | with_reducible rfl
      simp only [Act.put, List.getElem_toArray, List.getElem_cons_succ, List.getElem_cons_zero, List.setIfInBounds_toArray, List.set_cons_zero, List.set_cons_succ]
      refine wpAnyH_take (i := 4) (v := ?_) rfl (by kernel_rfl) (by kernel_rfl) (by kernel_rfl) (fun _ _ _ h => h) (Or.inl ⟨by kernel_rfl, ?_⟩) hH ?_
      rotate_left
      · intro W hS
        have h1 := hS.1
        have h2 := hS.2
        go_simp
        first | done | with_reducible rfl
      simp only [Act.put, List.getElem_toArray, List.getElem_cons_succ, List.getElem_cons_zero, List.setIfInBounds_toArray, List.set_cons_zero, List.set_cons_succ]
      refine wpAnyH_take (i := 6) (v := ?_) rfl (by kernel_rfl) (by kernel_rfl) (by kernel_rfl) (fun _ _ _ h => h) (Or.inl ⟨by kernel_rfl, ?_⟩) hH ?_
      rotate_left
      · intro W hS
        have h1 := hS.1
        have h2 := hS.2
        go_simp
        first | done | with_reducible rfl
      simp only [Act.put, List.getElem_toArray, List.getElem_cons_succ, List.getElem_cons_zero, List.setIfInBounds_toArray, List.set_cons_zero, List.set_cons_succ]
      refine wpAnyH_take (i := 7) (v := ?_) rfl (by kernel_rfl) (by kernel_rfl) (by kernel_rfl) (fun _ _ _ h => h) (Or.inl ⟨by kernel_rfl, ?_⟩) hH ?_
      rotate_left
      · intro W hS
        have h1 := hS.1
        have h2 := hS.2
        go_simp
        first | done | with_reducible rfl
      simp only [Act.put, List.getElem_toArray, List.getElem_cons_succ, List.getElem_cons_zero, List.setIfInBounds_toArray, List.set_cons_zero, List.set_cons_succ]
      refine wpAnyH_take (i := 8) (v := ?_) rfl (by kernel_rfl) (by kernel_rfl) (by kernel_rfl) (fun _ _ _ h => h) (Or.inl ⟨by kernel_rfl, ?_⟩) hH ?_
      rotate_left
      · intro W hS
        have h1 := hS.1
        have h2 := hS.2
        go_simp
        first | done | with_reducible rfl
      simp only [Act.put, List.getElem_toArray, List.getElem_cons_succ, List.getElem_cons_zero, List.setIfInBounds_toArray, List.set_cons_zero, List.set_cons_succ]
      refine wpAnyH_take (i := 9) (v := ?_) rfl (by kernel_rfl) (by kernel_rfl) (by kernel_rfl) (fun _ _ _ h => h) (Or.inl ⟨by kernel_rfl, ?_⟩) hH ?_
      rotate_left
      · intro W hS
        have h1 := hS.1
        have h2 := hS.2
        go_simp
        first | done | with_reducible rfl
      simp only [Act.put, List.getElem_toArray, List.getElem_cons_succ, List.getElem_cons_zero, List.setIfInBounds_toArray, List.set_cons_zero, List.set_cons_succ]
      refine wpAnyH_take (i := 10) (v := ?_) rfl (by kernel_rfl) (by kernel_rfl) (by kernel_rfl) (fun _ _ _ h => h) (Or.inl ⟨by kernel_rfl, ?_⟩) hH ?_
      rotate_left
      · intro W hS
        have h1 := hS.1
        have h2 := hS.2
        go_simp
        first | done | with_reducible rfl
      simp only [Act.put, List.getElem_toArray, List.getElem_cons_succ, List.getElem_cons_zero, List.setIfInBounds_toArray, List.set_cons_zero, List.set_cons_succ]
      refine wpAnyH_ready (rs := [5]) (by kernel_rfl) (by simp) ?_
      refine AllReadyH.cons rfl (fun K hK => ?_) AllReadyH.nil
      go_simp
      refine (C.out W1.drew (Below.refl _ _).drew).mono ?_
      rintro e w4 ⟨rfl, F4, hD4, hk4, hf4⟩
      have HB4 := hid ((HB1.out.then D (Below.refl _ W1).drew).left hD4 hk4 hf4)
      have hr4 := (HBX.out.below (Below.refl _ W1).drew).kept hk4 (fun h => hgF h)
      have c1 : w4.cell? ⟨wr.heap.size, 1, none⟩ = some (.int .i64 nn) := hr4.cell 1
      have c2 : w4.cell? ⟨wr.heap.size, 2, none⟩ = some (.slice da dt.length dc) := hr4.cell 2
      have hd4 := bytes_kept (bytes_below HDT.out.1 (Below.refl _ W1).drew) hk4
      have HDT4 : Hid (Reads w4 (.slice da dt.length dc) (dt.map byteV)) := hid (reads_stayS (bytesRead (bytes_below HDT.out.1 (Below.refl _ W1).drew)) hk4 (fun hne x hx hf => by have h1 := HDT.out.2 (fun e => hne (by rw [e]; rfl)) x hx; have h2 := HB1.out.a.lo x hf; omega))
      clear hd4
      refine hK.out _ _ ⟨c1, c2⟩ (fun hH => ?_)
      clear hK K
      try simp only [Act.put, List.getElem_toArray, List.getElem_cons_succ, List.getElem_cons_zero, List.setIfInBounds_toArray, List.set_cons_zero, List.set_cons_succ]
      refine wpAnyH_ready (rs := [11]) (by kernel_rfl) (by simp) ?_
      refine AllReadyH.cons rfl (fun K hK => ?_) AllReadyH.nil
      go_simp
      have C2 := docWrite HB4.out.b.rep HO.out nn (.slice da dt.length dc) dt HDT4.out (fun hne x hx hf => by have h1 := HDT.out.2 hne x hx; have h2 := HB4.out.b.lo x hf; omega)
      refine C2.mono ?_
      rintro e w5 ⟨rfl, hp5⟩
      have f1 : (((writeDk m nn dt).1 : Int) == ((writeDk m nn dt).1 : Int)) = true := beq_self_eq_true _
      have f2 : (((writeDk m nn dt).1 : Int) != ((writeDk m nn dt).1 : Int)) = false := by rw [bne, f1]; rfl
      have hr5 : rowIs w5 wr.heap.size #[.int .i64 2, .int .i64 nn, .slice da dt.length dc, .bool on, .slice ka kp.length kc] 32 := by
        obtain ⟨F5, -, hk5, -⟩ := hp5
        exact hr4.kept hk5 (fun h => hgF2 h)
      have HB5 := hid (HB4.out.right D hp5)
      have c1 : w5.cell? ⟨wr.heap.size, 1, none⟩ = some (.int .i64 nn) := hr5.cell 1
      have c2 : w5.cell? ⟨wr.heap.size, 2, none⟩ = some (.slice da dt.length dc) := hr5.cell 2
      refine hK.out _ _ ⟨c1, c2⟩ (fun hH => ?_)
      clear hK K
      try simp only [Act.put, List.getElem_toArray, List.getElem_cons_succ, List.getElem_cons_zero, List.setIfInBounds_toArray, List.set_cons_zero, List.set_cons_succ]
      refine wpAnyH_take (i := 12) (v := ?_) rfl (by kernel_rfl) (by kernel_rfl) (by kernel_rfl) (fun _ _ _ h => h) (Or.inl ⟨by kernel_rfl, ?_⟩) hH ?_
      rotate_left
      · intro W hS
        have h1 := hS.1
        have h2 := hS.2
        go_simp
        first | done | with_reducible rfl
      simp only [Act.put, List.getElem_toArray, List.getElem_cons_succ, List.getElem_cons_zero, List.setIfInBounds_toArray, List.set_cons_zero, List.set_cons_succ]
      refine wpAnyH_done (by kernel_rfl) ?_ _
      obtain ⟨F5, hB5⟩ := HB5.out
      have HB6 := hid hB5
      have HO6 := hid (HO.out.write nn dt)
      clear hB5 HB5 hH c1 c2 hr4 hr5 hp5 hD4 hk4 hf4 C
      generalize (writeDk m nn dt).1 = cd at *
      generalize (writeDk m nn dt).2 = m5 at *
      have e1 : ((cd : Int) == (cd : Int)) = true := beq_self_eq_true _
      have e2 : ((cd : Int) != (cd : Int)) = false := by rw [bne, e1]; rfl
      go_wp2_with fail
      have HOK := hid HO6.out
      have HBF := hid HB6.out
      obtain ⟨dn, hdn⟩ : ∃ b, m5.down = b := ⟨_, rfl⟩
      have CPd := hid (fun (W : World) (h : Below w5.heap.size w5 W) => pending_any D (HBF.out.then D h) ho HOK.out hN0 (by omega))
      have CDn := hid (fun (W : World) (h : Below w5.heap.size w5 W) => (show Calls Try.prog 25 #[.pointer (some ⟨g, 0, none⟩)] W fun e w' => e = .returned (.bool dn) ∧ Below W.heap.size W w' from by rw [← hdn]; exact (D.downK (HBF.out.then D h).a).mono fun e w' h => ⟨h.1, h.2.2⟩))
      have HDW : Hid (w5.cell? ⟨g2, 5, none⟩ = some (.bool dn)) := by rw [← hdn]; exact hid (docDown HBF.out.b.rep).1
      have hd1 : (dn == dn) = true := beq_self_eq_true _
      have hd2 : (dn != dn) = false := by rw [bne, hd1]; rfl
      clear hdn
      refine wp_region_U [] (by kernel_rfl) (fun _ W => Below w5.heap.size w5 W) (b := []) (by kernel_rfl) ((Below.refl _ _).drew) ?_
      refine wpAnyU_take (i := 0) (v := ?_) (by decide) rfl (by kernel_rfl) (by kernel_rfl) (by kernel_rfl) (fun _ _ _ h => h) (Steady.plain (by kernel_rfl) ?_) ?_
      rotate_left
      · intro b W hS
        have h5 := kept HDW.out hS
        go_simp
        first | done | with_reducible rfl
      simp only [Act.put, List.getElem_toArray, List.getElem_cons_succ, List.getElem_cons_zero, List.setIfInBounds_toArray, List.set_cons_zero, List.set_cons_succ]
      refine wpAnyU_take (i := 1) (v := ?_) (by decide) rfl (by kernel_rfl) (by kernel_rfl) (by kernel_rfl) (fun _ _ _ h => h) (Steady.plain (by kernel_rfl) ?_) ?_
      rotate_left
      · intro b W hS
        have h5 := kept HDW.out hS
        go_simp
        first | done | with_reducible rfl
      simp only [Act.put, List.getElem_toArray, List.getElem_cons_succ, List.getElem_cons_zero, List.setIfInBounds_toArray, List.set_cons_zero, List.set_cons_succ]
      refine wpAnyU_take (i := 2) (v := (.bool true)) (by decide) rfl (by kernel_rfl) (by kernel_rfl) (by kernel_rfl) (fun _ _ _ h => h) (Steady.call (f := 24) (args := #[.pointer (some ⟨g, 0, none⟩), .pointer (some ⟨g2, 0, none⟩)]) (by kernel_rfl) (fun _ => by kernel_rfl) ?_) ?_
      · intro b W hS
        refine (CPd.out W hS).mono ?_
        rintro e w' ⟨he, hb⟩
        exact ⟨he, chain2 hS hS.size hb⟩
      simp only [Act.put, List.getElem_toArray, List.getElem_cons_succ, List.getElem_cons_zero, List.setIfInBounds_toArray, List.set_cons_zero, List.set_cons_succ]
      refine wpAnyU_take (i := 3) (v := ?_) (by decide) rfl (by kernel_rfl) (by kernel_rfl) (by kernel_rfl) (fun _ _ _ h => h) (Steady.plain (by kernel_rfl) ?_) ?_
      rotate_left
      · intro b W hS
        have h5 := kept HDW.out hS
        go_simp
        first | done | with_reducible rfl
      simp only [Act.put, List.getElem_toArray, List.getElem_cons_succ, List.getElem_cons_zero, List.setIfInBounds_toArray, List.set_cons_zero, List.set_cons_succ]
      refine wpAnyU_take (i := 4) (v := ?_) (by decide) rfl (by kernel_rfl) (by kernel_rfl) (by kernel_rfl) (fun _ _ _ h => h) (Steady.plain (by kernel_rfl) ?_) ?_
      rotate_left
      · intro b W hS
        have h5 := kept HDW.out hS
        go_simp
        first | done | with_reducible rfl
      simp only [Act.put, List.getElem_toArray, List.getElem_cons_succ, List.getElem_cons_zero, List.setIfInBounds_toArray, List.set_cons_zero, List.set_cons_succ]
      refine wpAnyU_take (i := 5) (v := ?_) (by decide) rfl (by kernel_rfl) (by kernel_rfl) (by kernel_rfl) (fun _ _ _ h => h) (Steady.plain (by kernel_rfl) ?_) ?_
      rotate_left
      · intro b W hS
        have h5 := kept HDW.out hS
        go_simp
        first | done | with_reducible rfl
      simp only [Act.put, List.getElem_toArray, List.getElem_cons_succ, List.getElem_cons_zero, List.setIfInBounds_toArray, List.set_cons_zero, List.set_cons_succ]
      refine wpAnyU_take (i := 6) (v := (.bool dn)) (by decide) rfl (by kernel_rfl) (by kernel_rfl) (by kernel_rfl) (fun _ _ _ h => h) (Steady.call (f := 25) (args := #[.pointer (some ⟨g, 0, none⟩)]) (by kernel_rfl) (fun _ => by kernel_rfl) ?_) ?_
      · intro b W hS
        refine (CDn.out W hS).mono ?_
        rintro e w' ⟨he, hb⟩
        exact ⟨he, chain2 hS hS.size hb⟩
      simp only [Act.put, List.getElem_toArray, List.getElem_cons_succ, List.getElem_cons_zero, List.setIfInBounds_toArray, List.set_cons_zero, List.set_cons_succ]
      refine wpAnyU_take (i := 7) (v := ?_) (by decide) rfl (by kernel_rfl) (by kernel_rfl) (by kernel_rfl) (fun _ _ _ h => h) (Steady.plain (by kernel_rfl) ?_) ?_
      rotate_left
      · intro b W hS
        have h5 := kept HDW.out hS
        go_simp
        first | done | with_reducible rfl
      simp only [Act.put, List.getElem_toArray, List.getElem_cons_succ, List.getElem_cons_zero, List.setIfInBounds_toArray, List.set_cons_zero, List.set_cons_succ]
      refine wpAnyU_take (i := 8) (v := ?_) (by decide) rfl (by kernel_rfl) (by kernel_rfl) (by kernel_rfl) (fun _ _ _ h => h) (Steady.plain (by kernel_rfl) ?_) ?_
      rotate_left
      · intro b W hS
        have h5 := kept HDW.out hS
        go_simp
        first | done | with_reducible rfl
      simp only [Act.put, List.getElem_toArray, List.getElem_cons_succ, List.getElem_cons_zero, List.setIfInBounds_toArray, List.set_cons_zero, List.set_cons_succ]
      refine wpAnyU_take (i := 9) (v := ?_) (by decide) rfl (by kernel_rfl) (by kernel_rfl) (by kernel_rfl) (fun _ _ _ h => h) (Steady.plain (by kernel_rfl) ?_) ?_
      rotate_left
      · intro b W hS
        have h5 := kept HDW.out hS
        go_simp
        first | done | with_reducible rfl
      simp only [Act.put, List.getElem_toArray, List.getElem_cons_succ, List.getElem_cons_zero, List.setIfInBounds_toArray, List.set_cons_zero, List.set_cons_succ]
      refine wpAnyU_take (i := 10) (v := ?_) (by decide) rfl (by kernel_rfl) (by kernel_rfl) (by kernel_rfl) (fun _ _ _ h => h) (Steady.plain (by kernel_rfl) ?_) ?_
      rotate_left
      · intro b W hS
        have h5 := kept HDW.out hS
        go_simp
        first | done | with_reducible rfl
      simp only [Act.put, List.getElem_toArray, List.getElem_cons_succ, List.getElem_cons_zero, List.setIfInBounds_toArray, List.set_cons_zero, List.set_cons_succ]
      refine wpAnyU_take (i := 11) (v := ?_) (by decide) rfl (by kernel_rfl) (by kernel_rfl) (by kernel_rfl) (fun _ _ _ h => h) (Steady.plain (by kernel_rfl) ?_) ?_
      rotate_left
      · intro b W hS
        have h5 := kept HDW.out hS
        go_simp
        first | done | with_reducible rfl
      simp only [Act.put, List.getElem_toArray, List.getElem_cons_succ, List.getElem_cons_zero, List.setIfInBounds_toArray, List.set_cons_zero, List.set_cons_succ]
      refine wpAnyU_take (i := 12) (v := ?_) (by decide) rfl (by kernel_rfl) (by kernel_rfl) (by kernel_rfl) (fun _ _ _ h => h) (Steady.plain (by kernel_rfl) ?_) ?_
      rotate_left
      · intro b W hS
        have h5 := kept HDW.out hS
        go_simp
        first | done | with_reducible rfl
      simp only [Act.put, List.getElem_toArray, List.getElem_cons_succ, List.getElem_cons_zero, List.setIfInBounds_toArray, List.set_cons_zero, List.set_cons_succ]
      refine wpAnyU_done (b := []) (by kernel_rfl) (by kernel_rfl) ?_ _
      intro W hS
      have HFIN := hid (HBF.out.then D hS)
      clear hS
      go_wp2_with fail
      go_roundw
      case rel => exact ⟨k + 1, F4, F5, m5, hkl, by simp, HOK.out, HFIN.out⟩
      case measure => simp only [intOf]; omega
    by_cases h3 : kd = 3
    · have n1 : (kd == 1) = false := by rw [beq_eq_false_iff_ne]; exact h1
      have d1 : ¬ kd = 1 := h1
      have n2 : (kd == 2) = false := by rw [beq_eq_false_iff_ne]; exact h2
      have d2 : ¬ kd = 2 := h2
      subst h3
      have HO := hid hok
      have C := hid (D.flushK HB1.out.a ho)
      clear hgb
      go_wp2_with fail
      rw [← hW1]
      clear hW1 k0 k1 k2 k3 k4
      refine C.out.mono ?_
      rintro e w4 ⟨rfl, F4, hD4, hk4, hf4⟩
      have HB4 := hid (HB1.out.left hD4 hk4 hf4)
      have hr4 := HBX.out.kept hk4 (fun h => hgF h)
      have y1 : w4.cell? ⟨wr.heap.size, 1, none⟩ = some (.int .i64 nn) := hr4.cell 1
      have y4 : w4.cell? ⟨wr.heap.size, 4, none⟩ = some (.slice ka kp.length kc) := hr4.cell 4
      have C2 := hid (docFlush HB4.out.b.rep HO.out hN0 (by omega))
      clear hD4 hk4 hf4 hr4 C
      go_wp2_with fail
      refine C2.out.mono ?_
      rintro e w5 ⟨rfl, hp5⟩
      obtain ⟨F5, hB5⟩ := HB4.out.right D hp5
      have HB6 := hid hB5
      have HO6 := hid (HO.out.flush)
      clear hp5 hB5 y1 y4 C2
      generalize (flushDk m).1 = cd at *
      generalize (flushDk m).2 = m5 at *
      have e1 : ((cd : Int) == (cd : Int)) = true := beq_self_eq_true _
      have e2 : ((cd : Int) != (cd : Int)) = false := by rw [bne, e1]; rfl
      go_wp2_with fail
      have HOK := hid HO6.out
      have HBF := hid HB6.out
      obtain ⟨dn, hdn⟩ : ∃ b, m5.down = b := ⟨_, rfl⟩
      have CPd := hid (fun (W : World) (h : Below w5.heap.size w5 W) => pending_any D (HBF.out.then D h) ho HOK.out hN0 (by omega))
      have CDn := hid (fun (W : World) (h : Below w5.heap.size w5 W) => (show Calls Try.prog 25 #[.pointer (some ⟨g, 0, none⟩)] W fun e w' => e = .returned (.bool dn) ∧ Below W.heap.size W w' from by rw [← hdn]; exact (D.downK (HBF.out.then D h).a).mono fun e w' h => ⟨h.1, h.2.2⟩))
      have HDW : Hid (w5.cell? ⟨g2, 5, none⟩ = some (.bool dn)) := by rw [← hdn]; exact hid (docDown HBF.out.b.rep).1
      have hd1 : (dn == dn) = true := beq_self_eq_true _
      have hd2 : (dn != dn) = false := by rw [bne, hd1]; rfl
      clear hdn
      refine wp_region_U [] (by kernel_rfl) (fun _ W => Below w5.heap.size w5 W) (b := []) (by kernel_rfl) ((Below.refl _ _).drew) ?_
      refine wpAnyU_take (i := 0) (v := ?_) (by decide) rfl (by kernel_rfl) (by kernel_rfl) (by kernel_rfl) (fun _ _ _ h => h) (Steady.plain (by kernel_rfl) ?_) ?_
      rotate_left
      · intro b W hS
        have h5 := kept HDW.out hS
        go_simp
        first | done | with_reducible rfl
      simp only [Act.put, List.getElem_toArray, List.getElem_cons_succ, List.getElem_cons_zero, List.setIfInBounds_toArray, List.set_cons_zero, List.set_cons_succ]
      refine wpAnyU_take (i := 1) (v := ?_) (by decide) rfl (by kernel_rfl) (by kernel_rfl) (by kernel_rfl) (fun _ _ _ h => h) (Steady.plain (by kernel_rfl) ?_) ?_
      rotate_left
      · intro b W hS
        have h5 := kept HDW.out hS
        go_simp
        first | done | with_reducible rfl
      simp only [Act.put, List.getElem_toArray, List.getElem_cons_succ, List.getElem_cons_zero, List.setIfInBounds_toArray, List.set_cons_zero, List.set_cons_succ]
      refine wpAnyU_take (i := 2) (v := (.bool true)) (by decide) rfl (by kernel_rfl) (by kernel_rfl) (by kernel_rfl) (fun _ _ _ h => h) (Steady.call (f := 24) (args := #[.pointer (some ⟨g, 0, none⟩), .pointer (some ⟨g2, 0, none⟩)]) (by kernel_rfl) (fun _ => by kernel_rfl) ?_) ?_
      · intro b W hS
        refine (CPd.out W hS).mono ?_
        rintro e w' ⟨he, hb⟩
        exact ⟨he, chain2 hS hS.size hb⟩
      simp only [Act.put, List.getElem_toArray, List.getElem_cons_succ, List.getElem_cons_zero, List.setIfInBounds_toArray, List.set_cons_zero, List.set_cons_succ]
      refine wpAnyU_take (i := 3) (v := ?_) (by decide) rfl (by kernel_rfl) (by kernel_rfl) (by kernel_rfl) (fun _ _ _ h => h) (Steady.plain (by kernel_rfl) ?_) ?_
      rotate_left
      · intro b W hS
        have h5 := kept HDW.out hS
        go_simp
        first | done | with_reducible rfl
      simp only [Act.put, List.getElem_toArray, List.getElem_cons_succ, List.getElem_cons_zero, List.setIfInBounds_toArray, List.set_cons_zero, List.set_cons_succ]
      refine wpAnyU_take (i := 4) (v := ?_) (by decide) rfl (by kernel_rfl) (by kernel_rfl) (by kernel_rfl) (fun _ _ _ h => h) (Steady.plain (by kernel_rfl) ?_) ?_
      rotate_left
      · intro b W hS
        have h5 := kept HDW.out hS
        go_simp
        first | done | with_reducible rfl
      simp only [Act.put, List.getElem_toArray, List.getElem_cons_succ, List.getElem_cons_zero, List.setIfInBounds_toArray, List.set_cons_zero, List.set_cons_succ]
      refine wpAnyU_take (i := 5) (v := ?_) (by decide) rfl (by kernel_rfl) (by kernel_rfl) (by kernel_rfl) (fun _ _ _ h => h) (Steady.plain (by kernel_rfl) ?_) ?_
      rotate_left
      · intro b W hS
        have h5 := kept HDW.out hS
        go_simp
        first | done | with_reducible rfl
      simp only [Act.put, List.getElem_toArray, List.getElem_cons_succ, List.getElem_cons_zero, List.setIfInBounds_toArray, List.set_cons_zero, List.set_cons_succ]
      refine wpAnyU_take (i := 6) (v := (.bool dn)) (by decide) rfl (by kernel_rfl) (by kernel_rfl) (by kernel_rfl) (fun _ _ _ h => h) (Steady.call (f := 25) (args := #[.pointer (some ⟨g, 0, none⟩)]) (by kernel_rfl) (fun _ => by kernel_rfl) ?_) ?_
      · intro b W hS
        refine (CDn.out W hS).mono ?_
        rintro e w' ⟨he, hb⟩
        exact ⟨he, chain2 hS hS.size hb⟩
      simp only [Act.put, List.getElem_toArray, List.getElem_cons_succ, List.getElem_cons_zero, List.setIfInBounds_toArray, List.set_cons_zero, List.set_cons_succ]
      refine wpAnyU_take (i := 7) (v := ?_) (by decide) rfl (by kernel_rfl) (by kernel_rfl) (by kernel_rfl) (fun _ _ _ h => h) (Steady.plain (by kernel_rfl) ?_) ?_
      rotate_left
      · intro b W hS
        have h5 := kept HDW.out hS
        go_simp
        first | done | with_reducible rfl
      simp only [Act.put, List.getElem_toArray, List.getElem_cons_succ, List.getElem_cons_zero, List.setIfInBounds_toArray, List.set_cons_zero, List.set_cons_succ]
      refine wpAnyU_take (i := 8) (v := ?_) (by decide) rfl (by kernel_rfl) (by kernel_rfl) (by kernel_rfl) (fun _ _ _ h => h) (Steady.plain (by kernel_rfl) ?_) ?_
      rotate_left
      · intro b W hS
        have h5 := kept HDW.out hS
        go_simp
        first | done | with_reducible rfl
      simp only [Act.put, List.getElem_toArray, List.getElem_cons_succ, List.getElem_cons_zero, List.setIfInBounds_toArray, List.set_cons_zero, List.set_cons_succ]
      refine wpAnyU_take (i := 9) (v := ?_) (by decide) rfl (by kernel_rfl) (by kernel_rfl) (by kernel_rfl) (fun _ _ _ h => h) (Steady.plain (by kernel_rfl) ?_) ?_
      rotate_left
      · intro b W hS
        have h5 := kept HDW.out hS
        go_simp
        first | done | with_reducible rfl
      simp only [Act.put, List.getElem_toArray, List.getElem_cons_succ, List.getElem_cons_zero, List.setIfInBounds_toArray, List.set_cons_zero, List.set_cons_succ]
      refine wpAnyU_take (i := 10) (v := ?_) (by decide) rfl (by kernel_rfl) (by kernel_rfl) (by kernel_rfl) (fun _ _ _ h => h) (Steady.plain (by kernel_rfl) ?_) ?_
      rotate_left
      · intro b W hS
        have h5 := kept HDW.out hS
        go_simp
        first | done | with_reducible rfl
      simp only [Act.put, List.getElem_toArray, List.getElem_cons_succ, List.getElem_cons_zero, List.setIfInBounds_toArray, List.set_cons_zero, List.set_cons_succ]
      refine wpAnyU_take (i := 11) (v := ?_) (by decide) rfl (by kernel_rfl) (by kernel_rfl) (by kernel_rfl) (fun _ _ _ h => h) (Steady.plain (by kernel_rfl) ?_) ?_
      rotate_left
      · intro b W hS
        have h5 := kept HDW.out hS
        go_simp
        first | done | with_reducible rfl
      simp only [Act.put, List.getElem_toArray, List.getElem_cons_succ, List.getElem_cons_zero, List.setIfInBounds_toArray, List.set_cons_zero, List.set_cons_succ]
      refine wpAnyU_take (i := 12) (v := ?_) (by decide) rfl (by kernel_rfl) (by kernel_rfl) (by kernel_rfl) (fun _ _ _ h => h) (Steady.plain (by kernel_rfl) ?_) ?_
      rotate_left
      · intro b W hS
        have h5 := kept HDW.out hS
        go_simp
        first | done | with_reducible rfl
      simp only [Act.put, List.getElem_toArray, List.getElem_cons_succ, List.getElem_cons_zero, List.setIfInBounds_toArray, List.set_cons_zero, List.set_cons_succ]
      refine wpAnyU_done (b := []) (by kernel_rfl) (by kernel_rfl) ?_ _
      intro W hS
      have HFIN := hid (HBF.out.then D hS)
      clear hS
      go_wp2_with fail
      go_roundw
      case rel => exact ⟨k + 1, F4, F5, m5, hkl, by simp, HOK.out, HFIN.out⟩
      case measure => simp only [intOf]; omega
    by_cases h4 : kd = 4
    · have n1 : (kd == 1) = false := by rw [beq_eq_false_iff_ne]; exact h1
      have d1 : ¬ kd = 1 := h1
      have n2 : (kd == 2) = false := by rw [beq_eq_false_iff_ne]; exact h2
      have d2 : ¬ kd = 2 := h2
      have n3 : (kd == 3) = false := by rw [beq_eq_false_iff_ne]; exact h3
      have d3 : ¬ kd = 3 := h3
      subst h4
      have HO := hid hok
      have C := hid (D.badK HB1.out.a ho nn on hI2)
      by_cases hin : 0 ≤ nn ∧ nn < (N : Int)
      · obtain ⟨i, rfl⟩ : ∃ i : Nat, nn = (i : Int) := ⟨nn.toNat, by omega⟩
        have hiN : i < N := by omega
        have hb0 : (badDk m (i : Int) on).1 = 0 := by
          unfold badDk
          rw [if_pos ⟨by omega, by rw [hok.len]; omega⟩]
        rw [hb0] at C
        have r1 : decide ((0 : Int) ≤ (i : Int)) = true := decide_eq_true (by omega)
        have r2 : decide ((i : Int) < (N : Int)) = true := decide_eq_true (by omega)
        have hi0 : (0 : Int) ≤ (i : Int) := by omega
        have hi1 : (i : Int) < (N : Int) := by omega
        clear hgb hin hb0
        go_wp2_with fail
        rw [← hW1]
        clear hW1 k0 k1 k2 k3 k4
        refine C.out.mono ?_
        rintro e w4 ⟨rfl, F4, hD4, hk4, hf4⟩
        have hB4 := HB1.out.left hD4 hk4 hf4
        have hr4 := HBX.out.kept hk4 (fun h => hgF h)
        have y1 : w4.cell? ⟨wr.heap.size, 1, none⟩ = some (.int .i64 (i : Int)) := hr4.cell 1
        have y3 : w4.cell? ⟨wr.heap.size, 3, none⟩ = some (.bool on) := hr4.cell 3
        have HB4 := hid hB4
        have HR4 := hid hr4
        clear hD4 hk4 hf4 hr4 hB4 C
        go_wp2_with fail
        obtain ⟨gv, cv, x2, hfree, ⟨u0, hcell⟩, hFv, hset, hkst⟩ := docBad HB4.out.b.rep HO.out hiN on
        have x2d : w4.drew.cell? ⟨g2, 2, none⟩ = some (.slice (some ⟨gv, 0, none⟩) N cv) := x2
        have HST := hid (And.intro hset hkst)
        have HFV := hid hFv
        clear hset hkst hFv
        refine wp_region_K 9 (by kernel_rfl) (fun W' => Below w4.heap.size w4 W') ((Below.refl _ _).drew) (fun hH => ?_)
        refine wpAnyK_take (i := 0) (v := ?_) rfl (by kernel_rfl) (by kernel_rfl) (by kernel_rfl) (by decide) (by kernel_rfl) (fun _ _ _ h => h) (Or.inl ⟨by kernel_rfl, ?_⟩) hH ?_
        rotate_left
        · intro W hS
          have h1 := kept y1 hS
          have h3 := kept y3 hS
          have h2 := kept x2 hS
          go_simp
          first | done | with_reducible rfl
        simp only [Act.put, List.getElem_toArray, List.getElem_cons_succ, List.getElem_cons_zero, List.setIfInBounds_toArray, List.set_cons_zero, List.set_cons_succ]
        refine wpAnyK_take (i := 1) (v := ?_) rfl (by kernel_rfl) (by kernel_rfl) (by kernel_rfl) (by decide) (by kernel_rfl) (fun _ _ _ h => h) (Or.inl ⟨by kernel_rfl, ?_⟩) hH ?_
        rotate_left
        · intro W hS
          have h1 := kept y1 hS
          have h3 := kept y3 hS
          have h2 := kept x2 hS
          go_simp
          first | done | with_reducible rfl
        simp only [Act.put, List.getElem_toArray, List.getElem_cons_succ, List.getElem_cons_zero, List.setIfInBounds_toArray, List.set_cons_zero, List.set_cons_succ]
        refine wpAnyK_take (i := 2) (v := ?_) rfl (by kernel_rfl) (by kernel_rfl) (by kernel_rfl) (by decide) (by kernel_rfl) (fun _ _ _ h => h) (Or.inl ⟨by kernel_rfl, ?_⟩) hH ?_
        rotate_left
        · intro W hS
          have h1 := kept y1 hS
          have h3 := kept y3 hS
          have h2 := kept x2 hS
          go_simp
          first | done | with_reducible rfl
        simp only [Act.put, List.getElem_toArray, List.getElem_cons_succ, List.getElem_cons_zero, List.setIfInBounds_toArray, List.set_cons_zero, List.set_cons_succ]
        refine wpAnyK_take (i := 3) (v := ?_) rfl (by kernel_rfl) (by kernel_rfl) (by kernel_rfl) (by decide) (by kernel_rfl) (fun _ _ _ h => h) (Or.inl ⟨by kernel_rfl, ?_⟩) hH ?_
        rotate_left
        · intro W hS
          have h1 := kept y1 hS
          have h3 := kept y3 hS
          have h2 := kept x2 hS
          go_simp
          first | done | with_reducible rfl
        simp only [Act.put, List.getElem_toArray, List.getElem_cons_succ, List.getElem_cons_zero, List.setIfInBounds_toArray, List.set_cons_zero, List.set_cons_succ]
        refine wpAnyK_take (i := 4) (v := ?_) rfl (by kernel_rfl) (by kernel_rfl) (by kernel_rfl) (by decide) (by kernel_rfl) (fun _ _ _ h => h) (Or.inl ⟨by kernel_rfl, ?_⟩) hH ?_
        rotate_left
        · intro W hS
          have h1 := kept y1 hS
          have h3 := kept y3 hS
          have h2 := kept x2 hS
          go_simp
          first | done | with_reducible rfl
        simp only [Act.put, List.getElem_toArray, List.getElem_cons_succ, List.getElem_cons_zero, List.setIfInBounds_toArray, List.set_cons_zero, List.set_cons_succ]
        refine wpAnyK_take (i := 5) (v := ?_) rfl (by kernel_rfl) (by kernel_rfl) (by kernel_rfl) (by decide) (by kernel_rfl) (fun _ _ _ h => h) (Or.inl ⟨by kernel_rfl, ?_⟩) hH ?_
        rotate_left
        · intro W hS
          have h1 := kept y1 hS
          have h3 := kept y3 hS
          have h2 := kept x2 hS
          go_simp
          first | done | with_reducible rfl
        simp only [Act.put, List.getElem_toArray, List.getElem_cons_succ, List.getElem_cons_zero, List.setIfInBounds_toArray, List.set_cons_zero, List.set_cons_succ]
        refine wpAnyK_take (i := 6) (v := ?_) rfl (by kernel_rfl) (by kernel_rfl) (by kernel_rfl) (by decide) (by kernel_rfl) (fun _ _ _ h => h) (Or.inl ⟨by kernel_rfl, ?_⟩) hH ?_
        rotate_left
        · intro W hS
          have h1 := kept y1 hS
          have h3 := kept y3 hS
          have h2 := kept x2 hS
          go_simp
          first | done | with_reducible rfl
        simp only [Act.put, List.getElem_toArray, List.getElem_cons_succ, List.getElem_cons_zero, List.setIfInBounds_toArray, List.set_cons_zero, List.set_cons_succ]
        refine wpAnyK_take (i := 7) (v := ?_) rfl (by kernel_rfl) (by kernel_rfl) (by kernel_rfl) (by decide) (by kernel_rfl) (fun _ _ _ h => h) (Or.inl ⟨by kernel_rfl, ?_⟩) hH ?_
        rotate_left
        · intro W hS
          have h1 := kept y1 hS
          have h3 := kept y3 hS
          have h2 := kept x2 hS
          go_simp
          first | done | with_reducible rfl
        simp only [Act.put, List.getElem_toArray, List.getElem_cons_succ, List.getElem_cons_zero, List.setIfInBounds_toArray, List.set_cons_zero, List.set_cons_succ]
        refine wpAnyK_take (i := 8) (v := ?_) rfl (by kernel_rfl) (by kernel_rfl) (by kernel_rfl) (by decide) (by kernel_rfl) (fun _ _ _ h => h) (Or.inl ⟨by kernel_rfl, ?_⟩) hH ?_
        rotate_left
        · intro W hS
          have h1 := kept y1 hS
          have h3 := kept y3 hS
          have h2 := kept x2 hS
          go_simp
          first | done | with_reducible rfl
        simp only [Act.put, List.getElem_toArray, List.getElem_cons_succ, List.getElem_cons_zero, List.setIfInBounds_toArray, List.set_cons_zero, List.set_cons_succ]
        refine wpAnyK_last (by kernel_rfl) rfl (fun K hK => ?_)
        go_simp
        refine hK.out _ _ ?_
        clear hK K
        try simp only [Act.put, List.getElem_toArray, List.getElem_cons_succ, List.getElem_cons_zero, List.setIfInBounds_toArray, List.set_cons_zero, List.set_cons_succ]
        refine wpAnyK_done (by kernel_rfl) ?_ _
        obtain ⟨w5, hw5⟩ : ∃ W, (w4.setCell ⟨gv, i, none⟩ (.bool on)).drew = W := ⟨_, rfl⟩
        try rw [hw5]
        have hb5 : Below (w4.setCell ⟨gv, i, none⟩ (.bool on)).heap.size (w4.setCell ⟨gv, i, none⟩ (.bool on)) w5 := by rw [← hw5]; exact (Below.refl _ _).drew
        have hp5 : WritPost Rd15 w4 g2 F2 (badDk m (i : Int) on).2 (.returned (.bool true)) w5 := ⟨F2, rd_kept HST.out.1 (Kept.of_below (X := fun _ => False) hb5) (fun _ _ h => h), HST.out.2.then hb5, fun x hx => .inl hx⟩
        obtain ⟨F5, hB5⟩ := HB4.out.right D hp5
        have HB6 := hid hB5
        have HO6 := hid (HO.out.turned (i : Int) on)
        clear hB5 hp5 hb5 hw5 x2 x2d hfree hcell hH y1 y3
        generalize (badDk m (i : Int) on).2 = m5 at *
        go_wp2_with fail
        have HOK := hid HO6.out
        have HBF := hid HB6.out
        obtain ⟨dn, hdn⟩ : ∃ b, m5.down = b := ⟨_, rfl⟩
        have CPd := hid (fun (W : World) (h : Below w5.heap.size w5 W) => pending_any D (HBF.out.then D h) ho HOK.out hN0 (by omega))
        have CDn := hid (fun (W : World) (h : Below w5.heap.size w5 W) => (show Calls Try.prog 25 #[.pointer (some ⟨g, 0, none⟩)] W fun e w' => e = .returned (.bool dn) ∧ Below W.heap.size W w' from by rw [← hdn]; exact (D.downK (HBF.out.then D h).a).mono fun e w' h => ⟨h.1, h.2.2⟩))
        have HDW : Hid (w5.cell? ⟨g2, 5, none⟩ = some (.bool dn)) := by rw [← hdn]; exact hid (docDown HBF.out.b.rep).1
        have hd1 : (dn == dn) = true := beq_self_eq_true _
        have hd2 : (dn != dn) = false := by rw [bne, hd1]; rfl
        clear hdn
        refine wp_region_U [] (by kernel_rfl) (fun _ W => Below w5.heap.size w5 W) (b := []) (by kernel_rfl) ((Below.refl _ _).drew) ?_
        refine wpAnyU_take (i := 0) (v := ?_) (by decide) rfl (by kernel_rfl) (by kernel_rfl) (by kernel_rfl) (fun _ _ _ h => h) (Steady.plain (by kernel_rfl) ?_) ?_
        rotate_left
        · intro b W hS
          have h5 := kept HDW.out hS
          go_simp
          first | done | with_reducible rfl
        simp only [Act.put, List.getElem_toArray, List.getElem_cons_succ, List.getElem_cons_zero, List.setIfInBounds_toArray, List.set_cons_zero, List.set_cons_succ]
        refine wpAnyU_take (i := 1) (v := ?_) (by decide) rfl (by kernel_rfl) (by kernel_rfl) (by kernel_rfl) (fun _ _ _ h => h) (Steady.plain (by kernel_rfl) ?_) ?_
        rotate_left
        · intro b W hS
          have h5 := kept HDW.out hS
          go_simp
          first | done | with_reducible rfl
        simp only [Act.put, List.getElem_toArray, List.getElem_cons_succ, List.getElem_cons_zero, List.setIfInBounds_toArray, List.set_cons_zero, List.set_cons_succ]
        refine wpAnyU_take (i := 2) (v := (.bool true)) (by decide) rfl (by kernel_rfl) (by kernel_rfl) (by kernel_rfl) (fun _ _ _ h => h) (Steady.call (f := 24) (args := #[.pointer (some ⟨g, 0, none⟩), .pointer (some ⟨g2, 0, none⟩)]) (by kernel_rfl) (fun _ => by kernel_rfl) ?_) ?_
        · intro b W hS
          refine (CPd.out W hS).mono ?_
          rintro e w' ⟨he, hb⟩
          exact ⟨he, chain2 hS hS.size hb⟩
        simp only [Act.put, List.getElem_toArray, List.getElem_cons_succ, List.getElem_cons_zero, List.setIfInBounds_toArray, List.set_cons_zero, List.set_cons_succ]
        refine wpAnyU_take (i := 3) (v := ?_) (by decide) rfl (by kernel_rfl) (by kernel_rfl) (by kernel_rfl) (fun _ _ _ h => h) (Steady.plain (by kernel_rfl) ?_) ?_
        rotate_left
        · intro b W hS
          have h5 := kept HDW.out hS
          go_simp
          first | done | with_reducible rfl
        simp only [Act.put, List.getElem_toArray, List.getElem_cons_succ, List.getElem_cons_zero, List.setIfInBounds_toArray, List.set_cons_zero, List.set_cons_succ]
        refine wpAnyU_take (i := 4) (v := ?_) (by decide) rfl (by kernel_rfl) (by kernel_rfl) (by kernel_rfl) (fun _ _ _ h => h) (Steady.plain (by kernel_rfl) ?_) ?_
        rotate_left
        · intro b W hS
          have h5 := kept HDW.out hS
          go_simp
          first | done | with_reducible rfl
        simp only [Act.put, List.getElem_toArray, List.getElem_cons_succ, List.getElem_cons_zero, List.setIfInBounds_toArray, List.set_cons_zero, List.set_cons_succ]
        refine wpAnyU_take (i := 5) (v := ?_) (by decide) rfl (by kernel_rfl) (by kernel_rfl) (by kernel_rfl) (fun _ _ _ h => h) (Steady.plain (by kernel_rfl) ?_) ?_
        rotate_left
        · intro b W hS
          have h5 := kept HDW.out hS
          go_simp
          first | done | with_reducible rfl
        simp only [Act.put, List.getElem_toArray, List.getElem_cons_succ, List.getElem_cons_zero, List.setIfInBounds_toArray, List.set_cons_zero, List.set_cons_succ]
        refine wpAnyU_take (i := 6) (v := (.bool dn)) (by decide) rfl (by kernel_rfl) (by kernel_rfl) (by kernel_rfl) (fun _ _ _ h => h) (Steady.call (f := 25) (args := #[.pointer (some ⟨g, 0, none⟩)]) (by kernel_rfl) (fun _ => by kernel_rfl) ?_) ?_
        · intro b W hS
          refine (CDn.out W hS).mono ?_
          rintro e w' ⟨he, hb⟩
          exact ⟨he, chain2 hS hS.size hb⟩
        simp only [Act.put, List.getElem_toArray, List.getElem_cons_succ, List.getElem_cons_zero, List.setIfInBounds_toArray, List.set_cons_zero, List.set_cons_succ]
        refine wpAnyU_take (i := 7) (v := ?_) (by decide) rfl (by kernel_rfl) (by kernel_rfl) (by kernel_rfl) (fun _ _ _ h => h) (Steady.plain (by kernel_rfl) ?_) ?_
        rotate_left
        · intro b W hS
          have h5 := kept HDW.out hS
          go_simp
          first | done | with_reducible rfl
        simp only [Act.put, List.getElem_toArray, List.getElem_cons_succ, List.getElem_cons_zero, List.setIfInBounds_toArray, List.set_cons_zero, List.set_cons_succ]
        refine wpAnyU_take (i := 8) (v := ?_) (by decide) rfl (by kernel_rfl) (by kernel_rfl) (by kernel_rfl) (fun _ _ _ h => h) (Steady.plain (by kernel_rfl) ?_) ?_
        rotate_left
        · intro b W hS
          have h5 := kept HDW.out hS
          go_simp
          first | done | with_reducible rfl
        simp only [Act.put, List.getElem_toArray, List.getElem_cons_succ, List.getElem_cons_zero, List.setIfInBounds_toArray, List.set_cons_zero, List.set_cons_succ]
        refine wpAnyU_take (i := 9) (v := ?_) (by decide) rfl (by kernel_rfl) (by kernel_rfl) (by kernel_rfl) (fun _ _ _ h => h) (Steady.plain (by kernel_rfl) ?_) ?_
        rotate_left
        · intro b W hS
          have h5 := kept HDW.out hS
          go_simp
          first | done | with_reducible rfl
        simp only [Act.put, List.getElem_toArray, List.getElem_cons_succ, List.getElem_cons_zero, List.setIfInBounds_toArray, List.set_cons_zero, List.set_cons_succ]
        refine wpAnyU_take (i := 10) (v := ?_) (by decide) rfl (by kernel_rfl) (by kernel_rfl) (by kernel_rfl) (fun _ _ _ h => h) (Steady.plain (by kernel_rfl) ?_) ?_
        rotate_left
        · intro b W hS
          have h5 := kept HDW.out hS
          go_simp
          first | done | with_reducible rfl
        simp only [Act.put, List.getElem_toArray, List.getElem_cons_succ, List.getElem_cons_zero, List.setIfInBounds_toArray, List.set_cons_zero, List.set_cons_succ]
        refine wpAnyU_take (i := 11) (v := ?_) (by decide) rfl (by kernel_rfl) (by kernel_rfl) (by kernel_rfl) (fun _ _ _ h => h) (Steady.plain (by kernel_rfl) ?_) ?_
        rotate_left
        · intro b W hS
          have h5 := kept HDW.out hS
          go_simp
          first | done | with_reducible rfl
        simp only [Act.put, List.getElem_toArray, List.getElem_cons_succ, List.getElem_cons_zero, List.setIfInBounds_toArray, List.set_cons_zero, List.set_cons_succ]
        refine wpAnyU_take (i := 12) (v := ?_) (by decide) rfl (by kernel_rfl) (by kernel_rfl) (by kernel_rfl) (fun _ _ _ h => h) (Steady.plain (by kernel_rfl) ?_) ?_
        rotate_left
        · intro b W hS
          have h5 := kept HDW.out hS
          go_simp
          first | done | with_reducible rfl
        simp only [Act.put, List.getElem_toArray, List.getElem_cons_succ, List.getElem_cons_zero, List.setIfInBounds_toArray, List.set_cons_zero, List.set_cons_succ]
        refine wpAnyU_done (b := []) (by kernel_rfl) (by kernel_rfl) ?_ _
        intro W hS
        have HFIN := hid (HBF.out.then D hS)
        clear hS
        go_wp2_with fail
        go_roundw
        case rel => exact ⟨k + 1, F4, F5, m5, hkl, by simp, HOK.out, HFIN.out⟩
        case measure => simp only [intOf]; omega
      · have hb0 : badDk m nn on = (11, m) := by
          unfold badDk
          rw [if_neg (fun hh => hin ⟨hh.1, by have := hh.2; rw [hok.len] at this; exact this⟩)]
        rw [hb0] at C
        obtain ⟨r1, hr1⟩ : ∃ b, decide ((0 : Int) ≤ nn) = b := ⟨_, rfl⟩
        obtain ⟨r2, hr2⟩ : ∃ b, decide (nn < (N : Int)) = b := ⟨_, rfl⟩
        have HR12 := hid (show (r1 && r2) = false by
          rw [← hr1, ← hr2, Bool.and_eq_false_iff, decide_eq_false_iff_not, decide_eq_false_iff_not]; omega)
        clear hgb hin hb0
        go_wp2_with fail
        rw [← hW1]
        clear hW1 k0 k1 k2 k3 k4
        refine C.out.mono ?_
        rintro e w4 ⟨rfl, F4, hD4, hk4, hf4⟩
        have hB4 := HB1.out.left hD4 hk4 hf4
        have hr4 := HBX.out.kept hk4 (fun h => hgF h)
        have y1 : w4.cell? ⟨wr.heap.size, 1, none⟩ = some (.int .i64 nn) := hr4.cell 1
        have HB4 := hid hB4
        clear hD4 hk4 hf4 hr4 hB4 C
        cases r1 <;> cases r2 <;> first
          | (exfalso; have h := HR12.out; revert h; decide)
          | skip
        all_goals
          go_wp2_with fail
          have HOK := hid HO.out
          have HBF := hid HB4.out
          obtain ⟨dn, hdn⟩ : ∃ b, m.down = b := ⟨_, rfl⟩
          have CPd := hid (fun (W : World) (h : Below w4.heap.size w4 W) => pending_any D (HBF.out.then D h) ho HOK.out hN0 (by omega))
          have CDn := hid (fun (W : World) (h : Below w4.heap.size w4 W) => (show Calls Try.prog 25 #[.pointer (some ⟨g, 0, none⟩)] W fun e w' => e = .returned (.bool dn) ∧ Below W.heap.size W w' from by rw [← hdn]; exact (D.downK (HBF.out.then D h).a).mono fun e w' h => ⟨h.1, h.2.2⟩))
          have HDW : Hid (w4.cell? ⟨g2, 5, none⟩ = some (.bool dn)) := by rw [← hdn]; exact hid (docDown HBF.out.b.rep).1
          have hd1 : (dn == dn) = true := beq_self_eq_true _
          have hd2 : (dn != dn) = false := by rw [bne, hd1]; rfl
          clear hdn
          refine wp_region_U [] (by kernel_rfl) (fun _ W => Below w4.heap.size w4 W) (b := []) (by kernel_rfl) ((Below.refl _ _).drew) ?_
          refine wpAnyU_take (i := 0) (v := ?_) (by decide) rfl (by kernel_rfl) (by kernel_rfl) (by kernel_rfl) (fun _ _ _ h => h) (Steady.plain (by kernel_rfl) ?_) ?_
          rotate_left
          · intro b W hS
            have h5 := kept HDW.out hS
            go_simp
            first | done | with_reducible rfl
          simp only [Act.put, List.getElem_toArray, List.getElem_cons_succ, List.getElem_cons_zero, List.setIfInBounds_toArray, List.set_cons_zero, List.set_cons_succ]
          refine wpAnyU_take (i := 1) (v := ?_) (by decide) rfl (by kernel_rfl) (by kernel_rfl) (by kernel_rfl) (fun _ _ _ h => h) (Steady.plain (by kernel_rfl) ?_) ?_
          rotate_left
          · intro b W hS
            have h5 := kept HDW.out hS
            go_simp
            first | done | with_reducible rfl
          simp only [Act.put, List.getElem_toArray, List.getElem_cons_succ, List.getElem_cons_zero, List.setIfInBounds_toArray, List.set_cons_zero, List.set_cons_succ]
          refine wpAnyU_take (i := 2) (v := (.bool true)) (by decide) rfl (by kernel_rfl) (by kernel_rfl) (by kernel_rfl) (fun _ _ _ h => h) (Steady.call (f := 24) (args := #[.pointer (some ⟨g, 0, none⟩), .pointer (some ⟨g2, 0, none⟩)]) (by kernel_rfl) (fun _ => by kernel_rfl) ?_) ?_
          · intro b W hS
            refine (CPd.out W hS).mono ?_
            rintro e w' ⟨he, hb⟩
            exact ⟨he, chain2 hS hS.size hb⟩
          simp only [Act.put, List.getElem_toArray, List.getElem_cons_succ, List.getElem_cons_zero, List.setIfInBounds_toArray, List.set_cons_zero, List.set_cons_succ]
          refine wpAnyU_take (i := 3) (v := ?_) (by decide) rfl (by kernel_rfl) (by kernel_rfl) (by kernel_rfl) (fun _ _ _ h => h) (Steady.plain (by kernel_rfl) ?_) ?_
          rotate_left
          · intro b W hS
            have h5 := kept HDW.out hS
            go_simp
            first | done | with_reducible rfl
          simp only [Act.put, List.getElem_toArray, List.getElem_cons_succ, List.getElem_cons_zero, List.setIfInBounds_toArray, List.set_cons_zero, List.set_cons_succ]
          refine wpAnyU_take (i := 4) (v := ?_) (by decide) rfl (by kernel_rfl) (by kernel_rfl) (by kernel_rfl) (fun _ _ _ h => h) (Steady.plain (by kernel_rfl) ?_) ?_
          rotate_left
          · intro b W hS
            have h5 := kept HDW.out hS
            go_simp
            first | done | with_reducible rfl
          simp only [Act.put, List.getElem_toArray, List.getElem_cons_succ, List.getElem_cons_zero, List.setIfInBounds_toArray, List.set_cons_zero, List.set_cons_succ]
          refine wpAnyU_take (i := 5) (v := ?_) (by decide) rfl (by kernel_rfl) (by kernel_rfl) (by kernel_rfl) (fun _ _ _ h => h) (Steady.plain (by kernel_rfl) ?_) ?_
          rotate_left
          · intro b W hS
            have h5 := kept HDW.out hS
            go_simp
            first | done | with_reducible rfl
          simp only [Act.put, List.getElem_toArray, List.getElem_cons_succ, List.getElem_cons_zero, List.setIfInBounds_toArray, List.set_cons_zero, List.set_cons_succ]
          refine wpAnyU_take (i := 6) (v := (.bool dn)) (by decide) rfl (by kernel_rfl) (by kernel_rfl) (by kernel_rfl) (fun _ _ _ h => h) (Steady.call (f := 25) (args := #[.pointer (some ⟨g, 0, none⟩)]) (by kernel_rfl) (fun _ => by kernel_rfl) ?_) ?_
          · intro b W hS
            refine (CDn.out W hS).mono ?_
            rintro e w' ⟨he, hb⟩
            exact ⟨he, chain2 hS hS.size hb⟩
          simp only [Act.put, List.getElem_toArray, List.getElem_cons_succ, List.getElem_cons_zero, List.setIfInBounds_toArray, List.set_cons_zero, List.set_cons_succ]
          refine wpAnyU_take (i := 7) (v := ?_) (by decide) rfl (by kernel_rfl) (by kernel_rfl) (by kernel_rfl) (fun _ _ _ h => h) (Steady.plain (by kernel_rfl) ?_) ?_
          rotate_left
          · intro b W hS
            have h5 := kept HDW.out hS
            go_simp
            first | done | with_reducible rfl
          simp only [Act.put, List.getElem_toArray, List.getElem_cons_succ, List.getElem_cons_zero, List.setIfInBounds_toArray, List.set_cons_zero, List.set_cons_succ]
          refine wpAnyU_take (i := 8) (v := ?_) (by decide) rfl (by kernel_rfl) (by kernel_rfl) (by kernel_rfl) (fun _ _ _ h => h) (Steady.plain (by kernel_rfl) ?_) ?_
          rotate_left
          · intro b W hS
            have h5 := kept HDW.out hS
            go_simp
            first | done | with_reducible rfl
          simp only [Act.put, List.getElem_toArray, List.getElem_cons_succ, List.getElem_cons_zero, List.setIfInBounds_toArray, List.set_cons_zero, List.set_cons_succ]
          refine wpAnyU_take (i := 9) (v := ?_) (by decide) rfl (by kernel_rfl) (by kernel_rfl) (by kernel_rfl) (fun _ _ _ h => h) (Steady.plain (by kernel_rfl) ?_) ?_
          rotate_left
          · intro b W hS
            have h5 := kept HDW.out hS
            go_simp
            first | done | with_reducible rfl
          simp only [Act.put, List.getElem_toArray, List.getElem_cons_succ, List.getElem_cons_zero, List.setIfInBounds_toArray, List.set_cons_zero, List.set_cons_succ]
          refine wpAnyU_take (i := 10) (v := ?_) (by decide) rfl (by kernel_rfl) (by kernel_rfl) (by kernel_rfl) (fun _ _ _ h => h) (Steady.plain (by kernel_rfl) ?_) ?_
          rotate_left
          · intro b W hS
            have h5 := kept HDW.out hS
            go_simp
            first | done | with_reducible rfl
          simp only [Act.put, List.getElem_toArray, List.getElem_cons_succ, List.getElem_cons_zero, List.setIfInBounds_toArray, List.set_cons_zero, List.set_cons_succ]
          refine wpAnyU_take (i := 11) (v := ?_) (by decide) rfl (by kernel_rfl) (by kernel_rfl) (by kernel_rfl) (fun _ _ _ h => h) (Steady.plain (by kernel_rfl) ?_) ?_
          rotate_left
          · intro b W hS
            have h5 := kept HDW.out hS
            go_simp
            first | done | with_reducible rfl
          simp only [Act.put, List.getElem_toArray, List.getElem_cons_succ, List.getElem_cons_zero, List.setIfInBounds_toArray, List.set_cons_zero, List.set_cons_succ]
          refine wpAnyU_take (i := 12) (v := ?_) (by decide) rfl (by kernel_rfl) (by kernel_rfl) (by kernel_rfl) (fun _ _ _ h => h) (Steady.plain (by kernel_rfl) ?_) ?_
          rotate_left
          · intro b W hS
            have h5 := kept HDW.out hS
            go_simp
            first | done | with_reducible rfl
          simp only [Act.put, List.getElem_toArray, List.getElem_cons_succ, List.getElem_cons_zero, List.setIfInBounds_toArray, List.set_cons_zero, List.set_cons_succ]
          refine wpAnyU_done (b := []) (by kernel_rfl) (by kernel_rfl) ?_ _
          intro W hS
          have HFIN := hid (HBF.out.then D hS)
          clear hS
          go_wp2_with fail
          go_roundw
          case rel => exact ⟨k + 1, F4, F2, m, hkl, by simp, HOK.out, HFIN.out⟩
          case measure => simp only [intOf]; omega
    by_cases h5 : kd = 5
    · have n1 : (kd == 1) = false := by rw [beq_eq_false_iff_ne]; exact h1
      have d1 : ¬ kd = 1 := h1
      have n2 : (kd == 2) = false := by rw [beq_eq_false_iff_ne]; exact h2
      have d2 : ¬ kd = 2 := h2
      have n3 : (kd == 3) = false := by rw [beq_eq_false_iff_ne]; exact h3
      have d3 : ¬ kd = 3 := h3
      have n4 : (kd == 4) = false := by rw [beq_eq_false_iff_ne]; exact h4
      have d4 : ¬ kd = 4 := h4
      subst h5
      have HO := hid hok
      have C := hid (D.armK HB1.out.a ho nn hI2)
      clear hgb
      go_wp2_with fail
      rw [← hW1]
      clear hW1 k0 k1 k2 k3 k4
      refine C.out.mono ?_
      rintro e w4 ⟨⟨u, rfl⟩, F4, hD4, hk4, hf4⟩
      have HB4 := hid (HB1.out.left hD4 hk4 hf4)
      have hr4 := HBX.out.kept hk4 (fun h => hgF h)
      have y1 : w4.cell? ⟨wr.heap.size, 1, none⟩ = some (.int .i64 nn) := hr4.cell 1
      have y4 : w4.cell? ⟨wr.heap.size, 4, none⟩ = some (.slice ka kp.length kc) := hr4.cell 4
      have C2 := hid (docArm HB4.out.b.rep nn hI2.2)
      clear hD4 hk4 hf4 hr4 C
      go_wp2_with fail
      refine C2.out.mono ?_
      rintro e w5 ⟨⟨u2, rfl⟩, hp5⟩
      obtain ⟨F5, hB5⟩ := HB4.out.right D hp5
      have HB6 := hid hB5
      have HO6 := hid (HO.out.armed nn)
      clear hp5 hB5 y1 y4 C2
      generalize armDk m nn = m5 at *
      go_wp2_with fail
      have HOK := hid HO6.out
      have HBF := hid HB6.out
      obtain ⟨dn, hdn⟩ : ∃ b, m5.down = b := ⟨_, rfl⟩
      have CPd := hid (fun (W : World) (h : Below w5.heap.size w5 W) => pending_any D (HBF.out.then D h) ho HOK.out hN0 (by omega))
      have CDn := hid (fun (W : World) (h : Below w5.heap.size w5 W) => (show Calls Try.prog 25 #[.pointer (some ⟨g, 0, none⟩)] W fun e w' => e = .returned (.bool dn) ∧ Below W.heap.size W w' from by rw [← hdn]; exact (D.downK (HBF.out.then D h).a).mono fun e w' h => ⟨h.1, h.2.2⟩))
      have HDW : Hid (w5.cell? ⟨g2, 5, none⟩ = some (.bool dn)) := by rw [← hdn]; exact hid (docDown HBF.out.b.rep).1
      have hd1 : (dn == dn) = true := beq_self_eq_true _
      have hd2 : (dn != dn) = false := by rw [bne, hd1]; rfl
      clear hdn
      refine wp_region_U [] (by kernel_rfl) (fun _ W => Below w5.heap.size w5 W) (b := []) (by kernel_rfl) ((Below.refl _ _).drew) ?_
      refine wpAnyU_take (i := 0) (v := ?_) (by decide) rfl (by kernel_rfl) (by kernel_rfl) (by kernel_rfl) (fun _ _ _ h => h) (Steady.plain (by kernel_rfl) ?_) ?_
      rotate_left
      · intro b W hS
        have h5 := kept HDW.out hS
        go_simp
        first | done | with_reducible rfl
      simp only [Act.put, List.getElem_toArray, List.getElem_cons_succ, List.getElem_cons_zero, List.setIfInBounds_toArray, List.set_cons_zero, List.set_cons_succ]
      refine wpAnyU_take (i := 1) (v := ?_) (by decide) rfl (by kernel_rfl) (by kernel_rfl) (by kernel_rfl) (fun _ _ _ h => h) (Steady.plain (by kernel_rfl) ?_) ?_
      rotate_left
      · intro b W hS
        have h5 := kept HDW.out hS
        go_simp
        first | done | with_reducible rfl
      simp only [Act.put, List.getElem_toArray, List.getElem_cons_succ, List.getElem_cons_zero, List.setIfInBounds_toArray, List.set_cons_zero, List.set_cons_succ]
      refine wpAnyU_take (i := 2) (v := (.bool true)) (by decide) rfl (by kernel_rfl) (by kernel_rfl) (by kernel_rfl) (fun _ _ _ h => h) (Steady.call (f := 24) (args := #[.pointer (some ⟨g, 0, none⟩), .pointer (some ⟨g2, 0, none⟩)]) (by kernel_rfl) (fun _ => by kernel_rfl) ?_) ?_
      · intro b W hS
        refine (CPd.out W hS).mono ?_
        rintro e w' ⟨he, hb⟩
        exact ⟨he, chain2 hS hS.size hb⟩
      simp only [Act.put, List.getElem_toArray, List.getElem_cons_succ, List.getElem_cons_zero, List.setIfInBounds_toArray, List.set_cons_zero, List.set_cons_succ]
      refine wpAnyU_take (i := 3) (v := ?_) (by decide) rfl (by kernel_rfl) (by kernel_rfl) (by kernel_rfl) (fun _ _ _ h => h) (Steady.plain (by kernel_rfl) ?_) ?_
      rotate_left
      · intro b W hS
        have h5 := kept HDW.out hS
        go_simp
        first | done | with_reducible rfl
      simp only [Act.put, List.getElem_toArray, List.getElem_cons_succ, List.getElem_cons_zero, List.setIfInBounds_toArray, List.set_cons_zero, List.set_cons_succ]
      refine wpAnyU_take (i := 4) (v := ?_) (by decide) rfl (by kernel_rfl) (by kernel_rfl) (by kernel_rfl) (fun _ _ _ h => h) (Steady.plain (by kernel_rfl) ?_) ?_
      rotate_left
      · intro b W hS
        have h5 := kept HDW.out hS
        go_simp
        first | done | with_reducible rfl
      simp only [Act.put, List.getElem_toArray, List.getElem_cons_succ, List.getElem_cons_zero, List.setIfInBounds_toArray, List.set_cons_zero, List.set_cons_succ]
      refine wpAnyU_take (i := 5) (v := ?_) (by decide) rfl (by kernel_rfl) (by kernel_rfl) (by kernel_rfl) (fun _ _ _ h => h) (Steady.plain (by kernel_rfl) ?_) ?_
      rotate_left
      · intro b W hS
        have h5 := kept HDW.out hS
        go_simp
        first | done | with_reducible rfl
      simp only [Act.put, List.getElem_toArray, List.getElem_cons_succ, List.getElem_cons_zero, List.setIfInBounds_toArray, List.set_cons_zero, List.set_cons_succ]
      refine wpAnyU_take (i := 6) (v := (.bool dn)) (by decide) rfl (by kernel_rfl) (by kernel_rfl) (by kernel_rfl) (fun _ _ _ h => h) (Steady.call (f := 25) (args := #[.pointer (some ⟨g, 0, none⟩)]) (by kernel_rfl) (fun _ => by kernel_rfl) ?_) ?_
      · intro b W hS
        refine (CDn.out W hS).mono ?_
        rintro e w' ⟨he, hb⟩
        exact ⟨he, chain2 hS hS.size hb⟩
      simp only [Act.put, List.getElem_toArray, List.getElem_cons_succ, List.getElem_cons_zero, List.setIfInBounds_toArray, List.set_cons_zero, List.set_cons_succ]
      refine wpAnyU_take (i := 7) (v := ?_) (by decide) rfl (by kernel_rfl) (by kernel_rfl) (by kernel_rfl) (fun _ _ _ h => h) (Steady.plain (by kernel_rfl) ?_) ?_
      rotate_left
      · intro b W hS
        have h5 := kept HDW.out hS
        go_simp
        first | done | with_reducible rfl
      simp only [Act.put, List.getElem_toArray, List.getElem_cons_succ, List.getElem_cons_zero, List.setIfInBounds_toArray, List.set_cons_zero, List.set_cons_succ]
      refine wpAnyU_take (i := 8) (v := ?_) (by decide) rfl (by kernel_rfl) (by kernel_rfl) (by kernel_rfl) (fun _ _ _ h => h) (Steady.plain (by kernel_rfl) ?_) ?_
      rotate_left
      · intro b W hS
        have h5 := kept HDW.out hS
        go_simp
        first | done | with_reducible rfl
      simp only [Act.put, List.getElem_toArray, List.getElem_cons_succ, List.getElem_cons_zero, List.setIfInBounds_toArray, List.set_cons_zero, List.set_cons_succ]
      refine wpAnyU_take (i := 9) (v := ?_) (by decide) rfl (by kernel_rfl) (by kernel_rfl) (by kernel_rfl) (fun _ _ _ h => h) (Steady.plain (by kernel_rfl) ?_) ?_
      rotate_left
      · intro b W hS
        have h5 := kept HDW.out hS
        go_simp
        first | done | with_reducible rfl
      simp only [Act.put, List.getElem_toArray, List.getElem_cons_succ, List.getElem_cons_zero, List.setIfInBounds_toArray, List.set_cons_zero, List.set_cons_succ]
      refine wpAnyU_take (i := 10) (v := ?_) (by decide) rfl (by kernel_rfl) (by kernel_rfl) (by kernel_rfl) (fun _ _ _ h => h) (Steady.plain (by kernel_rfl) ?_) ?_
      rotate_left
      · intro b W hS
        have h5 := kept HDW.out hS
        go_simp
        first | done | with_reducible rfl
      simp only [Act.put, List.getElem_toArray, List.getElem_cons_succ, List.getElem_cons_zero, List.setIfInBounds_toArray, List.set_cons_zero, List.set_cons_succ]
      refine wpAnyU_take (i := 11) (v := ?_) (by decide) rfl (by kernel_rfl) (by kernel_rfl) (by kernel_rfl) (fun _ _ _ h => h) (Steady.plain (by kernel_rfl) ?_) ?_
      rotate_left
      · intro b W hS
        have h5 := kept HDW.out hS
        go_simp
        first | done | with_reducible rfl
      simp only [Act.put, List.getElem_toArray, List.getElem_cons_succ, List.getElem_cons_zero, List.setIfInBounds_toArray, List.set_cons_zero, List.set_cons_succ]
      refine wpAnyU_take (i := 12) (v := ?_) (by decide) rfl (by kernel_rfl) (by kernel_rfl) (by kernel_rfl) (fun _ _ _ h => h) (Steady.plain (by kernel_rfl) ?_) ?_
      rotate_left
      · intro b W hS
        have h5 := kept HDW.out hS
        go_simp
        first | done | with_reducible rfl
      simp only [Act.put, List.getElem_toArray, List.getElem_cons_succ, List.getElem_cons_zero, List.setIfInBounds_toArray, List.set_cons_zero, List.set_cons_succ]
      refine wpAnyU_done (b := []) (by kernel_rfl) (by kernel_rfl) ?_ _
      intro W hS
      have HFIN := hid (HBF.out.then D hS)
      clear hS
      go_wp2_with fail
      go_roundw
      case rel => exact ⟨k + 1, F4, F5, m5, hkl, by simp, HOK.out, HFIN.out⟩
      case measure => simp only [intOf]; omega
    by_cases h6 : kd = 6
    · have n1 : (kd == 1) = false := by rw [beq_eq_false_iff_ne]; exact h1
      have d1 : ¬ kd = 1 := h1
      have n2 : (kd == 2) = false := by rw [beq_eq_false_iff_ne]; exact h2
      have d2 : ¬ kd = 2 := h2
      have n3 : (kd == 3) = false := by rw [beq_eq_false_iff_ne]; exact h3
      have d3 : ¬ kd = 3 := h3
      have n4 : (kd == 4) = false := by rw [beq_eq_false_iff_ne]; exact h4
      have d4 : ¬ kd = 4 := h4
      have n5 : (kd == 5) = false := by rw [beq_eq_false_iff_ne]; exact h5
      have d5 : ¬ kd = 5 := h5
      subst h6
      have HO := hid hok
      have HKP := hid (And.intro (HD1.out.2.1.below HWB.out) HD1.out.2.2.2)
      have C := hid (D.crashK HB1.out.a ho _ kp HKP.out.1 (fun hne x hx hf => by have h1 := HKP.out.2 hne x hx; have h2 := HB1.out.a.lo x hf; omega))
      clear hgb
      go_wp2_with fail
      rw [← hW1]
      clear hW1 k0 k1 k2 k3 k4
      refine C.out.mono ?_
      rintro e w4 ⟨⟨u, rfl⟩, F4, hD4, hk4, hf4⟩
      have HB4 := hid (HB1.out.left hD4 hk4 hf4)
      have hr4 := HBX.out.kept hk4 (fun h => hgF h)
      have y1 : w4.cell? ⟨wr.heap.size, 1, none⟩ = some (.int .i64 nn) := hr4.cell 1
      have y4 : w4.cell? ⟨wr.heap.size, 4, none⟩ = some (.slice ka kp.length kc) := hr4.cell 4
      have HKP4 : Hid (Reads w4 (.slice ka kp.length kc) (kp.map .bool)) := hid (reads_stayS HKP.out.1 hk4 (fun hne x hx hf => by have h1 := HKP.out.2 (fun e => hne (by rw [e]; rfl)) x hx; have h2 := HB1.out.a.lo x hf; omega))
      have C2 := hid (docCrash HB4.out.b.rep HO.out hN0 (by omega) _ kp HKP4.out (fun hne x hx hf => by have h1 := HKP.out.2 hne x hx; have h2 := HB4.out.b.lo x hf; omega))
      clear hD4 hk4 hf4 hr4 C
      go_wp2_with fail
      refine C2.out.mono ?_
      rintro e w5 ⟨⟨u2, rfl⟩, hp5⟩
      obtain ⟨F5, hB5⟩ := HB4.out.right D hp5
      have HB6 := hid hB5
      have HO6 := hid (HO.out.crash kp)
      clear hp5 hB5 y1 y4 C2
      generalize crashDk m kp = m5 at *
      go_wp2_with fail
      have HOK := hid HO6.out
      have HBF := hid HB6.out
      obtain ⟨dn, hdn⟩ : ∃ b, m5.down = b := ⟨_, rfl⟩
      have CPd := hid (fun (W : World) (h : Below w5.heap.size w5 W) => pending_any D (HBF.out.then D h) ho HOK.out hN0 (by omega))
      have CDn := hid (fun (W : World) (h : Below w5.heap.size w5 W) => (show Calls Try.prog 25 #[.pointer (some ⟨g, 0, none⟩)] W fun e w' => e = .returned (.bool dn) ∧ Below W.heap.size W w' from by rw [← hdn]; exact (D.downK (HBF.out.then D h).a).mono fun e w' h => ⟨h.1, h.2.2⟩))
      have HDW : Hid (w5.cell? ⟨g2, 5, none⟩ = some (.bool dn)) := by rw [← hdn]; exact hid (docDown HBF.out.b.rep).1
      have hd1 : (dn == dn) = true := beq_self_eq_true _
      have hd2 : (dn != dn) = false := by rw [bne, hd1]; rfl
      clear hdn
      refine wp_region_U [] (by kernel_rfl) (fun _ W => Below w5.heap.size w5 W) (b := []) (by kernel_rfl) ((Below.refl _ _).drew) ?_
      refine wpAnyU_take (i := 0) (v := ?_) (by decide) rfl (by kernel_rfl) (by kernel_rfl) (by kernel_rfl) (fun _ _ _ h => h) (Steady.plain (by kernel_rfl) ?_) ?_
      rotate_left
      · intro b W hS
        have h5 := kept HDW.out hS
        go_simp
        first | done | with_reducible rfl
      simp only [Act.put, List.getElem_toArray, List.getElem_cons_succ, List.getElem_cons_zero, List.setIfInBounds_toArray, List.set_cons_zero, List.set_cons_succ]
      refine wpAnyU_take (i := 1) (v := ?_) (by decide) rfl (by kernel_rfl) (by kernel_rfl) (by kernel_rfl) (fun _ _ _ h => h) (Steady.plain (by kernel_rfl) ?_) ?_
      rotate_left
      · intro b W hS
        have h5 := kept HDW.out hS
        go_simp
        first | done | with_reducible rfl
      simp only [Act.put, List.getElem_toArray, List.getElem_cons_succ, List.getElem_cons_zero, List.setIfInBounds_toArray, List.set_cons_zero, List.set_cons_succ]
      refine wpAnyU_take (i := 2) (v := (.bool true)) (by decide) rfl (by kernel_rfl) (by kernel_rfl) (by kernel_rfl) (fun _ _ _ h => h) (Steady.call (f := 24) (args := #[.pointer (some ⟨g, 0, none⟩), .pointer (some ⟨g2, 0, none⟩)]) (by kernel_rfl) (fun _ => by kernel_rfl) ?_) ?_
      · intro b W hS
        refine (CPd.out W hS).mono ?_
        rintro e w' ⟨he, hb⟩
        exact ⟨he, chain2 hS hS.size hb⟩
      simp only [Act.put, List.getElem_toArray, List.getElem_cons_succ, List.getElem_cons_zero, List.setIfInBounds_toArray, List.set_cons_zero, List.set_cons_succ]
      refine wpAnyU_take (i := 3) (v := ?_) (by decide) rfl (by kernel_rfl) (by kernel_rfl) (by kernel_rfl) (fun _ _ _ h => h) (Steady.plain (by kernel_rfl) ?_) ?_
      rotate_left
      · intro b W hS
        have h5 := kept HDW.out hS
        go_simp
        first | done | with_reducible rfl
      simp only [Act.put, List.getElem_toArray, List.getElem_cons_succ, List.getElem_cons_zero, List.setIfInBounds_toArray, List.set_cons_zero, List.set_cons_succ]
      refine wpAnyU_take (i := 4) (v := ?_) (by decide) rfl (by kernel_rfl) (by kernel_rfl) (by kernel_rfl) (fun _ _ _ h => h) (Steady.plain (by kernel_rfl) ?_) ?_
      rotate_left
      · intro b W hS
        have h5 := kept HDW.out hS
        go_simp
        first | done | with_reducible rfl
      simp only [Act.put, List.getElem_toArray, List.getElem_cons_succ, List.getElem_cons_zero, List.setIfInBounds_toArray, List.set_cons_zero, List.set_cons_succ]
      refine wpAnyU_take (i := 5) (v := ?_) (by decide) rfl (by kernel_rfl) (by kernel_rfl) (by kernel_rfl) (fun _ _ _ h => h) (Steady.plain (by kernel_rfl) ?_) ?_
      rotate_left
      · intro b W hS
        have h5 := kept HDW.out hS
        go_simp
        first | done | with_reducible rfl
      simp only [Act.put, List.getElem_toArray, List.getElem_cons_succ, List.getElem_cons_zero, List.setIfInBounds_toArray, List.set_cons_zero, List.set_cons_succ]
      refine wpAnyU_take (i := 6) (v := (.bool dn)) (by decide) rfl (by kernel_rfl) (by kernel_rfl) (by kernel_rfl) (fun _ _ _ h => h) (Steady.call (f := 25) (args := #[.pointer (some ⟨g, 0, none⟩)]) (by kernel_rfl) (fun _ => by kernel_rfl) ?_) ?_
      · intro b W hS
        refine (CDn.out W hS).mono ?_
        rintro e w' ⟨he, hb⟩
        exact ⟨he, chain2 hS hS.size hb⟩
      simp only [Act.put, List.getElem_toArray, List.getElem_cons_succ, List.getElem_cons_zero, List.setIfInBounds_toArray, List.set_cons_zero, List.set_cons_succ]
      refine wpAnyU_take (i := 7) (v := ?_) (by decide) rfl (by kernel_rfl) (by kernel_rfl) (by kernel_rfl) (fun _ _ _ h => h) (Steady.plain (by kernel_rfl) ?_) ?_
      rotate_left
      · intro b W hS
        have h5 := kept HDW.out hS
        go_simp
        first | done | with_reducible rfl
      simp only [Act.put, List.getElem_toArray, List.getElem_cons_succ, List.getElem_cons_zero, List.setIfInBounds_toArray, List.set_cons_zero, List.set_cons_succ]
      refine wpAnyU_take (i := 8) (v := ?_) (by decide) rfl (by kernel_rfl) (by kernel_rfl) (by kernel_rfl) (fun _ _ _ h => h) (Steady.plain (by kernel_rfl) ?_) ?_
      rotate_left
      · intro b W hS
        have h5 := kept HDW.out hS
        go_simp
        first | done | with_reducible rfl
      simp only [Act.put, List.getElem_toArray, List.getElem_cons_succ, List.getElem_cons_zero, List.setIfInBounds_toArray, List.set_cons_zero, List.set_cons_succ]
      refine wpAnyU_take (i := 9) (v := ?_) (by decide) rfl (by kernel_rfl) (by kernel_rfl) (by kernel_rfl) (fun _ _ _ h => h) (Steady.plain (by kernel_rfl) ?_) ?_
      rotate_left
      · intro b W hS
        have h5 := kept HDW.out hS
        go_simp
        first | done | with_reducible rfl
      simp only [Act.put, List.getElem_toArray, List.getElem_cons_succ, List.getElem_cons_zero, List.setIfInBounds_toArray, List.set_cons_zero, List.set_cons_succ]
      refine wpAnyU_take (i := 10) (v := ?_) (by decide) rfl (by kernel_rfl) (by kernel_rfl) (by kernel_rfl) (fun _ _ _ h => h) (Steady.plain (by kernel_rfl) ?_) ?_
      rotate_left
      · intro b W hS
        have h5 := kept HDW.out hS
        go_simp
        first | done | with_reducible rfl
      simp only [Act.put, List.getElem_toArray, List.getElem_cons_succ, List.getElem_cons_zero, List.setIfInBounds_toArray, List.set_cons_zero, List.set_cons_succ]
      refine wpAnyU_take (i := 11) (v := ?_) (by decide) rfl (by kernel_rfl) (by kernel_rfl) (by kernel_rfl) (fun _ _ _ h => h) (Steady.plain (by kernel_rfl) ?_) ?_
      rotate_left
      · intro b W hS
        have h5 := kept HDW.out hS
        go_simp
        first | done | with_reducible rfl
      simp only [Act.put, List.getElem_toArray, List.getElem_cons_succ, List.getElem_cons_zero, List.setIfInBounds_toArray, List.set_cons_zero, List.set_cons_succ]
      refine wpAnyU_take (i := 12) (v := ?_) (by decide) rfl (by kernel_rfl) (by kernel_rfl) (by kernel_rfl) (fun _ _ _ h => h) (Steady.plain (by kernel_rfl) ?_) ?_
      rotate_left
      · intro b W hS
        have h5 := kept HDW.out hS
        go_simp
        first | done | with_reducible rfl
      simp only [Act.put, List.getElem_toArray, List.getElem_cons_succ, List.getElem_cons_zero, List.setIfInBounds_toArray, List.set_cons_zero, List.set_cons_succ]
      refine wpAnyU_done (b := []) (by kernel_rfl) (by kernel_rfl) ?_ _
      intro W hS
      have HFIN := hid (HBF.out.then D hS)
      clear hS
      go_wp2_with fail
      go_roundw
      case rel => exact ⟨k + 1, F4, F5, m5, hkl, by simp, HOK.out, HFIN.out⟩
      case measure => simp only [intOf]; omega
    have HO := hid hok
    have n1 : (kd == 1) = false := by rw [beq_eq_false_iff_ne]; exact h1
    have d1 : ¬ kd = 1 := h1
    have n2 : (kd == 2) = false := by rw [beq_eq_false_iff_ne]; exact h2
    have d2 : ¬ kd = 2 := h2
    have n3 : (kd == 3) = false := by rw [beq_eq_false_iff_ne]; exact h3
    have d3 : ¬ kd = 3 := h3
    have n4 : (kd == 4) = false := by rw [beq_eq_false_iff_ne]; exact h4
    have d4 : ¬ kd = 4 := h4
    have n5 : (kd == 5) = false := by rw [beq_eq_false_iff_ne]; exact h5
    have d5 : ¬ kd = 5 := h5
    have n6 : (kd == 6) = false := by rw [beq_eq_false_iff_ne]; exact h6
    have d6 : ¬ kd = 6 := h6
    clear hgb
    go_wp2_with fail
    rw [← hW1]
    clear hW1 k0 k1 k2 k3 k4
    have HOK := hid HO.out
    have HBF := hid HB1.out
    obtain ⟨dn, hdn⟩ : ∃ b, m.down = b := ⟨_, rfl⟩
    have CPd := hid (fun (W : World) (h : Below W1.heap.size W1 W) => pending_any D (HBF.out.then D h) ho HOK.out hN0 (by omega))
    have CDn := hid (fun (W : World) (h : Below W1.heap.size W1 W) => (show Calls Try.prog 25 #[.pointer (some ⟨g, 0, none⟩)] W fun e w' => e = .returned (.bool dn) ∧ Below W.heap.size W w' from by rw [← hdn]; exact (D.downK (HBF.out.then D h).a).mono fun e w' h => ⟨h.1, h.2.2⟩))
    have HDW : Hid (W1.cell? ⟨g2, 5, none⟩ = some (.bool dn)) := by rw [← hdn]; exact hid (docDown HBF.out.b.rep).1
    have hd1 : (dn == dn) = true := beq_self_eq_true _
    have hd2 : (dn != dn) = false := by rw [bne, hd1]; rfl
    clear hdn
    refine wp_region_U [] (by kernel_rfl) (fun _ W => Below W1.heap.size W1 W) (b := []) (by kernel_rfl) ((Below.refl _ _).drew) ?_
    refine wpAnyU_take (i := 0) (v := ?_) (by decide) rfl (by kernel_rfl) (by kernel_rfl) (by kernel_rfl) (fun _ _ _ h => h) (Steady.plain (by kernel_rfl) ?_) ?_
    rotate_left
    · intro b W hS
      have h5 := kept HDW.out hS
      go_simp
      first | done | with_reducible rfl
    simp only [Act.put, List.getElem_toArray, List.getElem_cons_succ, List.getElem_cons_zero, List.setIfInBounds_toArray, List.set_cons_zero, List.set_cons_succ]
    refine wpAnyU_take (i := 1) (v := ?_) (by decide) rfl (by kernel_rfl) (by kernel_rfl) (by kernel_rfl) (fun _ _ _ h => h) (Steady.plain (by kernel_rfl) ?_) ?_
    rotate_left
    · intro b W hS
      have h5 := kept HDW.out hS
      go_simp
      first | done | with_reducible rfl
    simp only [Act.put, List.getElem_toArray, List.getElem_cons_succ, List.getElem_cons_zero, List.setIfInBounds_toArray, List.set_cons_zero, List.set_cons_succ]
    refine wpAnyU_take (i := 2) (v := (.bool true)) (by decide) rfl (by kernel_rfl) (by kernel_rfl) (by kernel_rfl) (fun _ _ _ h => h) (Steady.call (f := 24) (args := #[.pointer (some ⟨g, 0, none⟩), .pointer (some ⟨g2, 0, none⟩)]) (by kernel_rfl) (fun _ => by kernel_rfl) ?_) ?_
    · intro b W hS
      refine (CPd.out W hS).mono ?_
      rintro e w' ⟨he, hb⟩
      exact ⟨he, chain2 hS hS.size hb⟩
    simp only [Act.put, List.getElem_toArray, List.getElem_cons_succ, List.getElem_cons_zero, List.setIfInBounds_toArray, List.set_cons_zero, List.set_cons_succ]
    refine wpAnyU_take (i := 3) (v := ?_) (by decide) rfl (by kernel_rfl) (by kernel_rfl) (by kernel_rfl) (fun _ _ _ h => h) (Steady.plain (by kernel_rfl) ?_) ?_
    rotate_left
    · intro b W hS
      have h5 := kept HDW.out hS
      go_simp
      first | done | with_reducible rfl
    simp only [Act.put, List.getElem_toArray, List.getElem_cons_succ, List.getElem_cons_zero, List.setIfInBounds_toArray, List.set_cons_zero, List.set_cons_succ]
    refine wpAnyU_take (i := 4) (v := ?_) (by decide) rfl (by kernel_rfl) (by kernel_rfl) (by kernel_rfl) (fun _ _ _ h => h) (Steady.plain (by kernel_rfl) ?_) ?_
    rotate_left
    · intro b W hS
      have h5 := kept HDW.out hS
      go_simp
      first | done | with_reducible rfl
    simp only [Act.put, List.getElem_toArray, List.getElem_cons_succ, List.getElem_cons_zero, List.setIfInBounds_toArray, List.set_cons_zero, List.set_cons_succ]
    refine wpAnyU_take (i := 5) (v := ?_) (by decide) rfl (by kernel_rfl) (by kernel_rfl) (by kernel_rfl) (fun _ _ _ h => h) (Steady.plain (by kernel_rfl) ?_) ?_
    rotate_left
    · intro b W hS
      have h5 := kept HDW.out hS
      go_simp
      first | done | with_reducible rfl
    simp only [Act.put, List.getElem_toArray, List.getElem_cons_succ, List.getElem_cons_zero, List.setIfInBounds_toArray, List.set_cons_zero, List.set_cons_succ]
    refine wpAnyU_take (i := 6) (v := (.bool dn)) (by decide) rfl (by kernel_rfl) (by kernel_rfl) (by kernel_rfl) (fun _ _ _ h => h) (Steady.call (f := 25) (args := #[.pointer (some ⟨g, 0, none⟩)]) (by kernel_rfl) (fun _ => by kernel_rfl) ?_) ?_
    · intro b W hS
      refine (CDn.out W hS).mono ?_
      rintro e w' ⟨he, hb⟩
      exact ⟨he, chain2 hS hS.size hb⟩
    simp only [Act.put, List.getElem_toArray, List.getElem_cons_succ, List.getElem_cons_zero, List.setIfInBounds_toArray, List.set_cons_zero, List.set_cons_succ]
    refine wpAnyU_take (i := 7) (v := ?_) (by decide) rfl (by kernel_rfl) (by kernel_rfl) (by kernel_rfl) (fun _ _ _ h => h) (Steady.plain (by kernel_rfl) ?_) ?_
    rotate_left
    · intro b W hS
      have h5 := kept HDW.out hS
      go_simp
      first | done | with_reducible rfl
    simp only [Act.put, List.getElem_toArray, List.getElem_cons_succ, List.getElem_cons_zero, List.setIfInBounds_toArray, List.set_cons_zero, List.set_cons_succ]
    refine wpAnyU_take (i := 8) (v := ?_) (by decide) rfl (by kernel_rfl) (by kernel_rfl) (by kernel_rfl) (fun _ _ _ h => h) (Steady.plain (by kernel_rfl) ?_) ?_
    rotate_left
    · intro b W hS
      have h5 := kept HDW.out hS
      go_simp
      first | done | with_reducible rfl
    simp only [Act.put, List.getElem_toArray, List.getElem_cons_succ, List.getElem_cons_zero, List.setIfInBounds_toArray, List.set_cons_zero, List.set_cons_succ]
    refine wpAnyU_take (i := 9) (v := ?_) (by decide) rfl (by kernel_rfl) (by kernel_rfl) (by kernel_rfl) (fun _ _ _ h => h) (Steady.plain (by kernel_rfl) ?_) ?_
    rotate_left
    · intro b W hS
      have h5 := kept HDW.out hS
      go_simp
      first | done | with_reducible rfl
    simp only [Act.put, List.getElem_toArray, List.getElem_cons_succ, List.getElem_cons_zero, List.setIfInBounds_toArray, List.set_cons_zero, List.set_cons_succ]
    refine wpAnyU_take (i := 10) (v := ?_) (by decide) rfl (by kernel_rfl) (by kernel_rfl) (by kernel_rfl) (fun _ _ _ h => h) (Steady.plain (by kernel_rfl) ?_) ?_
    rotate_left
    · intro b W hS
      have h5 := kept HDW.out hS
      go_simp
      first | done | with_reducible rfl
    simp only [Act.put, List.getElem_toArray, List.getElem_cons_succ, List.getElem_cons_zero, List.setIfInBounds_toArray, List.set_cons_zero, List.set_cons_succ]
    refine wpAnyU_take (i := 11) (v := ?_) (by decide) rfl (by kernel_rfl) (by kernel_rfl) (by kernel_rfl) (fun _ _ _ h => h) (Steady.plain (by kernel_rfl) ?_) ?_
    rotate_left
    · intro b W hS
      have h5 := kept HDW.out hS
      go_simp
      first | done | with_reducible rfl
    simp only [Act.put, List.getElem_toArray, List.getElem_cons_succ, List.getElem_cons_zero, List.setIfInBounds_toArray, List.set_cons_zero, List.set_cons_succ]
    refine wpAnyU_take (i := 12) (v := ?_) (by decide) rfl (by kernel_rfl) (by kernel_rfl) (by kernel_rfl) (fun _ _ _ h => h) (Steady.plain (by kernel_rfl) ?_) ?_
    rotate_left
    · intro b W hS
      have h5 := kept HDW.out hS
      go_simp
      first | done | with_reducible rfl
    simp only [Act.put, List.getElem_toArray, List.getElem_cons_succ, List.getElem_cons_zero, List.setIfInBounds_toArray, List.set_cons_zero, List.set_cons_succ]
    refine wpAnyU_done (b := []) (by kernel_rfl) (by kernel_rfl) ?_ _
    intro W hS
    have HFIN := hid (HBF.out.then D hS)
    clear hS
    go_wp2_with fail
    go_roundw
    case rel => exact ⟨k + 1, F, F2, m, hkl, by simp, HOK.out, HFIN.out⟩
    case measure => simp only [intOf]; omega
end Go.Proofs.Ytgdeiokaicjkdaa
