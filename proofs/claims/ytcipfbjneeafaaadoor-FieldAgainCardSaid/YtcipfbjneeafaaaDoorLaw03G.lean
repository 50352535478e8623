/-
  The walk of the statement FieldAgain.
-/
import Derived.Test.YtcipfbjneeafaaaDoorLaw03B
import Derived.Test.YtcipfbjneeafaaaDoorRefFieldC
import Derived.Deep.RegionHeld3
namespace Go.Pantry
open Go.RowKit
/-- what a field's box holds, and what lies below -/
def Box (g : Nat) (f : Fld) (w0 w : World) : Prop := w.cell? ⟨g, 0, none⟩ = some (strV f.1) ∧ w.cell? ⟨g, 1, none⟩ = some (strV f.2) ∧ Below w0.heap.size w0 w
theorem Box.below {g : Nat} {f : Fld} {w0 w w' : World} (h : Box g f w0 w) (hb : Below w.heap.size w w') : Box g f w0 w' := ⟨kept h.1 hb, kept h.2.1 hb, chain2 h.2.2 h.2.2.size hb⟩
theorem Box.below1 {g : Nat} {f : Fld} {w0 w : World} (h : Box g f w0 w) : Below w0.heap.size w0 w := h.2.2
theorem Box.alloc {g : Nat} {f : Fld} {w0 w : World} (h : Box g f w0 w) (o : Obj) : Box g f w0 (w.alloc o) := h.below (below_alloc w o)
end Go.Pantry
namespace Go.Proofs.YtcipfbjneeafaaaDoor
open Go.RowKit Go.Pantry

theorem smallF_cons {f : Fld} {L : List Fld} (h : smallF (f :: L) = true) : smallF L = true ∧ f.1.length ≤ 200 ∧ f.2.length ≤ 1100 := by
  unfold smallF at h ⊢
  simp only [Bool.and_eq_true, decide_eq_true_eq, List.all_eq_true, List.mem_cons, List.length_cons] at h ⊢
  exact ⟨⟨fun g hg => h.1 g (.inr hg), by omega⟩, h.1 f (.inl rfl)⟩

theorem same_any (v1 v2 : Value) (A B : List Fld) (w : World) (h1 : Reads2 w v1 A) (h2 : Reads2 w v2 B) (ha : A.length < 1000000) (hb : B.length < 1000000) :
    Calls Tryd.prog 31 #[v1, v2] w fun e w' => e = .returned (.bool (decide (A = B))) ∧ Below w.heap.size w w' := by
  have f1 := fun W h => Fields_any v1 A W h ha
  have f2 := fun W h => Fields_any v2 B W h hb
  have F1 := hid f1
  have F2 := hid f2
  have H1 := hid h1
  have H2 := hid h2
  clear f1 f2 h1 h2
  go_enter Tryd.func31, Tryd.ntmps31
  go_wp2_with fail
  refine (F1.out _ H1.out).mono ?_
  rintro e w1 ⟨vx, rfl, hox, hb1⟩
  have hx := hox.reads2.2
  go_wp2_with fail
  refine (F2.out _ (H2.out.below hb1)).mono ?_
  rintro e w2 ⟨vy, rfl, hoy, hb2⟩
  go_wp2_with fail
  refine (refSame_any _ _ A B _ (hx.below hb2) hoy.reads2.2 ha).mono ?_
  rintro e w3 ⟨rfl, hb3⟩
  go_wp2_with fail
  go_ret
  exact ⟨rfl, chain2 (chain2 hb1 hb1.size hb2) (Nat.le_trans hb1.size hb2.size) hb3⟩

set_option maxHeartbeats 8000000 in
theorem fieldAgain_walk (v : Value) (L : List Fld) (f : Fld) (w : World) (hl : Reads2 w v L ∧ (∀ f ∈ L, f.1.length ≤ maxLen ∧ f.2.length ≤ maxLen) ∧ L.length ≤ maxLen) (hf : f.1.length ≤ maxLen ∧ f.2.length ≤ maxLen) (hz : L.length * 32 ≤ 140737488351232) :
    Calls Tryd.prog 8 #[v, fldV f] w fun e w' => e = .returned (.bool true) ∧ Below w.heap.size w w' := by
  obtain ⟨hr, -, -⟩ := hl
  obtain ⟨W, hW, hbW, hsW, hx1, hx2⟩ := box2 w f 29
  have hbox : Box w.heap.size f w W := ⟨hx1, hx2, hbW⟩
  have HR := hid hr
  clear hr hx1 hx2 hsW hf
  obtain ⟨q, hq⟩ : ∃ q, smallF (f :: L) = q := ⟨_, rfl⟩
  have cs := fun W v h => small_any v (f :: L) W h (by simp; omega)
  rw [hq] at cs
  have CS := hid cs
  have HZ := hid hz
  clear cs hz
  go_enter Tryd.func8, Tryd.ntmps8
  go_wp2_with fail
  rw [← hW]
  clear hW hbW
  refine (anchor_any _).mono ?_
  rintro e w1 ⟨rfl, hb⟩
  replace hbox := hbox.below hb
  obtain ⟨hx1, hx2, hbw⟩ := hbox
  have ho := ownsRow_one w1 f 29
  have hra := (HR.out.below hbw).below (below_alloc w1 (.cells #[strV f.1, strV f.2] 29))
  clear hb
  have hmz : 1 + L.length ≤ maxLen := by have := HZ.out; unfold maxLen; omega
  have hbz : (1 + L.length) * 32 ≤ 140737488355328 := by have := HZ.out; omega
  go_wp2_with (at_builtin; go_must (refine wpList_append_fldsz _ rfl _ _ 23 rfl w1.heap.size 29 Tryd.underlying23 infoFld rfl rfl ho hra rfl hmz hbz (below_alloc _ _).size ?_); intro v2 w2 ho2 hb2)
  have hb3 := (below_alloc w1 (.cells #[strV f.1, strV f.2] 29)).trans hb2
  have hr2 := ho2.reads2.2
  replace hx1 := kept hx1 hb3
  replace hx2 := kept hx2 hb3
  replace hbw := chain2 hbw hbw.size hb3
  clear hmz hbz ho hra ho2 hb2 hb3
  refine (CS.out _ _ hr2).mono ?_
  rintro e w3 ⟨rfl, hb3⟩
  have hbox : Box w.heap.size f w w3 := Box.below ⟨hx1, hx2, hbw⟩ hb3
  clear hx1 hx2 hbw hr2 hb3
  cases q
  · go_wp2_with fail
    go_ret
    exact ⟨rfl, hbox.2.2⟩
  · obtain ⟨hsl, hf1, hf2⟩ := smallF_cons hq
    obtain ⟨hk, hl70, -⟩ := small_ok hsl
    have hf1' : f.1.length ≤ 100000 := by omega
    have hf2' : f.2.length ≤ 100000 := by omega
    have hkf : okFs [f] := ⟨by simp, by simp; exact ⟨hf1', hf2'⟩⟩
    have cw := fun W v vm h hm => lWith_any v vm L [f] W h hk hm hkf
    have co := fun W v vn h hn => lWithout_any v vn L [f.1] W h hk hn ⟨by simp, by simp; omega⟩
    have e1 : withsF L [f] = withF L f := rfl
    rw [e1] at cw
    rw [outsF_one] at co
    have CW := hid cw
    have CO := hid co
    have hkA : okFs (withF L f) := ⟨by have := withF_len L f; omega, fun g hg => by
      rcases withF_of L f g hg with h | rfl
      · exact hk.2 g h
      · exact ⟨hf1', hf2'⟩⟩
    have hkB : okFs (outF L f.1) := ⟨by have := outF_len L f.1; omega, fun g hg => hk.2 g (List.mem_filter.1 hg).1⟩
    have cw2 := fun W v vm h hm => lWith_any v vm (withF L f) [f] W h hkA hm hkf
    have e2 : withsF (withF L f) [f] = withF L f := withF_idem L f
    rw [e2] at cw2
    have co2 := fun W v vn h hn => lWithout_any v vn (outF L f.1) [f.1] W h hkB hn ⟨by simp, by simp; omega⟩
    rw [outsF_one, outF_idem] at co2
    have co3 := fun W v vn h hn => lWithout_any v vn (withF L f) [f.1] W h hkA hn ⟨by simp, by simp; omega⟩
    rw [outsF_one, withF_out] at co3
    have hla : (withF L f).length < 1000000 := by have := hkA.1; omega
    have hlb : (outF L f.1).length < 1000000 := by have := hkB.1; omega
    have s1 := fun W v1 v2 h1 h2 => same_any v1 v2 (withF L f) (withF L f) W h1 h2 hla hla
    have s2 := fun W v1 v2 h1 h2 => same_any v1 v2 (outF L f.1) (outF L f.1) W h1 h2 hlb hlb
    rw [decide_eq_true rfl] at s1 s2
    have CW2 := hid cw2
    have CO2 := hid co2
    have CO3 := hid co3
    have S1 := hid s1
    have S2 := hid s2
    clear cw2 co2 co3 s1 s2 e2 hkA hkB hla hlb
    clear cw co e1 hk hkf hq CS hsl hf1 hf2 hl70 hf1' hf2'
    go_wp2_with fail
    go_region_held3 (fun w' => w'.cell? ⟨w.heap.size, 0, none⟩ = some (strV f.1) ∧ w'.cell? ⟨w.heap.size, 1, none⟩ = some (strV f.2) ∧ Below w.heap.size w w') (first | exact hbox.below (Below.refl _ _).drew | exact hS1 | exact Box.alloc (f := f) (g := w.heap.size) (w0 := w) hS1 _ | exact Box.alloc (f := f) (g := w.heap.size) (w0 := w) (by assumption) _)
        (first
          | (go_at_call 29; refine (CW.out _ _ _ (HR.out.below (Box.below1 (f := f) (g := w.heap.size) (w0 := w) (by assumption))) (by first | exact reads2_new_at _ f _ _ _ (by first | rfl | simp) | exact (reads2_new_at _ f _ _ _ (by first | rfl | simp)).below (below_alloc _ _) | exact (reads2_new_at _ f _ _ _ (by first | rfl | simp)).below (Below.refl _ _).drew | exact (reads2_new_at _ f _ _ _ (by first | rfl | simp)).below ((below_alloc _ _).drew))).mono ?_; rintro e w' ⟨⟨va, ka, rfl, hoa⟩, hba⟩; have hS1 := Box.below (f := f) (g := w.heap.size) (w0 := w) (by assumption) hba)
          | (go_at_call 26; refine (CO.out _ _ _ (HR.out.below (Box.below1 (f := f) (g := w.heap.size) (w0 := w) (by assumption))) (by first | exact (reads_one_at _ f.1 _ _ _ (by first | rfl | simp)) | exact (reads_one_at _ f.1 _ _ _ (by first | rfl | simp)).below (below_alloc _ _) | exact (reads_one_at _ f.1 _ _ _ (by first | rfl | simp)).below (Below.refl _ _).drew | exact (reads_one_at _ f.1 _ _ _ (by first | rfl | simp)).below ((below_alloc _ _).drew) | exact (reads_one_at _ f.1 _ _ _ (by first | rfl | simp)).below hba | exact ((reads_one_at _ f.1 _ _ _ (by first | rfl | simp)).below (below_alloc _ _)).below hba | exact ((reads_one_at _ f.1 _ _ _ (by first | rfl | simp)).below (Below.refl _ _).drew).below hba | exact ((reads_one_at _ f.1 _ _ _ (by first | rfl | simp)).below ((below_alloc _ _).drew)).below hba)).mono ?_; rintro e w' ⟨⟨vb, kb, rfl, hob⟩, hbb⟩; have hrA := (by first | exact hoa.reads2.2.below hbb | exact (hoa.reads2.2.below (below_alloc _ _)).below hbb : Reads2 w' va (withF L f)); have hS1 := Box.below (f := f) (g := w.heap.size) (w0 := w) (by assumption) hbb))
    all_goals
      have hrB := hob.reads2.2
      obtain ⟨x1, x2, hbw⟩ := hS1
      generalize withF L f = MA at hrA CW2 CO3 S1
      generalize outF L f.1 = MB at hrB CO2 CO3 S2
      clear hoa hob hba hbb hbox CW CO
      go_wp2_with fail
      have ha0 := below_alloc w' (.cells #[strV f.1, strV f.2] 29)
      refine (CW2.out _ _ _ (hrA.below ha0) (reads2_new_at _ f _ _ _ rfl)).mono ?_
      rintro e w4 ⟨⟨v4, k4, rfl, ho4⟩, hb4⟩
      replace hb4 := ha0.trans (hb4.mono (by simp))
      have hr4 := ho4.reads2.2
      clear ho4 ha0
      go_wp2_with fail
      refine (S1.out _ _ _ hr4 (hrA.below hb4)).mono ?_
      rintro e w5 ⟨rfl, hb5⟩
      replace hb5 := chain2 hb4 hb4.size hb5
      have HA5 := hid (hrA.below hb5)
      have HB5 := hid (hrB.below hb5)
      replace x1 := kept x1 hb5
      replace x2 := kept x2 hb5
      replace hbw := chain2 hbw hbw.size hb5
      clear hb4 hb5 hr4 hrA hrB
      go_wp2_with fail
      have ha0 := below_alloc w5 (.cells #[strV f.1] 9)
      refine (CO2.out _ _ _ (HB5.out.below ha0) (reads_one_at _ f.1 _ _ _ rfl)).mono ?_
      rintro e w6 ⟨⟨v6, k6, rfl, ho6⟩, hb6⟩
      replace hb6 := ha0.trans (hb6.mono (by simp))
      have hr6 := ho6.reads2.2
      clear ho6 ha0
      go_wp2_with fail
      refine (S2.out _ _ _ hr6 (HB5.out.below hb6)).mono ?_
      rintro e w7 ⟨rfl, hb7⟩
      replace hb7 := chain2 hb6 hb6.size hb7
      have HA7 := hid (HA5.out.below hb7)
      have HB7 := hid (HB5.out.below hb7)
      replace x1 := kept x1 hb7
      replace x2 := kept x2 hb7
      replace hbw := chain2 hbw hbw.size hb7
      clear hb6 hb7 hr6 HA5 HB5
      go_wp2_with fail
      have ha0 := below_alloc w7 (.cells #[strV f.1] 9)
      refine (CO3.out _ _ _ (HA7.out.below ha0) (reads_one_at _ f.1 _ _ _ rfl)).mono ?_
      rintro e w8 ⟨⟨v8, k8, rfl, ho8⟩, hb8⟩
      replace hb8 := ha0.trans (hb8.mono (by simp))
      have hr8 := ho8.reads2.2
      clear ho8 ha0
      go_wp2_with fail
      refine (S2.out _ _ _ hr8 (HB7.out.below hb8)).mono ?_
      rintro e w9 ⟨rfl, hb9⟩
      replace hbw := chain2 hbw hbw.size (chain2 hb8 hb8.size hb9)
      go_wp2_with fail
      go_ret
      exact ⟨rfl, hbw⟩
end Go.Proofs.YtcipfbjneeafaaaDoor
