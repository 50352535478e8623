/-
  Contract of package body: line.
-/
import Derived.Test.YtefplhkjcclppaaDoorBodyA
namespace Go.Proofs.YtefplhkjcclppaaDoor
open Go.RowKit Go.Pantry

/-- what 'line' leaves -/
def LinePost (g lack : Nat) (l : List UInt8) (w0 w : World) (e : Ending) (w' : World) : Prop :=
  e = .returned (.int .i64 ((lineE lack l : Nat) : Int)) ∧ w.grownBy w' (some g) ∧
  (lineE lack l = 0 → ∃ v', Bytes w0 v' (l.drop 2) ∧ rowIs w' g #[v', .int .i64 (lack : Int)] 61)
theorem drewN_row {w : World} {g : Nat} {cs : Array Value} {t : TypeId} (h : rowIs w g cs t) (n : Nat) : rowIs (w.drewN n) g cs t := h
theorem grown_drewN (w : World) (g n : Nat) : w.grownBy (w.drewN n) (some g) := below_grown g (below_drewN (Below.refl _ _) n)
set_option maxRecDepth 100000 in
set_option maxHeartbeats 8000000 in
theorem line_any (g lack : Nat) (v : Value) (l : List UInt8) (w0 w : World) (hlk : lack ≠ 0) (hb : Below w0.heap.size w0 w) (hg : rowIs w g #[v, .int .i64 (lack : Int)] 61) (hr : Bytes w0 v l) (hl : l.length ≤ 1000000) :
    Calls Tryd.prog 33 #[.pointer (some ⟨g, 0, none⟩)] w fun e w' => LinePost g lack l w0 w e w' := by
  match l with
  | [] =>
    obtain ⟨ao, cap, rfl, hc⟩ := bytes_form hr
    have hrd := bytes_below hr hb
    have g0 := hg.cell 0
    have g1 := hg.cell 1
    have hcv := fun n => reads_string (P := Tryd.prog) (w := w.drewN n) (v := .slice ao 0 cap) (l := []) (bytesRead hrd) 41 9 5 Tryd.underlying41 Tryd.underlying5 Tryd.underlying9
    simp only [List.length_nil] at *
    have HH := hid hlk
    clear hrd hr hb hg hlk
    go_enter Tryd.func33, Tryd.ntmps33
    go_wp2_with fail
    go_quiet (fail)
    go_wp2
    go_ret
    exact ⟨rfl, grown_drewN _ _ _, fun h => absurd h HH.out⟩
  | [c] =>
    obtain ⟨ao, cap, rfl, hc⟩ := bytes_form hr
    have hrd := bytes_below hr hb
    have g0 := hg.cell 0
    have g1 := hg.cell 1
    have hcv := fun n => reads_string (P := Tryd.prog) (w := w.drewN n) (v := .slice ao 1 cap) (l := [c]) (bytesRead hrd) 41 9 5 Tryd.underlying41 Tryd.underlying5 Tryd.underlying9
    simp only [List.length_cons, List.length_nil, Nat.zero_add] at *
    have ex1 : (⟨#[13, 10]⟩ : ByteArray).extract 0 1 = ⟨#[13]⟩ := by kernel_rfl
    have HH := hid hlk
    have hE := lineE_one lack c
    clear hrd hr hb hg hlk
    by_cases hc13 : c = 13
    · rw [if_pos hc13] at hE
      subst hc13
      have HE := hid hE
      clear hE
      go_enter Tryd.func33, Tryd.ntmps33
      go_wp2_with fail
      go_quiet (fail)
      go_wp2
      go_ret
      exact ⟨by rw [HE.out]; rfl, grown_drewN _ _ _, fun h => absurd (HE.out.symm.trans h) HH.out⟩
    · rw [if_neg hc13] at hE
      have HE := hid hE
      have e1 : ((([c] : List UInt8)) == [13]) = false := by simpa using hc13
      have e2 : ((([c] : List UInt8)) != [13]) = true := by simpa using hc13
      clear hE
      go_enter Tryd.func33, Tryd.ntmps33
      go_wp2_with fail
      go_quiet (fail)
      go_wp2
      go_ret
      exact ⟨by rw [HE.out]; rfl, grown_drewN _ _ _, fun h => absurd (HE.out.symm.trans h) (by decide)⟩
  | c :: d :: t =>
    obtain ⟨aot, ct, htail, hv'⟩ := bytes_low (P := Tryd.prog) 41 (by kernel_rfl) (fun _ => by kernel_rfl) hr 2 (by simp)
    obtain ⟨ao, cap, rfl, hc⟩ := bytes_form hr
    have hrd := bytes_below hr hb
    have g0 := hg.cell 0
    have g1 := hg.cell 1
    have f0 := hg.free 0
    have hcv := fun n => reads_string (P := Tryd.prog) (w := w.drewN n) (v := .slice ao 2 cap) (l := [c, d]) ((bytesRead hrd).take 2 (by simp)) 41 9 5 Tryd.underlying41 Tryd.underlying5 Tryd.underlying9
    have ex2 : (⟨#[13, 10]⟩ : ByteArray).extract 0 2 = ⟨#[13, 10]⟩ := by kernel_rfl
    have hlen : (c :: d :: t).length = t.length + 2 := rfl
    generalize (c :: d :: t).length = n at *
    have hn2 : ¬ (n : Int) < 2 := by omega
    have hn2' : ((2 : Nat) : Int) ≤ (n : Int) := by omega
    have hnc : ((2 : Nat) : Int) ≤ (cap : Int) := by omega
    have HH := hid hlk
    have HV := hid hv'
    have HG := hid hg
    have HT := hid htail
    have hE := lineE_two lack c d t
    clear hrd hr hb hg hlk hv' htail hlen hl
    by_cases hcd : c = 13 ∧ d = 10
    · rw [if_pos hcd] at hE
      obtain ⟨rfl, rfl⟩ := hcd
      have HE := hid hE
      clear hE
      go_enter Tryd.func33, Tryd.ntmps33
      go_wp2_with fail
      go_quiet (fail)
      go_wp2_with (refine wpList_slice_low rfl 41 _ _ rfl rfl rfl (by kernel_rfl) (HT.out _) ?_)
      go_ret
      exact ⟨by rw [HE.out]; rfl, grown_set (grown_drewN _ _ _) _ _, fun _ => ⟨_, HV.out, (drewN_row HG.out _).setCell 0 _⟩⟩
    · rw [if_neg hcd] at hE
      have HE := hid hE
      have e1 : ((([c, d] : List UInt8)) == [13, 10]) = false := by simpa using hcd
      have e2 : ((([c, d] : List UInt8)) != [13, 10]) = true := by simpa using hcd
      clear hE
      go_enter Tryd.func33, Tryd.ntmps33
      go_wp2_with fail
      go_quiet (fail)
      go_wp2
      go_ret
      exact ⟨by rw [HE.out]; rfl, grown_drewN _ _ _, fun h => absurd (HE.out.symm.trans h) (by decide)⟩
end Go.Proofs.YtefplhkjcclppaaDoor
