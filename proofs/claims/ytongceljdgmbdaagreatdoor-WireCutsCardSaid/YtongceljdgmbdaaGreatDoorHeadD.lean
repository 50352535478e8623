/-
  Contract of package head: readField.
-/
import Derived.Test.YtongceljdgmbdaaGreatDoorHeadC
import Derived.Test.YtongceljdgmbdaaGreatDoorPureAll2
namespace Go.Proofs.YtongceljdgmbdaaGreatDoor
open Go.RowKit Go.Pantry

theorem infoFldS : (Tryz.prog.info? 104).map (·.size) = some 2 := by kernel_rfl
def nmF (a : List UInt8) : List UInt8 := (cutT [58] a).1
def vlF (a : List UInt8) : List UInt8 := trimL (cutT [58] a).2.1
def fmF (a : List UInt8) : Bool := (cutT [58] a).2.2 && tokenL (nmF a) && (vlF a).all okV
def codeF (a : List UInt8) : Int := judgeZ (fmF a) (!rightF (nmF a, vlF a))
theorem cut_len (sep e : List UInt8) : (cutT sep e).1.length ≤ e.length ∧ (cutT sep e).2.1.length ≤ e.length := by
  unfold cutT
  cases findL sep e with
  | none => simp
  | some i => simp only [List.length_take, List.length_drop]; omega
theorem one2 (a b : List UInt8) : (#[strV a, strV b] : Array Value).all (·.oneCell') = true := by simp [Value.oneCell']
set_option maxRecDepth 100000 in
set_option maxHeartbeats 4000000 in
theorem readField_any (a : List UInt8) (w : World) (hm : MaxOk w) (ha : a.length ≤ 100000) :
    Calls Tryz.prog 93 #[strV a] w fun e w' => e = .returned (.tuple #[fldV (nmF a, vlF a), .int .i64 (codeF a)]) ∧ Below w.heap.size w w' := by
  have c0 := fun W h => Cut2_any a [58] W h (by omega)
  obtain ⟨l1, l2⟩ := cut_len [58] a
  have hc : codeF a = judgeZ ((cutT [58] a).2.2 && tokenL (nmF a) && (vlF a).all okV) (!rightF (nmF a, vlF a)) := rfl
  have hv : trimL (cutT [58] a).2.1 = vlF a := rfl
  have hvl : (vlF a).length ≤ a.length := Nat.le_trans (trim_len _) l2
  have hn : (cutT [58] a).1 = nmF a := rfl
  generalize codeF a = code at hc ⊢
  rw [hn] at c0 l1
  have ct := fun W => Trim_any ⟨(cutT [58] a).2.1.toArray⟩ W (by rw [szL]; unfold maxLen; omega)
  rw [dtL, hv] at ct
  generalize (cutT [58] a).2.1 = rest at c0 ct
  generalize (cutT [58] a).2.2 = q0 at c0 hc
  generalize nmF a = nm at *
  generalize vlF a = vl at *
  have c1 := fun W => Token_any ⟨nm.toArray⟩ W (by rw [szL]; unfold maxLen; omega)
  have c2 := fun W => all_text ⟨vl.toArray⟩ W (by rw [szL]; unfold maxLen; omega)
  rw [dtL] at c1 c2
  have c3 := fun W => fRight_any (nm, vl) W ⟨by show nm.length ≤ _; omega, by show vl.length ≤ _; omega⟩
  generalize tokenL nm = q1 at c1 hc
  generalize vl.all okV = q2 at c2 hc
  generalize rightF (nm, vl) = q3 at c3 hc
  have c4 := fun b c W => judge_any b c W
  have C0 := hid c0
  have CT := hid ct
  have C1 := hid c1
  have C2 := hid c2
  have C3 := hid c3
  have C4 := hid c4
  have HC := hid hc
  clear c0 ct c1 c2 c3 c4 hc hn hv hvl l1 l2 ha
  go_enter Tryz.func93, Tryz.ntmps93
  obtain ⟨W0, hW0⟩ : ∃ W, W = w.alloc (.cells #[.string ⟨#[]⟩, .string ⟨#[]⟩] 104) := ⟨_, rfl⟩
  have hb0 : Below w.heap.size w W0 := by rw [hW0]; exact below_alloc _ _
  have hs0 : W0.heap.size = w.heap.size + 1 := by rw [hW0]; simp
  have hr0 : rowIs W0 w.heap.size #[.string ⟨#[]⟩, .string ⟨#[]⟩] 104 := by rw [hW0]; exact rowIs_new _ _ _
  go_wp2_with fail
  rw [← hW0]
  clear hW0
  refine (C0.out _ (hm.below hb0)).mono ?_
  rintro e w1 ⟨rfl, hb1⟩
  have hr1 := hr0.below hb1
  have hs1 := hb1.size
  replace hb1 := chain2 hb0 hb0.size hb1
  clear hr0 hb0
  go_wp2_with fail
  refine (CT.out _).mono ?_
  rintro e w2 ⟨rfl, hb2⟩
  have hr2 := hr1.below hb2
  have hs2 := hb2.size
  replace hb2 := chain2 hb1 hb1.size hb2
  have hne : w2.heap.size ≠ w.heap.size := by omega
  clear hr1 hb1 hs0 hs1 hs2 hm
  obtain ⟨W, hW⟩ : ∃ W, W = w2.alloc (.cells #[strV nm, strV vl] 104) := ⟨_, rfl⟩
  have hbW : Below w2.heap.size w2 W := by rw [hW]; exact below_alloc _ _
  have hg : rowIs W w2.heap.size #[strV nm, strV vl] 104 := by rw [hW]; exact rowIs_new _ _ _
  have hr3 := hr2.below hbW
  replace hb2 := chain2 hb2 hb2.size hbW
  clear hr2 hbW
  go_wp2_with fail
  rw [← hW]
  clear hW
  generalize w2.heap.size = G at *
  have HS : HeldS w w.heap.size G #[strV nm, strV vl] 104 w.heap.size #[.string ⟨#[]⟩, .string ⟨#[]⟩] #[strV nm, strV vl] 104 [false] W := ⟨hb2, hb2.size, hg, hr3⟩
  have HN := hid hne
  clear hb2 hg hr3 hne
  cases q0
  · refine wp_region_U [16] (by kernel_rfl) (HeldS w w.heap.size G #[strV nm, strV vl] 104 w.heap.size #[.string ⟨#[]⟩, .string ⟨#[]⟩] #[strV nm, strV vl] 104) (b := [false]) (by kernel_rfl) HS.drew ?_
    refine wpAnyU_take (i := 0) (v := .agg #[strV nm, strV vl]) (by decide) rfl (by kernel_rfl) (by kernel_rfl) (by kernel_rfl) (fun _ _ _ h => h) (Steady.plain (by kernel_rfl) ?_) ?_
    · intro b W hS
      exact load_gives (x := .tmp 7) (by kernel_rfl) G (by kernel_rfl) hS.2.2.1 Tryz.underlying104 rfl infoFldS
    simp only [Act.put, List.getElem_toArray, List.getElem_cons_zero, List.setIfInBounds_toArray, List.set_cons_zero, List.set_cons_succ]
    refine wpAnyU_take (i := 1) (v := ?_) (by decide) rfl (by kernel_rfl) (by kernel_rfl) (by kernel_rfl) (fun _ _ _ h => h) (Steady.plain (by kernel_rfl) ?_) ?_
    rotate_left
    · intro b W hS
      have h0 := hS.2.2.1.cell 0
      have h1 := hS.2.2.1.cell 1
      go_simp
      first | done | with_reducible rfl
    simp only [Act.put, List.getElem_toArray, List.getElem_cons_succ, List.getElem_cons_zero, List.setIfInBounds_toArray, List.set_cons_zero, List.set_cons_succ]
    refine wpAnyU_take (i := 2) (v := ?_) (by decide) rfl (by kernel_rfl) (by kernel_rfl) (by kernel_rfl) (fun _ _ _ h => h) (Steady.plain (by kernel_rfl) ?_) ?_
    rotate_left
    · intro b W hS
      have h0 := hS.2.2.1.cell 0
      have h1 := hS.2.2.1.cell 1
      go_simp
      first | done | with_reducible rfl
    simp only [Act.put, List.getElem_toArray, List.getElem_cons_succ, List.getElem_cons_zero, List.setIfInBounds_toArray, List.set_cons_zero, List.set_cons_succ]
    refine wpAnyU_take (i := 3) (by decide) rfl (by kernel_rfl) (by kernel_rfl) (by kernel_rfl) (fun _ _ _ h => h) (Steady.off (by kernel_rfl)) ?_
    simp only [Act.put, List.getElem_toArray, List.getElem_cons_succ, List.getElem_cons_zero, List.setIfInBounds_toArray, List.set_cons_zero, List.set_cons_succ]
    refine wpAnyU_take (i := 4) (by decide) rfl (by kernel_rfl) (by kernel_rfl) (by kernel_rfl) (fun _ _ _ h => h) (Steady.off (by kernel_rfl)) ?_
    simp only [Act.put, List.getElem_toArray, List.getElem_cons_succ, List.getElem_cons_zero, List.setIfInBounds_toArray, List.set_cons_zero, List.set_cons_succ]
    refine wpAnyU_take (i := 5) (by decide) rfl (by kernel_rfl) (by kernel_rfl) (by kernel_rfl) (fun _ _ _ h => h) (Steady.off (by kernel_rfl)) ?_
    simp only [Act.put, List.getElem_toArray, List.getElem_cons_succ, List.getElem_cons_zero, List.setIfInBounds_toArray, List.set_cons_zero, List.set_cons_succ]
    refine wpAnyU_take (i := 6) (v := ?_) (by decide) rfl (by kernel_rfl) (by kernel_rfl) (by kernel_rfl) (fun _ _ _ h => h) (Steady.plain (by kernel_rfl) ?_) ?_
    rotate_left
    · intro b W hS
      have h0 := hS.2.2.1.cell 0
      have h1 := hS.2.2.1.cell 1
      go_simp
      first | done | with_reducible rfl
    simp only [Act.put, List.getElem_toArray, List.getElem_cons_succ, List.getElem_cons_zero, List.setIfInBounds_toArray, List.set_cons_zero, List.set_cons_succ]
    refine wpAnyU_take (i := 7) (v := ?_) (by decide) rfl (by kernel_rfl) (by kernel_rfl) (by kernel_rfl) (fun _ _ _ h => h) (Steady.plain (by kernel_rfl) ?_) ?_
    rotate_left
    · intro b W hS
      have h0 := hS.2.2.1.cell 0
      have h1 := hS.2.2.1.cell 1
      go_simp
      first | done | with_reducible rfl
    simp only [Act.put, List.getElem_toArray, List.getElem_cons_succ, List.getElem_cons_zero, List.setIfInBounds_toArray, List.set_cons_zero, List.set_cons_succ]
    refine wpAnyU_take (i := 8) (by decide) rfl (by kernel_rfl) (by kernel_rfl) (by kernel_rfl) (fun _ _ _ h => h) (Steady.off (by kernel_rfl)) ?_
    simp only [Act.put, List.getElem_toArray, List.getElem_cons_succ, List.getElem_cons_zero, List.setIfInBounds_toArray, List.set_cons_zero, List.set_cons_succ]
    refine wpAnyU_take (i := 9) (by decide) rfl (by kernel_rfl) (by kernel_rfl) (by kernel_rfl) (fun _ _ _ h => h) (Steady.off (by kernel_rfl)) ?_
    simp only [Act.put, List.getElem_toArray, List.getElem_cons_succ, List.getElem_cons_zero, List.setIfInBounds_toArray, List.set_cons_zero, List.set_cons_succ]
    refine wpAnyU_take (i := 10) (by decide) rfl (by kernel_rfl) (by kernel_rfl) (by kernel_rfl) (fun _ _ _ h => h) (Steady.off (by kernel_rfl)) ?_
    simp only [Act.put, List.getElem_toArray, List.getElem_cons_succ, List.getElem_cons_zero, List.setIfInBounds_toArray, List.set_cons_zero, List.set_cons_succ]
    refine wpAnyU_take (i := 11) (v := ?_) (by decide) rfl (by kernel_rfl) (by kernel_rfl) (by kernel_rfl) (fun _ _ _ h => h) (Steady.plain (by kernel_rfl) ?_) ?_
    rotate_left
    · intro b W hS
      have h0 := hS.2.2.1.cell 0
      have h1 := hS.2.2.1.cell 1
      go_simp
      first | done | with_reducible rfl
    simp only [Act.put, List.getElem_toArray, List.getElem_cons_succ, List.getElem_cons_zero, List.setIfInBounds_toArray, List.set_cons_zero, List.set_cons_succ]
    refine wpAnyU_take (i := 12) (v := .agg #[strV nm, strV vl]) (by decide) rfl (by kernel_rfl) (by kernel_rfl) (by kernel_rfl) (fun _ _ _ h => h) (Steady.plain (by kernel_rfl) ?_) ?_
    · intro b W hS
      exact load_gives (x := .tmp 7) (by kernel_rfl) G (by kernel_rfl) hS.2.2.1 Tryz.underlying104 rfl infoFldS
    simp only [Act.put, List.getElem_toArray, List.getElem_cons_succ, List.getElem_cons_zero, List.setIfInBounds_toArray, List.set_cons_zero, List.set_cons_succ]
    refine wpAnyU_take (i := 13) (v := .bool q3) (by decide) rfl (by kernel_rfl) (by kernel_rfl) (by kernel_rfl) (fun _ _ _ h => h) (Steady.call (f := 128) (args := #[fldV (nm, vl)]) (by kernel_rfl) (fun _ => by kernel_rfl) ?_) ?_
    · intro b W hS
      refine (C3.out W).mono ?_
      rintro e w' ⟨he, hb⟩
      exact ⟨he, hS.below hb⟩
    simp only [Act.put, List.getElem_toArray, List.getElem_cons_succ, List.getElem_cons_zero, List.setIfInBounds_toArray, List.set_cons_zero, List.set_cons_succ]
    refine wpAnyU_take (i := 14) (v := ?_) (by decide) rfl (by kernel_rfl) (by kernel_rfl) (by kernel_rfl) (fun _ _ _ h => h) (Steady.plain (by kernel_rfl) ?_) ?_
    rotate_left
    · intro b W hS
      have h0 := hS.2.2.1.cell 0
      have h1 := hS.2.2.1.cell 1
      go_simp
      first | done | with_reducible rfl
    simp only [Act.put, List.getElem_toArray, List.getElem_cons_succ, List.getElem_cons_zero, List.setIfInBounds_toArray, List.set_cons_zero, List.set_cons_succ]
    refine wpAnyU_take (i := 15) (v := .int .i64 (judgeZ false (!q3))) (by decide) rfl (by kernel_rfl) (by kernel_rfl) (by kernel_rfl) (fun _ _ _ h => h) (Steady.call (f := 90) (args := #[.bool false, .bool (!q3)]) (by kernel_rfl) (fun _ => by kernel_rfl) ?_) ?_
    · intro b W hS
      refine (C4.out false (!q3) W).mono ?_
      rintro e w' ⟨he, rfl⟩
      exact ⟨he, hS⟩
    simp only [Act.put, List.getElem_toArray, List.getElem_cons_succ, List.getElem_cons_zero, List.setIfInBounds_toArray, List.set_cons_zero, List.set_cons_succ]
    refine wpAnyU_turn (i := 16) (v := undef) (b := [false]) (b' := [true]) rfl (by kernel_rfl) (by kernel_rfl) (by kernel_rfl) (by kernel_rfl) (turn_store (ty := 104) (x := .tmp 2) (y := .tmp 18) (by kernel_rfl) w.heap.size #[strV nm, strV vl] (by kernel_rfl) (by kernel_rfl) infoFldS (one2 nm vl) (fun W hS => ⟨_, _, hS.2.2.2, rfl, hS.stored (Nat.le_refl _) HN.out⟩)) ?_
    simp only [Act.put, List.getElem_toArray, List.getElem_cons_succ, List.getElem_cons_zero]
    refine wpAnyU_take (i := 17) (v := ?_) (by decide) rfl (by kernel_rfl) (by kernel_rfl) (by kernel_rfl) (fun _ _ _ h => h) (Steady.plain (by kernel_rfl) ?_) ?_
    rotate_left
    · intro b W hS
      have h0 := hS.2.2.1.cell 0
      have h1 := hS.2.2.1.cell 1
      go_simp
      first | done | with_reducible rfl
    simp only [Act.put, List.getElem_toArray, List.getElem_cons_succ, List.getElem_cons_zero, List.setIfInBounds_toArray, List.set_cons_zero, List.set_cons_succ]
    refine wpAnyU_done (b := [true]) (by kernel_rfl) (by kernel_rfl) ?_ _
    intro w' hS
    go_wp2_with fail
    refine bodyPost_ret (results_row2 Tryz.results93 _ _ w.heap.size _ rfl hS.2.2.2 Tryz.underlying104 rfl infoFldS) rfl ?_
    rw [HC.out]
    exact ⟨rfl, hS.1⟩
  · cases q1
    · refine wp_region_U [16] (by kernel_rfl) (HeldS w w.heap.size G #[strV nm, strV vl] 104 w.heap.size #[.string ⟨#[]⟩, .string ⟨#[]⟩] #[strV nm, strV vl] 104) (b := [false]) (by kernel_rfl) HS.drew ?_
      refine wpAnyU_take (i := 0) (v := .agg #[strV nm, strV vl]) (by decide) rfl (by kernel_rfl) (by kernel_rfl) (by kernel_rfl) (fun _ _ _ h => h) (Steady.plain (by kernel_rfl) ?_) ?_
      · intro b W hS
        exact load_gives (x := .tmp 7) (by kernel_rfl) G (by kernel_rfl) hS.2.2.1 Tryz.underlying104 rfl infoFldS
      simp only [Act.put, List.getElem_toArray, List.getElem_cons_zero, List.setIfInBounds_toArray, List.set_cons_zero, List.set_cons_succ]
      refine wpAnyU_take (i := 1) (v := ?_) (by decide) rfl (by kernel_rfl) (by kernel_rfl) (by kernel_rfl) (fun _ _ _ h => h) (Steady.plain (by kernel_rfl) ?_) ?_
      rotate_left
      · intro b W hS
        have h0 := hS.2.2.1.cell 0
        have h1 := hS.2.2.1.cell 1
        go_simp
        first | done | with_reducible rfl
      simp only [Act.put, List.getElem_toArray, List.getElem_cons_succ, List.getElem_cons_zero, List.setIfInBounds_toArray, List.set_cons_zero, List.set_cons_succ]
      refine wpAnyU_take (i := 2) (v := ?_) (by decide) rfl (by kernel_rfl) (by kernel_rfl) (by kernel_rfl) (fun _ _ _ h => h) (Steady.plain (by kernel_rfl) ?_) ?_
      rotate_left
      · intro b W hS
        have h0 := hS.2.2.1.cell 0
        have h1 := hS.2.2.1.cell 1
        go_simp
        first | done | with_reducible rfl
      simp only [Act.put, List.getElem_toArray, List.getElem_cons_succ, List.getElem_cons_zero, List.setIfInBounds_toArray, List.set_cons_zero, List.set_cons_succ]
      refine wpAnyU_take (i := 3) (v := ?_) (by decide) rfl (by kernel_rfl) (by kernel_rfl) (by kernel_rfl) (fun _ _ _ h => h) (Steady.plain (by kernel_rfl) ?_) ?_
      rotate_left
      · intro b W hS
        have h0 := hS.2.2.1.cell 0
        have h1 := hS.2.2.1.cell 1
        go_simp
        first | done | with_reducible rfl
      simp only [Act.put, List.getElem_toArray, List.getElem_cons_succ, List.getElem_cons_zero, List.setIfInBounds_toArray, List.set_cons_zero, List.set_cons_succ]
      refine wpAnyU_take (i := 4) (v := ?_) (by decide) rfl (by kernel_rfl) (by kernel_rfl) (by kernel_rfl) (fun _ _ _ h => h) (Steady.plain (by kernel_rfl) ?_) ?_
      rotate_left
      · intro b W hS
        have h0 := hS.2.2.1.cell 0
        have h1 := hS.2.2.1.cell 1
        go_simp
        first | done | with_reducible rfl
      simp only [Act.put, List.getElem_toArray, List.getElem_cons_succ, List.getElem_cons_zero, List.setIfInBounds_toArray, List.set_cons_zero, List.set_cons_succ]
      refine wpAnyU_take (i := 5) (v := .bool false) (by decide) rfl (by kernel_rfl) (by kernel_rfl) (by kernel_rfl) (fun _ _ _ h => h) (Steady.call (f := 122) (args := #[strV nm]) (by kernel_rfl) (fun _ => by kernel_rfl) ?_) ?_
      · intro b W hS
        refine (C1.out W).mono ?_
        rintro e w' ⟨he, rfl⟩
        exact ⟨he, hS⟩
      simp only [Act.put, List.getElem_toArray, List.getElem_cons_succ, List.getElem_cons_zero, List.setIfInBounds_toArray, List.set_cons_zero, List.set_cons_succ]
      refine wpAnyU_take (i := 6) (v := ?_) (by decide) rfl (by kernel_rfl) (by kernel_rfl) (by kernel_rfl) (fun _ _ _ h => h) (Steady.plain (by kernel_rfl) ?_) ?_
      rotate_left
      · intro b W hS
        have h0 := hS.2.2.1.cell 0
        have h1 := hS.2.2.1.cell 1
        go_simp
        first | done | with_reducible rfl
      simp only [Act.put, List.getElem_toArray, List.getElem_cons_succ, List.getElem_cons_zero, List.setIfInBounds_toArray, List.set_cons_zero, List.set_cons_succ]
      refine wpAnyU_take (i := 7) (v := ?_) (by decide) rfl (by kernel_rfl) (by kernel_rfl) (by kernel_rfl) (fun _ _ _ h => h) (Steady.plain (by kernel_rfl) ?_) ?_
      rotate_left
      · intro b W hS
        have h0 := hS.2.2.1.cell 0
        have h1 := hS.2.2.1.cell 1
        go_simp
        first | done | with_reducible rfl
      simp only [Act.put, List.getElem_toArray, List.getElem_cons_succ, List.getElem_cons_zero, List.setIfInBounds_toArray, List.set_cons_zero, List.set_cons_succ]
      refine wpAnyU_take (i := 8) (by decide) rfl (by kernel_rfl) (by kernel_rfl) (by kernel_rfl) (fun _ _ _ h => h) (Steady.off (by kernel_rfl)) ?_
      simp only [Act.put, List.getElem_toArray, List.getElem_cons_succ, List.getElem_cons_zero, List.setIfInBounds_toArray, List.set_cons_zero, List.set_cons_succ]
      refine wpAnyU_take (i := 9) (by decide) rfl (by kernel_rfl) (by kernel_rfl) (by kernel_rfl) (fun _ _ _ h => h) (Steady.off (by kernel_rfl)) ?_
      simp only [Act.put, List.getElem_toArray, List.getElem_cons_succ, List.getElem_cons_zero, List.setIfInBounds_toArray, List.set_cons_zero, List.set_cons_succ]
      refine wpAnyU_take (i := 10) (by decide) rfl (by kernel_rfl) (by kernel_rfl) (by kernel_rfl) (fun _ _ _ h => h) (Steady.off (by kernel_rfl)) ?_
      simp only [Act.put, List.getElem_toArray, List.getElem_cons_succ, List.getElem_cons_zero, List.setIfInBounds_toArray, List.set_cons_zero, List.set_cons_succ]
      refine wpAnyU_take (i := 11) (v := ?_) (by decide) rfl (by kernel_rfl) (by kernel_rfl) (by kernel_rfl) (fun _ _ _ h => h) (Steady.plain (by kernel_rfl) ?_) ?_
      rotate_left
      · intro b W hS
        have h0 := hS.2.2.1.cell 0
        have h1 := hS.2.2.1.cell 1
        go_simp
        first | done | with_reducible rfl
      simp only [Act.put, List.getElem_toArray, List.getElem_cons_succ, List.getElem_cons_zero, List.setIfInBounds_toArray, List.set_cons_zero, List.set_cons_succ]
      refine wpAnyU_take (i := 12) (v := .agg #[strV nm, strV vl]) (by decide) rfl (by kernel_rfl) (by kernel_rfl) (by kernel_rfl) (fun _ _ _ h => h) (Steady.plain (by kernel_rfl) ?_) ?_
      · intro b W hS
        exact load_gives (x := .tmp 7) (by kernel_rfl) G (by kernel_rfl) hS.2.2.1 Tryz.underlying104 rfl infoFldS
      simp only [Act.put, List.getElem_toArray, List.getElem_cons_succ, List.getElem_cons_zero, List.setIfInBounds_toArray, List.set_cons_zero, List.set_cons_succ]
      refine wpAnyU_take (i := 13) (v := .bool q3) (by decide) rfl (by kernel_rfl) (by kernel_rfl) (by kernel_rfl) (fun _ _ _ h => h) (Steady.call (f := 128) (args := #[fldV (nm, vl)]) (by kernel_rfl) (fun _ => by kernel_rfl) ?_) ?_
      · intro b W hS
        refine (C3.out W).mono ?_
        rintro e w' ⟨he, hb⟩
        exact ⟨he, hS.below hb⟩
      simp only [Act.put, List.getElem_toArray, List.getElem_cons_succ, List.getElem_cons_zero, List.setIfInBounds_toArray, List.set_cons_zero, List.set_cons_succ]
      refine wpAnyU_take (i := 14) (v := ?_) (by decide) rfl (by kernel_rfl) (by kernel_rfl) (by kernel_rfl) (fun _ _ _ h => h) (Steady.plain (by kernel_rfl) ?_) ?_
      rotate_left
      · intro b W hS
        have h0 := hS.2.2.1.cell 0
        have h1 := hS.2.2.1.cell 1
        go_simp
        first | done | with_reducible rfl
      simp only [Act.put, List.getElem_toArray, List.getElem_cons_succ, List.getElem_cons_zero, List.setIfInBounds_toArray, List.set_cons_zero, List.set_cons_succ]
      refine wpAnyU_take (i := 15) (v := .int .i64 (judgeZ false (!q3))) (by decide) rfl (by kernel_rfl) (by kernel_rfl) (by kernel_rfl) (fun _ _ _ h => h) (Steady.call (f := 90) (args := #[.bool false, .bool (!q3)]) (by kernel_rfl) (fun _ => by kernel_rfl) ?_) ?_
      · intro b W hS
        refine (C4.out false (!q3) W).mono ?_
        rintro e w' ⟨he, rfl⟩
        exact ⟨he, hS⟩
      simp only [Act.put, List.getElem_toArray, List.getElem_cons_succ, List.getElem_cons_zero, List.setIfInBounds_toArray, List.set_cons_zero, List.set_cons_succ]
      refine wpAnyU_turn (i := 16) (v := undef) (b := [false]) (b' := [true]) rfl (by kernel_rfl) (by kernel_rfl) (by kernel_rfl) (by kernel_rfl) (turn_store (ty := 104) (x := .tmp 2) (y := .tmp 18) (by kernel_rfl) w.heap.size #[strV nm, strV vl] (by kernel_rfl) (by kernel_rfl) infoFldS (one2 nm vl) (fun W hS => ⟨_, _, hS.2.2.2, rfl, hS.stored (Nat.le_refl _) HN.out⟩)) ?_
      simp only [Act.put, List.getElem_toArray, List.getElem_cons_succ, List.getElem_cons_zero]
      refine wpAnyU_take (i := 17) (v := ?_) (by decide) rfl (by kernel_rfl) (by kernel_rfl) (by kernel_rfl) (fun _ _ _ h => h) (Steady.plain (by kernel_rfl) ?_) ?_
      rotate_left
      · intro b W hS
        have h0 := hS.2.2.1.cell 0
        have h1 := hS.2.2.1.cell 1
        go_simp
        first | done | with_reducible rfl
      simp only [Act.put, List.getElem_toArray, List.getElem_cons_succ, List.getElem_cons_zero, List.setIfInBounds_toArray, List.set_cons_zero, List.set_cons_succ]
      refine wpAnyU_done (b := [true]) (by kernel_rfl) (by kernel_rfl) ?_ _
      intro w' hS
      go_wp2_with fail
      refine bodyPost_ret (results_row2 Tryz.results93 _ _ w.heap.size _ rfl hS.2.2.2 Tryz.underlying104 rfl infoFldS) rfl ?_
      rw [HC.out]
      exact ⟨rfl, hS.1⟩
    · refine wp_region_U [16] (by kernel_rfl) (HeldS w w.heap.size G #[strV nm, strV vl] 104 w.heap.size #[.string ⟨#[]⟩, .string ⟨#[]⟩] #[strV nm, strV vl] 104) (b := [false]) (by kernel_rfl) HS.drew ?_
      refine wpAnyU_take (i := 0) (v := .agg #[strV nm, strV vl]) (by decide) rfl (by kernel_rfl) (by kernel_rfl) (by kernel_rfl) (fun _ _ _ h => h) (Steady.plain (by kernel_rfl) ?_) ?_
      · intro b W hS
        exact load_gives (x := .tmp 7) (by kernel_rfl) G (by kernel_rfl) hS.2.2.1 Tryz.underlying104 rfl infoFldS
      simp only [Act.put, List.getElem_toArray, List.getElem_cons_zero, List.setIfInBounds_toArray, List.set_cons_zero, List.set_cons_succ]
      refine wpAnyU_take (i := 1) (v := ?_) (by decide) rfl (by kernel_rfl) (by kernel_rfl) (by kernel_rfl) (fun _ _ _ h => h) (Steady.plain (by kernel_rfl) ?_) ?_
      rotate_left
      · intro b W hS
        have h0 := hS.2.2.1.cell 0
        have h1 := hS.2.2.1.cell 1
        go_simp
        first | done | with_reducible rfl
      simp only [Act.put, List.getElem_toArray, List.getElem_cons_succ, List.getElem_cons_zero, List.setIfInBounds_toArray, List.set_cons_zero, List.set_cons_succ]
      refine wpAnyU_take (i := 2) (v := ?_) (by decide) rfl (by kernel_rfl) (by kernel_rfl) (by kernel_rfl) (fun _ _ _ h => h) (Steady.plain (by kernel_rfl) ?_) ?_
      rotate_left
      · intro b W hS
        have h0 := hS.2.2.1.cell 0
        have h1 := hS.2.2.1.cell 1
        go_simp
        first | done | with_reducible rfl
      simp only [Act.put, List.getElem_toArray, List.getElem_cons_succ, List.getElem_cons_zero, List.setIfInBounds_toArray, List.set_cons_zero, List.set_cons_succ]
      refine wpAnyU_take (i := 3) (v := ?_) (by decide) rfl (by kernel_rfl) (by kernel_rfl) (by kernel_rfl) (fun _ _ _ h => h) (Steady.plain (by kernel_rfl) ?_) ?_
      rotate_left
      · intro b W hS
        have h0 := hS.2.2.1.cell 0
        have h1 := hS.2.2.1.cell 1
        go_simp
        first | done | with_reducible rfl
      simp only [Act.put, List.getElem_toArray, List.getElem_cons_succ, List.getElem_cons_zero, List.setIfInBounds_toArray, List.set_cons_zero, List.set_cons_succ]
      refine wpAnyU_take (i := 4) (v := ?_) (by decide) rfl (by kernel_rfl) (by kernel_rfl) (by kernel_rfl) (fun _ _ _ h => h) (Steady.plain (by kernel_rfl) ?_) ?_
      rotate_left
      · intro b W hS
        have h0 := hS.2.2.1.cell 0
        have h1 := hS.2.2.1.cell 1
        go_simp
        first | done | with_reducible rfl
      simp only [Act.put, List.getElem_toArray, List.getElem_cons_succ, List.getElem_cons_zero, List.setIfInBounds_toArray, List.set_cons_zero, List.set_cons_succ]
      refine wpAnyU_take (i := 5) (v := .bool true) (by decide) rfl (by kernel_rfl) (by kernel_rfl) (by kernel_rfl) (fun _ _ _ h => h) (Steady.call (f := 122) (args := #[strV nm]) (by kernel_rfl) (fun _ => by kernel_rfl) ?_) ?_
      · intro b W hS
        refine (C1.out W).mono ?_
        rintro e w' ⟨he, rfl⟩
        exact ⟨he, hS⟩
      simp only [Act.put, List.getElem_toArray, List.getElem_cons_succ, List.getElem_cons_zero, List.setIfInBounds_toArray, List.set_cons_zero, List.set_cons_succ]
      refine wpAnyU_take (i := 6) (v := ?_) (by decide) rfl (by kernel_rfl) (by kernel_rfl) (by kernel_rfl) (fun _ _ _ h => h) (Steady.plain (by kernel_rfl) ?_) ?_
      rotate_left
      · intro b W hS
        have h0 := hS.2.2.1.cell 0
        have h1 := hS.2.2.1.cell 1
        go_simp
        first | done | with_reducible rfl
      simp only [Act.put, List.getElem_toArray, List.getElem_cons_succ, List.getElem_cons_zero, List.setIfInBounds_toArray, List.set_cons_zero, List.set_cons_succ]
      refine wpAnyU_take (i := 7) (v := ?_) (by decide) rfl (by kernel_rfl) (by kernel_rfl) (by kernel_rfl) (fun _ _ _ h => h) (Steady.plain (by kernel_rfl) ?_) ?_
      rotate_left
      · intro b W hS
        have h0 := hS.2.2.1.cell 0
        have h1 := hS.2.2.1.cell 1
        go_simp
        first | done | with_reducible rfl
      simp only [Act.put, List.getElem_toArray, List.getElem_cons_succ, List.getElem_cons_zero, List.setIfInBounds_toArray, List.set_cons_zero, List.set_cons_succ]
      refine wpAnyU_take (i := 8) (v := ?_) (by decide) rfl (by kernel_rfl) (by kernel_rfl) (by kernel_rfl) (fun _ _ _ h => h) (Steady.plain (by kernel_rfl) ?_) ?_
      rotate_left
      · intro b W hS
        have h0 := hS.2.2.1.cell 0
        have h1 := hS.2.2.1.cell 1
        go_simp
        first | done | with_reducible rfl
      simp only [Act.put, List.getElem_toArray, List.getElem_cons_succ, List.getElem_cons_zero, List.setIfInBounds_toArray, List.set_cons_zero, List.set_cons_succ]
      refine wpAnyU_take (i := 9) (v := ?_) (by decide) rfl (by kernel_rfl) (by kernel_rfl) (by kernel_rfl) (fun _ _ _ h => h) (Steady.plain (by kernel_rfl) ?_) ?_
      rotate_left
      · intro b W hS
        have h0 := hS.2.2.1.cell 0
        have h1 := hS.2.2.1.cell 1
        go_simp
        first | done | with_reducible rfl
      simp only [Act.put, List.getElem_toArray, List.getElem_cons_succ, List.getElem_cons_zero, List.setIfInBounds_toArray, List.set_cons_zero, List.set_cons_succ]
      refine wpAnyU_take (i := 10) (v := .bool q2) (by decide) rfl (by kernel_rfl) (by kernel_rfl) (by kernel_rfl) (fun _ _ _ h => h) (Steady.call (f := 123) (args := #[strV vl, .func (.func 127) #[] #[]]) (by kernel_rfl) (fun _ => by kernel_rfl) ?_) ?_
      · intro b W hS
        refine (C2.out W).mono ?_
        rintro e w' ⟨he, hb⟩
        exact ⟨he, hS.below hb⟩
      simp only [Act.put, List.getElem_toArray, List.getElem_cons_succ, List.getElem_cons_zero, List.setIfInBounds_toArray, List.set_cons_zero, List.set_cons_succ]
      refine wpAnyU_take (i := 11) (v := ?_) (by decide) rfl (by kernel_rfl) (by kernel_rfl) (by kernel_rfl) (fun _ _ _ h => h) (Steady.plain (by kernel_rfl) ?_) ?_
      rotate_left
      · intro b W hS
        have h0 := hS.2.2.1.cell 0
        have h1 := hS.2.2.1.cell 1
        go_simp
        first | done | with_reducible rfl
      simp only [Act.put, List.getElem_toArray, List.getElem_cons_succ, List.getElem_cons_zero, List.setIfInBounds_toArray, List.set_cons_zero, List.set_cons_succ]
      refine wpAnyU_take (i := 12) (v := .agg #[strV nm, strV vl]) (by decide) rfl (by kernel_rfl) (by kernel_rfl) (by kernel_rfl) (fun _ _ _ h => h) (Steady.plain (by kernel_rfl) ?_) ?_
      · intro b W hS
        exact load_gives (x := .tmp 7) (by kernel_rfl) G (by kernel_rfl) hS.2.2.1 Tryz.underlying104 rfl infoFldS
      simp only [Act.put, List.getElem_toArray, List.getElem_cons_succ, List.getElem_cons_zero, List.setIfInBounds_toArray, List.set_cons_zero, List.set_cons_succ]
      refine wpAnyU_take (i := 13) (v := .bool q3) (by decide) rfl (by kernel_rfl) (by kernel_rfl) (by kernel_rfl) (fun _ _ _ h => h) (Steady.call (f := 128) (args := #[fldV (nm, vl)]) (by kernel_rfl) (fun _ => by kernel_rfl) ?_) ?_
      · intro b W hS
        refine (C3.out W).mono ?_
        rintro e w' ⟨he, hb⟩
        exact ⟨he, hS.below hb⟩
      simp only [Act.put, List.getElem_toArray, List.getElem_cons_succ, List.getElem_cons_zero, List.setIfInBounds_toArray, List.set_cons_zero, List.set_cons_succ]
      refine wpAnyU_take (i := 14) (v := ?_) (by decide) rfl (by kernel_rfl) (by kernel_rfl) (by kernel_rfl) (fun _ _ _ h => h) (Steady.plain (by kernel_rfl) ?_) ?_
      rotate_left
      · intro b W hS
        have h0 := hS.2.2.1.cell 0
        have h1 := hS.2.2.1.cell 1
        go_simp
        first | done | with_reducible rfl
      simp only [Act.put, List.getElem_toArray, List.getElem_cons_succ, List.getElem_cons_zero, List.setIfInBounds_toArray, List.set_cons_zero, List.set_cons_succ]
      refine wpAnyU_take (i := 15) (v := .int .i64 (judgeZ q2 (!q3))) (by decide) rfl (by kernel_rfl) (by kernel_rfl) (by kernel_rfl) (fun _ _ _ h => h) (Steady.call (f := 90) (args := #[.bool q2, .bool (!q3)]) (by kernel_rfl) (fun _ => by kernel_rfl) ?_) ?_
      · intro b W hS
        refine (C4.out q2 (!q3) W).mono ?_
        rintro e w' ⟨he, rfl⟩
        exact ⟨he, hS⟩
      simp only [Act.put, List.getElem_toArray, List.getElem_cons_succ, List.getElem_cons_zero, List.setIfInBounds_toArray, List.set_cons_zero, List.set_cons_succ]
      refine wpAnyU_turn (i := 16) (v := undef) (b := [false]) (b' := [true]) rfl (by kernel_rfl) (by kernel_rfl) (by kernel_rfl) (by kernel_rfl) (turn_store (ty := 104) (x := .tmp 2) (y := .tmp 18) (by kernel_rfl) w.heap.size #[strV nm, strV vl] (by kernel_rfl) (by kernel_rfl) infoFldS (one2 nm vl) (fun W hS => ⟨_, _, hS.2.2.2, rfl, hS.stored (Nat.le_refl _) HN.out⟩)) ?_
      simp only [Act.put, List.getElem_toArray, List.getElem_cons_succ, List.getElem_cons_zero]
      refine wpAnyU_take (i := 17) (v := ?_) (by decide) rfl (by kernel_rfl) (by kernel_rfl) (by kernel_rfl) (fun _ _ _ h => h) (Steady.plain (by kernel_rfl) ?_) ?_
      rotate_left
      · intro b W hS
        have h0 := hS.2.2.1.cell 0
        have h1 := hS.2.2.1.cell 1
        go_simp
        first | done | with_reducible rfl
      simp only [Act.put, List.getElem_toArray, List.getElem_cons_succ, List.getElem_cons_zero, List.setIfInBounds_toArray, List.set_cons_zero, List.set_cons_succ]
      refine wpAnyU_done (b := [true]) (by kernel_rfl) (by kernel_rfl) ?_ _
      intro w' hS
      go_wp2_with fail
      refine bodyPost_ret (results_row2 Tryz.results93 _ _ w.heap.size _ rfl hS.2.2.2 Tryz.underlying104 rfl infoFldS) rfl ?_
      rw [HC.out]
      exact ⟨rfl, hS.1⟩
end Go.Proofs.YtongceljdgmbdaaGreatDoor
