/-
  Several texts in one: HeadC, HeadD.
-/
import Derived.Test.YtefplhkjcclppaaGreatDoorW8f06
import Derived.Test.YtefplhkjcclppaaGreatDoorW8f02
import Derived.Deep.QuietTactic
import Derived.BigQuiet
import Derived.Test.YtefplhkjcclppaaGreatDoorPureAll2
/-
  Contract of package head: cut.
-/
namespace Go.Proofs.YtefplhkjcclppaaGreatDoor
open Go.RowKit Go.Pantry

theorem cut_err (ao : Option Addr) (cap : Nat) (l : List UInt8) (e : Nat) (w : World) (hr : Reads w (.slice ao l.length cap) (l.map byteV)) (hc : l.length ≤ cap) (hm : MaxOk w) (he : cutL l = .error e) :
    Calls Tryz.prog 35 #[.slice ao l.length cap] w fun r w' => r = .returned (.tuple #[.string ⟨#[]⟩, .slice none 0 0, .int .i64 0, .int .i64 (e : Int)]) ∧ Below w.heap.size w w' := by
  obtain ⟨k, hk⟩ : ∃ k, min l.length 4096 = k := ⟨_, rfl⟩
  have hmin : min (l.length : Int) 4096 = (k : Int) := by omega
  have hkc : (k : Int) ≤ (cap : Int) := by omega
  have hk4 : (k : Int) ≤ 4096 := by omega
  have ht : l.take 4096 = l.take k := by
    rw [← hk]
    by_cases h : l.length ≤ 4096
    · rw [Nat.min_eq_left h, List.take_of_length_le h, List.take_of_length_le (Nat.le_refl _)]
    · rw [Nat.min_eq_right (by omega)]
  obtain ⟨T, hT⟩ : ∃ T, T = l.take k := ⟨_, rfl⟩
  have hTl : T.length = k := by rw [hT, List.length_take]; omega
  have hrd : Reads w (.slice ao k cap) (T.map byteV) := by
    have h := hr.take k (by rw [List.length_map]; omega)
    rw [← List.map_take, ← hT] at h
    exact h
  have hcv := reads_string (P := Tryz.prog) hrd 27 9 5 Tryz.underlying27 Tryz.underlying5 Tryz.underlying9
  unfold cutL at he
  rw [ht, ← hT] at he
  cases hf : findL crlf2 T with
  | some i => rw [hf] at he; cases he
  | none =>
    rw [hf] at he
    simp only at he
    have c1 := fun W h => Cut2_any T crlf2 W h (by omega)
    have hct : cutT crlf2 T = (T, [], false) := by unfold cutT; rw [hf]
    rw [hct] at c1
    have C1 := hid c1
    clear c1 hct hf hr hrd ht hc hk hT
    by_cases h4 : k = 4096
    · rw [if_pos (by omega)] at he
      cases he
      subst h4
      clear hTl
      go_enter Tryz.func35, Tryz.ntmps35
      go_wp2_with fail
      refine (C1.out _ hm).mono ?_
      rintro r w1 ⟨rfl, hb⟩
      clear hcv
      go_wp2_with fail
      refine bodyPost_ret (v := .tuple #[.string ⟨#[]⟩, .slice none 0 0, .int .i64 0, .int .i64 22]) (by simp [results, Tryz.results35, go_sem]) rfl ?_
      exact ⟨rfl, hb⟩
    · rw [if_neg (by omega)] at he
      cases he
      have h5 : ((k : Int) == 4096) = false := by simp; omega
      clear hTl h4
      go_enter Tryz.func35, Tryz.ntmps35
      go_wp2_with fail
      refine (C1.out _ hm).mono ?_
      rintro r w1 ⟨rfl, hb⟩
      clear hcv
      go_wp2_with fail
      refine bodyPost_ret (v := .tuple #[.string ⟨#[]⟩, .slice none 0 0, .int .i64 0, .int .i64 20]) (by simp [results, Tryz.results35, go_sem]) rfl ?_
      exact ⟨rfl, hb⟩
/-- what cut tells of a head that is there -/
def CutMade (a : List UInt8) (r : List (List UInt8)) (n : Nat) (e : Ending) (w' : World) : Prop := ∃ ao cap, e = .returned (.tuple #[strV a, .slice ao r.length cap, .int .i64 (n : Int), .int .i64 0]) ∧ Reads w' (.slice ao r.length cap) (r.map strV)
set_option maxHeartbeats 1000000 in
theorem cut_ok (ao : Option Addr) (cap : Nat) (l : List UInt8) (a : List UInt8) (r : List (List UInt8)) (n : Nat) (w : World) (hr : Reads w (.slice ao l.length cap) (l.map byteV)) (hc : l.length ≤ cap) (hm : MaxOk w) (he : cutL l = .ok (a :: r, n)) :
    Calls Tryz.prog 35 #[.slice ao l.length cap] w fun e w' => CutMade a r n e w' ∧ Below w.heap.size w w' := by
  obtain ⟨k, hk⟩ : ∃ k, min l.length 4096 = k := ⟨_, rfl⟩
  have hmin : min (l.length : Int) 4096 = (k : Int) := by omega
  have hkc : (k : Int) ≤ (cap : Int) := by omega
  have hk4 : (k : Int) ≤ 4096 := by omega
  have ht : l.take 4096 = l.take k := by
    rw [← hk]
    by_cases h : l.length ≤ 4096
    · rw [Nat.min_eq_left h, List.take_of_length_le h, List.take_of_length_le (Nat.le_refl _)]
    · rw [Nat.min_eq_right (by omega)]
  obtain ⟨T, hT⟩ : ∃ T, T = l.take k := ⟨_, rfl⟩
  have hTl : T.length = k := by rw [hT, List.length_take]; omega
  have hrd : Reads w (.slice ao k cap) (T.map byteV) := by
    have h := hr.take k (by rw [List.length_map]; omega)
    rw [← List.map_take, ← hT] at h
    exact h
  have hcv := reads_string (P := Tryz.prog) hrd 27 9 5 Tryz.underlying27 Tryz.underlying5 Tryz.underlying9
  unfold cutL at he
  rw [ht, ← hT] at he
  cases hf : findL crlf2 T with
  | none =>
    rw [hf] at he
    simp only at he
    split at he <;> cases he
  | some i =>
    rw [hf] at he
    have hil := findL_lt (by decide) hf
    have h44 : crlf2.length = 4 := rfl
    have hil2 : i + 4 ≤ k := by omega
    have hpi : l.take i = T.take i := by rw [hT, List.take_take, Nat.min_eq_left (by omega)]
    simp only at he
    rw [hpi] at he
    obtain ⟨S, hS⟩ : ∃ S, S = T.take i := ⟨_, rfl⟩
    have hSl : S.length = i := by rw [hS, List.length_take]; omega
    have c1 := fun W h => Cut2_any T crlf2 W h (by omega)
    have hct : (cutT crlf2 T).1 = S ∧ (cutT crlf2 T).2.2 = true := by unfold cutT; rw [hf, hS]; exact ⟨rfl, rfl⟩
    rw [hct.1, hct.2] at c1
    generalize (cutT crlf2 T).2.1 = rest at c1
    rw [← hS] at he
    have c2 := fun W h => Split2_any S crlf W (by decide) h (by omega)
    rw [hSl] at c2
    injection he with he
    injection he with hp hn
    rw [hp] at c2
    subst hn
    have C1 := hid c1
    have C2 := hid c2
    have hw : IntKind.i64.wrap ((i : Int) + 4) = (i : Int) + 4 := IntWalk.i64_in _ (by omega)
    have hSI : (S.length : Int) = (i : Int) := by omega
    clear c1 c2 hct hf hr hrd ht hc hk hT hp hS hpi hSl hTl hil h44
    cases r with
    | nil =>
      go_enter Tryz.func35, Tryz.ntmps35
      go_wp2_with fail
      refine (C1.out _ hm).mono ?_
      rintro e w1 ⟨rfl, hb⟩
      clear hcv
      go_wp2_with fail
      refine (C2.out _ (hm.below hb)).mono ?_
      rintro e w2 ⟨rfl, rfl⟩
      have hb2 := chain2 hb hb.size (below_alloc w1 (.cells ([a].map strV).toArray 9))
      have g0 : (w1.alloc (.cells ([a].map strV).toArray 9)).cell? ⟨w1.heap.size, 0, none⟩ = some (strV a) := by rw [World.cell?_alloc_at _ _ _ _ rfl]; rfl
      obtain ⟨W, hW⟩ : ∃ W, W = w1.alloc (.cells ([a].map strV).toArray 9) := ⟨_, rfl⟩
      rw [← hW] at g0 hb2
      rw [← hW]
      clear hW
      go_wp2_with fail
      go_quiet (fail)
      go_wp2_with fail
      refine bodyPost_ret (v := .tuple #[strV a, .slice (some ⟨w1.heap.size, 0, none⟩) 0 0, .int .i64 ((i : Int) + 4), .int .i64 0]) (by simp [results, Tryz.results35, go_sem]) rfl ?_
      refine ⟨⟨_, _, rfl, ?_⟩, chain2 hb2 hb2.size (drewN_below2 _ _)⟩
      exact ⟨_, _, rfl, (fun j u hj => by simp at hj), fun e => by cases e⟩
    | cons r0 r1 =>
      go_enter Tryz.func35, Tryz.ntmps35
      go_wp2_with fail
      refine (C1.out _ hm).mono ?_
      rintro e w1 ⟨rfl, hb⟩
      clear hcv
      go_wp2_with fail
      refine (C2.out _ (hm.below hb)).mono ?_
      rintro e w2 ⟨rfl, rfl⟩
      have hb2 := chain2 hb hb.size (below_alloc w1 (.cells ((a :: r0 :: r1).map strV).toArray 9))
      have g0 : (w1.alloc (.cells ((a :: r0 :: r1).map strV).toArray 9)).cell? ⟨w1.heap.size, 0, none⟩ = some (strV a) := by rw [World.cell?_alloc_at _ _ _ _ rfl]; rfl
      have gr := reads_new w1 ((a :: r0 :: r1).map strV) 9 0
      obtain ⟨W, hW⟩ : ∃ W, W = w1.alloc (.cells ((a :: r0 :: r1).map strV).toArray 9) := ⟨_, rfl⟩
      rw [← hW] at g0 hb2 gr
      rw [← hW]
      have GR := hid gr
      clear hW gr
      go_wp2_with fail
      go_quiet (fail)
      go_wp2_with fail
      refine bodyPost_ret (v := .tuple #[strV a, .slice (some ⟨w1.heap.size, 1, none⟩) (r1.length + 1) (r1.length + 1), .int .i64 ((i : Int) + 4), .int .i64 0]) (by simp [results, Tryz.results35, go_sem]) rfl ?_
      refine ⟨⟨_, _, rfl, ?_⟩, chain2 hb2 hb2.size (drewN_below2 _ _)⟩
      have gr2 := reads_tail (GR.out.below (drewN_below2 W nq)) (r1.length + 1)
      rw [List.length_map] at gr2
      exact gr2
end Go.Proofs.YtefplhkjcclppaaGreatDoor
/-
  Contract of package head: readField.
-/
namespace Go.Proofs.YtefplhkjcclppaaGreatDoor
open Go.RowKit Go.Pantry

theorem infoFldS : (Tryz.prog.info? 110).map (·.size) = some 2 := by kernel_rfl
def nmF (a : List UInt8) : List UInt8 := (cutT [58] a).1
def vlF (a : List UInt8) : List UInt8 := trimL (cutT [58] a).2.1
def fmF (a : List UInt8) : Bool := (cutT [58] a).2.2 && tokenL (nmF a) && (vlF a).all okV
def codeF (a : List UInt8) : Int := judgeZ (fmF a) (!rightF (nmF a, vlF a))
theorem cut_len (sep e : List UInt8) : (cutT sep e).1.length ≤ e.length ∧ (cutT sep e).2.1.length ≤ e.length := by
  unfold cutT
  cases findL sep e with
  | none => simp
  | some i => simp only [List.length_take, List.length_drop]; omega
theorem one2 (a b : List UInt8) : (#[strV a, strV b] : Array Value).all (·.oneCell') = true := by simp [Value.oneCell']
set_option maxRecDepth 100000 in
set_option maxHeartbeats 4000000 in
theorem readField_any (a : List UInt8) (w : World) (hm : MaxOk w) (ha : a.length ≤ 100000) :
    Calls Tryz.prog 57 #[strV a] w fun e w' => e = .returned (.tuple #[fldV (nmF a, vlF a), .int .i64 (codeF a)]) ∧ Below w.heap.size w w' := by
  have c0 := fun W h => Cut2_any a [58] W h (by omega)
  obtain ⟨l1, l2⟩ := cut_len [58] a
  have hc : codeF a = judgeZ ((cutT [58] a).2.2 && tokenL (nmF a) && (vlF a).all okV) (!rightF (nmF a, vlF a)) := rfl
  have hv : trimL (cutT [58] a).2.1 = vlF a := rfl
  have hvl : (vlF a).length ≤ a.length := Nat.le_trans (trim_len _) l2
  have hn : (cutT [58] a).1 = nmF a := rfl
  generalize codeF a = code at hc ⊢
  rw [hn] at c0 l1
  have ct := fun W => Trim_any ⟨(cutT [58] a).2.1.toArray⟩ W (by rw [szL]; unfold maxLen; omega)
  rw [dtL, hv] at ct
  generalize (cutT [58] a).2.1 = rest at c0 ct
  generalize (cutT [58] a).2.2 = q0 at c0 hc
  generalize nmF a = nm at *
  generalize vlF a = vl at *
  have c1 := fun W => Token_any ⟨nm.toArray⟩ W (by rw [szL]; unfold maxLen; omega)
  have c2 := fun W => all_text ⟨vl.toArray⟩ W (by rw [szL]; unfold maxLen; omega)
  rw [dtL] at c1 c2
  have c3 := fun W => fRight_any (nm, vl) W ⟨by show nm.length ≤ _; omega, by show vl.length ≤ _; omega⟩
  generalize tokenL nm = q1 at c1 hc
  generalize vl.all okV = q2 at c2 hc
  generalize rightF (nm, vl) = q3 at c3 hc
  have c4 := fun b c W => judge_any b c W
  have C0 := hid c0
  have CT := hid ct
  have C1 := hid c1
  have C2 := hid c2
  have C3 := hid c3
  have C4 := hid c4
  have HC := hid hc
  clear c0 ct c1 c2 c3 c4 hc hn hv hvl l1 l2 ha
  go_enter Tryz.func57, Tryz.ntmps57
  obtain ⟨W0, hW0⟩ : ∃ W, W = w.alloc (.cells #[.string ⟨#[]⟩, .string ⟨#[]⟩] 110) := ⟨_, rfl⟩
  have hb0 : Below w.heap.size w W0 := by rw [hW0]; exact below_alloc _ _
  have hs0 : W0.heap.size = w.heap.size + 1 := by rw [hW0]; simp
  have hr0 : rowIs W0 w.heap.size #[.string ⟨#[]⟩, .string ⟨#[]⟩] 110 := by rw [hW0]; exact rowIs_new _ _ _
  go_wp2_with fail
  rw [← hW0]
  clear hW0
  refine (C0.out _ (hm.below hb0)).mono ?_
  rintro e w1 ⟨rfl, hb1⟩
  have hr1 := hr0.below hb1
  have hs1 := hb1.size
  replace hb1 := chain2 hb0 hb0.size hb1
  clear hr0 hb0
  go_wp2_with fail
  refine (CT.out _).mono ?_
  rintro e w2 ⟨rfl, hb2⟩
  have hr2 := hr1.below hb2
  have hs2 := hb2.size
  replace hb2 := chain2 hb1 hb1.size hb2
  have hne : w2.heap.size ≠ w.heap.size := by omega
  clear hr1 hb1 hs0 hs1 hs2 hm
  obtain ⟨W, hW⟩ : ∃ W, W = w2.alloc (.cells #[strV nm, strV vl] 110) := ⟨_, rfl⟩
  have hbW : Below w2.heap.size w2 W := by rw [hW]; exact below_alloc _ _
  have hg : rowIs W w2.heap.size #[strV nm, strV vl] 110 := by rw [hW]; exact rowIs_new _ _ _
  have hr3 := hr2.below hbW
  replace hb2 := chain2 hb2 hb2.size hbW
  clear hr2 hbW
  go_wp2_with fail
  rw [← hW]
  clear hW
  generalize w2.heap.size = G at *
  have HS : HeldS w w.heap.size G #[strV nm, strV vl] 110 w.heap.size #[.string ⟨#[]⟩, .string ⟨#[]⟩] #[strV nm, strV vl] 110 [false] W := ⟨hb2, hb2.size, hg, hr3⟩
  have HN := hid hne
  clear hb2 hg hr3 hne
  cases q0
  · refine wp_region_U [16] (by kernel_rfl) (HeldS w w.heap.size G #[strV nm, strV vl] 110 w.heap.size #[.string ⟨#[]⟩, .string ⟨#[]⟩] #[strV nm, strV vl] 110) (b := [false]) (by kernel_rfl) HS.drew ?_
    refine wpAnyU_take (i := 0) (v := .agg #[strV nm, strV vl]) (by decide) rfl (by kernel_rfl) (by kernel_rfl) (by kernel_rfl) (fun _ _ _ h => h) (Steady.plain (by kernel_rfl) ?_) ?_
    · intro b W hS
      exact load_gives (x := .tmp 7) (by kernel_rfl) G (by kernel_rfl) hS.2.2.1 Tryz.underlying110 rfl infoFldS
    simp only [Act.put, List.getElem_toArray, List.getElem_cons_zero, List.setIfInBounds_toArray, List.set_cons_zero, List.set_cons_succ]
    refine wpAnyU_take (i := 1) (v := ?_) (by decide) rfl (by kernel_rfl) (by kernel_rfl) (by kernel_rfl) (fun _ _ _ h => h) (Steady.plain (by kernel_rfl) ?_) ?_
    rotate_left
    · intro b W hS
      have h0 := hS.2.2.1.cell 0
      have h1 := hS.2.2.1.cell 1
      go_simp
      first | done | with_reducible rfl
    simp only [Act.put, List.getElem_toArray, List.getElem_cons_succ, List.getElem_cons_zero, List.setIfInBounds_toArray, List.set_cons_zero, List.set_cons_succ]
    refine wpAnyU_take (i := 2) (v := ?_) (by decide) rfl (by kernel_rfl) (by kernel_rfl) (by kernel_rfl) (fun _ _ _ h => h) (Steady.plain (by kernel_rfl) ?_) ?_
    rotate_left
    · intro b W hS
      have h0 := hS.2.2.1.cell 0
      have h1 := hS.2.2.1.cell 1
      go_simp
      first | done | with_reducible rfl
    simp only [Act.put, List.getElem_toArray, List.getElem_cons_succ, List.getElem_cons_zero, List.setIfInBounds_toArray, List.set_cons_zero, List.set_cons_succ]
    refine wpAnyU_take (i := 3) (by decide) rfl (by kernel_rfl) (by kernel_rfl) (by kernel_rfl) (fun _ _ _ h => h) (Steady.off (by kernel_rfl)) ?_
    simp only [Act.put, List.getElem_toArray, List.getElem_cons_succ, List.getElem_cons_zero, List.setIfInBounds_toArray, List.set_cons_zero, List.set_cons_succ]
    refine wpAnyU_take (i := 4) (by decide) rfl (by kernel_rfl) (by kernel_rfl) (by kernel_rfl) (fun _ _ _ h => h) (Steady.off (by kernel_rfl)) ?_
    simp only [Act.put, List.getElem_toArray, List.getElem_cons_succ, List.getElem_cons_zero, List.setIfInBounds_toArray, List.set_cons_zero, List.set_cons_succ]
    refine wpAnyU_take (i := 5) (by decide) rfl (by kernel_rfl) (by kernel_rfl) (by kernel_rfl) (fun _ _ _ h => h) (Steady.off (by kernel_rfl)) ?_
    simp only [Act.put, List.getElem_toArray, List.getElem_cons_succ, List.getElem_cons_zero, List.setIfInBounds_toArray, List.set_cons_zero, List.set_cons_succ]
    refine wpAnyU_take (i := 6) (v := ?_) (by decide) rfl (by kernel_rfl) (by kernel_rfl) (by kernel_rfl) (fun _ _ _ h => h) (Steady.plain (by kernel_rfl) ?_) ?_
    rotate_left
    · intro b W hS
      have h0 := hS.2.2.1.cell 0
      have h1 := hS.2.2.1.cell 1
      go_simp
      first | done | with_reducible rfl
    simp only [Act.put, List.getElem_toArray, List.getElem_cons_succ, List.getElem_cons_zero, List.setIfInBounds_toArray, List.set_cons_zero, List.set_cons_succ]
    refine wpAnyU_take (i := 7) (v := ?_) (by decide) rfl (by kernel_rfl) (by kernel_rfl) (by kernel_rfl) (fun _ _ _ h => h) (Steady.plain (by kernel_rfl) ?_) ?_
    rotate_left
    · intro b W hS
      have h0 := hS.2.2.1.cell 0
      have h1 := hS.2.2.1.cell 1
      go_simp
      first | done | with_reducible rfl
    simp only [Act.put, List.getElem_toArray, List.getElem_cons_succ, List.getElem_cons_zero, List.setIfInBounds_toArray, List.set_cons_zero, List.set_cons_succ]
    refine wpAnyU_take (i := 8) (by decide) rfl (by kernel_rfl) (by kernel_rfl) (by kernel_rfl) (fun _ _ _ h => h) (Steady.off (by kernel_rfl)) ?_
    simp only [Act.put, List.getElem_toArray, List.getElem_cons_succ, List.getElem_cons_zero, List.setIfInBounds_toArray, List.set_cons_zero, List.set_cons_succ]
    refine wpAnyU_take (i := 9) (by decide) rfl (by kernel_rfl) (by kernel_rfl) (by kernel_rfl) (fun _ _ _ h => h) (Steady.off (by kernel_rfl)) ?_
    simp only [Act.put, List.getElem_toArray, List.getElem_cons_succ, List.getElem_cons_zero, List.setIfInBounds_toArray, List.set_cons_zero, List.set_cons_succ]
    refine wpAnyU_take (i := 10) (by decide) rfl (by kernel_rfl) (by kernel_rfl) (by kernel_rfl) (fun _ _ _ h => h) (Steady.off (by kernel_rfl)) ?_
    simp only [Act.put, List.getElem_toArray, List.getElem_cons_succ, List.getElem_cons_zero, List.setIfInBounds_toArray, List.set_cons_zero, List.set_cons_succ]
    refine wpAnyU_take (i := 11) (v := ?_) (by decide) rfl (by kernel_rfl) (by kernel_rfl) (by kernel_rfl) (fun _ _ _ h => h) (Steady.plain (by kernel_rfl) ?_) ?_
    rotate_left
    · intro b W hS
      have h0 := hS.2.2.1.cell 0
      have h1 := hS.2.2.1.cell 1
      go_simp
      first | done | with_reducible rfl
    simp only [Act.put, List.getElem_toArray, List.getElem_cons_succ, List.getElem_cons_zero, List.setIfInBounds_toArray, List.set_cons_zero, List.set_cons_succ]
    refine wpAnyU_take (i := 12) (v := .agg #[strV nm, strV vl]) (by decide) rfl (by kernel_rfl) (by kernel_rfl) (by kernel_rfl) (fun _ _ _ h => h) (Steady.plain (by kernel_rfl) ?_) ?_
    · intro b W hS
      exact load_gives (x := .tmp 7) (by kernel_rfl) G (by kernel_rfl) hS.2.2.1 Tryz.underlying110 rfl infoFldS
    simp only [Act.put, List.getElem_toArray, List.getElem_cons_succ, List.getElem_cons_zero, List.setIfInBounds_toArray, List.set_cons_zero, List.set_cons_succ]
    refine wpAnyU_take (i := 13) (v := .bool q3) (by decide) rfl (by kernel_rfl) (by kernel_rfl) (by kernel_rfl) (fun _ _ _ h => h) (Steady.call (f := 87) (args := #[fldV (nm, vl)]) (by kernel_rfl) (fun _ => by kernel_rfl) ?_) ?_
    · intro b W hS
      refine (C3.out W).mono ?_
      rintro e w' ⟨he, hb⟩
      exact ⟨he, hS.below hb⟩
    simp only [Act.put, List.getElem_toArray, List.getElem_cons_succ, List.getElem_cons_zero, List.setIfInBounds_toArray, List.set_cons_zero, List.set_cons_succ]
    refine wpAnyU_take (i := 14) (v := ?_) (by decide) rfl (by kernel_rfl) (by kernel_rfl) (by kernel_rfl) (fun _ _ _ h => h) (Steady.plain (by kernel_rfl) ?_) ?_
    rotate_left
    · intro b W hS
      have h0 := hS.2.2.1.cell 0
      have h1 := hS.2.2.1.cell 1
      go_simp
      first | done | with_reducible rfl
    simp only [Act.put, List.getElem_toArray, List.getElem_cons_succ, List.getElem_cons_zero, List.setIfInBounds_toArray, List.set_cons_zero, List.set_cons_succ]
    refine wpAnyU_take (i := 15) (v := .int .i64 (judgeZ false (!q3))) (by decide) rfl (by kernel_rfl) (by kernel_rfl) (by kernel_rfl) (fun _ _ _ h => h) (Steady.call (f := 54) (args := #[.bool false, .bool (!q3)]) (by kernel_rfl) (fun _ => by kernel_rfl) ?_) ?_
    · intro b W hS
      refine (C4.out false (!q3) W).mono ?_
      rintro e w' ⟨he, rfl⟩
      exact ⟨he, hS⟩
    simp only [Act.put, List.getElem_toArray, List.getElem_cons_succ, List.getElem_cons_zero, List.setIfInBounds_toArray, List.set_cons_zero, List.set_cons_succ]
    refine wpAnyU_turn (i := 16) (v := undef) (b := [false]) (b' := [true]) rfl (by kernel_rfl) (by kernel_rfl) (by kernel_rfl) (by kernel_rfl) (turn_store (ty := 110) (x := .tmp 2) (y := .tmp 18) (by kernel_rfl) w.heap.size #[strV nm, strV vl] (by kernel_rfl) (by kernel_rfl) infoFldS (one2 nm vl) (fun W hS => ⟨_, _, hS.2.2.2, rfl, hS.stored (Nat.le_refl _) HN.out⟩)) ?_
    simp only [Act.put, List.getElem_toArray, List.getElem_cons_succ, List.getElem_cons_zero]
    refine wpAnyU_take (i := 17) (v := ?_) (by decide) rfl (by kernel_rfl) (by kernel_rfl) (by kernel_rfl) (fun _ _ _ h => h) (Steady.plain (by kernel_rfl) ?_) ?_
    rotate_left
    · intro b W hS
      have h0 := hS.2.2.1.cell 0
      have h1 := hS.2.2.1.cell 1
      go_simp
      first | done | with_reducible rfl
    simp only [Act.put, List.getElem_toArray, List.getElem_cons_succ, List.getElem_cons_zero, List.setIfInBounds_toArray, List.set_cons_zero, List.set_cons_succ]
    refine wpAnyU_done (b := [true]) (by kernel_rfl) (by kernel_rfl) ?_ _
    intro w' hS
    go_wp2_with fail
    refine bodyPost_ret (results_row2 Tryz.results57 _ _ w.heap.size _ rfl hS.2.2.2 Tryz.underlying110 rfl infoFldS) rfl ?_
    rw [HC.out]
    exact ⟨rfl, hS.1⟩
  · cases q1
    · refine wp_region_U [16] (by kernel_rfl) (HeldS w w.heap.size G #[strV nm, strV vl] 110 w.heap.size #[.string ⟨#[]⟩, .string ⟨#[]⟩] #[strV nm, strV vl] 110) (b := [false]) (by kernel_rfl) HS.drew ?_
      refine wpAnyU_take (i := 0) (v := .agg #[strV nm, strV vl]) (by decide) rfl (by kernel_rfl) (by kernel_rfl) (by kernel_rfl) (fun _ _ _ h => h) (Steady.plain (by kernel_rfl) ?_) ?_
      · intro b W hS
        exact load_gives (x := .tmp 7) (by kernel_rfl) G (by kernel_rfl) hS.2.2.1 Tryz.underlying110 rfl infoFldS
      simp only [Act.put, List.getElem_toArray, List.getElem_cons_zero, List.setIfInBounds_toArray, List.set_cons_zero, List.set_cons_succ]
      refine wpAnyU_take (i := 1) (v := ?_) (by decide) rfl (by kernel_rfl) (by kernel_rfl) (by kernel_rfl) (fun _ _ _ h => h) (Steady.plain (by kernel_rfl) ?_) ?_
      rotate_left
      · intro b W hS
        have h0 := hS.2.2.1.cell 0
        have h1 := hS.2.2.1.cell 1
        go_simp
        first | done | with_reducible rfl
      simp only [Act.put, List.getElem_toArray, List.getElem_cons_succ, List.getElem_cons_zero, List.setIfInBounds_toArray, List.set_cons_zero, List.set_cons_succ]
      refine wpAnyU_take (i := 2) (v := ?_) (by decide) rfl (by kernel_rfl) (by kernel_rfl) (by kernel_rfl) (fun _ _ _ h => h) (Steady.plain (by kernel_rfl) ?_) ?_
      rotate_left
      · intro b W hS
        have h0 := hS.2.2.1.cell 0
        have h1 := hS.2.2.1.cell 1
        go_simp
        first | done | with_reducible rfl
      simp only [Act.put, List.getElem_toArray, List.getElem_cons_succ, List.getElem_cons_zero, List.setIfInBounds_toArray, List.set_cons_zero, List.set_cons_succ]
      refine wpAnyU_take (i := 3) (v := ?_) (by decide) rfl (by kernel_rfl) (by kernel_rfl) (by kernel_rfl) (fun _ _ _ h => h) (Steady.plain (by kernel_rfl) ?_) ?_
      rotate_left
      · intro b W hS
        have h0 := hS.2.2.1.cell 0
        have h1 := hS.2.2.1.cell 1
        go_simp
        first | done | with_reducible rfl
      simp only [Act.put, List.getElem_toArray, List.getElem_cons_succ, List.getElem_cons_zero, List.setIfInBounds_toArray, List.set_cons_zero, List.set_cons_succ]
      refine wpAnyU_take (i := 4) (v := ?_) (by decide) rfl (by kernel_rfl) (by kernel_rfl) (by kernel_rfl) (fun _ _ _ h => h) (Steady.plain (by kernel_rfl) ?_) ?_
      rotate_left
      · intro b W hS
        have h0 := hS.2.2.1.cell 0
        have h1 := hS.2.2.1.cell 1
        go_simp
        first | done | with_reducible rfl
      simp only [Act.put, List.getElem_toArray, List.getElem_cons_succ, List.getElem_cons_zero, List.setIfInBounds_toArray, List.set_cons_zero, List.set_cons_succ]
      refine wpAnyU_take (i := 5) (v := .bool false) (by decide) rfl (by kernel_rfl) (by kernel_rfl) (by kernel_rfl) (fun _ _ _ h => h) (Steady.call (f := 81) (args := #[strV nm]) (by kernel_rfl) (fun _ => by kernel_rfl) ?_) ?_
      · intro b W hS
        refine (C1.out W).mono ?_
        rintro e w' ⟨he, rfl⟩
        exact ⟨he, hS⟩
      simp only [Act.put, List.getElem_toArray, List.getElem_cons_succ, List.getElem_cons_zero, List.setIfInBounds_toArray, List.set_cons_zero, List.set_cons_succ]
      refine wpAnyU_take (i := 6) (v := ?_) (by decide) rfl (by kernel_rfl) (by kernel_rfl) (by kernel_rfl) (fun _ _ _ h => h) (Steady.plain (by kernel_rfl) ?_) ?_
      rotate_left
      · intro b W hS
        have h0 := hS.2.2.1.cell 0
        have h1 := hS.2.2.1.cell 1
        go_simp
        first | done | with_reducible rfl
      simp only [Act.put, List.getElem_toArray, List.getElem_cons_succ, List.getElem_cons_zero, List.setIfInBounds_toArray, List.set_cons_zero, List.set_cons_succ]
      refine wpAnyU_take (i := 7) (v := ?_) (by decide) rfl (by kernel_rfl) (by kernel_rfl) (by kernel_rfl) (fun _ _ _ h => h) (Steady.plain (by kernel_rfl) ?_) ?_
      rotate_left
      · intro b W hS
        have h0 := hS.2.2.1.cell 0
        have h1 := hS.2.2.1.cell 1
        go_simp
        first | done | with_reducible rfl
      simp only [Act.put, List.getElem_toArray, List.getElem_cons_succ, List.getElem_cons_zero, List.setIfInBounds_toArray, List.set_cons_zero, List.set_cons_succ]
      refine wpAnyU_take (i := 8) (by decide) rfl (by kernel_rfl) (by kernel_rfl) (by kernel_rfl) (fun _ _ _ h => h) (Steady.off (by kernel_rfl)) ?_
      simp only [Act.put, List.getElem_toArray, List.getElem_cons_succ, List.getElem_cons_zero, List.setIfInBounds_toArray, List.set_cons_zero, List.set_cons_succ]
      refine wpAnyU_take (i := 9) (by decide) rfl (by kernel_rfl) (by kernel_rfl) (by kernel_rfl) (fun _ _ _ h => h) (Steady.off (by kernel_rfl)) ?_
      simp only [Act.put, List.getElem_toArray, List.getElem_cons_succ, List.getElem_cons_zero, List.setIfInBounds_toArray, List.set_cons_zero, List.set_cons_succ]
      refine wpAnyU_take (i := 10) (by decide) rfl (by kernel_rfl) (by kernel_rfl) (by kernel_rfl) (fun _ _ _ h => h) (Steady.off (by kernel_rfl)) ?_
      simp only [Act.put, List.getElem_toArray, List.getElem_cons_succ, List.getElem_cons_zero, List.setIfInBounds_toArray, List.set_cons_zero, List.set_cons_succ]
      refine wpAnyU_take (i := 11) (v := ?_) (by decide) rfl (by kernel_rfl) (by kernel_rfl) (by kernel_rfl) (fun _ _ _ h => h) (Steady.plain (by kernel_rfl) ?_) ?_
      rotate_left
      · intro b W hS
        have h0 := hS.2.2.1.cell 0
        have h1 := hS.2.2.1.cell 1
        go_simp
        first | done | with_reducible rfl
      simp only [Act.put, List.getElem_toArray, List.getElem_cons_succ, List.getElem_cons_zero, List.setIfInBounds_toArray, List.set_cons_zero, List.set_cons_succ]
      refine wpAnyU_take (i := 12) (v := .agg #[strV nm, strV vl]) (by decide) rfl (by kernel_rfl) (by kernel_rfl) (by kernel_rfl) (fun _ _ _ h => h) (Steady.plain (by kernel_rfl) ?_) ?_
      · intro b W hS
        exact load_gives (x := .tmp 7) (by kernel_rfl) G (by kernel_rfl) hS.2.2.1 Tryz.underlying110 rfl infoFldS
      simp only [Act.put, List.getElem_toArray, List.getElem_cons_succ, List.getElem_cons_zero, List.setIfInBounds_toArray, List.set_cons_zero, List.set_cons_succ]
      refine wpAnyU_take (i := 13) (v := .bool q3) (by decide) rfl (by kernel_rfl) (by kernel_rfl) (by kernel_rfl) (fun _ _ _ h => h) (Steady.call (f := 87) (args := #[fldV (nm, vl)]) (by kernel_rfl) (fun _ => by kernel_rfl) ?_) ?_
      · intro b W hS
        refine (C3.out W).mono ?_
        rintro e w' ⟨he, hb⟩
        exact ⟨he, hS.below hb⟩
      simp only [Act.put, List.getElem_toArray, List.getElem_cons_succ, List.getElem_cons_zero, List.setIfInBounds_toArray, List.set_cons_zero, List.set_cons_succ]
      refine wpAnyU_take (i := 14) (v := ?_) (by decide) rfl (by kernel_rfl) (by kernel_rfl) (by kernel_rfl) (fun _ _ _ h => h) (Steady.plain (by kernel_rfl) ?_) ?_
      rotate_left
      · intro b W hS
        have h0 := hS.2.2.1.cell 0
        have h1 := hS.2.2.1.cell 1
        go_simp
        first | done | with_reducible rfl
      simp only [Act.put, List.getElem_toArray, List.getElem_cons_succ, List.getElem_cons_zero, List.setIfInBounds_toArray, List.set_cons_zero, List.set_cons_succ]
      refine wpAnyU_take (i := 15) (v := .int .i64 (judgeZ false (!q3))) (by decide) rfl (by kernel_rfl) (by kernel_rfl) (by kernel_rfl) (fun _ _ _ h => h) (Steady.call (f := 54) (args := #[.bool false, .bool (!q3)]) (by kernel_rfl) (fun _ => by kernel_rfl) ?_) ?_
      · intro b W hS
        refine (C4.out false (!q3) W).mono ?_
        rintro e w' ⟨he, rfl⟩
        exact ⟨he, hS⟩
      simp only [Act.put, List.getElem_toArray, List.getElem_cons_succ, List.getElem_cons_zero, List.setIfInBounds_toArray, List.set_cons_zero, List.set_cons_succ]
      refine wpAnyU_turn (i := 16) (v := undef) (b := [false]) (b' := [true]) rfl (by kernel_rfl) (by kernel_rfl) (by kernel_rfl) (by kernel_rfl) (turn_store (ty := 110) (x := .tmp 2) (y := .tmp 18) (by kernel_rfl) w.heap.size #[strV nm, strV vl] (by kernel_rfl) (by kernel_rfl) infoFldS (one2 nm vl) (fun W hS => ⟨_, _, hS.2.2.2, rfl, hS.stored (Nat.le_refl _) HN.out⟩)) ?_
      simp only [Act.put, List.getElem_toArray, List.getElem_cons_succ, List.getElem_cons_zero]
      refine wpAnyU_take (i := 17) (v := ?_) (by decide) rfl (by kernel_rfl) (by kernel_rfl) (by kernel_rfl) (fun _ _ _ h => h) (Steady.plain (by kernel_rfl) ?_) ?_
      rotate_left
      · intro b W hS
        have h0 := hS.2.2.1.cell 0
        have h1 := hS.2.2.1.cell 1
        go_simp
        first | done | with_reducible rfl
      simp only [Act.put, List.getElem_toArray, List.getElem_cons_succ, List.getElem_cons_zero, List.setIfInBounds_toArray, List.set_cons_zero, List.set_cons_succ]
      refine wpAnyU_done (b := [true]) (by kernel_rfl) (by kernel_rfl) ?_ _
      intro w' hS
      go_wp2_with fail
      refine bodyPost_ret (results_row2 Tryz.results57 _ _ w.heap.size _ rfl hS.2.2.2 Tryz.underlying110 rfl infoFldS) rfl ?_
      rw [HC.out]
      exact ⟨rfl, hS.1⟩
    · refine wp_region_U [16] (by kernel_rfl) (HeldS w w.heap.size G #[strV nm, strV vl] 110 w.heap.size #[.string ⟨#[]⟩, .string ⟨#[]⟩] #[strV nm, strV vl] 110) (b := [false]) (by kernel_rfl) HS.drew ?_
      refine wpAnyU_take (i := 0) (v := .agg #[strV nm, strV vl]) (by decide) rfl (by kernel_rfl) (by kernel_rfl) (by kernel_rfl) (fun _ _ _ h => h) (Steady.plain (by kernel_rfl) ?_) ?_
      · intro b W hS
        exact load_gives (x := .tmp 7) (by kernel_rfl) G (by kernel_rfl) hS.2.2.1 Tryz.underlying110 rfl infoFldS
      simp only [Act.put, List.getElem_toArray, List.getElem_cons_zero, List.setIfInBounds_toArray, List.set_cons_zero, List.set_cons_succ]
      refine wpAnyU_take (i := 1) (v := ?_) (by decide) rfl (by kernel_rfl) (by kernel_rfl) (by kernel_rfl) (fun _ _ _ h => h) (Steady.plain (by kernel_rfl) ?_) ?_
      rotate_left
      · intro b W hS
        have h0 := hS.2.2.1.cell 0
        have h1 := hS.2.2.1.cell 1
        go_simp
        first | done | with_reducible rfl
      simp only [Act.put, List.getElem_toArray, List.getElem_cons_succ, List.getElem_cons_zero, List.setIfInBounds_toArray, List.set_cons_zero, List.set_cons_succ]
      refine wpAnyU_take (i := 2) (v := ?_) (by decide) rfl (by kernel_rfl) (by kernel_rfl) (by kernel_rfl) (fun _ _ _ h => h) (Steady.plain (by kernel_rfl) ?_) ?_
      rotate_left
      · intro b W hS
        have h0 := hS.2.2.1.cell 0
        have h1 := hS.2.2.1.cell 1
        go_simp
        first | done | with_reducible rfl
      simp only [Act.put, List.getElem_toArray, List.getElem_cons_succ, List.getElem_cons_zero, List.setIfInBounds_toArray, List.set_cons_zero, List.set_cons_succ]
      refine wpAnyU_take (i := 3) (v := ?_) (by decide) rfl (by kernel_rfl) (by kernel_rfl) (by kernel_rfl) (fun _ _ _ h => h) (Steady.plain (by kernel_rfl) ?_) ?_
      rotate_left
      · intro b W hS
        have h0 := hS.2.2.1.cell 0
        have h1 := hS.2.2.1.cell 1
        go_simp
        first | done | with_reducible rfl
      simp only [Act.put, List.getElem_toArray, List.getElem_cons_succ, List.getElem_cons_zero, List.setIfInBounds_toArray, List.set_cons_zero, List.set_cons_succ]
      refine wpAnyU_take (i := 4) (v := ?_) (by decide) rfl (by kernel_rfl) (by kernel_rfl) (by kernel_rfl) (fun _ _ _ h => h) (Steady.plain (by kernel_rfl) ?_) ?_
      rotate_left
      · intro b W hS
        have h0 := hS.2.2.1.cell 0
        have h1 := hS.2.2.1.cell 1
        go_simp
        first | done | with_reducible rfl
      simp only [Act.put, List.getElem_toArray, List.getElem_cons_succ, List.getElem_cons_zero, List.setIfInBounds_toArray, List.set_cons_zero, List.set_cons_succ]
      refine wpAnyU_take (i := 5) (v := .bool true) (by decide) rfl (by kernel_rfl) (by kernel_rfl) (by kernel_rfl) (fun _ _ _ h => h) (Steady.call (f := 81) (args := #[strV nm]) (by kernel_rfl) (fun _ => by kernel_rfl) ?_) ?_
      · intro b W hS
        refine (C1.out W).mono ?_
        rintro e w' ⟨he, rfl⟩
        exact ⟨he, hS⟩
      simp only [Act.put, List.getElem_toArray, List.getElem_cons_succ, List.getElem_cons_zero, List.setIfInBounds_toArray, List.set_cons_zero, List.set_cons_succ]
      refine wpAnyU_take (i := 6) (v := ?_) (by decide) rfl (by kernel_rfl) (by kernel_rfl) (by kernel_rfl) (fun _ _ _ h => h) (Steady.plain (by kernel_rfl) ?_) ?_
      rotate_left
      · intro b W hS
        have h0 := hS.2.2.1.cell 0
        have h1 := hS.2.2.1.cell 1
        go_simp
        first | done | with_reducible rfl
      simp only [Act.put, List.getElem_toArray, List.getElem_cons_succ, List.getElem_cons_zero, List.setIfInBounds_toArray, List.set_cons_zero, List.set_cons_succ]
      refine wpAnyU_take (i := 7) (v := ?_) (by decide) rfl (by kernel_rfl) (by kernel_rfl) (by kernel_rfl) (fun _ _ _ h => h) (Steady.plain (by kernel_rfl) ?_) ?_
      rotate_left
      · intro b W hS
        have h0 := hS.2.2.1.cell 0
        have h1 := hS.2.2.1.cell 1
        go_simp
        first | done | with_reducible rfl
      simp only [Act.put, List.getElem_toArray, List.getElem_cons_succ, List.getElem_cons_zero, List.setIfInBounds_toArray, List.set_cons_zero, List.set_cons_succ]
      refine wpAnyU_take (i := 8) (v := ?_) (by decide) rfl (by kernel_rfl) (by kernel_rfl) (by kernel_rfl) (fun _ _ _ h => h) (Steady.plain (by kernel_rfl) ?_) ?_
      rotate_left
      · intro b W hS
        have h0 := hS.2.2.1.cell 0
        have h1 := hS.2.2.1.cell 1
        go_simp
        first | done | with_reducible rfl
      simp only [Act.put, List.getElem_toArray, List.getElem_cons_succ, List.getElem_cons_zero, List.setIfInBounds_toArray, List.set_cons_zero, List.set_cons_succ]
      refine wpAnyU_take (i := 9) (v := ?_) (by decide) rfl (by kernel_rfl) (by kernel_rfl) (by kernel_rfl) (fun _ _ _ h => h) (Steady.plain (by kernel_rfl) ?_) ?_
      rotate_left
      · intro b W hS
        have h0 := hS.2.2.1.cell 0
        have h1 := hS.2.2.1.cell 1
        go_simp
        first | done | with_reducible rfl
      simp only [Act.put, List.getElem_toArray, List.getElem_cons_succ, List.getElem_cons_zero, List.setIfInBounds_toArray, List.set_cons_zero, List.set_cons_succ]
      refine wpAnyU_take (i := 10) (v := .bool q2) (by decide) rfl (by kernel_rfl) (by kernel_rfl) (by kernel_rfl) (fun _ _ _ h => h) (Steady.call (f := 82) (args := #[strV vl, .func (.func 86) #[] #[]]) (by kernel_rfl) (fun _ => by kernel_rfl) ?_) ?_
      · intro b W hS
        refine (C2.out W).mono ?_
        rintro e w' ⟨he, hb⟩
        exact ⟨he, hS.below hb⟩
      simp only [Act.put, List.getElem_toArray, List.getElem_cons_succ, List.getElem_cons_zero, List.setIfInBounds_toArray, List.set_cons_zero, List.set_cons_succ]
      refine wpAnyU_take (i := 11) (v := ?_) (by decide) rfl (by kernel_rfl) (by kernel_rfl) (by kernel_rfl) (fun _ _ _ h => h) (Steady.plain (by kernel_rfl) ?_) ?_
      rotate_left
      · intro b W hS
        have h0 := hS.2.2.1.cell 0
        have h1 := hS.2.2.1.cell 1
        go_simp
        first | done | with_reducible rfl
      simp only [Act.put, List.getElem_toArray, List.getElem_cons_succ, List.getElem_cons_zero, List.setIfInBounds_toArray, List.set_cons_zero, List.set_cons_succ]
      refine wpAnyU_take (i := 12) (v := .agg #[strV nm, strV vl]) (by decide) rfl (by kernel_rfl) (by kernel_rfl) (by kernel_rfl) (fun _ _ _ h => h) (Steady.plain (by kernel_rfl) ?_) ?_
      · intro b W hS
        exact load_gives (x := .tmp 7) (by kernel_rfl) G (by kernel_rfl) hS.2.2.1 Tryz.underlying110 rfl infoFldS
      simp only [Act.put, List.getElem_toArray, List.getElem_cons_succ, List.getElem_cons_zero, List.setIfInBounds_toArray, List.set_cons_zero, List.set_cons_succ]
      refine wpAnyU_take (i := 13) (v := .bool q3) (by decide) rfl (by kernel_rfl) (by kernel_rfl) (by kernel_rfl) (fun _ _ _ h => h) (Steady.call (f := 87) (args := #[fldV (nm, vl)]) (by kernel_rfl) (fun _ => by kernel_rfl) ?_) ?_
      · intro b W hS
        refine (C3.out W).mono ?_
        rintro e w' ⟨he, hb⟩
        exact ⟨he, hS.below hb⟩
      simp only [Act.put, List.getElem_toArray, List.getElem_cons_succ, List.getElem_cons_zero, List.setIfInBounds_toArray, List.set_cons_zero, List.set_cons_succ]
      refine wpAnyU_take (i := 14) (v := ?_) (by decide) rfl (by kernel_rfl) (by kernel_rfl) (by kernel_rfl) (fun _ _ _ h => h) (Steady.plain (by kernel_rfl) ?_) ?_
      rotate_left
      · intro b W hS
        have h0 := hS.2.2.1.cell 0
        have h1 := hS.2.2.1.cell 1
        go_simp
        first | done | with_reducible rfl
      simp only [Act.put, List.getElem_toArray, List.getElem_cons_succ, List.getElem_cons_zero, List.setIfInBounds_toArray, List.set_cons_zero, List.set_cons_succ]
      refine wpAnyU_take (i := 15) (v := .int .i64 (judgeZ q2 (!q3))) (by decide) rfl (by kernel_rfl) (by kernel_rfl) (by kernel_rfl) (fun _ _ _ h => h) (Steady.call (f := 54) (args := #[.bool q2, .bool (!q3)]) (by kernel_rfl) (fun _ => by kernel_rfl) ?_) ?_
      · intro b W hS
        refine (C4.out q2 (!q3) W).mono ?_
        rintro e w' ⟨he, rfl⟩
        exact ⟨he, hS⟩
      simp only [Act.put, List.getElem_toArray, List.getElem_cons_succ, List.getElem_cons_zero, List.setIfInBounds_toArray, List.set_cons_zero, List.set_cons_succ]
      refine wpAnyU_turn (i := 16) (v := undef) (b := [false]) (b' := [true]) rfl (by kernel_rfl) (by kernel_rfl) (by kernel_rfl) (by kernel_rfl) (turn_store (ty := 110) (x := .tmp 2) (y := .tmp 18) (by kernel_rfl) w.heap.size #[strV nm, strV vl] (by kernel_rfl) (by kernel_rfl) infoFldS (one2 nm vl) (fun W hS => ⟨_, _, hS.2.2.2, rfl, hS.stored (Nat.le_refl _) HN.out⟩)) ?_
      simp only [Act.put, List.getElem_toArray, List.getElem_cons_succ, List.getElem_cons_zero]
      refine wpAnyU_take (i := 17) (v := ?_) (by decide) rfl (by kernel_rfl) (by kernel_rfl) (by kernel_rfl) (fun _ _ _ h => h) (Steady.plain (by kernel_rfl) ?_) ?_
      rotate_left
      · intro b W hS
        have h0 := hS.2.2.1.cell 0
        have h1 := hS.2.2.1.cell 1
        go_simp
        first | done | with_reducible rfl
      simp only [Act.put, List.getElem_toArray, List.getElem_cons_succ, List.getElem_cons_zero, List.setIfInBounds_toArray, List.set_cons_zero, List.set_cons_succ]
      refine wpAnyU_done (b := [true]) (by kernel_rfl) (by kernel_rfl) ?_ _
      intro w' hS
      go_wp2_with fail
      refine bodyPost_ret (results_row2 Tryz.results57 _ _ w.heap.size _ rfl hS.2.2.2 Tryz.underlying110 rfl infoFldS) rfl ?_
      rw [HC.out]
      exact ⟨rfl, hS.1⟩
end Go.Proofs.YtefplhkjcclppaaGreatDoor
