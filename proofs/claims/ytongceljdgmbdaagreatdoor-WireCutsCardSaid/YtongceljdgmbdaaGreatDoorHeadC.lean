/-
  Contract of package head: cut.
-/
import Derived.Test.YtongceljdgmbdaaGreatDoorHeadB
import Derived.Test.YtongceljdgmbdaaGreatDoorInfo
import Derived.Deep.QuietTactic
import Derived.BigQuiet
namespace Go.Proofs.YtongceljdgmbdaaGreatDoor
open Go.RowKit Go.Pantry

theorem cut_err (ao : Option Addr) (cap : Nat) (l : List UInt8) (e : Nat) (w : World) (hr : Reads w (.slice ao l.length cap) (l.map byteV)) (hc : l.length ≤ cap) (hm : MaxOk w) (he : cutL l = .error e) :
    Calls Tryz.prog 57 #[.slice ao l.length cap] w fun r w' => r = .returned (.tuple #[.string ⟨#[]⟩, .slice none 0 0, .int .i64 0, .int .i64 (e : Int)]) ∧ Below w.heap.size w w' := by
  obtain ⟨k, hk⟩ : ∃ k, min l.length 4096 = k := ⟨_, rfl⟩
  have hmin : min (l.length : Int) 4096 = (k : Int) := by omega
  have hkc : (k : Int) ≤ (cap : Int) := by omega
  have hk4 : (k : Int) ≤ 4096 := by omega
  have ht : l.take 4096 = l.take k := by
    rw [← hk]
    by_cases h : l.length ≤ 4096
    · rw [Nat.min_eq_left h, List.take_of_length_le h, List.take_of_length_le (Nat.le_refl _)]
    · rw [Nat.min_eq_right (by omega)]
  obtain ⟨T, hT⟩ : ∃ T, T = l.take k := ⟨_, rfl⟩
  have hTl : T.length = k := by rw [hT, List.length_take]; omega
  have hrd : Reads w (.slice ao k cap) (T.map byteV) := by
    have h := hr.take k (by rw [List.length_map]; omega)
    rw [← List.map_take, ← hT] at h
    exact h
  have hcv := reads_string (P := Tryz.prog) hrd 27 9 5 Tryz.underlying27 Tryz.underlying5 Tryz.underlying9
  unfold cutL at he
  rw [ht, ← hT] at he
  cases hf : findL crlf2 T with
  | some i => rw [hf] at he; cases he
  | none =>
    rw [hf] at he
    simp only at he
    have c1 := fun W h => Cut2_any T crlf2 W h (by omega)
    have hct : cutT crlf2 T = (T, [], false) := by unfold cutT; rw [hf]
    rw [hct] at c1
    have C1 := hid c1
    clear c1 hct hf hr hrd ht hc hk hT
    by_cases h4 : k = 4096
    · rw [if_pos (by omega)] at he
      cases he
      subst h4
      clear hTl
      go_enter Tryz.func57, Tryz.ntmps57
      go_wp2_with fail
      refine (C1.out _ hm).mono ?_
      rintro r w1 ⟨rfl, hb⟩
      clear hcv
      go_wp2_with fail
      refine bodyPost_ret (v := .tuple #[.string ⟨#[]⟩, .slice none 0 0, .int .i64 0, .int .i64 22]) (by simp [results, Tryz.results57, go_sem]) rfl ?_
      exact ⟨rfl, hb⟩
    · rw [if_neg (by omega)] at he
      cases he
      have h5 : ((k : Int) == 4096) = false := by simp; omega
      clear hTl h4
      go_enter Tryz.func57, Tryz.ntmps57
      go_wp2_with fail
      refine (C1.out _ hm).mono ?_
      rintro r w1 ⟨rfl, hb⟩
      clear hcv
      go_wp2_with fail
      refine bodyPost_ret (v := .tuple #[.string ⟨#[]⟩, .slice none 0 0, .int .i64 0, .int .i64 20]) (by simp [results, Tryz.results57, go_sem]) rfl ?_
      exact ⟨rfl, hb⟩
/-- what cut tells of a head that is there -/
def CutMade (a : List UInt8) (r : List (List UInt8)) (n : Nat) (e : Ending) (w' : World) : Prop := ∃ ao cap, e = .returned (.tuple #[strV a, .slice ao r.length cap, .int .i64 (n : Int), .int .i64 0]) ∧ Reads w' (.slice ao r.length cap) (r.map strV)
set_option maxHeartbeats 1000000 in
theorem cut_ok (ao : Option Addr) (cap : Nat) (l : List UInt8) (a : List UInt8) (r : List (List UInt8)) (n : Nat) (w : World) (hr : Reads w (.slice ao l.length cap) (l.map byteV)) (hc : l.length ≤ cap) (hm : MaxOk w) (he : cutL l = .ok (a :: r, n)) :
    Calls Tryz.prog 57 #[.slice ao l.length cap] w fun e w' => CutMade a r n e w' ∧ Below w.heap.size w w' := by
  obtain ⟨k, hk⟩ : ∃ k, min l.length 4096 = k := ⟨_, rfl⟩
  have hmin : min (l.length : Int) 4096 = (k : Int) := by omega
  have hkc : (k : Int) ≤ (cap : Int) := by omega
  have hk4 : (k : Int) ≤ 4096 := by omega
  have ht : l.take 4096 = l.take k := by
    rw [← hk]
    by_cases h : l.length ≤ 4096
    · rw [Nat.min_eq_left h, List.take_of_length_le h, List.take_of_length_le (Nat.le_refl _)]
    · rw [Nat.min_eq_right (by omega)]
  obtain ⟨T, hT⟩ : ∃ T, T = l.take k := ⟨_, rfl⟩
  have hTl : T.length = k := by rw [hT, List.length_take]; omega
  have hrd : Reads w (.slice ao k cap) (T.map byteV) := by
    have h := hr.take k (by rw [List.length_map]; omega)
    rw [← List.map_take, ← hT] at h
    exact h
  have hcv := reads_string (P := Tryz.prog) hrd 27 9 5 Tryz.underlying27 Tryz.underlying5 Tryz.underlying9
  unfold cutL at he
  rw [ht, ← hT] at he
  cases hf : findL crlf2 T with
  | none =>
    rw [hf] at he
    simp only at he
    split at he <;> cases he
  | some i =>
    rw [hf] at he
    have hil := findL_lt (by decide) hf
    have h44 : crlf2.length = 4 := rfl
    have hil2 : i + 4 ≤ k := by omega
    have hpi : l.take i = T.take i := by rw [hT, List.take_take, Nat.min_eq_left (by omega)]
    simp only at he
    rw [hpi] at he
    obtain ⟨S, hS⟩ : ∃ S, S = T.take i := ⟨_, rfl⟩
    have hSl : S.length = i := by rw [hS, List.length_take]; omega
    have c1 := fun W h => Cut2_any T crlf2 W h (by omega)
    have hct : (cutT crlf2 T).1 = S ∧ (cutT crlf2 T).2.2 = true := by unfold cutT; rw [hf, hS]; exact ⟨rfl, rfl⟩
    rw [hct.1, hct.2] at c1
    generalize (cutT crlf2 T).2.1 = rest at c1
    rw [← hS] at he
    have c2 := fun W h => Split2_any S crlf W (by decide) h (by omega)
    rw [hSl] at c2
    injection he with he
    injection he with hp hn
    rw [hp] at c2
    subst hn
    have C1 := hid c1
    have C2 := hid c2
    have hw : IntKind.i64.wrap ((i : Int) + 4) = (i : Int) + 4 := IntWalk.i64_in _ (by omega)
    have hSI : (S.length : Int) = (i : Int) := by omega
    clear c1 c2 hct hf hr hrd ht hc hk hT hp hS hpi hSl hTl hil h44
    cases r with
    | nil =>
      go_enter Tryz.func57, Tryz.ntmps57
      go_wp2_with fail
      refine (C1.out _ hm).mono ?_
      rintro e w1 ⟨rfl, hb⟩
      clear hcv
      go_wp2_with fail
      refine (C2.out _ (hm.below hb)).mono ?_
      rintro e w2 ⟨rfl, rfl⟩
      have hb2 := chain2 hb hb.size (below_alloc w1 (.cells ([a].map strV).toArray 9))
      have g0 : (w1.alloc (.cells ([a].map strV).toArray 9)).cell? ⟨w1.heap.size, 0, none⟩ = some (strV a) := by rw [World.cell?_alloc_at _ _ _ _ rfl]; rfl
      obtain ⟨W, hW⟩ : ∃ W, W = w1.alloc (.cells ([a].map strV).toArray 9) := ⟨_, rfl⟩
      rw [← hW] at g0 hb2
      rw [← hW]
      clear hW
      go_wp2_with fail
      go_quiet (fail)
      go_wp2_with fail
      refine bodyPost_ret (v := .tuple #[strV a, .slice (some ⟨w1.heap.size, 0, none⟩) 0 0, .int .i64 ((i : Int) + 4), .int .i64 0]) (by simp [results, Tryz.results57, go_sem]) rfl ?_
      refine ⟨⟨_, _, rfl, ?_⟩, chain2 hb2 hb2.size (drewN_below2 _ _)⟩
      exact ⟨_, _, rfl, (fun j u hj => by simp at hj), fun e => by cases e⟩
    | cons r0 r1 =>
      go_enter Tryz.func57, Tryz.ntmps57
      go_wp2_with fail
      refine (C1.out _ hm).mono ?_
      rintro e w1 ⟨rfl, hb⟩
      clear hcv
      go_wp2_with fail
      refine (C2.out _ (hm.below hb)).mono ?_
      rintro e w2 ⟨rfl, rfl⟩
      have hb2 := chain2 hb hb.size (below_alloc w1 (.cells ((a :: r0 :: r1).map strV).toArray 9))
      have g0 : (w1.alloc (.cells ((a :: r0 :: r1).map strV).toArray 9)).cell? ⟨w1.heap.size, 0, none⟩ = some (strV a) := by rw [World.cell?_alloc_at _ _ _ _ rfl]; rfl
      have gr := reads_new w1 ((a :: r0 :: r1).map strV) 9 0
      obtain ⟨W, hW⟩ : ∃ W, W = w1.alloc (.cells ((a :: r0 :: r1).map strV).toArray 9) := ⟨_, rfl⟩
      rw [← hW] at g0 hb2 gr
      rw [← hW]
      have GR := hid gr
      clear hW gr
      go_wp2_with fail
      go_quiet (fail)
      go_wp2_with fail
      refine bodyPost_ret (v := .tuple #[strV a, .slice (some ⟨w1.heap.size, 1, none⟩) (r1.length + 1) (r1.length + 1), .int .i64 ((i : Int) + 4), .int .i64 0]) (by simp [results, Tryz.results57, go_sem]) rfl ?_
      refine ⟨⟨_, _, rfl, ?_⟩, chain2 hb2 hb2.size (drewN_below2 _ _)⟩
      have gr2 := reads_tail (GR.out.below (drewN_below2 W nq)) (r1.length + 1)
      rw [List.length_map] at gr2
      exact gr2
end Go.Proofs.YtongceljdgmbdaaGreatDoor
