/-
  Contracts of package body: justChunked, countedFrame.
-/
import Derived.Test.YtefplhkjcclppaaDoorPureAll2
import Derived.Test.YtefplhkjcclppaaDoorSignB
import Derived.Test.YtefplhkjcclppaaDoorSignN
import Derived.Test.YtefplhkjcclppaaDoorPureAll1
namespace Go.Proofs.YtefplhkjcclppaaDoor
open Go.RowKit Go.Pantry

theorem infoFrS : (Tryd.prog.info? 36).map (·.size) = some 2 := by kernel_rfl
theorem oneF (a b : Int) : (#[.int .i64 a, .int .i64 b] : Array Value).all (·.oneCell') = true := by simp [Value.oneCell']
set_option maxRecDepth 100000 in
set_option maxHeartbeats 4000000 in
theorem justChunked_any (v : Value) (E : List (List UInt8)) (w : World) (hr : Reads w v (E.map strV)) (hs : ∀ a ∈ E, a.length ≤ 4294967296) :
    Calls Tryd.prog 20 #[v] w fun e w' => e = .returned (.bool (justX E)) ∧ Below w.heap.size w w' := by
  obtain ⟨ao, cap, rfl⟩ := Reads.strs hr
  match E with
  | [] =>
    go_enter Tryd.func20, Tryd.ntmps20
    go_wp2_with fail
    go_ret
    exact ⟨rfl, Below.refl _ _⟩
  | a :: b :: r =>
    have hn : ((((a :: b :: r).length : Nat) : Int) == 1) = false := by simp; omega
    have hl : (a :: b :: r).length = r.length + 2 := rfl
    generalize (a :: b :: r).length = n at *
    go_enter Tryd.func20, Tryd.ntmps20
    go_wp2_with fail
    go_ret
    exact ⟨rfl, Below.refl _ _⟩
  | [a] =>
    have hal := hs a (by simp)
    have c1 := fun W => Same_any ⟨a.toArray⟩ ⟨chW.toArray⟩ W (by rw [szL]; unfold maxLen; omega) (by decide)
    rw [dtL, dtL, show lowerL chW = chW by decide +kernel] at c1
    have hj : justX [a] = (lowerL a == chW) := rfl
    rw [← hj] at c1
    generalize justX [a] = q at c1 ⊢
    unfold chW at c1
    obtain ⟨b, off, cap', hv, hcell⟩ := hr.at_some (by simp)
    have hce := hcell 0 (strV a) rfl
    rw [Nat.add_zero] at hce
    cases hv
    have C1 := hid c1
    clear c1 hr hcell hj
    go_enter Tryd.func20, Tryd.ntmps20
    go_wp2_with fail
    refine (C1.out _).mono ?_
    rintro e w1 ⟨rfl, hb1⟩
    go_wp2_with fail
    go_ret
    exact ⟨rfl, hb1⟩
set_option maxRecDepth 100000 in
set_option maxHeartbeats 8000000 in
theorem countedFrame_any (v : Value) (E : List (List UInt8)) (w : World) (hr : Reads w v (E.map strV)) (hs : ∀ a ∈ E, a.length ≤ 4294967296) (hn : E.length ≤ 4294967296) :
    Calls Tryd.prog 22 #[v] w fun e w' => FrameIs (cntX E) e ∧ Below w.heap.size w w' := by
  obtain ⟨W0, hW0⟩ : ∃ W, W = w.alloc (.cells #[.int .i64 0, .int .i64 0] 36) := ⟨_, rfl⟩
  have hb0 : Below w.heap.size w W0 := by rw [hW0]; exact below_alloc _ _
  have hr0 : rowIs W0 w.heap.size #[.int .i64 0, .int .i64 0] 36 := by rw [hW0]; exact rowIs_new _ _ _
  obtain ⟨ao, cap, rfl⟩ := Reads.strs hr
  have hrd := hr.below hb0
  cases hE : E with
  | nil =>
    subst hE
    go_enter Tryd.func22, Tryd.ntmps22
    go_wp2_with fail
    rw [← hW0]
    clear hW0
    refine bodyPost_ret (results_row2 Tryd.results22 _ _ w.heap.size _ rfl hr0 Tryd.underlying36 rfl infoFrS) rfl ?_
    exact ⟨rfl, hb0⟩
  | cons a r =>
    have hlen : (E.length : Int) ≠ 0 := by rw [hE]; simp; omega
    have hne0 : ((E.length : Int) == 0) = false := by simpa using hlen
    have hp1 : 0 < E.length := by omega
    have hp2 : (0 : Int) < (E.length : Int) := by omega
    have hp3 : ¬ E = [] := by rw [hE]; simp
    have hx : cntX E = if E.all (goodN ((numberL a).getD 0)) then (if 2048 < (numberL a).getD 0 then .error 23 else .ok (1, (numberL a).getD 0)) else .error 24 := by rw [hE]; rfl
    have hal := hs a (by rw [hE]; simp)
    rw [← hE]
    obtain ⟨b, off, cap', hv, hcell⟩ := hrd.at_some (by rw [List.length_map]; omega)
    have hce := hcell 0 (strV a) (by rw [hE]; rfl)
    rw [Nat.add_zero] at hce
    rw [hW0] at hce
    rw [List.length_map] at hv
    cases hv
    have c1 := fun (x : List UInt8) W (h : x.length ≤ 4294967296) => Number_any ⟨x.toArray⟩ W (by rw [szL]; omega)
    have c2 := c1 a W0 hal
    rw [dtL] at c2
    generalize cntX E = X at hx ⊢
    obtain ⟨F, hF⟩ : ∃ F, (numberL a).getD 0 = F := ⟨_, rfl⟩
    rw [hF] at hx c2
    have C1 := hid c1
    have C2 := hid c2
    have HX := hid hx
    have HC := hid hcell
    have HS := hid hs
    clear c1 c2 hx hcell hs hr hrd hal hE hF hlen
    go_enter Tryd.func22, Tryd.ntmps22
    go_wp2_with fail
    rw [← hW0]
    clear hW0 hce
    refine C2.out.mono ?_
    rintro e w1 ⟨rfl, rfl⟩
    clear C2
    go_wp2_with fail
    go_loopw [23] (fun i wr => ∃ k : Nat, k ≤ E.length ∧ i = .int .i64 (k : Int) ∧ (E.take k).all (goodN F) = true ∧ W0 = wr) (fun i _ => E.length - (intOf i).toNat)
    case atStart => exact ⟨0, Nat.zero_le _, rfl, rfl, rfl⟩
    case round =>
      obtain ⟨k, hk, rfl, hall, rfl⟩ := hrel
      have HA := hid hall
      clear hall
      by_cases hlt : k < E.length
      · obtain ⟨x, hx⟩ : ∃ x, E[k]? = some x := ⟨_, List.getElem?_eq_getElem hlt⟩
        have hcx := HC.out k (strV x) (by rw [List.getElem?_map, hx]; rfl)
        have hmem := List.mem_of_getElem? hx
        have c3 := C1.out x W0 (HS.out x hmem)
        try rw [dtL] at c3
        have ht := all_take (f := F) hx
        have hgd : goodN F x = ((numberL x).isSome && (numberL x).getD 0 == F) := rfl
        have HM := hid hmem
        have HT := hid ht
        clear hx hmem ht
        cases hnx : numberL x with
        | none =>
          rw [hnx] at c3 hgd
          simp only [Option.isSome_none, Option.getD_none, Bool.false_and] at c3 hgd
          have hXe : X = .error 24 := by rw [HX.out, all_not HM.out hgd]; rfl
          have C3 := hid c3
          subst hXe
          clear c3 hnx hgd
          go_wp2_with fail
          refine C3.out.mono ?_
          rintro e w2 ⟨rfl, rfl⟩
          go_wp2_with (refine wpList_store_row rfl 36 _ _ rfl w.heap.size _ rfl rfl 36 #[.int .i64 0, .int .i64 0] hr0 infoFrS rfl (oneF 0 0) ?_)
          refine bodyPost_ret (results_row2 Tryd.results22 _ _ w.heap.size _ rfl (hr0.setRow _) Tryd.underlying36 rfl infoFrS) rfl ?_
          exact ⟨rfl, below_setRow hb0 (Nat.le_refl _) _⟩
        | some m =>
          rw [hnx] at c3 hgd
          simp only [Option.isSome_some, Option.getD_some, Bool.true_and] at c3 hgd
          have C3 := hid c3
          by_cases hmF : m = F
          · have hg1 : goodN F x = true := by rw [hgd, hmF]; simp
            have z1 : ((m : Int) == (F : Int)) = true := by simp; omega
            have z2 : ((m : Int) != (F : Int)) = false := by simp; omega
            have hal2 : (E.take (k + 1)).all (goodN F) = true := by rw [HT.out, HA.out, hg1]; rfl
            have HA2 := hid hal2
            clear c3 hnx hgd hg1 hal2 hmF
            go_wp2_with fail
            refine C3.out.mono ?_
            rintro e w2 ⟨rfl, rfl⟩
            go_wp2_with fail
            go_roundw
            case rel => exact ⟨k + 1, hlt, by go_num, HA2.out, by trivial⟩
            case measure => simp [intOf]; omega
          · have hg1 : goodN F x = false := by rw [hgd]; simpa using hmF
            have z1 : ((m : Int) == (F : Int)) = false := beq_eq_false_iff_ne.2 (by omega)
            have z2 : ((m : Int) != (F : Int)) = true := by rw [bne, z1]; rfl
            have hXe : X = .error 24 := by rw [HX.out, all_not HM.out hg1]; rfl
            subst hXe
            clear c3 hnx hgd hg1 hmF
            go_wp2_with fail
            refine C3.out.mono ?_
            rintro e w2 ⟨rfl, rfl⟩
            go_wp2_with (refine wpList_store_row rfl 36 _ _ rfl w.heap.size _ rfl rfl 36 #[.int .i64 0, .int .i64 0] hr0 infoFrS rfl (oneF 0 0) ?_)
            refine bodyPost_ret (results_row2 Tryd.results22 _ _ w.heap.size _ rfl (hr0.setRow _) Tryd.underlying36 rfl infoFrS) rfl ?_
            exact ⟨rfl, below_setRow hb0 (Nat.le_refl _) _⟩
      · have hall := HA.out
        rw [List.take_of_length_le (by omega)] at hall
        have hx2 := HX.out
        rw [hall, if_pos rfl] at hx2
        clear hall
        by_cases h2048 : (2048 : Int) < (F : Int)
        · rw [if_pos (by omega)] at hx2
          subst hx2
          clear HX
          go_wp2_with (refine wpList_store_row rfl 36 _ _ rfl w.heap.size _ rfl rfl 36 #[.int .i64 0, .int .i64 0] hr0 infoFrS rfl (oneF 0 0) ?_)
          refine bodyPost_ret (results_row2 Tryd.results22 _ _ w.heap.size _ rfl (hr0.setRow _) Tryd.underlying36 rfl infoFrS) rfl ?_
          exact ⟨rfl, below_setRow hb0 (Nat.le_refl _) _⟩
        · rw [if_neg (by omega)] at hx2
          subst hx2
          clear HX
          go_wp2_with (refine wpList_store_row rfl 36 _ _ rfl w.heap.size _ rfl rfl 36 #[.int .i64 0, .int .i64 0] hr0 infoFrS rfl (oneF 1 (F : Int)) ?_)
          refine bodyPost_ret (results_row2 Tryd.results22 _ _ w.heap.size _ rfl (hr0.setRow _) Tryd.underlying36 rfl infoFrS) rfl ?_
          exact ⟨rfl, below_setRow hb0 (Nat.le_refl _) _⟩
end Go.Proofs.YtefplhkjcclppaaDoor
