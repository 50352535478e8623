/-
  The walk of the statement ControlPragma.
-/
import Derived.Test.YtofkiihajhkmdaaDoorLaw04A
import Derived.Test.YtofkiihajhkmdaaDoorCtlEq
import Derived.Deep.RegionHeld3
namespace Go.Proofs.YtofkiihajhkmdaaDoor
open Go.RowKit Go.Pantry

def nPr : List UInt8 := [80, 114, 97, 103, 109, 97]
def nCc : List UInt8 := [67, 97, 99, 104, 101, 45, 67, 111, 110, 116, 114, 111, 108]
def praL (s : List UInt8) (xs : List (List UInt8)) : List Fld := (nPr, s) :: xs.map fun x => (nCc, x)

set_option maxRecDepth 4000 in
set_option maxHeartbeats 1000000 in
theorem pragma_any (s : List UInt8) (vm : Value) (xs : List (List UInt8)) (w : World) (hs : s.length ≤ 100000) (hr : Reads w vm (xs.map strV)) (hx : ∀ x ∈ xs, x.length ≤ 100000) (hn : xs.length ≤ 900) :
    Calls Tryd.prog 21 #[strV s, vm] w fun e w' => e = .returned (ctlV (ctlF (praL s xs))) ∧ Below w.heap.size w w' := by
  obtain ⟨aom, capm, rfl⟩ := Reads.strs hr
  have hk : okFs (praL s xs) := ⟨by simp [praL]; omega, fun f hf => by
    rcases List.mem_cons.1 hf with rfl | hf
    · exact ⟨by show nPr.length ≤ 100000; decide, hs⟩
    · obtain ⟨x, hxm, rfl⟩ := List.mem_map.1 hf
      exact ⟨by show nCc.length ≤ 100000; decide, hx x hxm⟩⟩
  have co := fun W v h => ctlOf_any v (praL s xs) W h hk
  generalize ctlF (praL s xs) = c at co ⊢
  have CO := hid co
  have HR := hid hr
  clear co hr hk hx
  obtain ⟨W, hW⟩ : ∃ W, W = w.alloc (.cells #[.bool false, .bool false, .bool false, .bool false, .bool false, .bool false, .int .i64 0, .int .i64 0, .int .i64 0, .int .i64 0] 29) := ⟨_, rfl⟩
  have hbW : Below w.heap.size w W := by rw [hW]; exact below_alloc _ _
  have hsW : w.heap.size + 1 = W.heap.size := by rw [hW]; simp
  have hro : rowIs W w.heap.size zeroC 29 := by rw [hW]; exact rowIs_new _ _ _
  obtain ⟨X, hX⟩ : ∃ X, X = W.alloc (.cells #[strV nPr, strV s] 36) := ⟨_, rfl⟩
  have hbX : Below W.heap.size W X := by rw [hX]; exact below_alloc _ _
  have ho : X.ownsRow W.heap.size 36 2 (.slice (some ⟨w.heap.size + 1, 0, none⟩) 1 1) 1 (fldCells (praL s (xs.take 0))) := by
    rw [hsW, hX]; exact ownsRow_one W (nPr, s) _
  clear hsW
  go_enter Tryd.func21, Tryd.ntmps21
  go_wp2_with fail
  rw [← hW]
  rw [show W.alloc (.cells #[.string ⟨#[80, 114, 97, 103, 109, 97]⟩, strV s] 36) = X from hX.symm]
  clear hW hX
  have HRO := hid hro
  clear hro
  go_loopw [5, 13] (fun v' i wr => ∃ (k m : Nat), k ≤ xs.length ∧ m = k + 1 ∧ i = .int .i64 k ∧ wr.ownsRow W.heap.size 36 2 v' m (fldCells (praL s (xs.take k))) ∧ Below W.heap.size W wr) (fun _ i _ => xs.length - (intOf i).toNat)
  case atStart => exact ⟨0, 1, Nat.zero_le _, rfl, rfl, ho, hbX⟩
  case round =>
    obtain ⟨k, m, hk, hm, rfl, ho2, hb⟩ := hrel
    by_cases hlt : k < xs.length
    · obtain ⟨x, hx⟩ : ∃ x, xs[k]? = some x := ⟨_, List.getElem?_eq_getElem hlt⟩
      obtain ⟨b, off, rfl, hc⟩ := Reads.str (HR.out.below (chain2 hbW hbW.size hb)) hx
      have hst : praL s (xs.take (k + 1)) = praL s (xs.take k) ++ [(nCc, x)] := by rw [take_str hx]; simp [praL]
      have HST := hid hst
      clear hst hx
      have hs2 := hb.size
      have hm32 : m < 4294967296 := by omega
      go_wp2_with ((at_builtin; go_must (refine wpList_append_fld _ rfl _ _ 23 rfl W.heap.size 36 Tryd.underlying23 infoFld rfl (by decide) rfl ho2 (nCc, x) rfl (by first | rfl | simp) hm32 hs2 ?_); intro v' w4 hown4 hb4))
      go_roundw
      case rel => exact ⟨k + 1, m + 1, hlt, by omega, by go_num, by rw [HST.out]; exact hown4, hb.trans hb4⟩
      case measure => simp [intOf]; omega
    · have hke : xs.take k = xs := List.take_of_length_le (by omega)
      rw [hke] at ho2
      clear hke ho
      have hrd := ho2.reads2.2
      have hro2 := HRO.out.below hb
      clear ho2
      go_wp2_with fail
      refine (CO.out _ _ hrd).mono ?_
      rintro e w2 ⟨rfl, hb2⟩
      replace hro2 := hro2.below hb2
      have hbf := chain2 (chain2 hbW hbW.size hb) (Nat.le_trans hbW.size hb.size) hb2
      have h1 := ctl_one c.noStore c.noCache c.priv c.pub c.must c.only (intO c.maxAge) (intO c.shared) (intO c.minFresh) (intO c.maxStale)
      go_wp2_with (refine wpList_store_row rfl 29 _ _ rfl w.heap.size _ rfl rfl 29 zeroC hro2 infoCtl rfl h1 ?_)
      refine bodyPost_ret (results_row Tryd.results21 _ _ w.heap.size _ rfl (hro2.setRow _) Tryd.underlying29 rfl infoCtl) rfl ?_
      exact ⟨rfl, below_setRow hbf (Nat.le_refl _) _⟩

def onlyNC (p : Bool) : Ctl := { ctl0 with noCache := p }
theorem pra_none (s : List UInt8) : ctlF (praL s []) = onlyNC (hasF (praL s []) nPragma nNoCache) := by
  have h1 : allF (praL s []) nCC = [] := by
    have : isF nCC (nPr, s) = false := by unfold isF; show (lowerL nPr == lowerL nCC) = false; decide
    simp [praL, allF, this]
  unfold ctlF
  rw [elementsF_of, h1]
  rfl
theorem pra_one (s t : List UInt8) : ctlF (praL s [t]) = ctlE (listL t) false := by
  have h1 : allF (praL s [t]) nCC = [t] := by
    have a1 : isF nCC (nPr, s) = false := by unfold isF; show (lowerL nPr == lowerL nCC) = false; decide
    have a2 : isF nCC (nCc, t) = true := by unfold isF; show (lowerL nCc == lowerL nCC) = true; decide
    simp [praL, allF, a1, a2]
  rw [ctlF_some _ (by rw [h1]; simp), elementsF_of, h1]
  rfl
/-- a box of a struct -/
theorem boxC (w : World) (c : Ctl) : ∃ V, V = (w.alloc (.cells #[.bool false, .bool false, .bool false, .bool false, .bool false, .bool false, .int .i64 0, .int .i64 0, .int .i64 0, .int .i64 0] 29)).setRow w.heap.size #[.bool c.noStore, .bool c.noCache, .bool c.priv, .bool c.pub, .bool c.must, .bool c.only, .int .i64 (intO c.maxAge), .int .i64 (intO c.shared), .int .i64 (intO c.minFresh), .int .i64 (intO c.maxStale)]
    ∧ Below w.heap.size w V ∧ rowIs V w.heap.size #[.bool c.noStore, .bool c.noCache, .bool c.priv, .bool c.pub, .bool c.must, .bool c.only, .int .i64 (intO c.maxAge), .int .i64 (intO c.shared), .int .i64 (intO c.minFresh), .int .i64 (intO c.maxStale)] 29 :=
  ⟨_, rfl, below_setRow (below_alloc _ _) (Nat.le_refl _) _, (rowIs_new _ _ _).setRow _⟩

set_option maxRecDepth 4000 in
set_option maxHeartbeats 8000000 in
theorem controlPragma_main (s o : List UInt8) (w : World) (hs : s.length ≤ 200) (ho : o.length ≤ 200) :
    Calls Tryd.prog 8 #[strV s, strV o] w fun e w' => e = .returned (.bool true) ∧ Below w.heap.size w w' := by
  have p0 := fun W => pragma_any o (.slice none 0 0) [] W (by omega) ⟨none, 0, rfl, fun j u hj => by simp at hj, fun _ => rfl⟩ (by simp) (by simp)
  have p1 := fun W v h => pragma_any o v [s] W (by omega) h (by simp; omega) (by simp)
  have co := fun W => of_any s W (by omega)
  rw [pra_none] at p0
  rw [pra_one] at p1
  generalize hasF (praL o []) nPragma nNoCache = nc at p0
  generalize ctlE (listL s) false = c at p1 co
  have hsI : ((⟨s.toArray⟩ : ByteArray).size : Int) ≤ 200 := by rw [szL]; omega
  have hoI : ((⟨o.toArray⟩ : ByteArray).size : Int) ≤ 200 := by rw [szL]; omega
  have P0 := hid p0
  have P1 := hid p1
  have CO := hid co
  clear p0 p1 co
  have hsI2 : (s.length : Int) ≤ 200 := by omega
  have hoI2 : (o.length : Int) ≤ 200 := by omega
  go_enter Tryd.func8, Tryd.ntmps8
  go_wp2_with fail
  refine (anchor_any _).mono ?_
  rintro e w1 ⟨rfl, hb⟩
  go_wp2_with fail
  refine (P0.out _).mono ?_
  rintro e w2 ⟨rfl, hb2⟩
  replace hb := chain2 hb hb.size hb2
  clear hb2
  obtain ⟨A, hA, hbA, hra⟩ := boxC w2 (onlyNC nc)
  have h1 := ctl_one false nc false false false false (-1) (-1) (-1) (-1)
  go_wp2_with (refine wpList_store_row rfl 29 _ _ rfl w2.heap.size _ rfl rfl 29 zeroC (rowIs_new _ _ _) infoCtl rfl h1 ?_)
  rw [← hA]
  have hsA : A.heap.size = w2.heap.size + 1 := by rw [hA]; simp
  clear hA h1
  have hbA2 := below_alloc A (.cells #[strV s] 9)
  have hrd := reads_one_at A s 9 1 (w2.heap.size + 1) hsA.symm
  clear hsA
  refine (P1.out _ _ hrd).mono ?_
  rintro e w3 ⟨rfl, hb3⟩
  have hb4 := hbA2.trans (hb3.mono (by simp))
  replace hra := hra.below hb4
  replace hb := chain2 (chain2 hb hb.size hbA) (Nat.le_trans hb.size hbA.size) hb4
  clear hb3 hb4 hbA hbA2 hrd
  obtain ⟨B, hB, hbB, hrb⟩ := boxC w3 c
  replace hra := hra.below hbB
  replace hb := chain2 hb hb.size hbB
  have h1 := ctl_one c.noStore c.noCache c.priv c.pub c.must c.only (intO c.maxAge) (intO c.shared) (intO c.minFresh) (intO c.maxStale)
  go_wp2_with (refine wpList_store_row rfl 29 _ _ rfl w3.heap.size _ rfl rfl 29 zeroC (rowIs_new _ _ _) infoCtl rfl h1 ?_)
  rw [← hB]
  clear hB h1 hbB
  refine (ctlNone_any _).mono ?_
  rintro e w4 ⟨rfl, hb4⟩
  replace hra := hra.below hb4
  replace hrb := hrb.below hb4
  replace hb := chain2 hb hb.size hb4
  clear hb4
  have hl1 := hra.lt
  have hl2 := hrb.lt
  obtain ⟨N, hN, hbN, hrn⟩ := boxC w4 ctl0
  replace hra := hra.below hbN
  replace hrb := hrb.below hbN
  have hbw4 := hb
  clear hb
  have h1 := ctl_one false false false false false false (-1) (-1) (-1) (-1)
  have ca : N.cell? ⟨w2.heap.size, 1, none⟩ = some (.bool nc) := hra.cell 1
  have cn : N.cell? ⟨w4.heap.size, 1, none⟩ = some (.bool false) := hrn.cell 1
  have fn := hrn.free 1
  rw [hN] at ca cn fn
  go_wp2_with (refine wpList_store_row rfl 29 _ _ rfl w4.heap.size _ rfl rfl 29 zeroC (rowIs_new _ _ _) infoCtl rfl h1 ?_)
  rw [← hN]
  clear hN h1 ca cn fn
  replace hra := hra.setCell_other hrn (by omega) 1 (.bool nc)
  replace hrb := hrb.setCell_other hrn (by omega) 1 (.bool nc)
  replace hrn : rowIs (N.setCell ⟨w4.heap.size, 1, none⟩ (.bool nc)) w4.heap.size #[.bool (onlyNC nc).noStore, .bool (onlyNC nc).noCache, .bool (onlyNC nc).priv, .bool (onlyNC nc).pub, .bool (onlyNC nc).must, .bool (onlyNC nc).only, .int .i64 (intO (onlyNC nc).maxAge), .int .i64 (intO (onlyNC nc).shared), .int .i64 (intO (onlyNC nc).minFresh), .int .i64 (intO (onlyNC nc).maxStale)] 29 := hrn.setCell 1 (.bool nc)
  have hb5 : Below w4.heap.size w4 (N.setCell ⟨w4.heap.size, 1, none⟩ (.bool nc)) := hbN.setCell (Nat.le_refl _) _
  have hb := chain2 hbw4 hbw4.size hb5
  generalize N.setCell ⟨w4.heap.size, 1, none⟩ (.bool nc) = Z at hra hrb hrn hb ⊢
  generalize w2.heap.size = g2 at hra hl1 ⊢
  generalize w3.heap.size = g3 at hrb hl2 ⊢
  clear hb5 hbN hl1 hl2
  generalize w4.heap.size = g4 at hrn ⊢
  have ge1 := eql_ctl (onlyNC nc)
  have ge2 := eql_ctl c
  have gg := guard_ctl
  refine wp_region_held_drew (S := fun w' => rowIs w' g2 #[.bool (onlyNC nc).noStore, .bool (onlyNC nc).noCache, .bool (onlyNC nc).priv, .bool (onlyNC nc).pub, .bool (onlyNC nc).must, .bool (onlyNC nc).only, .int .i64 (intO (onlyNC nc).maxAge), .int .i64 (intO (onlyNC nc).shared), .int .i64 (intO (onlyNC nc).minFresh), .int .i64 (intO (onlyNC nc).maxStale)] 29 ∧ rowIs w' g4 #[.bool (onlyNC nc).noStore, .bool (onlyNC nc).noCache, .bool (onlyNC nc).priv, .bool (onlyNC nc).pub, .bool (onlyNC nc).must, .bool (onlyNC nc).only, .int .i64 (intO (onlyNC nc).maxAge), .int .i64 (intO (onlyNC nc).shared), .int .i64 (intO (onlyNC nc).minFresh), .int .i64 (intO (onlyNC nc).maxStale)] 29 ∧ rowIs w' g3 #[.bool c.noStore, .bool c.noCache, .bool c.priv, .bool c.pub, .bool c.must, .bool c.only, .int .i64 (intO c.maxAge), .int .i64 (intO c.shared), .int .i64 (intO c.minFresh), .int .i64 (intO c.maxStale)] 29 ∧ Below w.heap.size w w') (by kernel_rfl) ⟨hra, hrn, hrb, hb.drew⟩ (fun hHeld => ?_)
  refine wpAnyH_take (i := 0) (v := ?_) rfl (by kernel_rfl) (by kernel_rfl) (by kernel_rfl) (fun _ _ _ h => h) (Or.inl ⟨by kernel_rfl, ?_⟩) hHeld ?_
  rotate_left
  · intro W hSW
    obtain ⟨hSa, hSb, hSc, hSd⟩ := hSW
    refine load_gives (x := .tmp 5) ?_ g2 ?_ hSa Tryd.underlying29 rfl infoCtl
    · rfl
    · rfl
  simp only [Act.put, List.setIfInBounds_toArray, List.set_cons_zero, List.set_cons_succ]
  refine wpAnyH_take (i := 1) (v := ?_) rfl (by kernel_rfl) (by kernel_rfl) (by kernel_rfl) (fun _ _ _ h => h) (Or.inl ⟨by kernel_rfl, ?_⟩) hHeld ?_
  rotate_left
  · intro W hSW
    obtain ⟨hSa, hSb, hSc, hSd⟩ := hSW
    refine load_gives (x := .tmp 7) ?_ g4 ?_ hSb Tryd.underlying29 rfl infoCtl
    · rfl
    · rfl
  simp only [Act.put, List.setIfInBounds_toArray, List.set_cons_zero, List.set_cons_succ]
  refine wpAnyH_take (i := 2) (v := ?_) rfl (by kernel_rfl) (by kernel_rfl) (by kernel_rfl) (fun _ _ _ h => h) (Or.inl ⟨by kernel_rfl, ?_⟩) hHeld ?_
  rotate_left
  · intro W hSW
    obtain ⟨hSa, hSb, hSc, hSd⟩ := hSW
    go_simp
    first | done | with_reducible rfl
  simp only [Act.put, List.setIfInBounds_toArray, List.set_cons_zero, List.set_cons_succ]
  refine wpAnyH_take (i := 3) (v := ?_) rfl (by kernel_rfl) (by kernel_rfl) (by kernel_rfl) (fun _ _ _ h => h) (Or.inl ⟨by kernel_rfl, ?_⟩) hHeld ?_
  rotate_left
  · intro W hSW
    obtain ⟨hSa, hSb, hSc, hSd⟩ := hSW
    go_simp
    first | done | with_reducible rfl
  simp only [Act.put, List.setIfInBounds_toArray, List.set_cons_zero, List.set_cons_succ]
  refine wpAnyH_take (i := 4) (v := ?_) rfl (by kernel_rfl) (by kernel_rfl) (by kernel_rfl) (fun _ _ _ h => h) (Or.inl ⟨by kernel_rfl, ?_⟩) hHeld ?_
  rotate_left
  · intro W hSW
    obtain ⟨hSa, hSb, hSc, hSd⟩ := hSW
    refine load_gives (x := .tmp 6) ?_ g3 ?_ hSc Tryd.underlying29 rfl infoCtl
    · rfl
    · rfl
  simp only [Act.put, List.setIfInBounds_toArray, List.set_cons_zero, List.set_cons_succ]
  refine wpAnyH_take (i := 5) (v := ?_) rfl (by kernel_rfl) (by kernel_rfl) (by kernel_rfl) (fun _ _ _ h => h) (Or.inl ⟨by kernel_rfl, ?_⟩) hHeld ?_
  rotate_left
  · intro W hSW
    obtain ⟨hSa, hSb, hSc, hSd⟩ := hSW
    go_simp
    first | done | with_reducible rfl
  simp only [Act.put, List.setIfInBounds_toArray, List.set_cons_zero, List.set_cons_succ]
  refine wpAnyH_ready (rs := [6]) (by kernel_rfl) (by simp) ?_
  refine AllReadyH.cons rfl (fun K hK => ?_) AllReadyH.nil
  go_simp
  refine (CO.out _).mono ?_
  rintro e w9 ⟨rfl, hb9⟩
  refine hK.out _ _ ⟨hHeld.1.below hb9, hHeld.2.1.below hb9, hHeld.2.2.1.below hb9, chain2 hHeld.2.2.2 hHeld.2.2.2.size hb9⟩ (fun hHeld2 => ?_)
  clear hK K hHeld
  try simp only [Act.put, List.setIfInBounds_toArray, List.set_cons_zero, List.set_cons_succ]
  refine wpAnyH_take (i := 7) (v := ?_) rfl (by kernel_rfl) (by kernel_rfl) (by kernel_rfl) (fun _ _ _ h => h) (Or.inl ⟨by kernel_rfl, ?_⟩) hHeld2 ?_
  rotate_left
  · intro W hSW
    obtain ⟨hSa, hSb, hSc, hSd⟩ := hSW
    go_simp
    first | done | with_reducible rfl
  simp only [List.getElem_toArray, List.getElem_cons_succ, List.getElem_cons_zero, Act.put, List.setIfInBounds_toArray, List.set_cons_zero, List.set_cons_succ]
  refine wpAnyH_take (i := 8) (v := ?_) rfl (by kernel_rfl) (by kernel_rfl) (by kernel_rfl) (fun _ _ _ h => h) (Or.inl ⟨by kernel_rfl, ?_⟩) hHeld2 ?_
  rotate_left
  · intro W hSW
    obtain ⟨hSa, hSb, hSc, hSd⟩ := hSW
    go_simp
    first | done | with_reducible rfl
  simp only [List.getElem_toArray, List.getElem_cons_succ, List.getElem_cons_zero, Act.put, List.setIfInBounds_toArray, List.set_cons_zero, List.set_cons_succ]
  refine wpAnyH_take (i := 9) (v := ?_) rfl (by kernel_rfl) (by kernel_rfl) (by kernel_rfl) (fun _ _ _ h => h) (Or.inl ⟨by kernel_rfl, ?_⟩) hHeld2 ?_
  rotate_left
  · intro W hSW
    obtain ⟨hSa, hSb, hSc, hSd⟩ := hSW
    go_simp
    first | done | with_reducible rfl
  simp only [List.getElem_toArray, List.getElem_cons_succ, List.getElem_cons_zero, Act.put, List.setIfInBounds_toArray, List.set_cons_zero, List.set_cons_succ]
  refine wpAnyH_done (by kernel_rfl) ?_ _
  go_wp2_with fail
  go_ret
  exact ⟨rfl, hHeld2.2.2.2⟩

theorem controlPragma_walk (s o : ByteArray) (w : World) (hs : s.size ≤ maxLen) (ho : o.size ≤ maxLen) :
    Calls Tryd.prog 8 #[.string s, .string o] w fun e w' => e = .returned (.bool true) ∧ Below w.heap.size w w' := by
  unfold maxLen at hs ho
  by_cases hall : (s.size : Int) ≤ 200 ∧ (o.size : Int) ≤ 200
  · obtain ⟨S, rfl⟩ := as_list s
    obtain ⟨O, rfl⟩ := as_list o
    rw [szL, szL] at hall
    exact controlPragma_main S O w (by omega) (by omega)
  · have hcase : (200 : Int) < (s.size : Int) ∨ ((s.size : Int) ≤ 200 ∧ (200 : Int) < (o.size : Int)) := by omega
    clear hall
    rcases hcase with h1 | ⟨h1, h2⟩
    all_goals
      go_enter Tryd.func8, Tryd.ntmps8
      go_wp2_with fail
      refine (anchor_any _).mono ?_
      rintro e w1 ⟨rfl, hb⟩
      go_wp2_with fail
      go_ret
      exact ⟨rfl, hb⟩
end Go.Proofs.YtofkiihajhkmdaaDoor
