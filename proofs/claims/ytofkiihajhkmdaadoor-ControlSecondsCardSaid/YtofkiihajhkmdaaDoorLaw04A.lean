/-
  The walks of the statements of layer 4: of, anchor, small.
-/
import Derived.Test.YtofkiihajhkmdaaDoorCtlOf
import Derived.Test.YtofkiihajhkmdaaDoorBase3
namespace Go.Proofs.YtofkiihajhkmdaaDoor
open Go.RowKit Go.Pantry

theorem of_any (s : List UInt8) (w : World) (hs : s.length ≤ 100000) :
    Calls Tryd.prog 15 #[strV s] w fun e w' => e = .returned (ctlV (ctlE (listL s) false)) ∧ Below w.heap.size w w' := by
  have hk : okFs [(([99, 97, 99, 104, 101, 45, 67, 79, 78, 84, 82, 79, 76] : List UInt8), s)] := ⟨by simp, by simpa using hs⟩
  have c1 := fun W v h => ctlOf_any v _ W h hk
  rw [ctlF_one _ s (by decide)] at c1
  generalize ctlE (listL s) false = c at c1 ⊢
  have C1 := hid c1
  clear c1 hk
  go_enter Tryd.func15, Tryd.ntmps15
  obtain ⟨W, hW⟩ : ∃ W, W = w.alloc (.cells #[.bool false, .bool false, .bool false, .bool false, .bool false, .bool false, .int .i64 0, .int .i64 0, .int .i64 0, .int .i64 0] 29) := ⟨_, rfl⟩
  have hbW : Below w.heap.size w W := by rw [hW]; exact below_alloc _ _
  have hsW : W.heap.size = w.heap.size + 1 := by rw [hW]; simp
  have hro : rowIs W w.heap.size zeroC 29 := by rw [hW]; exact rowIs_new _ _ _
  go_wp2_with fail
  rw [← hW]
  clear hW
  have hbX := below_alloc W (.cells #[strV [99, 97, 99, 104, 101, 45, 67, 79, 78, 84, 82, 79, 76], strV s] 36)
  have hrd := reads2_new_at W ([99, 97, 99, 104, 101, 45, 67, 79, 78, 84, 82, 79, 76], s) 36 1 (w.heap.size + 1) hsW.symm
  refine (C1.out _ _ hrd).mono ?_
  rintro e w2 ⟨rfl, hb2⟩
  have hb3 := hbX.trans (hb2.mono (by simp))
  replace hro := hro.below hb3
  have hbf := chain2 hbW hbW.size hb3
  clear hbX hb2 hrd hb3 hbW
  have h1 := ctl_one c.noStore c.noCache c.priv c.pub c.must c.only (intO c.maxAge) (intO c.shared) (intO c.minFresh) (intO c.maxStale)
  go_wp2_with (refine wpList_store_row rfl 29 _ _ rfl w.heap.size _ rfl rfl 29 zeroC hro infoCtl rfl h1 ?_)
  refine bodyPost_ret (results_row Tryd.results15 _ _ w.heap.size _ rfl (hro.setRow _) Tryd.underlying29 rfl infoCtl) rfl ?_
  exact ⟨rfl, below_setRow hbf (Nat.le_refl _) _⟩
/-- can fields be gone through with? -/
def smallC (L : List Fld) : Bool := L.all (fun f => decide (f.1.length ≤ 100) && decide (f.2.length ≤ 300)) && decide (L.length ≤ 30)
set_option maxHeartbeats 4000000 in
theorem smallC_any (v : Value) (L : List Fld) (w : World) (hr : Reads2 w v L) (hn : (L.length : Int) ≤ 9223372036854775807) :
    Calls Tryd.prog 10 #[v] w fun e w' => e = .returned (.bool (smallC L)) ∧ Below w.heap.size w w' := by
  obtain ⟨ao, cap, rfl⟩ := hr.form
  have HR := hid hr
  have hrf : smallC L = (L.all (fun f => decide (f.1.length ≤ 100) && decide (f.2.length ≤ 300)) && decide (L.length ≤ 30)) := rfl
  obtain ⟨r, hrr⟩ : ∃ r, smallC L = r := ⟨_, rfl⟩
  rw [hrr] at hrf ⊢
  have HF := hid hrf
  clear hr hrr hrf
  go_enter Tryd.func10, Tryd.ntmps10
  go_wp2
  go_loopw [7] (fun i wr => ∃ (k : Nat), k ≤ L.length ∧ i = .int .i64 k ∧ (L.take k).all (fun f => decide (f.1.length ≤ 100) && decide (f.2.length ≤ 300)) = true ∧ Below w.heap.size w wr) (fun i _ => L.length - (intOf i).toNat)
  case atStart => exact ⟨0, Nat.zero_le _, rfl, rfl, Below.refl _ _⟩
  case round =>
    obtain ⟨k, hk, rfl, hak, hb⟩ := hrel
    have HK := hid hak
    clear hak
    by_cases hlt : k < L.length
    · obtain ⟨f, hf⟩ : ∃ f, L[k]? = some f := ⟨_, List.getElem?_eq_getElem hlt⟩
      obtain ⟨b, off, rfl, hc1, hc2⟩ := (HR.out.below hb).fld hf
      have HM := hid (List.mem_of_getElem? hf)
      have HT := hid (take_fld hf)
      clear hf
      by_cases p1 : (100 : Int) < (f.1.length : Int)
      · have d1 : decide ((100 : Int) < (f.1.length : Int)) = true := decide_eq_true p1
        have hno : r = false := by
          rw [HF.out]
          rw [List.all_eq_false.2 ⟨f, HM.out, by simp; omega⟩]; rfl
        subst hno
        go_wp2_with fail
        go_ret
        exact ⟨rfl, chain2 hb hb.size (below_alloc _ _)⟩
      · by_cases p2 : (300 : Int) < (f.2.length : Int)
        · have d1 : decide ((100 : Int) < (f.1.length : Int)) = false := decide_eq_false p1
          have d2 : decide ((300 : Int) < (f.2.length : Int)) = true := decide_eq_true p2
          have hno : r = false := by
            rw [HF.out]
            rw [List.all_eq_false.2 ⟨f, HM.out, by simp; omega⟩]; rfl
          subst hno
          go_wp2_with fail
          go_ret
          exact ⟨rfl, chain2 hb hb.size (below_alloc _ _)⟩
        · have d1 : decide ((100 : Int) < (f.1.length : Int)) = false := decide_eq_false p1
          have d2 : decide ((300 : Int) < (f.2.length : Int)) = false := decide_eq_false p2
          have p1' : (f.1.length : Int) ≤ 100 := by omega
          have p2' : (f.2.length : Int) ≤ 300 := by omega
          go_wp2_with fail
          go_roundw
          case rel => exact ⟨k + 1, hlt, by go_num, by rw [HT.out, List.all_append, HK.out]; simp; omega, chain2 hb hb.size (below_alloc _ _)⟩
          case measure => simp [intOf]; omega
    · have hyes : r = decide (L.length ≤ 30) := by
        have h := HK.out
        rw [List.take_of_length_le (show L.length ≤ k by omega)] at h
        rw [HF.out, h]; rfl
      have HY := hid hyes
      clear hyes
      by_cases p : (L.length : Int) ≤ 30
      · have d : decide ((L.length : Int) ≤ 30) = true := decide_eq_true p
        have hr1 : r = true := by rw [HY.out]; exact decide_eq_true (by omega)
        subst hr1
        go_wp2_with fail
        go_ret
        exact ⟨rfl, hb⟩
      · have d : decide ((L.length : Int) ≤ 30) = false := decide_eq_false p
        have hr1 : r = false := by rw [HY.out]; exact decide_eq_false (by omega)
        subst hr1
        go_wp2_with fail
        go_ret
        exact ⟨rfl, hb⟩

theorem smallC_ok {L : List Fld} (h : smallC L = true) : okFs L ∧ L.length ≤ 30 ∧ ∀ f ∈ L, f.1.length ≤ 100 ∧ f.2.length ≤ 300 := by
  unfold smallC at h
  simp only [Bool.and_eq_true, decide_eq_true_eq, List.all_eq_true] at h
  exact ⟨⟨by omega, fun f hf => by have := h.1 f hf; omega⟩, h.2, h.1⟩
def exC : List UInt8 := [109, 97, 120, 45, 97, 103, 101, 61, 54, 48, 44, 32, 80, 114, 105, 118, 97, 116, 101, 44, 32, 115, 45, 109, 97, 120, 97, 103, 101, 61, 34, 57, 34]
theorem exC_says : ctlE (listL exC) false = { noStore := false, noCache := false, priv := true, pub := false, must := false, only := false, maxAge := some 60, shared := some 9, minFresh := none, maxStale := none } := by decide +kernel

theorem anchor_any (w : World) :
    Calls Tryd.prog 9 #[] w fun e w' => e = .returned (.bool true) ∧ Below w.heap.size w w' := by
  have c1 : ∀ W, Calls Tryd.prog 15 #[strV exC] W fun e w' => e = .returned (.agg #[.bool false, .bool false, .bool true, .bool false, .bool false, .bool false, .int .i64 60, .int .i64 9, .int .i64 (-1), .int .i64 (-1)]) ∧ Below W.heap.size W w' := fun W => by
    have h := of_any exC W (by decide)
    rw [exC_says] at h
    exact h
  have C1 := hid c1
  clear c1
  go_enter Tryd.func9, Tryd.ntmps9
  go_wp2_with fail
  refine (C1.out _).mono ?_
  rintro e w1 ⟨rfl, hb⟩
  obtain ⟨V, hV⟩ : ∃ V, V = (w1.alloc (.cells #[.bool false, .bool false, .bool false, .bool false, .bool false, .bool false, .int .i64 0, .int .i64 0, .int .i64 0, .int .i64 0] 29)).setRow w1.heap.size #[.bool false, .bool false, .bool true, .bool false, .bool false, .bool false, .int .i64 60, .int .i64 9, .int .i64 (-1), .int .i64 (-1)] := ⟨_, rfl⟩
  have hbV : Below w1.heap.size w1 V := by rw [hV]; exact below_setRow (below_alloc _ _) (Nat.le_refl _) _
  have hrc : rowIs V w1.heap.size #[.bool false, .bool false, .bool true, .bool false, .bool false, .bool false, .int .i64 60, .int .i64 9, .int .i64 (-1), .int .i64 (-1)] 29 := by rw [hV]; exact (rowIs_new _ _ _).setRow _
  have h1 := ctl_one false false true false false false 60 9 (-1) (-1)
  have c0 : V.cell? ⟨w1.heap.size, 0, none⟩ = some (.bool false) := hrc.cell 0
  have c2 : V.cell? ⟨w1.heap.size, 2, none⟩ = some (.bool true) := hrc.cell 2
  have c6 : V.cell? ⟨w1.heap.size, 6, none⟩ = some (.int .i64 60) := hrc.cell 6
  have c7 : V.cell? ⟨w1.heap.size, 7, none⟩ = some (.int .i64 9) := hrc.cell 7
  have c8 : V.cell? ⟨w1.heap.size, 8, none⟩ = some (.int .i64 (-1)) := hrc.cell 8
  clear hrc
  rw [hV] at c0 c2 c6 c7 c8
  go_wp2_with (refine wpList_store_row rfl 29 _ _ rfl w1.heap.size _ rfl rfl 29 zeroC (rowIs_new _ _ _) infoCtl rfl h1 ?_)
  rw [← hV]
  go_ret
  exact ⟨rfl, chain2 hb hb.size hbV⟩
end Go.Proofs.YtofkiihajhkmdaaDoor
