/-
  The walk of the statement HeadBlanks.
-/
import Derived.Test.YtjfkehdlamnigaaDoorLaw05A
import Derived.Test.YtjfkehdlamnigaaDoorLaw05S
import Derived.Test.YtjfkehdlamnigaaDoorMade5
import Derived.Test.YtjfkehdlamnigaaDoorHeadS
import Derived.Test.YtjfkehdlamnigaaDoorBase5
namespace Go.Proofs.YtjfkehdlamnigaaDoor
open Go.RowKit Go.Pantry

theorem bl_row (a : Nat) (h : a ≤ 3) : (#[strV [], strV [32], strV [9], strV [32, 9, 32]] : Array Value)[a]? = some (strV (blL a)) := by
  match a, h with
  | 0, _ => rfl
  | 1, _ => rfl
  | 2, _ => rfl
  | 3, _ => rfl
theorem bl_len (a : Nat) : (blL a).length ≤ 3 := by unfold blL; split <;> simp
theorem blank_len (a b wh : Nat) (L : List Fld) (k : Nat) (hL : L.length ≤ 10) (hv : ∀ f ∈ L, f.1.length ≤ 200 ∧ f.2.length ≤ 1100) : (linesT (getL :: (L.take k).map (blLine a b wh))).length ≤ 20000 := by
  have h1 : ∀ f ∈ L, (blLine a b wh f ++ crlf).length ≤ 1400 := fun f hf => by
    have h2 := hv f hf
    have h3 := bl_len a
    have h4 := bl_len b
    have h5 : ((if wh = 2 then [32] else []) : List UInt8).length ≤ 1 := by split <;> simp
    have h6 : ((if wh = 1 then [32] else []) : List UInt8).length ≤ 1 := by split <;> simp
    unfold blLine
    simp only [List.length_append, List.length_cons, List.length_nil]
    have h7 : crlf.length = 2 := rfl
    omega
  have h2 : ∀ M : List Fld, (∀ f ∈ M, (blLine a b wh f ++ crlf).length ≤ 1400) → ((M.map (blLine a b wh)).flatMap (· ++ crlf)).length ≤ M.length * 1400 := by
    intro M
    induction M with
    | nil => intro _; simp
    | cons f M ih =>
      intro h
      have g1 := h f (List.mem_cons_self ..)
      have g2 := ih fun g hg => h g (List.mem_cons_of_mem _ hg)
      rw [List.map_cons, List.flatMap_cons, List.length_append, List.length_cons, Nat.add_mul, Nat.one_mul]
      omega
  have h3 := h2 (L.take k) fun f hf => h1 f (List.mem_of_mem_take hf)
  have h4 : (L.take k).length ≤ 10 := by rw [List.length_take]; omega
  have h5 : (L.take k).length * 1400 ≤ 10 * 1400 := Nat.mul_le_mul_right _ h4
  unfold linesT
  rw [List.flatMap_cons, List.length_append]
  have h6 : (getL ++ crlf).length = 16 := rfl
  omega
def AtL (W0 : World) : World → Prop := fun W => Below W0.heap.size W0 W ∧ W0.heap.size ≤ W.heap.size
theorem AtL.alloc {W0 W : World} (h : AtL W0 W) (o : Obj) : AtL W0 (W.alloc o) := ⟨h.1.alloc h.2 o, Nat.le_trans h.2 (by simp)⟩
theorem new_cell (W : World) (cs : Array Value) (e : TypeId) (i : Nat) (v : Value) (h : cs[i]? = some v) : (W.alloc (.cells cs e)).cell? ⟨W.heap.size, i, none⟩ = some v := by
  rw [World.cell?_alloc_at _ _ _ _ rfl]
  exact h
def b1 (wh : Nat) : List UInt8 := if wh = 2 then [32] else []
def b2 (wh : Nat) : List UInt8 := if wh = 1 then [32] else []
theorem b1_row (wh : Nat) (h : wh ≤ 2) : (#[strV [], strV [], strV [32]] : Array Value)[wh]? = some (strV (b1 wh)) := by
  match wh, h with
  | 0, _ => rfl
  | 1, _ => rfl
  | 2, _ => rfl
theorem b2_row (wh : Nat) (h : wh ≤ 2) : (#[strV [], strV [32], strV []] : Array Value)[wh]? = some (strV (b2 wh)) := by
  match wh, h with
  | 0, _ => rfl
  | 1, _ => rfl
  | 2, _ => rfl
theorem b1_len (wh : Nat) : (b1 wh).length ≤ 1 := by unfold b1; split <;> simp
theorem b2_len (wh : Nat) : (b2 wh).length ≤ 1 := by unfold b2; split <;> simp
theorem blLine_b (a b wh : Nat) (f : Fld) : blLine a b wh f = b1 wh ++ f.1 ++ b2 wh ++ [58] ++ blL a ++ f.2 ++ blL b := rfl
theorem blanks_all (L : List Fld) (a b wh : Nat) (hw : wh ≤ 2) (h : rightFs L = true) (T : List UInt8) (hT : T = linesT (getL :: L.map (blLine a b wh))) (hl : T.length ≤ 4000) :
    (0 < wh ∧ 0 < L.length ∧ readL reqL (T ++ [13, 10]) = .error 21) ∨ ((wh = 0 ∨ L.length = 0) ∧ ∃ h : Hd, h.flds = L ∧ readL reqL (T ++ [13, 10]) = .ok (h, T.length + 2)) := by
  subst hT
  have hcr : ([13, 10] : List UInt8) = crlf := rfl
  rw [hcr]
  by_cases h0 : wh = 0
  · subst h0
    refine .inr ⟨.inl rfl, { getH with flds := L }, rfl, ?_⟩
    have := blanks_ok L a b h (by rw [List.length_append]; show _ + 2 ≤ 4096; omega)
    rw [this, List.length_append]
    rfl
  · cases L with
    | nil =>
      refine .inr ⟨.inr rfl, getH, rfl, ?_⟩
      rw [blanks_none]
      rfl
    | cons f L =>
      exact .inl ⟨by omega, by simp, blanks_wrong f L a b wh (by omega) h (by rw [List.length_append]; show _ + 2 ≤ 4096; omega)⟩
set_option maxRecDepth 100000 in
set_option maxHeartbeats 16000000 in
theorem headBlanks_walk (v : Value) (L : List Fld) (ahead behind which : Int) (w : World) (hm : MaxOk w) (hl : Reads2 w v L ∧ (∀ f ∈ L, f.1.length ≤ maxLen ∧ f.2.length ≤ maxLen) ∧ L.length ≤ maxLen) :
    Calls Tryd.prog 5 #[v, .int .i64 ahead, .int .i64 behind, .int .i64 which] w fun e w' => e = .returned (.bool true) ∧ Below w.heap.size w w' := by
  obtain ⟨hr, -, hLl⟩ := hl
  obtain ⟨ao, cap, rfl⟩ := hr.form
  unfold maxLen at hLl
  have cs := fun W h => small_any (.slice ao L.length cap) L W h (by omega)
  have ca := fun W h => anchor_any W h
  have CA := hid ca
  have HR := hid hr
  clear ca hr
  obtain ⟨q, hq⟩ : ∃ q, smallF L = q := ⟨_, rfl⟩
  rw [hq] at cs
  have CSM := hid cs
  clear cs
  cases q
  · clear hq
    go_enter Tryd.func5, Tryd.ntmps5
    go_wp2_with fail
    refine (CA.out _ hm).mono ?_
    rintro e w1 ⟨rfl, hb1⟩
    have hm1 := hm.below hb1
    go_wp2_with fail
    refine (CSM.out _ (HR.out.below hb1)).mono ?_
    rintro e w2 ⟨rfl, hb2⟩
    have hm2 := hm1.below hb2
    have hb3 := chain2 hb1 hb1.size hb2
    clear hb1 hb2 hm1
    go_wp2_with fail
    go_ret
    exact ⟨rfl, hb3⟩
  obtain ⟨hk, hl70, hk2⟩ := smallF_ok hq
  have cr := fun W h => lRight_any (.slice ao L.length cap) L W h hk
  obtain ⟨qr, hqr⟩ : ∃ q, rightFs L = q := ⟨_, rfl⟩
  rw [hqr] at cr
  have CR := hid cr
  clear cr hk
  cases qr
  · clear hq hqr
    go_enter Tryd.func5, Tryd.ntmps5
    go_wp2_with fail
    refine (CA.out _ hm).mono ?_
    rintro e w1 ⟨rfl, hb1⟩
    have hm1 := hm.below hb1
    go_wp2_with fail
    refine (CSM.out _ (HR.out.below hb1)).mono ?_
    rintro e w2 ⟨rfl, hb2⟩
    have hm2 := hm1.below hb2
    have hb3 := chain2 hb1 hb1.size hb2
    clear hb1 hb2 hm1
    go_wp2_with fail
    refine (CR.out _ (HR.out.below hb3)).mono ?_
    rintro e w3 ⟨rfl, hb4⟩
    have hm3 := hm2.below hb4
    have hb5 := chain2 hb3 hb3.size hb4
    clear hb3 hb4 hm2
    go_wp2_with fail
    go_ret
    exact ⟨rfl, hb5⟩
  by_cases h1 : (10 : Int) < (L.length : Int)
  · clear hq hqr
    go_enter Tryd.func5, Tryd.ntmps5
    go_wp2_with fail
    refine (CA.out _ hm).mono ?_
    rintro e w1 ⟨rfl, hb1⟩
    have hm1 := hm.below hb1
    go_wp2_with fail
    refine (CSM.out _ (HR.out.below hb1)).mono ?_
    rintro e w2 ⟨rfl, hb2⟩
    have hm2 := hm1.below hb2
    have hb3 := chain2 hb1 hb1.size hb2
    clear hb1 hb2 hm1
    go_wp2_with fail
    refine (CR.out _ (HR.out.below hb3)).mono ?_
    rintro e w3 ⟨rfl, hb4⟩
    have hm3 := hm2.below hb4
    have hb5 := chain2 hb3 hb3.size hb4
    clear hb3 hb4 hm2
    go_wp2_with fail
    go_ret
    exact ⟨rfl, hb5⟩
  have dh1 : decide ((10 : Int) < (L.length : Int)) = false := decide_eq_false h1
  by_cases h2 : ahead < 0
  · clear hq hqr
    go_enter Tryd.func5, Tryd.ntmps5
    go_wp2_with fail
    refine (CA.out _ hm).mono ?_
    rintro e w1 ⟨rfl, hb1⟩
    have hm1 := hm.below hb1
    go_wp2_with fail
    refine (CSM.out _ (HR.out.below hb1)).mono ?_
    rintro e w2 ⟨rfl, hb2⟩
    have hm2 := hm1.below hb2
    have hb3 := chain2 hb1 hb1.size hb2
    clear hb1 hb2 hm1
    go_wp2_with fail
    refine (CR.out _ (HR.out.below hb3)).mono ?_
    rintro e w3 ⟨rfl, hb4⟩
    have hm3 := hm2.below hb4
    have hb5 := chain2 hb3 hb3.size hb4
    clear hb3 hb4 hm2
    go_wp2_with fail
    go_ret
    exact ⟨rfl, hb5⟩
  have dh2 : decide (ahead < 0) = false := decide_eq_false h2
  by_cases h3 : 3 < ahead
  · clear hq hqr
    go_enter Tryd.func5, Tryd.ntmps5
    go_wp2_with fail
    refine (CA.out _ hm).mono ?_
    rintro e w1 ⟨rfl, hb1⟩
    have hm1 := hm.below hb1
    go_wp2_with fail
    refine (CSM.out _ (HR.out.below hb1)).mono ?_
    rintro e w2 ⟨rfl, hb2⟩
    have hm2 := hm1.below hb2
    have hb3 := chain2 hb1 hb1.size hb2
    clear hb1 hb2 hm1
    go_wp2_with fail
    refine (CR.out _ (HR.out.below hb3)).mono ?_
    rintro e w3 ⟨rfl, hb4⟩
    have hm3 := hm2.below hb4
    have hb5 := chain2 hb3 hb3.size hb4
    clear hb3 hb4 hm2
    go_wp2_with fail
    go_ret
    exact ⟨rfl, hb5⟩
  have dh3 : decide (3 < ahead) = false := decide_eq_false h3
  by_cases h4 : behind < 0
  · clear hq hqr
    go_enter Tryd.func5, Tryd.ntmps5
    go_wp2_with fail
    refine (CA.out _ hm).mono ?_
    rintro e w1 ⟨rfl, hb1⟩
    have hm1 := hm.below hb1
    go_wp2_with fail
    refine (CSM.out _ (HR.out.below hb1)).mono ?_
    rintro e w2 ⟨rfl, hb2⟩
    have hm2 := hm1.below hb2
    have hb3 := chain2 hb1 hb1.size hb2
    clear hb1 hb2 hm1
    go_wp2_with fail
    refine (CR.out _ (HR.out.below hb3)).mono ?_
    rintro e w3 ⟨rfl, hb4⟩
    have hm3 := hm2.below hb4
    have hb5 := chain2 hb3 hb3.size hb4
    clear hb3 hb4 hm2
    go_wp2_with fail
    go_ret
    exact ⟨rfl, hb5⟩
  have dh4 : decide (behind < 0) = false := decide_eq_false h4
  by_cases h5 : 3 < behind
  · clear hq hqr
    go_enter Tryd.func5, Tryd.ntmps5
    go_wp2_with fail
    refine (CA.out _ hm).mono ?_
    rintro e w1 ⟨rfl, hb1⟩
    have hm1 := hm.below hb1
    go_wp2_with fail
    refine (CSM.out _ (HR.out.below hb1)).mono ?_
    rintro e w2 ⟨rfl, hb2⟩
    have hm2 := hm1.below hb2
    have hb3 := chain2 hb1 hb1.size hb2
    clear hb1 hb2 hm1
    go_wp2_with fail
    refine (CR.out _ (HR.out.below hb3)).mono ?_
    rintro e w3 ⟨rfl, hb4⟩
    have hm3 := hm2.below hb4
    have hb5 := chain2 hb3 hb3.size hb4
    clear hb3 hb4 hm2
    go_wp2_with fail
    go_ret
    exact ⟨rfl, hb5⟩
  have dh5 : decide (3 < behind) = false := decide_eq_false h5
  by_cases h6 : which < 0
  · clear hq hqr
    go_enter Tryd.func5, Tryd.ntmps5
    go_wp2_with fail
    refine (CA.out _ hm).mono ?_
    rintro e w1 ⟨rfl, hb1⟩
    have hm1 := hm.below hb1
    go_wp2_with fail
    refine (CSM.out _ (HR.out.below hb1)).mono ?_
    rintro e w2 ⟨rfl, hb2⟩
    have hm2 := hm1.below hb2
    have hb3 := chain2 hb1 hb1.size hb2
    clear hb1 hb2 hm1
    go_wp2_with fail
    refine (CR.out _ (HR.out.below hb3)).mono ?_
    rintro e w3 ⟨rfl, hb4⟩
    have hm3 := hm2.below hb4
    have hb5 := chain2 hb3 hb3.size hb4
    clear hb3 hb4 hm2
    go_wp2_with fail
    go_ret
    exact ⟨rfl, hb5⟩
  have dh6 : decide (which < 0) = false := decide_eq_false h6
  by_cases h7 : 2 < which
  · clear hq hqr
    go_enter Tryd.func5, Tryd.ntmps5
    go_wp2_with fail
    refine (CA.out _ hm).mono ?_
    rintro e w1 ⟨rfl, hb1⟩
    have hm1 := hm.below hb1
    go_wp2_with fail
    refine (CSM.out _ (HR.out.below hb1)).mono ?_
    rintro e w2 ⟨rfl, hb2⟩
    have hm2 := hm1.below hb2
    have hb3 := chain2 hb1 hb1.size hb2
    clear hb1 hb2 hm1
    go_wp2_with fail
    refine (CR.out _ (HR.out.below hb3)).mono ?_
    rintro e w3 ⟨rfl, hb4⟩
    have hm3 := hm2.below hb4
    have hb5 := chain2 hb3 hb3.size hb4
    clear hb3 hb4 hm2
    go_wp2_with fail
    go_ret
    exact ⟨rfl, hb5⟩
  have dh7 : decide (2 < which) = false := decide_eq_false h7
  obtain ⟨a, rfl⟩ : ∃ a : Nat, ahead = (a : Int) := ⟨ahead.toNat, by omega⟩
  obtain ⟨b, rfl⟩ : ∃ b : Nat, behind = (b : Int) := ⟨behind.toNat, by omega⟩
  have ha3 : a ≤ 3 := by omega
  have hb3' : b ≤ 3 := by omega
  have hL10 : L.length ≤ 10 := by omega
  obtain ⟨wh, rfl⟩ : ∃ wh : Nat, which = (wh : Int) := ⟨which.toNat, by omega⟩
  have hw2 : wh ≤ 2 := by omega
  have HLL := hid fun k => blank_len a b wh L k hL10 hk2
  have HV := hid hk2
  have HQR := hid hqr
  have hnL : L.length < 1000000 := by omega
  clear hq hqr hk2 hl70 h1 h2 h3 h4 h5 h6 h7
  go_enter Tryd.func5, Tryd.ntmps5
  go_wp2_with fail
  refine (CA.out _ hm).mono ?_
  rintro e w1 ⟨rfl, hb1⟩
  have hm1 := hm.below hb1
  go_wp2_with fail
  refine (CSM.out _ (HR.out.below hb1)).mono ?_
  rintro e w2 ⟨rfl, hb2⟩
  have hm2 := hm1.below hb2
  have hb3 := chain2 hb1 hb1.size hb2
  clear hb1 hb2 hm1
  go_wp2_with fail
  refine (CR.out _ (HR.out.below hb3)).mono ?_
  rintro e w3 ⟨rfl, hb4⟩
  have hm3 := hm2.below hb4
  have hb5 := chain2 hb3 hb3.size hb4
  clear hb3 hb4 hm2
  obtain ⟨W4, hW4⟩ : ∃ W, W = w3.alloc (.cells #[strV [], strV [32], strV [9], strV [32, 9, 32]] 9) := ⟨_, rfl⟩
  have hbW : Below w3.heap.size w3 W4 := by rw [hW4]; exact below_alloc _ _
  have hgb : rowIs W4 w3.heap.size #[strV [], strV [32], strV [9], strV [32, 9, 32]] 9 := by rw [hW4]; exact rowIs_new _ _ _
  have hb6 := chain2 hb5 hb5.size hbW
  clear hb5 hbW hm3
  rw [hW4] at hgb hb6
  go_wp2_with fail
  generalize w3.heap.size = G0 at *
  go_loopw [10, 58] (fun x i wr => ∃ (k : Nat), k ≤ L.length ∧ i = .int .i64 k ∧ x = strV (linesT (getL :: (L.take k).map (blLine a b wh))) ∧ Below w.heap.size w wr ∧ rowIs wr G0 #[strV [], strV [32], strV [9], strV [32, 9, 32]] 9) (fun _ i _ => L.length - (intOf i).toNat)
  case atStart => exact ⟨0, Nat.zero_le _, rfl, rfl, hb6, hgb⟩
  case round =>
    obtain ⟨k, hk, rfl, rfl, hb, hgw⟩ := hrel
    by_cases hlt : k < L.length
    · obtain ⟨f, hf⟩ : ∃ f, L[k]? = some f := ⟨_, List.getElem?_eq_getElem hlt⟩
      obtain ⟨bb, off, rfl, hc1, hc2⟩ := (HR.out.below hb).fld hf
      have hfv := HV.out f (List.mem_of_getElem? hf)
      have HT := hid (take_fld hf)
      clear hf
      obtain ⟨Wb, hWb, hbWb, hsWb, hx1, hx2⟩ := box2 wr f 47
      have hgw2 := hgw.below hbWb
      have hbb := chain2 hb hb.size hbWb
      have ca := hgw2.cell a
      have cb := hgw2.cell b
      rw [bl_row a ha3] at ca
      rw [bl_row b hb3'] at cb
      have hr1 := b1_row wh hw2
      have hr8 := b2_row wh hw2
      have hl1 := b1_len wh
      have hl2 := b2_len wh
      have hla := bl_len a
      have hlb := bl_len b
      obtain ⟨Y1, e1, l1, s1⟩ := sum_lists (P := Tryd.prog) (b1 wh) f.1 (by omega) (by omega)
      obtain ⟨Y2, e2, l2, s2⟩ := sum_lists (P := Tryd.prog) Y1 (b2 wh) (by rw [l1]; omega) (by omega)
      obtain ⟨Y3, e3, l3, s3⟩ := sum_lists (P := Tryd.prog) Y2 [58] (by rw [l2, l1]; omega) (by decide)
      obtain ⟨Y4, e4, l4, s4⟩ := sum_lists (P := Tryd.prog) Y3 (blL a) (by rw [l3, l2, l1]; simp; omega) (by omega)
      obtain ⟨Y5, e5, l5, s5⟩ := sum_lists (P := Tryd.prog) Y4 f.2 (by rw [l4, l3, l2, l1]; simp; omega) (by omega)
      obtain ⟨Y6, e6, l6, s6⟩ := sum_lists (P := Tryd.prog) Y5 (blL b) (by rw [l5, l4, l3, l2, l1]; simp; omega) (by omega)
      obtain ⟨Y7, e7, l7, s7⟩ := sum_lists (P := Tryd.prog) Y6 [13, 10] (by rw [l6, l5, l4, l3, l2, l1]; simp; omega) (by decide)
      have hLk := HLL.out k
      obtain ⟨Y8, e8, l8, s8⟩ := sum_lists (P := Tryd.prog) (linesT (getL :: (L.take k).map (blLine a b wh))) Y7 (by omega) (by rw [l7, l6, l5, l4, l3, l2, l1]; simp; omega)
      have hY : Y8 = linesT (getL :: (L.take (k + 1)).map (blLine a b wh)) := by
        rw [HT.out, List.map_append, List.map_cons, List.map_nil, ← List.cons_append, linesT_snoc, e8, e7, e6, e5, e4, e3, e2, e1, blLine_b]
        simp [crlf]
      have HY := hid hY
      have HG := hid hgw2
      have HX1 := hid hx1
      have HX2 := hid hx2
      have HCA := hid ca
      have HCB := hid cb
      have HR1 := hid hr1
      have HR8 := hid hr8
      clear e1 e2 e3 e4 e5 e6 e7 e8 l1 l2 l3 l4 l5 l6 l7 l8 hY hLk hgw hgw2 hla hlb hbWb hfv hl1 hl2 hx1 hx2 ca cb hr1 hr8
      generalize linesT (getL :: (L.take k).map (blLine a b wh)) = acc at s8 ⊢
      generalize blL a = xa at HCA s4
      generalize blL b = xb at HCB s6
      generalize b1 wh = x1 at HR1 s1
      generalize b2 wh = x2 at HR8 s2
      have hI := (by omega : (k : Int) < (L.length : Int))
      have za0 := (by omega : (0 : Int) ≤ (a : Int))
      have za1 := (by omega : (a : Int) < 4)
      have zb0 := (by omega : (0 : Int) ≤ (b : Int))
      have zb1 := (by omega : (b : Int) < 4)
      have zw0 := (by omega : (0 : Int) ≤ (wh : Int))
      have zw1 := (by omega : (wh : Int) < 3)
      clear hb
      go_wp2_with fail
      rw [← hWb]
      clear hWb
      generalize wr.heap.size = G9 at *
      refine wp_region_held_drew (S := AtL Wb) (by kernel_rfl) ⟨(Below.refl _ _).drew, Nat.le_refl _⟩ (fun hH => ?_)
      generalize Wb.drew = W0 at hH ⊢
      refine wpAnyH_take (i := 0) (v := ?_) rfl (by kernel_rfl) (by kernel_rfl) (by kernel_rfl) (fun _ _ _ h => h) (Or.inl ⟨by kernel_rfl, ?_⟩) hH ?_
      rotate_left
      · intro W hS
        have ca := kept HCA.out hS.1
        have cb := kept HCB.out hS.1
        have hx1 := kept HX1.out hS.1
        have hx2 := kept HX2.out hS.1
        go_simp
        first | done | with_reducible rfl
      simp only [Act.put, List.getElem_toArray, List.getElem_cons_zero, List.setIfInBounds_toArray, List.set_cons_zero, List.set_cons_succ]
      refine wpAnyH_take (i := 2) (v := ?_) rfl (by kernel_rfl) (by kernel_rfl) (by kernel_rfl) (fun _ _ _ h => h) (Or.inl ⟨by kernel_rfl, ?_⟩) hH ?_
      rotate_left
      · intro W hS
        have ca := kept HCA.out hS.1
        have cb := kept HCB.out hS.1
        have hx1 := kept HX1.out hS.1
        have hx2 := kept HX2.out hS.1
        go_simp
        first | done | with_reducible rfl
      simp only [Act.put, List.getElem_toArray, List.getElem_cons_succ, List.getElem_cons_zero, List.setIfInBounds_toArray, List.set_cons_zero, List.set_cons_succ]
      refine wpAnyH_take (i := 5) (v := ?_) rfl (by kernel_rfl) (by kernel_rfl) (by kernel_rfl) (fun _ _ _ h => h) (Or.inl ⟨by kernel_rfl, ?_⟩) hH ?_
      rotate_left
      · intro W hS
        have ca := kept HCA.out hS.1
        have cb := kept HCB.out hS.1
        have hx1 := kept HX1.out hS.1
        have hx2 := kept HX2.out hS.1
        go_simp
        first | done | with_reducible rfl
      simp only [Act.put, List.getElem_toArray, List.getElem_cons_succ, List.getElem_cons_zero, List.setIfInBounds_toArray, List.set_cons_zero, List.set_cons_succ]
      refine wpAnyH_take (i := 6) (v := ?_) rfl (by kernel_rfl) (by kernel_rfl) (by kernel_rfl) (fun _ _ _ h => h) (Or.inl ⟨by kernel_rfl, ?_⟩) hH ?_
      rotate_left
      · intro W hS
        have ca := kept HCA.out hS.1
        have cb := kept HCB.out hS.1
        have hx1 := kept HX1.out hS.1
        have hx2 := kept HX2.out hS.1
        go_simp
        first | done | with_reducible rfl
      simp only [Act.put, List.getElem_toArray, List.getElem_cons_succ, List.getElem_cons_zero, List.setIfInBounds_toArray, List.set_cons_zero, List.set_cons_succ]
      refine wpAnyH_take (i := 9) (v := ?_) rfl (by kernel_rfl) (by kernel_rfl) (by kernel_rfl) (fun _ _ _ h => h) (Or.inl ⟨by kernel_rfl, ?_⟩) hH ?_
      rotate_left
      · intro W hS
        have ca := kept HCA.out hS.1
        have cb := kept HCB.out hS.1
        have hx1 := kept HX1.out hS.1
        have hx2 := kept HX2.out hS.1
        go_simp
        first | done | with_reducible rfl
      simp only [Act.put, List.getElem_toArray, List.getElem_cons_succ, List.getElem_cons_zero, List.setIfInBounds_toArray, List.set_cons_zero, List.set_cons_succ]
      refine wpAnyH_take (i := 14) (v := ?_) rfl (by kernel_rfl) (by kernel_rfl) (by kernel_rfl) (fun _ _ _ h => h) (Or.inl ⟨by kernel_rfl, ?_⟩) hH ?_
      rotate_left
      · intro W hS
        have ca := kept HCA.out hS.1
        have cb := kept HCB.out hS.1
        have hx1 := kept HX1.out hS.1
        have hx2 := kept HX2.out hS.1
        go_simp
        first | done | with_reducible rfl
      simp only [Act.put, List.getElem_toArray, List.getElem_cons_succ, List.getElem_cons_zero, List.setIfInBounds_toArray, List.set_cons_zero, List.set_cons_succ]
      refine wpAnyH_take (i := 15) (v := ?_) rfl (by kernel_rfl) (by kernel_rfl) (by kernel_rfl) (fun _ _ _ h => h) (Or.inl ⟨by kernel_rfl, ?_⟩) hH ?_
      rotate_left
      · intro W hS
        have ca := kept HCA.out hS.1
        have cb := kept HCB.out hS.1
        have hx1 := kept HX1.out hS.1
        have hx2 := kept HX2.out hS.1
        go_simp
        first | done | with_reducible rfl
      simp only [Act.put, List.getElem_toArray, List.getElem_cons_succ, List.getElem_cons_zero, List.setIfInBounds_toArray, List.set_cons_zero, List.set_cons_succ]
      refine wpAnyH_take (i := 16) (v := ?_) rfl (by kernel_rfl) (by kernel_rfl) (by kernel_rfl) (fun _ _ _ h => h) (Or.inl ⟨by kernel_rfl, ?_⟩) hH ?_
      rotate_left
      · intro W hS
        have ca := kept HCA.out hS.1
        have cb := kept HCB.out hS.1
        have hx1 := kept HX1.out hS.1
        have hx2 := kept HX2.out hS.1
        go_simp
        first | done | with_reducible rfl
      simp only [Act.put, List.getElem_toArray, List.getElem_cons_succ, List.getElem_cons_zero, List.setIfInBounds_toArray, List.set_cons_zero, List.set_cons_succ]
      refine wpAnyH_take (i := 17) (v := ?_) rfl (by kernel_rfl) (by kernel_rfl) (by kernel_rfl) (fun _ _ _ h => h) (Or.inl ⟨by kernel_rfl, ?_⟩) hH ?_
      rotate_left
      · intro W hS
        have ca := kept HCA.out hS.1
        have cb := kept HCB.out hS.1
        have hx1 := kept HX1.out hS.1
        have hx2 := kept HX2.out hS.1
        go_simp
        first | done | with_reducible rfl
      simp only [Act.put, List.getElem_toArray, List.getElem_cons_succ, List.getElem_cons_zero, List.setIfInBounds_toArray, List.set_cons_zero, List.set_cons_succ]
      refine wpAnyH_take (i := 19) (v := ?_) rfl (by kernel_rfl) (by kernel_rfl) (by kernel_rfl) (fun _ _ _ h => h) (Or.inl ⟨by kernel_rfl, ?_⟩) hH ?_
      rotate_left
      · intro W hS
        have ca := kept HCA.out hS.1
        have cb := kept HCB.out hS.1
        have hx1 := kept HX1.out hS.1
        have hx2 := kept HX2.out hS.1
        go_simp
        first | done | with_reducible rfl
      simp only [Act.put, List.getElem_toArray, List.getElem_cons_succ, List.getElem_cons_zero, List.setIfInBounds_toArray, List.set_cons_zero, List.set_cons_succ]
      refine wpAnyH_take (i := 20) (v := ?_) rfl (by kernel_rfl) (by kernel_rfl) (by kernel_rfl) (fun _ _ _ h => h) (Or.inl ⟨by kernel_rfl, ?_⟩) hH ?_
      rotate_left
      · intro W hS
        have ca := kept HCA.out hS.1
        have cb := kept HCB.out hS.1
        have hx1 := kept HX1.out hS.1
        have hx2 := kept HX2.out hS.1
        go_simp
        first | done | with_reducible rfl
      simp only [Act.put, List.getElem_toArray, List.getElem_cons_succ, List.getElem_cons_zero, List.setIfInBounds_toArray, List.set_cons_zero, List.set_cons_succ]
      refine wpAnyH_take (i := 22) (v := ?_) rfl (by kernel_rfl) (by kernel_rfl) (by kernel_rfl) (fun _ _ _ h => h) (Or.inl ⟨by kernel_rfl, ?_⟩) hH ?_
      rotate_left
      · intro W hS
        have ca := kept HCA.out hS.1
        have cb := kept HCB.out hS.1
        have hx1 := kept HX1.out hS.1
        have hx2 := kept HX2.out hS.1
        go_simp
        first | done | with_reducible rfl
      simp only [Act.put, List.getElem_toArray, List.getElem_cons_succ, List.getElem_cons_zero, List.setIfInBounds_toArray, List.set_cons_zero, List.set_cons_succ]
      refine wpAnyH_take (i := 23) (v := ?_) rfl (by kernel_rfl) (by kernel_rfl) (by kernel_rfl) (fun _ _ _ h => h) (Or.inl ⟨by kernel_rfl, ?_⟩) hH ?_
      rotate_left
      · intro W hS
        have ca := kept HCA.out hS.1
        have cb := kept HCB.out hS.1
        have hx1 := kept HX1.out hS.1
        have hx2 := kept HX2.out hS.1
        go_simp
        first | done | with_reducible rfl
      simp only [Act.put, List.getElem_toArray, List.getElem_cons_succ, List.getElem_cons_zero, List.setIfInBounds_toArray, List.set_cons_zero, List.set_cons_succ]
      refine wpAnyH_take (i := 24) (v := ?_) rfl (by kernel_rfl) (by kernel_rfl) (by kernel_rfl) (fun _ _ _ h => h) (Or.inl ⟨by kernel_rfl, ?_⟩) hH ?_
      rotate_left
      · intro W hS
        have ca := kept HCA.out hS.1
        have cb := kept HCB.out hS.1
        have hx1 := kept HX1.out hS.1
        have hx2 := kept HX2.out hS.1
        go_simp
        first | done | with_reducible rfl
      simp only [Act.put, List.getElem_toArray, List.getElem_cons_succ, List.getElem_cons_zero, List.setIfInBounds_toArray, List.set_cons_zero, List.set_cons_succ]
      refine wpAnyH_take (i := 25) (v := ?_) rfl (by kernel_rfl) (by kernel_rfl) (by kernel_rfl) (fun _ _ _ h => h) (Or.inl ⟨by kernel_rfl, ?_⟩) hH ?_
      rotate_left
      · intro W hS
        have ca := kept HCA.out hS.1
        have cb := kept HCB.out hS.1
        have hx1 := kept HX1.out hS.1
        have hx2 := kept HX2.out hS.1
        go_simp
        first | done | with_reducible rfl
      simp only [Act.put, List.getElem_toArray, List.getElem_cons_succ, List.getElem_cons_zero, List.setIfInBounds_toArray, List.set_cons_zero, List.set_cons_succ]
      refine wpAnyH_ready (rs := [1, 8]) (by kernel_rfl) (by simp) ?_
      refine AllReadyH.cons rfl (fun K hK => ?_) (AllReadyH.cons rfl (fun K hK => ?_) AllReadyH.nil)
      · go_simp
        refine hK.out _ _ (AtL.alloc hH _) (fun hS1 => ?_)
        have c1_1 := new_cell W0 #[strV [], strV [], strV [32]] 9 wh _ HR1.out
        clear hK K
        generalize W0.alloc (.cells #[strV [], strV [], strV [32]] 9) = V1 at hS1 c1_1 ⊢
        generalize W0.heap.size = N1 at c1_1 ⊢
        try simp only [Act.put, List.getElem_toArray, List.getElem_cons_succ, List.getElem_cons_zero, List.setIfInBounds_toArray, List.set_cons_zero, List.set_cons_succ]
        refine wpAnyH_take (i := 3) (v := ?_) rfl (by kernel_rfl) (by kernel_rfl) (by kernel_rfl) (fun _ _ _ h => h) (Or.inl ⟨by kernel_rfl, ?_⟩) hS1 ?_
        rotate_left
        · intro W hS
          have ca := kept HCA.out hS.1
          have cb := kept HCB.out hS.1
          have hx1 := kept HX1.out hS.1
          have hx2 := kept HX2.out hS.1
          go_simp
          first | done | with_reducible rfl
        simp only [Act.put, List.getElem_toArray, List.getElem_cons_succ, List.getElem_cons_zero, List.setIfInBounds_toArray, List.set_cons_zero, List.set_cons_succ]
        refine wpAnyH_ready (rs := [4, 8]) (by kernel_rfl) (by simp) ?_
        refine AllReadyH.cons rfl (fun K hK => ?_) (AllReadyH.cons rfl (fun K hK => ?_) AllReadyH.nil)
        · have hh := c1_1
          go_simp
          refine hK.out _ _ hS1 (fun hS2 => ?_)
          clear hK K
          try simp only [Act.put, List.getElem_toArray, List.getElem_cons_succ, List.getElem_cons_zero, List.setIfInBounds_toArray, List.set_cons_zero, List.set_cons_succ]
          refine wpAnyH_take (i := 7) (v := ?_) rfl (by kernel_rfl) (by kernel_rfl) (by kernel_rfl) (fun _ _ _ h => h) (Or.inl ⟨by kernel_rfl, ?_⟩) hS2 ?_
          rotate_left
          · intro W hS
            have ca := kept HCA.out hS.1
            have cb := kept HCB.out hS.1
            have hx1 := kept HX1.out hS.1
            have hx2 := kept HX2.out hS.1
            go_simp
            first | done | with_reducible rfl
          simp only [Act.put, List.getElem_toArray, List.getElem_cons_succ, List.getElem_cons_zero, List.setIfInBounds_toArray, List.set_cons_zero, List.set_cons_succ]
          refine wpAnyH_ready (rs := [8]) (by kernel_rfl) (by simp) ?_
          refine AllReadyH.cons rfl (fun K hK => ?_) AllReadyH.nil
          go_simp
          refine hK.out _ _ (AtL.alloc hS2 _) (fun hS3 => ?_)
          have c8_3 := new_cell V1 #[strV [], strV [32], strV []] 9 wh _ HR8.out
          have k3 := kept c1_1 (below_alloc V1 (.cells #[strV [], strV [32], strV []] 9))
          clear hK K
          generalize V1.alloc (.cells #[strV [], strV [32], strV []] 9) = V3 at hS3 c8_3 k3 ⊢
          generalize V1.heap.size = N3 at c8_3 ⊢
          try simp only [Act.put, List.getElem_toArray, List.getElem_cons_succ, List.getElem_cons_zero, List.setIfInBounds_toArray, List.set_cons_zero, List.set_cons_succ]
          refine wpAnyH_take (i := 10) (v := ?_) rfl (by kernel_rfl) (by kernel_rfl) (by kernel_rfl) (fun _ _ _ h => h) (Or.inl ⟨by kernel_rfl, ?_⟩) hS3 ?_
          rotate_left
          · intro W hS
            have ca := kept HCA.out hS.1
            have cb := kept HCB.out hS.1
            have hx1 := kept HX1.out hS.1
            have hx2 := kept HX2.out hS.1
            go_simp
            first | done | with_reducible rfl
          simp only [Act.put, List.getElem_toArray, List.getElem_cons_succ, List.getElem_cons_zero, List.setIfInBounds_toArray, List.set_cons_zero, List.set_cons_succ]
          refine wpAnyH_ready (rs := [11]) (by kernel_rfl) (by simp) ?_
          refine AllReadyH.cons rfl (fun K hK => ?_) AllReadyH.nil
          have hh := c8_3
          go_simp
          refine hK.out _ _ hS3 (fun hS4 => ?_)
          clear hK K
          try simp only [Act.put, List.getElem_toArray, List.getElem_cons_succ, List.getElem_cons_zero, List.setIfInBounds_toArray, List.set_cons_zero, List.set_cons_succ]
          refine wpAnyH_take (i := 12) (v := ?_) rfl (by kernel_rfl) (by kernel_rfl) (by kernel_rfl) (fun _ _ _ h => h) (Or.inl ⟨by kernel_rfl, ?_⟩) hS4 ?_
          rotate_left
          · intro W hS
            have ca := kept HCA.out hS.1
            have cb := kept HCB.out hS.1
            have hx1 := kept HX1.out hS.1
            have hx2 := kept HX2.out hS.1
            go_simp
            first | done | with_reducible rfl
          simp only [Act.put, List.getElem_toArray, List.getElem_cons_succ, List.getElem_cons_zero, List.setIfInBounds_toArray, List.set_cons_zero, List.set_cons_succ]
          refine wpAnyH_take (i := 13) (v := ?_) rfl (by kernel_rfl) (by kernel_rfl) (by kernel_rfl) (fun _ _ _ h => h) (Or.inl ⟨by kernel_rfl, ?_⟩) hS4 ?_
          rotate_left
          · intro W hS
            have ca := kept HCA.out hS.1
            have cb := kept HCB.out hS.1
            have hx1 := kept HX1.out hS.1
            have hx2 := kept HX2.out hS.1
            go_simp
            first | done | with_reducible rfl
          simp only [Act.put, List.getElem_toArray, List.getElem_cons_succ, List.getElem_cons_zero, List.setIfInBounds_toArray, List.set_cons_zero, List.set_cons_succ]
          refine wpAnyH_take (i := 18) (v := ?_) rfl (by kernel_rfl) (by kernel_rfl) (by kernel_rfl) (fun _ _ _ h => h) (Or.inl ⟨by kernel_rfl, ?_⟩) hS4 ?_
          rotate_left
          · intro W hS
            have ca := kept HCA.out hS.1
            have cb := kept HCB.out hS.1
            have hx1 := kept HX1.out hS.1
            have hx2 := kept HX2.out hS.1
            go_simp
            first | done | with_reducible rfl
          simp only [Act.put, List.getElem_toArray, List.getElem_cons_succ, List.getElem_cons_zero, List.setIfInBounds_toArray, List.set_cons_zero, List.set_cons_succ]
          refine wpAnyH_take (i := 21) (v := ?_) rfl (by kernel_rfl) (by kernel_rfl) (by kernel_rfl) (fun _ _ _ h => h) (Or.inl ⟨by kernel_rfl, ?_⟩) hS4 ?_
          rotate_left
          · intro W hS
            have ca := kept HCA.out hS.1
            have cb := kept HCB.out hS.1
            have hx1 := kept HX1.out hS.1
            have hx2 := kept HX2.out hS.1
            go_simp
            first | done | with_reducible rfl
          simp only [Act.put, List.getElem_toArray, List.getElem_cons_succ, List.getElem_cons_zero, List.setIfInBounds_toArray, List.set_cons_zero, List.set_cons_succ]
          refine wpAnyH_take (i := 26) (v := ?_) rfl (by kernel_rfl) (by kernel_rfl) (by kernel_rfl) (fun _ _ _ h => h) (Or.inl ⟨by kernel_rfl, ?_⟩) hS4 ?_
          rotate_left
          · intro W hS
            have ca := kept HCA.out hS.1
            have cb := kept HCB.out hS.1
            have hx1 := kept HX1.out hS.1
            have hx2 := kept HX2.out hS.1
            go_simp
            first | done | with_reducible rfl
          simp only [Act.put, List.getElem_toArray, List.getElem_cons_succ, List.getElem_cons_zero, List.setIfInBounds_toArray, List.set_cons_zero, List.set_cons_succ]
          refine wpAnyH_take (i := 27) (v := ?_) rfl (by kernel_rfl) (by kernel_rfl) (by kernel_rfl) (fun _ _ _ h => h) (Or.inl ⟨by kernel_rfl, ?_⟩) hS4 ?_
          rotate_left
          · intro W hS
            have ca := kept HCA.out hS.1
            have cb := kept HCB.out hS.1
            have hx1 := kept HX1.out hS.1
            have hx2 := kept HX2.out hS.1
            go_simp
            first | done | with_reducible rfl
          simp only [Act.put, List.getElem_toArray, List.getElem_cons_succ, List.getElem_cons_zero, List.setIfInBounds_toArray, List.set_cons_zero, List.set_cons_succ]
          refine wpAnyH_take (i := 28) (v := ?_) rfl (by kernel_rfl) (by kernel_rfl) (by kernel_rfl) (fun _ _ _ h => h) (Or.inl ⟨by kernel_rfl, ?_⟩) hS4 ?_
          rotate_left
          · intro W hS
            have ca := kept HCA.out hS.1
            have cb := kept HCB.out hS.1
            have hx1 := kept HX1.out hS.1
            have hx2 := kept HX2.out hS.1
            go_simp
            first | done | with_reducible rfl
          simp only [Act.put, List.getElem_toArray, List.getElem_cons_succ, List.getElem_cons_zero, List.setIfInBounds_toArray, List.set_cons_zero, List.set_cons_succ]
          refine wpAnyH_take (i := 29) (v := ?_) rfl (by kernel_rfl) (by kernel_rfl) (by kernel_rfl) (fun _ _ _ h => h) (Or.inl ⟨by kernel_rfl, ?_⟩) hS4 ?_
          rotate_left
          · intro W hS
            have ca := kept HCA.out hS.1
            have cb := kept HCB.out hS.1
            have hx1 := kept HX1.out hS.1
            have hx2 := kept HX2.out hS.1
            go_simp
            first | done | with_reducible rfl
          simp only [Act.put, List.getElem_toArray, List.getElem_cons_succ, List.getElem_cons_zero, List.setIfInBounds_toArray, List.set_cons_zero, List.set_cons_succ]
          refine wpAnyH_done (by kernel_rfl) ?_ _
          go_wp2_with fail
          go_roundw
          case rel => exact ⟨k + 1, hlt, by go_num, by rw [← HY.out], chain2 hbb hbb.size hS4.1, HG.out.below hS4.1⟩
          case measure => simp [intOf]; omega
        · go_simp
          refine hK.out _ _ (AtL.alloc hS1 _) (fun hS5 => ?_)
          have c8_5 := new_cell V1 #[strV [], strV [32], strV []] 9 wh _ HR8.out
          have k5 := kept c1_1 (below_alloc V1 (.cells #[strV [], strV [32], strV []] 9))
          clear hK K
          generalize V1.alloc (.cells #[strV [], strV [32], strV []] 9) = V5 at hS5 c8_5 k5 ⊢
          generalize V1.heap.size = N5 at c8_5 ⊢
          try simp only [Act.put, List.getElem_toArray, List.getElem_cons_succ, List.getElem_cons_zero, List.setIfInBounds_toArray, List.set_cons_zero, List.set_cons_succ]
          refine wpAnyH_take (i := 10) (v := ?_) rfl (by kernel_rfl) (by kernel_rfl) (by kernel_rfl) (fun _ _ _ h => h) (Or.inl ⟨by kernel_rfl, ?_⟩) hS5 ?_
          rotate_left
          · intro W hS
            have ca := kept HCA.out hS.1
            have cb := kept HCB.out hS.1
            have hx1 := kept HX1.out hS.1
            have hx2 := kept HX2.out hS.1
            go_simp
            first | done | with_reducible rfl
          simp only [Act.put, List.getElem_toArray, List.getElem_cons_succ, List.getElem_cons_zero, List.setIfInBounds_toArray, List.set_cons_zero, List.set_cons_succ]
          refine wpAnyH_ready (rs := [4, 11]) (by kernel_rfl) (by simp) ?_
          refine AllReadyH.cons rfl (fun K hK => ?_) (AllReadyH.cons rfl (fun K hK => ?_) AllReadyH.nil)
          · have hh := k5
            go_simp
            refine hK.out _ _ hS5 (fun hS6 => ?_)
            clear hK K
            try simp only [Act.put, List.getElem_toArray, List.getElem_cons_succ, List.getElem_cons_zero, List.setIfInBounds_toArray, List.set_cons_zero, List.set_cons_succ]
            refine wpAnyH_take (i := 7) (v := ?_) rfl (by kernel_rfl) (by kernel_rfl) (by kernel_rfl) (fun _ _ _ h => h) (Or.inl ⟨by kernel_rfl, ?_⟩) hS6 ?_
            rotate_left
            · intro W hS
              have ca := kept HCA.out hS.1
              have cb := kept HCB.out hS.1
              have hx1 := kept HX1.out hS.1
              have hx2 := kept HX2.out hS.1
              go_simp
              first | done | with_reducible rfl
            simp only [Act.put, List.getElem_toArray, List.getElem_cons_succ, List.getElem_cons_zero, List.setIfInBounds_toArray, List.set_cons_zero, List.set_cons_succ]
            refine wpAnyH_ready (rs := [11]) (by kernel_rfl) (by simp) ?_
            refine AllReadyH.cons rfl (fun K hK => ?_) AllReadyH.nil
            have hh := c8_5
            go_simp
            refine hK.out _ _ hS6 (fun hS7 => ?_)
            clear hK K
            try simp only [Act.put, List.getElem_toArray, List.getElem_cons_succ, List.getElem_cons_zero, List.setIfInBounds_toArray, List.set_cons_zero, List.set_cons_succ]
            refine wpAnyH_take (i := 12) (v := ?_) rfl (by kernel_rfl) (by kernel_rfl) (by kernel_rfl) (fun _ _ _ h => h) (Or.inl ⟨by kernel_rfl, ?_⟩) hS7 ?_
            rotate_left
            · intro W hS
              have ca := kept HCA.out hS.1
              have cb := kept HCB.out hS.1
              have hx1 := kept HX1.out hS.1
              have hx2 := kept HX2.out hS.1
              go_simp
              first | done | with_reducible rfl
            simp only [Act.put, List.getElem_toArray, List.getElem_cons_succ, List.getElem_cons_zero, List.setIfInBounds_toArray, List.set_cons_zero, List.set_cons_succ]
            refine wpAnyH_take (i := 13) (v := ?_) rfl (by kernel_rfl) (by kernel_rfl) (by kernel_rfl) (fun _ _ _ h => h) (Or.inl ⟨by kernel_rfl, ?_⟩) hS7 ?_
            rotate_left
            · intro W hS
              have ca := kept HCA.out hS.1
              have cb := kept HCB.out hS.1
              have hx1 := kept HX1.out hS.1
              have hx2 := kept HX2.out hS.1
              go_simp
              first | done | with_reducible rfl
            simp only [Act.put, List.getElem_toArray, List.getElem_cons_succ, List.getElem_cons_zero, List.setIfInBounds_toArray, List.set_cons_zero, List.set_cons_succ]
            refine wpAnyH_take (i := 18) (v := ?_) rfl (by kernel_rfl) (by kernel_rfl) (by kernel_rfl) (fun _ _ _ h => h) (Or.inl ⟨by kernel_rfl, ?_⟩) hS7 ?_
            rotate_left
            · intro W hS
              have ca := kept HCA.out hS.1
              have cb := kept HCB.out hS.1
              have hx1 := kept HX1.out hS.1
              have hx2 := kept HX2.out hS.1
              go_simp
              first | done | with_reducible rfl
            simp only [Act.put, List.getElem_toArray, List.getElem_cons_succ, List.getElem_cons_zero, List.setIfInBounds_toArray, List.set_cons_zero, List.set_cons_succ]
            refine wpAnyH_take (i := 21) (v := ?_) rfl (by kernel_rfl) (by kernel_rfl) (by kernel_rfl) (fun _ _ _ h => h) (Or.inl ⟨by kernel_rfl, ?_⟩) hS7 ?_
            rotate_left
            · intro W hS
              have ca := kept HCA.out hS.1
              have cb := kept HCB.out hS.1
              have hx1 := kept HX1.out hS.1
              have hx2 := kept HX2.out hS.1
              go_simp
              first | done | with_reducible rfl
            simp only [Act.put, List.getElem_toArray, List.getElem_cons_succ, List.getElem_cons_zero, List.setIfInBounds_toArray, List.set_cons_zero, List.set_cons_succ]
            refine wpAnyH_take (i := 26) (v := ?_) rfl (by kernel_rfl) (by kernel_rfl) (by kernel_rfl) (fun _ _ _ h => h) (Or.inl ⟨by kernel_rfl, ?_⟩) hS7 ?_
            rotate_left
            · intro W hS
              have ca := kept HCA.out hS.1
              have cb := kept HCB.out hS.1
              have hx1 := kept HX1.out hS.1
              have hx2 := kept HX2.out hS.1
              go_simp
              first | done | with_reducible rfl
            simp only [Act.put, List.getElem_toArray, List.getElem_cons_succ, List.getElem_cons_zero, List.setIfInBounds_toArray, List.set_cons_zero, List.set_cons_succ]
            refine wpAnyH_take (i := 27) (v := ?_) rfl (by kernel_rfl) (by kernel_rfl) (by kernel_rfl) (fun _ _ _ h => h) (Or.inl ⟨by kernel_rfl, ?_⟩) hS7 ?_
            rotate_left
            · intro W hS
              have ca := kept HCA.out hS.1
              have cb := kept HCB.out hS.1
              have hx1 := kept HX1.out hS.1
              have hx2 := kept HX2.out hS.1
              go_simp
              first | done | with_reducible rfl
            simp only [Act.put, List.getElem_toArray, List.getElem_cons_succ, List.getElem_cons_zero, List.setIfInBounds_toArray, List.set_cons_zero, List.set_cons_succ]
            refine wpAnyH_take (i := 28) (v := ?_) rfl (by kernel_rfl) (by kernel_rfl) (by kernel_rfl) (fun _ _ _ h => h) (Or.inl ⟨by kernel_rfl, ?_⟩) hS7 ?_
            rotate_left
            · intro W hS
              have ca := kept HCA.out hS.1
              have cb := kept HCB.out hS.1
              have hx1 := kept HX1.out hS.1
              have hx2 := kept HX2.out hS.1
              go_simp
              first | done | with_reducible rfl
            simp only [Act.put, List.getElem_toArray, List.getElem_cons_succ, List.getElem_cons_zero, List.setIfInBounds_toArray, List.set_cons_zero, List.set_cons_succ]
            refine wpAnyH_take (i := 29) (v := ?_) rfl (by kernel_rfl) (by kernel_rfl) (by kernel_rfl) (fun _ _ _ h => h) (Or.inl ⟨by kernel_rfl, ?_⟩) hS7 ?_
            rotate_left
            · intro W hS
              have ca := kept HCA.out hS.1
              have cb := kept HCB.out hS.1
              have hx1 := kept HX1.out hS.1
              have hx2 := kept HX2.out hS.1
              go_simp
              first | done | with_reducible rfl
            simp only [Act.put, List.getElem_toArray, List.getElem_cons_succ, List.getElem_cons_zero, List.setIfInBounds_toArray, List.set_cons_zero, List.set_cons_succ]
            refine wpAnyH_done (by kernel_rfl) ?_ _
            go_wp2_with fail
            go_roundw
            case rel => exact ⟨k + 1, hlt, by go_num, by rw [← HY.out], chain2 hbb hbb.size hS7.1, HG.out.below hS7.1⟩
            case measure => simp [intOf]; omega
          · have hh := c8_5
            go_simp
            refine hK.out _ _ hS5 (fun hS8 => ?_)
            clear hK K
            try simp only [Act.put, List.getElem_toArray, List.getElem_cons_succ, List.getElem_cons_zero, List.setIfInBounds_toArray, List.set_cons_zero, List.set_cons_succ]
            refine wpAnyH_ready (rs := [4]) (by kernel_rfl) (by simp) ?_
            refine AllReadyH.cons rfl (fun K hK => ?_) AllReadyH.nil
            have hh := k5
            go_simp
            refine hK.out _ _ hS8 (fun hS9 => ?_)
            clear hK K
            try simp only [Act.put, List.getElem_toArray, List.getElem_cons_succ, List.getElem_cons_zero, List.setIfInBounds_toArray, List.set_cons_zero, List.set_cons_succ]
            refine wpAnyH_take (i := 7) (v := ?_) rfl (by kernel_rfl) (by kernel_rfl) (by kernel_rfl) (fun _ _ _ h => h) (Or.inl ⟨by kernel_rfl, ?_⟩) hS9 ?_
            rotate_left
            · intro W hS
              have ca := kept HCA.out hS.1
              have cb := kept HCB.out hS.1
              have hx1 := kept HX1.out hS.1
              have hx2 := kept HX2.out hS.1
              go_simp
              first | done | with_reducible rfl
            simp only [Act.put, List.getElem_toArray, List.getElem_cons_succ, List.getElem_cons_zero, List.setIfInBounds_toArray, List.set_cons_zero, List.set_cons_succ]
            refine wpAnyH_take (i := 12) (v := ?_) rfl (by kernel_rfl) (by kernel_rfl) (by kernel_rfl) (fun _ _ _ h => h) (Or.inl ⟨by kernel_rfl, ?_⟩) hS9 ?_
            rotate_left
            · intro W hS
              have ca := kept HCA.out hS.1
              have cb := kept HCB.out hS.1
              have hx1 := kept HX1.out hS.1
              have hx2 := kept HX2.out hS.1
              go_simp
              first | done | with_reducible rfl
            simp only [Act.put, List.getElem_toArray, List.getElem_cons_succ, List.getElem_cons_zero, List.setIfInBounds_toArray, List.set_cons_zero, List.set_cons_succ]
            refine wpAnyH_take (i := 13) (v := ?_) rfl (by kernel_rfl) (by kernel_rfl) (by kernel_rfl) (fun _ _ _ h => h) (Or.inl ⟨by kernel_rfl, ?_⟩) hS9 ?_
            rotate_left
            · intro W hS
              have ca := kept HCA.out hS.1
              have cb := kept HCB.out hS.1
              have hx1 := kept HX1.out hS.1
              have hx2 := kept HX2.out hS.1
              go_simp
              first | done | with_reducible rfl
            simp only [Act.put, List.getElem_toArray, List.getElem_cons_succ, List.getElem_cons_zero, List.setIfInBounds_toArray, List.set_cons_zero, List.set_cons_succ]
            refine wpAnyH_take (i := 18) (v := ?_) rfl (by kernel_rfl) (by kernel_rfl) (by kernel_rfl) (fun _ _ _ h => h) (Or.inl ⟨by kernel_rfl, ?_⟩) hS9 ?_
            rotate_left
            · intro W hS
              have ca := kept HCA.out hS.1
              have cb := kept HCB.out hS.1
              have hx1 := kept HX1.out hS.1
              have hx2 := kept HX2.out hS.1
              go_simp
              first | done | with_reducible rfl
            simp only [Act.put, List.getElem_toArray, List.getElem_cons_succ, List.getElem_cons_zero, List.setIfInBounds_toArray, List.set_cons_zero, List.set_cons_succ]
            refine wpAnyH_take (i := 21) (v := ?_) rfl (by kernel_rfl) (by kernel_rfl) (by kernel_rfl) (fun _ _ _ h => h) (Or.inl ⟨by kernel_rfl, ?_⟩) hS9 ?_
            rotate_left
            · intro W hS
              have ca := kept HCA.out hS.1
              have cb := kept HCB.out hS.1
              have hx1 := kept HX1.out hS.1
              have hx2 := kept HX2.out hS.1
              go_simp
              first | done | with_reducible rfl
            simp only [Act.put, List.getElem_toArray, List.getElem_cons_succ, List.getElem_cons_zero, List.setIfInBounds_toArray, List.set_cons_zero, List.set_cons_succ]
            refine wpAnyH_take (i := 26) (v := ?_) rfl (by kernel_rfl) (by kernel_rfl) (by kernel_rfl) (fun _ _ _ h => h) (Or.inl ⟨by kernel_rfl, ?_⟩) hS9 ?_
            rotate_left
            · intro W hS
              have ca := kept HCA.out hS.1
              have cb := kept HCB.out hS.1
              have hx1 := kept HX1.out hS.1
              have hx2 := kept HX2.out hS.1
              go_simp
              first | done | with_reducible rfl
            simp only [Act.put, List.getElem_toArray, List.getElem_cons_succ, List.getElem_cons_zero, List.setIfInBounds_toArray, List.set_cons_zero, List.set_cons_succ]
            refine wpAnyH_take (i := 27) (v := ?_) rfl (by kernel_rfl) (by kernel_rfl) (by kernel_rfl) (fun _ _ _ h => h) (Or.inl ⟨by kernel_rfl, ?_⟩) hS9 ?_
            rotate_left
            · intro W hS
              have ca := kept HCA.out hS.1
              have cb := kept HCB.out hS.1
              have hx1 := kept HX1.out hS.1
              have hx2 := kept HX2.out hS.1
              go_simp
              first | done | with_reducible rfl
            simp only [Act.put, List.getElem_toArray, List.getElem_cons_succ, List.getElem_cons_zero, List.setIfInBounds_toArray, List.set_cons_zero, List.set_cons_succ]
            refine wpAnyH_take (i := 28) (v := ?_) rfl (by kernel_rfl) (by kernel_rfl) (by kernel_rfl) (fun _ _ _ h => h) (Or.inl ⟨by kernel_rfl, ?_⟩) hS9 ?_
            rotate_left
            · intro W hS
              have ca := kept HCA.out hS.1
              have cb := kept HCB.out hS.1
              have hx1 := kept HX1.out hS.1
              have hx2 := kept HX2.out hS.1
              go_simp
              first | done | with_reducible rfl
            simp only [Act.put, List.getElem_toArray, List.getElem_cons_succ, List.getElem_cons_zero, List.setIfInBounds_toArray, List.set_cons_zero, List.set_cons_succ]
            refine wpAnyH_take (i := 29) (v := ?_) rfl (by kernel_rfl) (by kernel_rfl) (by kernel_rfl) (fun _ _ _ h => h) (Or.inl ⟨by kernel_rfl, ?_⟩) hS9 ?_
            rotate_left
            · intro W hS
              have ca := kept HCA.out hS.1
              have cb := kept HCB.out hS.1
              have hx1 := kept HX1.out hS.1
              have hx2 := kept HX2.out hS.1
              go_simp
              first | done | with_reducible rfl
            simp only [Act.put, List.getElem_toArray, List.getElem_cons_succ, List.getElem_cons_zero, List.setIfInBounds_toArray, List.set_cons_zero, List.set_cons_succ]
            refine wpAnyH_done (by kernel_rfl) ?_ _
            go_wp2_with fail
            go_roundw
            case rel => exact ⟨k + 1, hlt, by go_num, by rw [← HY.out], chain2 hbb hbb.size hS9.1, HG.out.below hS9.1⟩
            case measure => simp [intOf]; omega
      · go_simp
        refine hK.out _ _ (AtL.alloc hH _) (fun hS10 => ?_)
        have c8_10 := new_cell W0 #[strV [], strV [32], strV []] 9 wh _ HR8.out
        clear hK K
        generalize W0.alloc (.cells #[strV [], strV [32], strV []] 9) = V10 at hS10 c8_10 ⊢
        generalize W0.heap.size = N10 at c8_10 ⊢
        try simp only [Act.put, List.getElem_toArray, List.getElem_cons_succ, List.getElem_cons_zero, List.setIfInBounds_toArray, List.set_cons_zero, List.set_cons_succ]
        refine wpAnyH_take (i := 10) (v := ?_) rfl (by kernel_rfl) (by kernel_rfl) (by kernel_rfl) (fun _ _ _ h => h) (Or.inl ⟨by kernel_rfl, ?_⟩) hS10 ?_
        rotate_left
        · intro W hS
          have ca := kept HCA.out hS.1
          have cb := kept HCB.out hS.1
          have hx1 := kept HX1.out hS.1
          have hx2 := kept HX2.out hS.1
          go_simp
          first | done | with_reducible rfl
        simp only [Act.put, List.getElem_toArray, List.getElem_cons_succ, List.getElem_cons_zero, List.setIfInBounds_toArray, List.set_cons_zero, List.set_cons_succ]
        refine wpAnyH_ready (rs := [1, 11]) (by kernel_rfl) (by simp) ?_
        refine AllReadyH.cons rfl (fun K hK => ?_) (AllReadyH.cons rfl (fun K hK => ?_) AllReadyH.nil)
        · go_simp
          refine hK.out _ _ (AtL.alloc hS10 _) (fun hS11 => ?_)
          have c1_11 := new_cell V10 #[strV [], strV [], strV [32]] 9 wh _ HR1.out
          have k11 := kept c8_10 (below_alloc V10 (.cells #[strV [], strV [], strV [32]] 9))
          clear hK K
          generalize V10.alloc (.cells #[strV [], strV [], strV [32]] 9) = V11 at hS11 c1_11 k11 ⊢
          generalize V10.heap.size = N11 at c1_11 ⊢
          try simp only [Act.put, List.getElem_toArray, List.getElem_cons_succ, List.getElem_cons_zero, List.setIfInBounds_toArray, List.set_cons_zero, List.set_cons_succ]
          refine wpAnyH_take (i := 3) (v := ?_) rfl (by kernel_rfl) (by kernel_rfl) (by kernel_rfl) (fun _ _ _ h => h) (Or.inl ⟨by kernel_rfl, ?_⟩) hS11 ?_
          rotate_left
          · intro W hS
            have ca := kept HCA.out hS.1
            have cb := kept HCB.out hS.1
            have hx1 := kept HX1.out hS.1
            have hx2 := kept HX2.out hS.1
            go_simp
            first | done | with_reducible rfl
          simp only [Act.put, List.getElem_toArray, List.getElem_cons_succ, List.getElem_cons_zero, List.setIfInBounds_toArray, List.set_cons_zero, List.set_cons_succ]
          refine wpAnyH_ready (rs := [4, 11]) (by kernel_rfl) (by simp) ?_
          refine AllReadyH.cons rfl (fun K hK => ?_) (AllReadyH.cons rfl (fun K hK => ?_) AllReadyH.nil)
          · have hh := c1_11
            go_simp
            refine hK.out _ _ hS11 (fun hS12 => ?_)
            clear hK K
            try simp only [Act.put, List.getElem_toArray, List.getElem_cons_succ, List.getElem_cons_zero, List.setIfInBounds_toArray, List.set_cons_zero, List.set_cons_succ]
            refine wpAnyH_take (i := 7) (v := ?_) rfl (by kernel_rfl) (by kernel_rfl) (by kernel_rfl) (fun _ _ _ h => h) (Or.inl ⟨by kernel_rfl, ?_⟩) hS12 ?_
            rotate_left
            · intro W hS
              have ca := kept HCA.out hS.1
              have cb := kept HCB.out hS.1
              have hx1 := kept HX1.out hS.1
              have hx2 := kept HX2.out hS.1
              go_simp
              first | done | with_reducible rfl
            simp only [Act.put, List.getElem_toArray, List.getElem_cons_succ, List.getElem_cons_zero, List.setIfInBounds_toArray, List.set_cons_zero, List.set_cons_succ]
            refine wpAnyH_ready (rs := [11]) (by kernel_rfl) (by simp) ?_
            refine AllReadyH.cons rfl (fun K hK => ?_) AllReadyH.nil
            have hh := k11
            go_simp
            refine hK.out _ _ hS12 (fun hS13 => ?_)
            clear hK K
            try simp only [Act.put, List.getElem_toArray, List.getElem_cons_succ, List.getElem_cons_zero, List.setIfInBounds_toArray, List.set_cons_zero, List.set_cons_succ]
            refine wpAnyH_take (i := 12) (v := ?_) rfl (by kernel_rfl) (by kernel_rfl) (by kernel_rfl) (fun _ _ _ h => h) (Or.inl ⟨by kernel_rfl, ?_⟩) hS13 ?_
            rotate_left
            · intro W hS
              have ca := kept HCA.out hS.1
              have cb := kept HCB.out hS.1
              have hx1 := kept HX1.out hS.1
              have hx2 := kept HX2.out hS.1
              go_simp
              first | done | with_reducible rfl
            simp only [Act.put, List.getElem_toArray, List.getElem_cons_succ, List.getElem_cons_zero, List.setIfInBounds_toArray, List.set_cons_zero, List.set_cons_succ]
            refine wpAnyH_take (i := 13) (v := ?_) rfl (by kernel_rfl) (by kernel_rfl) (by kernel_rfl) (fun _ _ _ h => h) (Or.inl ⟨by kernel_rfl, ?_⟩) hS13 ?_
            rotate_left
            · intro W hS
              have ca := kept HCA.out hS.1
              have cb := kept HCB.out hS.1
              have hx1 := kept HX1.out hS.1
              have hx2 := kept HX2.out hS.1
              go_simp
              first | done | with_reducible rfl
            simp only [Act.put, List.getElem_toArray, List.getElem_cons_succ, List.getElem_cons_zero, List.setIfInBounds_toArray, List.set_cons_zero, List.set_cons_succ]
            refine wpAnyH_take (i := 18) (v := ?_) rfl (by kernel_rfl) (by kernel_rfl) (by kernel_rfl) (fun _ _ _ h => h) (Or.inl ⟨by kernel_rfl, ?_⟩) hS13 ?_
            rotate_left
            · intro W hS
              have ca := kept HCA.out hS.1
              have cb := kept HCB.out hS.1
              have hx1 := kept HX1.out hS.1
              have hx2 := kept HX2.out hS.1
              go_simp
              first | done | with_reducible rfl
            simp only [Act.put, List.getElem_toArray, List.getElem_cons_succ, List.getElem_cons_zero, List.setIfInBounds_toArray, List.set_cons_zero, List.set_cons_succ]
            refine wpAnyH_take (i := 21) (v := ?_) rfl (by kernel_rfl) (by kernel_rfl) (by kernel_rfl) (fun _ _ _ h => h) (Or.inl ⟨by kernel_rfl, ?_⟩) hS13 ?_
            rotate_left
            · intro W hS
              have ca := kept HCA.out hS.1
              have cb := kept HCB.out hS.1
              have hx1 := kept HX1.out hS.1
              have hx2 := kept HX2.out hS.1
              go_simp
              first | done | with_reducible rfl
            simp only [Act.put, List.getElem_toArray, List.getElem_cons_succ, List.getElem_cons_zero, List.setIfInBounds_toArray, List.set_cons_zero, List.set_cons_succ]
            refine wpAnyH_take (i := 26) (v := ?_) rfl (by kernel_rfl) (by kernel_rfl) (by kernel_rfl) (fun _ _ _ h => h) (Or.inl ⟨by kernel_rfl, ?_⟩) hS13 ?_
            rotate_left
            · intro W hS
              have ca := kept HCA.out hS.1
              have cb := kept HCB.out hS.1
              have hx1 := kept HX1.out hS.1
              have hx2 := kept HX2.out hS.1
              go_simp
              first | done | with_reducible rfl
            simp only [Act.put, List.getElem_toArray, List.getElem_cons_succ, List.getElem_cons_zero, List.setIfInBounds_toArray, List.set_cons_zero, List.set_cons_succ]
            refine wpAnyH_take (i := 27) (v := ?_) rfl (by kernel_rfl) (by kernel_rfl) (by kernel_rfl) (fun _ _ _ h => h) (Or.inl ⟨by kernel_rfl, ?_⟩) hS13 ?_
            rotate_left
            · intro W hS
              have ca := kept HCA.out hS.1
              have cb := kept HCB.out hS.1
              have hx1 := kept HX1.out hS.1
              have hx2 := kept HX2.out hS.1
              go_simp
              first | done | with_reducible rfl
            simp only [Act.put, List.getElem_toArray, List.getElem_cons_succ, List.getElem_cons_zero, List.setIfInBounds_toArray, List.set_cons_zero, List.set_cons_succ]
            refine wpAnyH_take (i := 28) (v := ?_) rfl (by kernel_rfl) (by kernel_rfl) (by kernel_rfl) (fun _ _ _ h => h) (Or.inl ⟨by kernel_rfl, ?_⟩) hS13 ?_
            rotate_left
            · intro W hS
              have ca := kept HCA.out hS.1
              have cb := kept HCB.out hS.1
              have hx1 := kept HX1.out hS.1
              have hx2 := kept HX2.out hS.1
              go_simp
              first | done | with_reducible rfl
            simp only [Act.put, List.getElem_toArray, List.getElem_cons_succ, List.getElem_cons_zero, List.setIfInBounds_toArray, List.set_cons_zero, List.set_cons_succ]
            refine wpAnyH_take (i := 29) (v := ?_) rfl (by kernel_rfl) (by kernel_rfl) (by kernel_rfl) (fun _ _ _ h => h) (Or.inl ⟨by kernel_rfl, ?_⟩) hS13 ?_
            rotate_left
            · intro W hS
              have ca := kept HCA.out hS.1
              have cb := kept HCB.out hS.1
              have hx1 := kept HX1.out hS.1
              have hx2 := kept HX2.out hS.1
              go_simp
              first | done | with_reducible rfl
            simp only [Act.put, List.getElem_toArray, List.getElem_cons_succ, List.getElem_cons_zero, List.setIfInBounds_toArray, List.set_cons_zero, List.set_cons_succ]
            refine wpAnyH_done (by kernel_rfl) ?_ _
            go_wp2_with fail
            go_roundw
            case rel => exact ⟨k + 1, hlt, by go_num, by rw [← HY.out], chain2 hbb hbb.size hS13.1, HG.out.below hS13.1⟩
            case measure => simp [intOf]; omega
          · have hh := k11
            go_simp
            refine hK.out _ _ hS11 (fun hS14 => ?_)
            clear hK K
            try simp only [Act.put, List.getElem_toArray, List.getElem_cons_succ, List.getElem_cons_zero, List.setIfInBounds_toArray, List.set_cons_zero, List.set_cons_succ]
            refine wpAnyH_ready (rs := [4]) (by kernel_rfl) (by simp) ?_
            refine AllReadyH.cons rfl (fun K hK => ?_) AllReadyH.nil
            have hh := c1_11
            go_simp
            refine hK.out _ _ hS14 (fun hS15 => ?_)
            clear hK K
            try simp only [Act.put, List.getElem_toArray, List.getElem_cons_succ, List.getElem_cons_zero, List.setIfInBounds_toArray, List.set_cons_zero, List.set_cons_succ]
            refine wpAnyH_take (i := 7) (v := ?_) rfl (by kernel_rfl) (by kernel_rfl) (by kernel_rfl) (fun _ _ _ h => h) (Or.inl ⟨by kernel_rfl, ?_⟩) hS15 ?_
            rotate_left
            · intro W hS
              have ca := kept HCA.out hS.1
              have cb := kept HCB.out hS.1
              have hx1 := kept HX1.out hS.1
              have hx2 := kept HX2.out hS.1
              go_simp
              first | done | with_reducible rfl
            simp only [Act.put, List.getElem_toArray, List.getElem_cons_succ, List.getElem_cons_zero, List.setIfInBounds_toArray, List.set_cons_zero, List.set_cons_succ]
            refine wpAnyH_take (i := 12) (v := ?_) rfl (by kernel_rfl) (by kernel_rfl) (by kernel_rfl) (fun _ _ _ h => h) (Or.inl ⟨by kernel_rfl, ?_⟩) hS15 ?_
            rotate_left
            · intro W hS
              have ca := kept HCA.out hS.1
              have cb := kept HCB.out hS.1
              have hx1 := kept HX1.out hS.1
              have hx2 := kept HX2.out hS.1
              go_simp
              first | done | with_reducible rfl
            simp only [Act.put, List.getElem_toArray, List.getElem_cons_succ, List.getElem_cons_zero, List.setIfInBounds_toArray, List.set_cons_zero, List.set_cons_succ]
            refine wpAnyH_take (i := 13) (v := ?_) rfl (by kernel_rfl) (by kernel_rfl) (by kernel_rfl) (fun _ _ _ h => h) (Or.inl ⟨by kernel_rfl, ?_⟩) hS15 ?_
            rotate_left
            · intro W hS
              have ca := kept HCA.out hS.1
              have cb := kept HCB.out hS.1
              have hx1 := kept HX1.out hS.1
              have hx2 := kept HX2.out hS.1
              go_simp
              first | done | with_reducible rfl
            simp only [Act.put, List.getElem_toArray, List.getElem_cons_succ, List.getElem_cons_zero, List.setIfInBounds_toArray, List.set_cons_zero, List.set_cons_succ]
            refine wpAnyH_take (i := 18) (v := ?_) rfl (by kernel_rfl) (by kernel_rfl) (by kernel_rfl) (fun _ _ _ h => h) (Or.inl ⟨by kernel_rfl, ?_⟩) hS15 ?_
            rotate_left
            · intro W hS
              have ca := kept HCA.out hS.1
              have cb := kept HCB.out hS.1
              have hx1 := kept HX1.out hS.1
              have hx2 := kept HX2.out hS.1
              go_simp
              first | done | with_reducible rfl
            simp only [Act.put, List.getElem_toArray, List.getElem_cons_succ, List.getElem_cons_zero, List.setIfInBounds_toArray, List.set_cons_zero, List.set_cons_succ]
            refine wpAnyH_take (i := 21) (v := ?_) rfl (by kernel_rfl) (by kernel_rfl) (by kernel_rfl) (fun _ _ _ h => h) (Or.inl ⟨by kernel_rfl, ?_⟩) hS15 ?_
            rotate_left
            · intro W hS
              have ca := kept HCA.out hS.1
              have cb := kept HCB.out hS.1
              have hx1 := kept HX1.out hS.1
              have hx2 := kept HX2.out hS.1
              go_simp
              first | done | with_reducible rfl
            simp only [Act.put, List.getElem_toArray, List.getElem_cons_succ, List.getElem_cons_zero, List.setIfInBounds_toArray, List.set_cons_zero, List.set_cons_succ]
            refine wpAnyH_take (i := 26) (v := ?_) rfl (by kernel_rfl) (by kernel_rfl) (by kernel_rfl) (fun _ _ _ h => h) (Or.inl ⟨by kernel_rfl, ?_⟩) hS15 ?_
            rotate_left
            · intro W hS
              have ca := kept HCA.out hS.1
              have cb := kept HCB.out hS.1
              have hx1 := kept HX1.out hS.1
              have hx2 := kept HX2.out hS.1
              go_simp
              first | done | with_reducible rfl
            simp only [Act.put, List.getElem_toArray, List.getElem_cons_succ, List.getElem_cons_zero, List.setIfInBounds_toArray, List.set_cons_zero, List.set_cons_succ]
            refine wpAnyH_take (i := 27) (v := ?_) rfl (by kernel_rfl) (by kernel_rfl) (by kernel_rfl) (fun _ _ _ h => h) (Or.inl ⟨by kernel_rfl, ?_⟩) hS15 ?_
            rotate_left
            · intro W hS
              have ca := kept HCA.out hS.1
              have cb := kept HCB.out hS.1
              have hx1 := kept HX1.out hS.1
              have hx2 := kept HX2.out hS.1
              go_simp
              first | done | with_reducible rfl
            simp only [Act.put, List.getElem_toArray, List.getElem_cons_succ, List.getElem_cons_zero, List.setIfInBounds_toArray, List.set_cons_zero, List.set_cons_succ]
            refine wpAnyH_take (i := 28) (v := ?_) rfl (by kernel_rfl) (by kernel_rfl) (by kernel_rfl) (fun _ _ _ h => h) (Or.inl ⟨by kernel_rfl, ?_⟩) hS15 ?_
            rotate_left
            · intro W hS
              have ca := kept HCA.out hS.1
              have cb := kept HCB.out hS.1
              have hx1 := kept HX1.out hS.1
              have hx2 := kept HX2.out hS.1
              go_simp
              first | done | with_reducible rfl
            simp only [Act.put, List.getElem_toArray, List.getElem_cons_succ, List.getElem_cons_zero, List.setIfInBounds_toArray, List.set_cons_zero, List.set_cons_succ]
            refine wpAnyH_take (i := 29) (v := ?_) rfl (by kernel_rfl) (by kernel_rfl) (by kernel_rfl) (fun _ _ _ h => h) (Or.inl ⟨by kernel_rfl, ?_⟩) hS15 ?_
            rotate_left
            · intro W hS
              have ca := kept HCA.out hS.1
              have cb := kept HCB.out hS.1
              have hx1 := kept HX1.out hS.1
              have hx2 := kept HX2.out hS.1
              go_simp
              first | done | with_reducible rfl
            simp only [Act.put, List.getElem_toArray, List.getElem_cons_succ, List.getElem_cons_zero, List.setIfInBounds_toArray, List.set_cons_zero, List.set_cons_succ]
            refine wpAnyH_done (by kernel_rfl) ?_ _
            go_wp2_with fail
            go_roundw
            case rel => exact ⟨k + 1, hlt, by go_num, by rw [← HY.out], chain2 hbb hbb.size hS15.1, HG.out.below hS15.1⟩
            case measure => simp [intOf]; omega
        · have hh := c8_10
          go_simp
          refine hK.out _ _ hS10 (fun hS16 => ?_)
          clear hK K
          try simp only [Act.put, List.getElem_toArray, List.getElem_cons_succ, List.getElem_cons_zero, List.setIfInBounds_toArray, List.set_cons_zero, List.set_cons_succ]
          refine wpAnyH_ready (rs := [1]) (by kernel_rfl) (by simp) ?_
          refine AllReadyH.cons rfl (fun K hK => ?_) AllReadyH.nil
          go_simp
          refine hK.out _ _ (AtL.alloc hS16 _) (fun hS17 => ?_)
          have c1_17 := new_cell V10 #[strV [], strV [], strV [32]] 9 wh _ HR1.out
          have k17 := kept c8_10 (below_alloc V10 (.cells #[strV [], strV [], strV [32]] 9))
          clear hK K
          generalize V10.alloc (.cells #[strV [], strV [], strV [32]] 9) = V17 at hS17 c1_17 k17 ⊢
          generalize V10.heap.size = N17 at c1_17 ⊢
          try simp only [Act.put, List.getElem_toArray, List.getElem_cons_succ, List.getElem_cons_zero, List.setIfInBounds_toArray, List.set_cons_zero, List.set_cons_succ]
          refine wpAnyH_take (i := 3) (v := ?_) rfl (by kernel_rfl) (by kernel_rfl) (by kernel_rfl) (fun _ _ _ h => h) (Or.inl ⟨by kernel_rfl, ?_⟩) hS17 ?_
          rotate_left
          · intro W hS
            have ca := kept HCA.out hS.1
            have cb := kept HCB.out hS.1
            have hx1 := kept HX1.out hS.1
            have hx2 := kept HX2.out hS.1
            go_simp
            first | done | with_reducible rfl
          simp only [Act.put, List.getElem_toArray, List.getElem_cons_succ, List.getElem_cons_zero, List.setIfInBounds_toArray, List.set_cons_zero, List.set_cons_succ]
          refine wpAnyH_ready (rs := [4]) (by kernel_rfl) (by simp) ?_
          refine AllReadyH.cons rfl (fun K hK => ?_) AllReadyH.nil
          have hh := c1_17
          go_simp
          refine hK.out _ _ hS17 (fun hS18 => ?_)
          clear hK K
          try simp only [Act.put, List.getElem_toArray, List.getElem_cons_succ, List.getElem_cons_zero, List.setIfInBounds_toArray, List.set_cons_zero, List.set_cons_succ]
          refine wpAnyH_take (i := 7) (v := ?_) rfl (by kernel_rfl) (by kernel_rfl) (by kernel_rfl) (fun _ _ _ h => h) (Or.inl ⟨by kernel_rfl, ?_⟩) hS18 ?_
          rotate_left
          · intro W hS
            have ca := kept HCA.out hS.1
            have cb := kept HCB.out hS.1
            have hx1 := kept HX1.out hS.1
            have hx2 := kept HX2.out hS.1
            go_simp
            first | done | with_reducible rfl
          simp only [Act.put, List.getElem_toArray, List.getElem_cons_succ, List.getElem_cons_zero, List.setIfInBounds_toArray, List.set_cons_zero, List.set_cons_succ]
          refine wpAnyH_take (i := 12) (v := ?_) rfl (by kernel_rfl) (by kernel_rfl) (by kernel_rfl) (fun _ _ _ h => h) (Or.inl ⟨by kernel_rfl, ?_⟩) hS18 ?_
          rotate_left
          · intro W hS
            have ca := kept HCA.out hS.1
            have cb := kept HCB.out hS.1
            have hx1 := kept HX1.out hS.1
            have hx2 := kept HX2.out hS.1
            go_simp
            first | done | with_reducible rfl
          simp only [Act.put, List.getElem_toArray, List.getElem_cons_succ, List.getElem_cons_zero, List.setIfInBounds_toArray, List.set_cons_zero, List.set_cons_succ]
          refine wpAnyH_take (i := 13) (v := ?_) rfl (by kernel_rfl) (by kernel_rfl) (by kernel_rfl) (fun _ _ _ h => h) (Or.inl ⟨by kernel_rfl, ?_⟩) hS18 ?_
          rotate_left
          · intro W hS
            have ca := kept HCA.out hS.1
            have cb := kept HCB.out hS.1
            have hx1 := kept HX1.out hS.1
            have hx2 := kept HX2.out hS.1
            go_simp
            first | done | with_reducible rfl
          simp only [Act.put, List.getElem_toArray, List.getElem_cons_succ, List.getElem_cons_zero, List.setIfInBounds_toArray, List.set_cons_zero, List.set_cons_succ]
          refine wpAnyH_take (i := 18) (v := ?_) rfl (by kernel_rfl) (by kernel_rfl) (by kernel_rfl) (fun _ _ _ h => h) (Or.inl ⟨by kernel_rfl, ?_⟩) hS18 ?_
          rotate_left
          · intro W hS
            have ca := kept HCA.out hS.1
            have cb := kept HCB.out hS.1
            have hx1 := kept HX1.out hS.1
            have hx2 := kept HX2.out hS.1
            go_simp
            first | done | with_reducible rfl
          simp only [Act.put, List.getElem_toArray, List.getElem_cons_succ, List.getElem_cons_zero, List.setIfInBounds_toArray, List.set_cons_zero, List.set_cons_succ]
          refine wpAnyH_take (i := 21) (v := ?_) rfl (by kernel_rfl) (by kernel_rfl) (by kernel_rfl) (fun _ _ _ h => h) (Or.inl ⟨by kernel_rfl, ?_⟩) hS18 ?_
          rotate_left
          · intro W hS
            have ca := kept HCA.out hS.1
            have cb := kept HCB.out hS.1
            have hx1 := kept HX1.out hS.1
            have hx2 := kept HX2.out hS.1
            go_simp
            first | done | with_reducible rfl
          simp only [Act.put, List.getElem_toArray, List.getElem_cons_succ, List.getElem_cons_zero, List.setIfInBounds_toArray, List.set_cons_zero, List.set_cons_succ]
          refine wpAnyH_take (i := 26) (v := ?_) rfl (by kernel_rfl) (by kernel_rfl) (by kernel_rfl) (fun _ _ _ h => h) (Or.inl ⟨by kernel_rfl, ?_⟩) hS18 ?_
          rotate_left
          · intro W hS
            have ca := kept HCA.out hS.1
            have cb := kept HCB.out hS.1
            have hx1 := kept HX1.out hS.1
            have hx2 := kept HX2.out hS.1
            go_simp
            first | done | with_reducible rfl
          simp only [Act.put, List.getElem_toArray, List.getElem_cons_succ, List.getElem_cons_zero, List.setIfInBounds_toArray, List.set_cons_zero, List.set_cons_succ]
          refine wpAnyH_take (i := 27) (v := ?_) rfl (by kernel_rfl) (by kernel_rfl) (by kernel_rfl) (fun _ _ _ h => h) (Or.inl ⟨by kernel_rfl, ?_⟩) hS18 ?_
          rotate_left
          · intro W hS
            have ca := kept HCA.out hS.1
            have cb := kept HCB.out hS.1
            have hx1 := kept HX1.out hS.1
            have hx2 := kept HX2.out hS.1
            go_simp
            first | done | with_reducible rfl
          simp only [Act.put, List.getElem_toArray, List.getElem_cons_succ, List.getElem_cons_zero, List.setIfInBounds_toArray, List.set_cons_zero, List.set_cons_succ]
          refine wpAnyH_take (i := 28) (v := ?_) rfl (by kernel_rfl) (by kernel_rfl) (by kernel_rfl) (fun _ _ _ h => h) (Or.inl ⟨by kernel_rfl, ?_⟩) hS18 ?_
          rotate_left
          · intro W hS
            have ca := kept HCA.out hS.1
            have cb := kept HCB.out hS.1
            have hx1 := kept HX1.out hS.1
            have hx2 := kept HX2.out hS.1
            go_simp
            first | done | with_reducible rfl
          simp only [Act.put, List.getElem_toArray, List.getElem_cons_succ, List.getElem_cons_zero, List.setIfInBounds_toArray, List.set_cons_zero, List.set_cons_succ]
          refine wpAnyH_take (i := 29) (v := ?_) rfl (by kernel_rfl) (by kernel_rfl) (by kernel_rfl) (fun _ _ _ h => h) (Or.inl ⟨by kernel_rfl, ?_⟩) hS18 ?_
          rotate_left
          · intro W hS
            have ca := kept HCA.out hS.1
            have cb := kept HCB.out hS.1
            have hx1 := kept HX1.out hS.1
            have hx2 := kept HX2.out hS.1
            go_simp
            first | done | with_reducible rfl
          simp only [Act.put, List.getElem_toArray, List.getElem_cons_succ, List.getElem_cons_zero, List.setIfInBounds_toArray, List.set_cons_zero, List.set_cons_succ]
          refine wpAnyH_done (by kernel_rfl) ?_ _
          go_wp2_with fail
          go_roundw
          case rel => exact ⟨k + 1, hlt, by go_num, by rw [← HY.out], chain2 hbb hbb.size hS18.1, HG.out.below hS18.1⟩
          case measure => simp [intOf]; omega
    · have hke : L.take k = L := List.take_of_length_le (by omega)
      have hLk := HLL.out k
      rw [hke] at hLk ⊢
      obtain ⟨T, hT⟩ : ∃ T, T = linesT (getL :: L.map (blLine a b wh)) := ⟨_, rfl⟩
      rw [← hT] at hLk ⊢
      have HB := fun h => blanks_all L a b wh hw2 HQR.out T hT h
      obtain ⟨Y, e1, l1, s1⟩ := sum_lists (P := Tryd.prog) T [13, 10] (by omega) (by decide)
      have hYT : Y = T ++ [13, 10] := e1
      rw [← hYT] at HB
      have hmr := hm.below hb
      have CF := hid fun v L W h (hn : L.length < 1000000) => Fields_any v L W h hn
      have CE := hid fun v1 v2 L M W h1 h2 (hn : L.length < 1000000) => refSame_any v1 v2 L M W h1 h2 hn
      have C3 := hid fun a c W h1 h2 h3 => ReadRequest_any a c Y W h1 h2 h3
      obtain ⟨capb, W8, cur, fz, hcv, hg8, hfz, hcc, htk, hxc, hbW8⟩ := bytes_conv (P := Tryd.prog) wr Y 9 24 5 Tryd.underlying9 Tryd.underlying24 Tryd.underlying5
      have hrd8 := reads_row hg8 (Y.map byteV) capb (by rw [List.length_map]; exact htk)
      rw [List.length_map] at hrd8
      have hm8 := hmr.below hbW8
      have hb8 := chain2 hb hb.size hbW8
      have hzw := (by omega : (0 : Int) ≤ (wh : Int))
      clear hb hgw hg8 hfz hcc htk hbW8 hmr hYT hT hke e1 l1 ha3 hb3'
      go_wp2_with fail
      refine (C3.out _ _ _ hrd8 hxc hm8).mono ?_
      rintro e w10 ⟨hrq, hb9⟩
      obtain ⟨ao3, cp3, rfl, rd3⟩ := reqRead_form hrq
      have hb10 := chain2 hb8 hb8.size hb9
      clear hrq hb8 hb9 hm8 hrd8 hxc hcv C3
      by_cases h4 : (4000 : Int) < (T.length : Int)
      · clear HB
        generalize hX (readL reqL Y) = H at *
        generalize nX (readL reqL Y) = n at *
        generalize codeX (readL reqL Y) = c at *
        go_wp2_with fail
        go_ret
        exact ⟨rfl, chain2 hb10 hb10.size (below_alloc _ _)⟩
      have d4 : decide ((4000 : Int) < (T.length : Int)) = false := decide_eq_false h4
      rcases HB (by omega) with ⟨q1, q2, hX1⟩ | ⟨q1, h, hf, hX1⟩
      · rw [hX1] at rd3 ⊢
        have z1 : decide ((0 : Int) < (wh : Int)) = true := decide_eq_true (by omega)
        have z2 : decide ((0 : Int) < (L.length : Int)) = true := decide_eq_true (by omega)
        have k1 : codeX (.error 21) = 21 := rfl
        have k2 : nX (.error 21) = 0 := rfl
        rw [k1, k2]
        generalize hX (.error 21) = H at *
        have y1 : decide (0 < wh) = true := decide_eq_true q1
        have y2 : decide (0 < L.length) = true := decide_eq_true q2
        have y3 : ¬ wh = 0 := by omega
        have y4 : ¬ L = [] := by intro h; rw [h] at q2; cases q2
        clear h4 hX1 k1 k2
        go_wp2_with fail
        go_ret
        exact ⟨rfl, chain2 hb10 hb10.size (below_alloc _ _)⟩
      · rw [hX1] at rd3 ⊢
        have k0 : hX (.ok (h, T.length + 2)) = h := rfl
        have k1 : codeX (.ok (h, T.length + 2)) = 0 := rfl
        have k2 : nX (.ok (h, T.length + 2)) = (T.length : Int) + 2 := by show ((T.length + 2 : Nat) : Int) = _; omega
        rw [k0, hf] at rd3
        rw [k0, k1, k2, hf]
        have zz : (decide ((0 : Int) < (wh : Int)) && decide ((0 : Int) < (L.length : Int))) = false := by
          rcases q1 with q | q
          · rw [decide_eq_false (show ¬ (0 : Int) < (wh : Int) by omega)]; rfl
          · rw [decide_eq_false (show ¬ (0 : Int) < (L.length : Int) by omega), Bool.and_false]
        have zt : IntKind.i64.wrap ((T.length : Int) + 2) = (T.length : Int) + 2 := IntWalk.i64_in _ (by omega)
        obtain ⟨Wa, hWa⟩ : ∃ W, W = w10.alloc (.cells #[strV h.first, strV h.second, .int .i64 (h.minor : Int), .slice ao3 L.length cp3] 30) := ⟨_, rfl⟩
        have hbW : Below w10.heap.size w10 Wa := by rw [hWa]; exact below_alloc _ _
        have hga : rowIs Wa w10.heap.size #[strV h.first, strV h.second, .int .i64 (h.minor : Int), .slice ao3 L.length cp3] 30 := by rw [hWa]; exact rowIs_new _ _ _
        have g3 := hga.cell 3
        have rdA := rd3.below hbW
        have hbZ := chain2 hb10 hb10.size hbW
        have hll := HR.out.below hbZ
        have tl : ((T.length : Int) + 2 == (T.length : Int) + 2) = true := by simp
        have RDA := hid rdA
        have RDL := hid hll
        have HBZ := hid hbZ
        have HN := hid hnL
        have hsz : w10.heap.size = w10.heap.size := rfl
        generalize h.first = hf1 at *
        generalize h.second = hf2 at *
        generalize (h.minor : Int) = hf3 at *
        rw [hWa] at g3
        clear k0 k1 k2 hf hX1 h4 hbW hga rd3 hb10 rdA hll hbZ hsz
        by_cases z1 : (0 : Int) < (wh : Int)
        · have d1 : decide ((0 : Int) < (wh : Int)) = true := decide_eq_true z1
          have d2 : decide ((0 : Int) < (L.length : Int)) = false := by rw [d1] at zz; simpa using zz
          go_wp2_with fail
          rw [← hWa]
          clear hWa g3
          refine (CF.out _ _ _ RDA.out HN.out).mono ?_
          rintro e u1 ⟨v1, rfl, ho1, hu1⟩
          go_wp2_with fail
          refine (CF.out _ _ _ (RDL.out.below hu1) HN.out).mono ?_
          rintro e u2 ⟨v2, rfl, ho2, hu2⟩
          go_wp2_with fail
          refine (CE.out _ _ L L _ ((ho1.reads2).2.below hu2) (ho2.reads2).2 HN.out).mono ?_
          rintro e u3 ⟨rfl, hu3⟩
          go_wp2_with fail
          go_ret
          have hu12 := chain2 HBZ.out HBZ.out.size hu1
          have hu13 := chain2 hu12 hu12.size hu2
          exact ⟨rfl, chain2 hu13 hu13.size hu3⟩
        · have d1 : decide ((0 : Int) < (wh : Int)) = false := decide_eq_false z1
          go_wp2_with fail
          rw [← hWa]
          clear hWa g3
          refine (CF.out _ _ _ RDA.out HN.out).mono ?_
          rintro e u1 ⟨v1, rfl, ho1, hu1⟩
          go_wp2_with fail
          refine (CF.out _ _ _ (RDL.out.below hu1) HN.out).mono ?_
          rintro e u2 ⟨v2, rfl, ho2, hu2⟩
          go_wp2_with fail
          refine (CE.out _ _ L L _ ((ho1.reads2).2.below hu2) (ho2.reads2).2 HN.out).mono ?_
          rintro e u3 ⟨rfl, hu3⟩
          go_wp2_with fail
          go_ret
          have hu12 := chain2 HBZ.out HBZ.out.size hu1
          have hu13 := chain2 hu12 hu12.size hu2
          exact ⟨rfl, chain2 hu13 hu13.size hu3⟩
end Go.Proofs.YtjfkehdlamnigaaDoor
