/-
  The document's answers of layer 11: digits, Mark, Second.
-/
import Derived.Test.YtbjgbkbhalibdaaGreatDoorRef11K
import Derived.Test.YtbjgbkbhalibdaaGreatDoorInfo
import Derived.Test.YtbjgbkbhalibdaaGreatDoorRefFieldD
import Derived.Test.YtbjgbkbhalibdaaGreatDoorProg
import Derived.Deep.RegionWith
import Derived.IntWalk
namespace Go.Proofs.YtbjgbkbhalibdaaGreatDoor
open Go.RowKit Go.Pantry

set_option maxRecDepth 4000 in
theorem digits_any (f : Nat) : ∀ (n : Nat) (z : Int) (w : World), z = (n : Int) → n < 10 ^ (f + 1) → f ≤ 17 →
    Calls Tryz.prog 36 #[.int .i64 z] w fun e w' => e = .returned (strV (digF (f + 1) n)) ∧ Below w.heap.size w w' := by
  induction f with
  | zero =>
    intro n z w hz h _
    subst hz
    simp at h
    have hcv := run_one_byte (P := Tryz.prog) 66 9 5 Tryz.underlying66 Tryz.underlying5 Tryz.underlying9 (w.alloc (.cells #[.int .u8 (48 + (n : Int))] 5)) w.heap.size (48 + (n : Int)) (World.cell?_alloc_at _ _ _ _ rfl)
    go_enter Tryz.func36, Tryz.ntmps36
    go_wp2
    go_ret
    refine ⟨ret_str ?_, below_alloc _ _⟩
    rw [digF, if_pos (by omega)]
  | succ f ih =>
    intro n z w hz h hf
    subst hz
    by_cases hn : n < 10
    · have hcv := run_one_byte (P := Tryz.prog) 66 9 5 Tryz.underlying66 Tryz.underlying5 Tryz.underlying9 (w.alloc (.cells #[.int .u8 (48 + (n : Int))] 5)) w.heap.size (48 + (n : Int)) (World.cell?_alloc_at _ _ _ _ rfl)
      clear h ih
      go_enter Tryz.func36, Tryz.ntmps36
      go_wp2
      go_ret
      refine ⟨ret_str ?_, below_alloc _ _⟩
      rw [digF, if_pos (by omega)]
    · have h1 : n / 10 < 10 ^ (f + 1) := by rw [Nat.pow_succ] at h; omega
      have hnb : n < 1000000000000000000 := Nat.lt_of_lt_of_le h (by
        have := Nat.pow_le_pow_right (n := 10) (by decide) (show f + 1 + 1 ≤ 18 by omega)
        simpa using this)
      have hadd := fun (W : World) (y : UInt8) => run_string_add_lists (P := Tryz.prog) W (digF (f + 1) (n / 10)) [y] (by have := digF_len (f + 1) (n / 10); omega) (by simp)
      have IH := hid ih
      have H1 := hid h1
      clear h h1 ih
      have hcv := fun (W : World) (b : Nat) (c : Int) => run_one_byte (P := Tryz.prog) 66 9 5 Tryz.underlying66 Tryz.underlying5 Tryz.underlying9 W b c
      have w1 : IntKind.i64.wrap ((n : Int) / 10) = (n : Int) / 10 := IntWalk.i64_in _ (by omega)
      go_enter Tryz.func36, Tryz.ntmps36
      go_wp2_with fail
      go_region_with (go_at_call 36; go_must (refine (IH.out (n / 10) _ _ (by omega) H1.out (by omega)).mono ?_); rintro e w' ⟨rfl, hb⟩; first | have hcc := kept_new hb rfl | skip)
      all_goals go_wp2
      all_goals go_ret
      all_goals
        refine ⟨ret_str ?_, ?_⟩
        · rw [digit_byte, show digF (f + 1 + 1) n = digF (f + 1) (n / 10) ++ [(48 + n % 10).toUInt8] from by rw [digF, if_neg hn]]
        · first
            | exact (below_of_drew hb).alloc (below_of_drew hb).size _
            | exact below_of_new hb
            | exact below_of_drew hb
theorem refMark_any (x : List UInt8) (w : World) (h0 : x.length < 8000000) :
    Calls Tryz.prog 25 #[strV x] w fun e w' => e = .returned (strV (markT x)) ∧ Below w.heap.size w w' := by
  have h : x.length < 10 ^ 7 := Nat.lt_trans h0 (by decide)
  have hd : decL x.length = digF 7 x.length := decL_digF 6 _ h
  have c1 := fun W => digits_any 6 x.length (x.length : Int) W rfl h (by decide)
  rw [← hd] at c1
  have hl : (decL x.length).length ≤ 7 := decL_len 6 _ h
  generalize hD : decL x.length = D at c1 hl
  have s1 := fun (W : World) => run_string_add_lists (P := Tryz.prog) W D [58] (by omega) (by simp)
  have s2 := fun (W : World) => run_string_add_lists (P := Tryz.prog) W (D ++ [58]) x (by simp; omega) (by omega)
  have C1 := hid c1
  have HD := hid hD
  have hz : ((⟨x.toArray⟩ : ByteArray).size : Int) = (x.length : Int) := by rw [szL]
  clear c1 hD hd h
  go_enter Tryz.func25, Tryz.ntmps25
  go_wp2_with fail
  refine (C1.out _).mono ?_
  rintro e w1 ⟨rfl, hb⟩
  go_wp2_with fail
  go_ret
  refine ⟨ret_str ?_, hb⟩
  unfold markT
  first
    | (rw [HD.out]; done)
    | (rw [HD.out]; simp)
theorem markT_le {x : List UInt8} (h : x.length < 10000000) : (markT x).length ≤ x.length + 8 := markT_len (f := 6) (by simpa using h)
theorem markF_le {l : List Fld} {n : List UInt8} (h : (getF l n).length < 10000000) : (markF l n).length ≤ (getF l n).length + 9 := by
  unfold markF
  split
  · simp
  · have := markT_le h; rw [List.length_cons]; omega
theorem secondL_snoc (l : List Fld) (ns : List (List UInt8)) (n : List UInt8) : secondL l (ns ++ [n]) = secondL l ns ++ markF l n := by simp [secondL]
theorem secondL_le {l : List Fld} {c : Nat} (ns : List (List UInt8)) (h : ∀ n, (markF l n).length ≤ c) : (secondL l ns).length ≤ c * ns.length := by
  induction ns with
  | nil => simp [secondL]
  | cons n ns ih =>
    have e : secondL l (n :: ns) = markF l n ++ secondL l ns := rfl
    have := h n
    rw [e, List.length_append, List.length_cons, Nat.mul_succ]; omega
theorem SmallF.mark {l : List Fld} (h : SmallF l) (n : List UInt8) : (markF l n).length ≤ 18130 := by
  have h1 := h.get n
  have := markF_le (l := l) (n := n) (by omega)
  omega
set_option maxRecDepth 4000 in
theorem refSecond_any (v nv : Value) (l : List Fld) (ns : List (List UInt8)) (w : World) (hr : Reads2 w v l) (hn : Reads w nv (ns.map strV)) (hs : SmallF l) (hl : ns.length ≤ 20000) (hb : ∀ n ∈ ns, n.length ≤ 100000) :
    Calls Tryz.prog 14 #[v, nv] w fun e w' => e = .returned (strV (secondL l ns)) ∧ Below w.heap.size w w' := by
  obtain ⟨ao, cap, rfl⟩ := hr.form
  obtain ⟨no, nc, rfl⟩ := hn.strs
  have HR := hid hr
  have HN := hid hn
  have HS := hid hs
  have HB := hid hb
  obtain ⟨m, hm⟩ : ∃ m, ns.length = m := ⟨_, rfl⟩
  have hmb : m ≤ 20000 := by omega
  rw [hm]
  have HM := hid hm
  clear hr hn hs hb hl hm
  go_enter Tryz.func14, Tryz.ntmps14
  go_wp2_with fail
  go_loopw [5, 6] (fun s i wr => ∃ (k : Nat), k ≤ m ∧ i = .int .i64 (k : Int) ∧ s = strV (secondL l (ns.take k)) ∧ Below w.heap.size w wr) (fun _ i _ => m - (intOf i).toNat)
  case atStart => exact ⟨0, Nat.zero_le _, rfl, rfl, Below.refl _ _⟩
  case round =>
    obtain ⟨k, hk, rfl, rfl, hbw⟩ := hrel
    have HBW := hid hbw
    by_cases hlt : k < m
    · obtain ⟨u, hu⟩ : ∃ u, ns[k]? = some u := ⟨_, List.getElem?_eq_getElem (by rw [HM.out]; exact hlt)⟩
      obtain ⟨bb, off, hao, d0⟩ := (HN.out.below hbw).str hu
      subst hao
      have hkI : (k : Int) < (m : Int) := by omega
      have hk0 : (0 : Int) ≤ (k : Int) := by omega
      have hkw : IntKind.i64.wrap ((k : Int) + 1) = (k : Int) + 1 := IntWalk.i64_in _ (by omega)
      have htk := take_str hu
      have hub := HB.out u (List.mem_of_getElem? hu)
      have hlen : (secondL l (ns.take k)).length ≤ 18130 * 20000 := Nat.le_trans (secondL_le _ HS.out.mark) (Nat.mul_le_mul_left _ (by rw [List.length_take]; omega))
      have hg := HS.out.get u
      have hml := markT_le (x := getF l u) (by omega)
      have c1 := fun (W : World) (h : Below w.heap.size w W) => refGet_any (.slice ao l.length cap) l ⟨u.toArray⟩ W (HR.out.below h) (fun f hf => Nat.lt_of_le_of_lt (HS.out.name f hf) (by decide)) (fun f hf => Nat.le_trans (HS.out.val f hf) (by decide)) (Nat.le_trans HS.out.len (by decide)) (by rw [szL]; omega)
      rw [dtL] at c1
      have c2 := fun (W : World) => refMark_any (getF l u) W (by omega)
      have hmf : markF l u = if allF l u = [] then [45] else 61 :: markT (getF l u) := rfl
      have htt : secondL l (ns.take (k + 1)) = secondL l (ns.take k) ++ markF l u := by rw [htk, secondL_snoc]
      generalize secondL l (ns.take k) = G at hlen htt ⊢
      generalize getF l u = V at c1 c2 hmf hg hml
      generalize markT V = MT at c2 hmf hml
      obtain ⟨X1, x1, xl1, s1⟩ := sum_lists (P := Tryz.prog) [61] MT (by simp) (by omega)
      obtain ⟨X2, x2, -, s2⟩ := sum_lists (P := Tryz.prog) G X1 (by omega) (by rw [xl1]; simp; omega)
      obtain ⟨X3, x3, -, s3⟩ := sum_lists (P := Tryz.prog) G [45] (by omega) (by simp)
      have HX := hid (And.intro x1 (And.intro x2 x3))
      clear x1 x2 x3 xl1
      have C1 := hid c1
      have C2 := hid c2
      have HT := hid (And.intro htt hmf)
      have HU := hid hu
      clear c1 c2 htt hmf hu htk hub hg hbw
      by_cases he : allF l u = []
      · rw [he] at C1
        have HE := hid he
        clear he
        go_wp2_with fail
        refine (C1.out _ HBW.out).mono ?_
        rintro e w1 ⟨rfl, hb1⟩
        go_wp2_with fail
        go_roundw
        case rel =>
          refine ⟨k + 1, hlt, by simp, ?_, chain2 HBW.out HBW.out.size hb1⟩
          rw [HT.out.1, HT.out.2, if_pos HE.out, HX.out.2.2]
        case measure => simp [intOf]; omega
      · obtain ⟨q, hq⟩ : ∃ q, (allF l u).length = q := ⟨_, rfl⟩
        have hq0 : 0 < q := by rw [← hq]; exact List.length_pos_iff.2 he
        have hqI : (0 : Int) < (q : Int) := by omega
        have hqd : decide ((0 : Int) < (q : Int)) = true := decide_eq_true hqI
        have hqn : decide (0 < q) = true := decide_eq_true hq0
        rw [hq] at C1
        have HE := hid he
        clear he hq
        go_wp2_with fail
        refine (C1.out _ HBW.out).mono ?_
        rintro e w1 ⟨rfl, hb1⟩
        go_wp2_with fail
        refine (C2.out _).mono ?_
        rintro e w2 ⟨rfl, hb2⟩
        go_wp2_with fail
        go_roundw
        case rel =>
          refine ⟨k + 1, hlt, by simp, ?_, chain2 (chain2 HBW.out HBW.out.size hb1) (Nat.le_trans HBW.out.size hb1.size) hb2⟩
          rw [HT.out.1, HT.out.2, if_neg HE.out, HX.out.2.1, HX.out.1]; rfl
        case measure => simp [intOf]; omega
    · have hkm : k = m := by omega
      go_wp2_with fail
      go_ret
      refine ⟨ret_str ?_, HBW.out⟩
      rw [List.take_of_length_le (by rw [HM.out]; omega)]
end Go.Proofs.YtbjgbkbhalibdaaGreatDoor
