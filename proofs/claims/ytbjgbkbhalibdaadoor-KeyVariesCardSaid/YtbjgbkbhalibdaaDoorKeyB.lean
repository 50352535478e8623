/-
  Contracts of package key: the marks of texts, of a query, of a field; the second key.
-/
import Derived.Test.YtbjgbkbhalibdaaDoorFieldE
import Derived.Test.YtbjgbkbhalibdaaDoorRef11K
import Derived.Test.YtbjgbkbhalibdaaDoorWireI
import Derived.Test.YtbjgbkbhalibdaaDoorKeySite
namespace Go.Proofs.YtbjgbkbhalibdaaDoor
open Go.RowKit Go.Pantry

theorem join_flat : ∀ l : List (List UInt8), Lib.join l [] = l.flatten
  | [] => rfl
  | [a] => by simp [Lib.join]
  | a :: b :: r => by
    have h := join_flat (b :: r)
    unfold Lib.join at h ⊢
    show [].intercalate (a :: b :: r) = a ++ (b :: r).flatten
    rw [← h]
    simp [List.intercalate]
theorem join_bare {B : Nat} {e : TypeId} (v : Value) (l : List (List UInt8)) (w : World) (ho : w.ownsRow B e 1 v l.length (l.map strV)) (hl : l.length ≤ 140737488355328) (hj : l.flatten.length ≤ 140737488355328) :
    Calls Tryd.prog 23 #[v, .string ⟨#[]⟩] w fun e w' => e = .returned (strV l.flatten) ∧ Below w.heap.size w w' := by
  rcases ho.2 with ⟨rfl, hn⟩ | ⟨g, cap, cur, rfl, hb, hg, hnc, hcm, hcs, htake⟩
  · have : l = [] := List.eq_nil_of_length_eq_zero hn
    subst this
    refine (Tryd.strings_Join_none none 0 ⟨#[]⟩ w).mono ?_
    rintro e w' ⟨rfl, rfl⟩
    exact ⟨rfl, Below.refl _ _⟩
  · have hx : (l.map fun x => (⟨x.toArray⟩ : ByteArray)).map (·.data.toList) = l := by rw [List.map_map]; exact List.map_id' _
    have hxl : (l.map fun x => (⟨x.toArray⟩ : ByteArray)).length = l.length := by simp
    have c := Tryd.strings_Join g 0 cap (l.map fun x => (⟨x.toArray⟩ : ByteArray)) ⟨#[]⟩ w (fun j x hx => by
        have h1 := ho.row.cell j (.string x) (by
          rw [List.getElem?_map, Option.map_eq_some_iff] at hx
          obtain ⟨y, hy, rfl⟩ := hx
          rw [List.getElem?_map, hy]; rfl)
        rw [Nat.zero_add]; exact h1) (Array.getElem?_eq_some_iff.1 hg).1 (by omega) (by omega) (by
        rw [hx]
        show (Lib.join l []).length ≤ _
        rw [join_flat]; exact hj)
    rw [hx, hxl] at c
    refine c.mono ?_
    rintro e w' ⟨rfl, hb'⟩
    refine ⟨?_, hb'⟩
    show Ending.returned (strV (Lib.join l [])) = _
    rw [join_flat]
end Go.Proofs.YtbjgbkbhalibdaaDoor
namespace Go.Proofs.YtbjgbkbhalibdaaDoor
open Go.RowKit Go.Pantry

/-- the texts of which marks are made -/
def cutsT (T : List (List UInt8)) : List (List UInt8) := T.flatMap fun t => [decL t.length, [58], t]
theorem cutsT_flat (T : List (List UInt8)) : (cutsT T).flatten = T.flatMap markT := by
  induction T with
  | nil => rfl
  | cons t T ih =>
    have e : cutsT (t :: T) = [decL t.length, [58], t] ++ cutsT T := rfl
    rw [e, List.flatten_append, ih, List.flatMap_cons]
    simp [markT]
theorem cutsT_snoc (T : List (List UInt8)) (t : List UInt8) : cutsT (T ++ [t]) = cutsT T ++ [decL t.length, [58], t] := by simp [cutsT]
theorem cutsT_len (T : List (List UInt8)) : (cutsT T).length = 3 * T.length := by
  induction T with
  | nil => rfl
  | cons t T ih =>
    have e : cutsT (t :: T) = [decL t.length, [58], t] ++ cutsT T := rfl
    rw [e, List.length_append, ih]; simp; omega
theorem marks_len {T : List (List UInt8)} {c : Nat} (h : ∀ t ∈ T, t.length ≤ c) (hc : c < 8000000) : (T.flatMap markT).length ≤ (c + 9) * T.length := by
  induction T with
  | nil => simp
  | cons t T ih =>
    have h1 := ih (fun x hx => h x (List.mem_cons_of_mem _ hx))
    have h2 := h t (List.mem_cons_self ..)
    have h3 := markT_len (x := t) (f := 7) (by omega)
    rw [List.flatMap_cons, List.length_append, List.length_cons, Nat.mul_succ]; omega
set_option maxRecDepth 4000 in
set_option maxHeartbeats 2000000 in
theorem marks_any (v : Value) (T : List (List UInt8)) (w : World) (ht : Tab10 w) (hr : Reads w v (T.map strV)) (hn : T.length ≤ 4) (hb : ∀ t ∈ T, t.length ≤ 100000) :
    Calls Tryd.prog 20 #[v] w fun e w' => e = .returned (strV (T.flatMap markT)) ∧ Below w.heap.size w w' := by
  obtain ⟨ao, cap, rfl⟩ := hr.strs
  obtain ⟨n, hnn⟩ : ∃ n, T.length = n := ⟨_, rfl⟩
  have hml := marks_len hb (by decide)
  have HR := hid hr
  have HT := hid ht
  have HB := hid hb
  have HN := hid hnn
  have HML := hid hml
  rw [hnn] at hn ⊢
  clear hr ht hb hnn hml
  go_enter Tryd.func20, Tryd.ntmps20
  go_wp2_with fail
  go_loopw [3, 8] (fun v' i wr => ∃ (k m : Nat), k ≤ n ∧ m = 3 * k ∧ i = .int .i64 k ∧ wr.ownsRow w.heap.size 9 1 v' m ((cutsT (T.take k)).map strV) ∧ Below w.heap.size w wr) (fun _ i _ => n - (intOf i).toNat)
  case atStart => exact ⟨0, 0, Nat.zero_le _, rfl, rfl, World.ownsRow_nil _ _ _ _, Below.refl _ _⟩
  case round =>
    obtain ⟨k, m, hk, hm, rfl, ho, hbw⟩ := hrel
    have HBW := hid hbw
    have HO := hid ho
    have HM := hid hm
    clear ho hm
    by_cases hlt : k < n
    · obtain ⟨u, hu⟩ : ∃ u, T[k]? = some u := ⟨_, List.getElem?_eq_getElem (by rw [HN.out]; exact hlt)⟩
      obtain ⟨bb, off, hao, d0⟩ := (HR.out.below hbw).str hu
      subst hao
      have hkI : (k : Int) < (n : Int) := by omega
      have hk0 : (0 : Int) ≤ (k : Int) := by omega
      have hkw : IntKind.i64.wrap ((k : Int) + 1) = (k : Int) + 1 := IntWalk.i64_in _ (by omega)
      have hub := HB.out u (List.mem_of_getElem? hu)
      have hst : cutsT (T.take (k + 1)) = cutsT (T.take k) ++ [decL u.length, [58], u] := by rw [take_str hu, cutsT_snoc]
      have c1 := fun (W : World) (h : Below w.heap.size w W) => itoa_any u.length (by omega) W (HT.out.below h)
      have hz : ((⟨u.toArray⟩ : ByteArray).size : Int) = (u.length : Int) := by rw [szL]
      generalize decL u.length = D at c1 hst
      have C1 := hid c1
      have HS := hid hst
      clear c1 hst hu hbw
      go_wp2_with fail
      refine (C1.out _ HBW.out).mono ?_
      rintro e w2 ⟨rfl, hb2⟩
      have hbX := below_alloc w2 (.cells #[strV D, strV [58], strV u] 9)
      have hrX : Reads (w2.alloc (.cells #[strV D, strV [58], strV u] 9)) (.slice (some ⟨w2.heap.size, 0, none⟩) 3 3) [strV D, strV [58], strV u] := reads_new w2 [strV D, strV [58], strV u] 9 3
      have hbw2 := chain2 HBW.out HBW.out.size hb2
      have hbx := chain2 hbw2 hbw2.size hbX
      have ho2 := (HO.out.below hb2).below hbX
      have hsX := hbx.size
      have hmI : m ≤ 12 := by rw [HM.out]; omega
      have HBX := hid hbx
      clear hb2 hbX hbw2 d0 hbx
      go_wp2_with (at_builtin; go_must (refine wpList_append_all _ rfl _ _ 22 rfl w.heap.size 9 Tryd.underlying22 infoStr rfl (by decide) rfl ho2 hrX (by simp [Value.oneCell']) rfl (by simp; omega) hsX ?_); intro v3 w3 ho3 hg3 hb3)
      go_roundw
      case rel =>
        refine ⟨k + 1, m + 3, hlt, by rw [HM.out]; omega, by go_num, ?_, HBX.out.trans hb3⟩
        rw [HS.out, List.map_append]; exact ho3
      case measure => simp [intOf]; omega
    · have hk2 : T.take k = T := List.take_of_length_le (by rw [HN.out]; omega)
      have ho := HO.out
      rw [hk2, show m = (cutsT T).length by rw [cutsT_len, HM.out, HN.out]; omega] at ho
      have c2 := join_bare _ (cutsT T) wr ho (by rw [cutsT_len, HN.out]; omega) (by rw [cutsT_flat]; have := HML.out; rw [HN.out] at this; omega)
      rw [cutsT_flat] at c2
      have C2 := hid c2
      clear c2 ho hk2
      go_wp2_with fail
      refine C2.out.mono ?_
      rintro e w2 ⟨rfl, hb2⟩
      go_wp2_with fail
      go_ret
      exact ⟨rfl, chain2 hbw hbw.size hb2⟩
end Go.Proofs.YtbjgbkbhalibdaaDoor
namespace Go.Proofs.YtbjgbkbhalibdaaDoor
open Go.RowKit Go.Pantry

theorem infoPlaceQ : (Tryd.prog.info? 26).map (·.size) = some 4 := by kernel_rfl
theorem SmallF.okFs {l : List Fld} (h : SmallF l) : okFs l := ⟨Nat.le_trans h.len (by decide), fun f hf => ⟨Nat.le_trans (h.name f hf) (by decide), Nat.le_trans (h.val f hf) (by decide)⟩⟩
theorem mark_le {x : List UInt8} {c : Nat} (h : x.length ≤ c) (hc : c < 8000000) : (markT x).length ≤ c + 9 := by have := markT_len (x := x) (f := 7) (by omega); omega
theorem markF_small {l : List Fld} (h : SmallF l) (n : List UInt8) : (markF l n).length ≤ 18130 := by
  have h1 := h.get n
  unfold markF
  split
  · simp
  · have h2 := markT_len (x := getF l n) (f := 7) (by omega)
    rw [List.length_cons]; omega
theorem second_len {l : List Fld} (h : SmallF l) (ns : List (List UInt8)) : (secondL l ns).length ≤ 18130 * ns.length := by
  induction ns with
  | nil => simp [secondL]
  | cons n ns ih =>
    have e : secondL l (n :: ns) = markF l n ++ secondL l ns := rfl
    have := markF_small h n
    rw [e, List.length_append, List.length_cons, Nat.mul_succ]; omega
set_option maxRecDepth 4000 in
theorem queryMark_any (hv : Value) (s : SiteZ) (p : PlaceR) (w : World) (ht : Tab10 w) (h3 : p.query.length ≤ 100000) :
    Calls Tryd.prog 21 #[.agg (rowZ hv s), .agg #[strV p.host, strV p.path, strV p.query, .bool p.has]] w fun e w' => e = .returned (strV (queryK s.query p)) ∧ Below w.heap.size w w' := by
  obtain ⟨host, path, query, has⟩ := p
  obtain ⟨sh, so, smin, smax, sq, sk, heads⟩ := s
  simp only at h3 ⊢
  obtain ⟨W, hW⟩ : ∃ W, (w.alloc (.cells (rowZ hv ⟨sh, so, smin, smax, sq, sk, heads⟩) 24)).alloc (.cells #[strV host, strV path, strV query, .bool has] 26) = W := ⟨_, rfl⟩
  have hbW : Below w.heap.size w W := by rw [← hW]; exact chainK (below_alloc _ _) (below_alloc _ _)
  have q1 : rowIs W w.heap.size (rowZ hv ⟨sh, so, smin, smax, sq, sk, heads⟩) 24 := by rw [← hW]; exact (rowIs_new _ _ _).below (below_alloc _ _)
  have q2 : rowIs W (w.heap.size + 1) #[strV host, strV path, strV query, .bool has] 26 := by rw [← hW]; exact rowIs_new_at _ _ _ _ (by simp)
  have y4 : W.cell? ⟨w.heap.size, 4, none⟩ = some (.bool sq) := q1.cell 4
  have y3 : W.cell? ⟨w.heap.size + 1, 3, none⟩ = some (.bool has) := q2.cell 3
  have y2 : W.cell? ⟨w.heap.size + 1, 2, none⟩ = some (strV query) := q2.cell 2
  have HB := hid hbW
  have HT := hid (ht.below hbW)
  have hm := mark_le h3 (by decide)
  have c1 := fun (W' : World) (v : Value) (hT : Tab10 W') (h : Reads W' v ([query].map strV)) => marks_any v [query] W' hT h (by simp) (by simpa using h3)
  simp only [List.flatMap_cons, List.flatMap_nil, List.append_nil] at c1
  obtain ⟨M, hM⟩ : ∃ M, markT query = M := ⟨_, rfl⟩
  rw [hM] at c1 hm
  obtain ⟨X, x1, -, s1⟩ := sum_lists (P := Tryd.prog) [63] M (by simp) (by omega)
  have C1 := hid c1
  have HX := hid (And.intro x1 hM)
  clear q1 q2 hbW ht c1 x1 hM hm
  cases sq with
  | false =>
    go_enter Tryd.func21, Tryd.ntmps21
    go_wp2_with fail
    go_ret
    exact ⟨rfl, HB.out⟩
  | true =>
    cases has with
    | false =>
      go_enter Tryd.func21, Tryd.ntmps21
      go_wp2_with fail
      go_ret
      exact ⟨rfl, HB.out⟩
    | true =>
      go_enter Tryd.func21, Tryd.ntmps21
      go_wp2_with fail
      clear hW
      have hb0 := below_alloc W (.cells #[strV query] 9)
      refine (C1.out _ _ (HT.out.below hb0) (reads_one_at W query _ _ _ (by first | rfl | simp [← hW]))).mono ?_
      rintro e w2 ⟨rfl, hb2⟩
      have hbw := chain2 HB.out HB.out.size (chain2 hb0 hb0.size hb2)
      clear hb0 hb2
      go_wp2_with fail
      go_ret
      refine ⟨ret_str ?_, hbw⟩
      rw [HX.out.1, ← HX.out.2]; rfl
theorem fieldMark_any (lv : Value) (l : List Fld) (n : List UInt8) (w : World) (ht : Tab10 w) (hr : Reads2 w lv l) (hs : SmallF l) (hn : n.length ≤ 100000) :
    Calls Tryd.prog 22 #[lv, strV n] w fun e w' => e = .returned (strV (markF l n)) ∧ Below w.heap.size w w' := by
  have c1 := lGet_any lv l ⟨n.toArray⟩ w hr hs.okFs (by rw [szL]; exact hn)
  rw [dtL] at c1
  have hg := hs.get n
  have hm := mark_le hg (by decide)
  have c2 := fun (W' : World) (v : Value) (hT : Tab10 W') (h : Reads W' v ([getF l n].map strV)) => marks_any v [getF l n] W' hT h (by simp) (by simp; omega)
  simp only [List.flatMap_cons, List.flatMap_nil, List.append_nil] at c2
  have hmf : markF l n = if allF l n = [] then [45] else 61 :: markT (getF l n) := rfl
  generalize getF l n = G at c1 c2 hmf hm hg
  obtain ⟨M, hM⟩ : ∃ M, markT G = M := ⟨_, rfl⟩
  rw [hM] at c2 hm hmf
  obtain ⟨X, x1, -, s1⟩ := sum_lists (P := Tryd.prog) [61] M (by simp) (by omega)
  have C2 := hid c2
  have HT := hid ht
  have HX := hid (And.intro x1 hmf)
  clear c2 ht x1 hM hm hmf hr hg
  by_cases he : allF l n = []
  · rw [he] at c1
    have C1 := hid c1
    have HE := hid he
    clear c1 he
    go_enter Tryd.func22, Tryd.ntmps22
    go_wp2_with fail
    refine C1.out.mono ?_
    rintro e w1 ⟨rfl, hb1⟩
    go_wp2_with fail
    go_ret
    refine ⟨ret_str ?_, hb1⟩
    rw [HX.out.2, if_pos HE.out]
  · have hf : (allF l n).isEmpty = false := by cases h : allF l n; exact absurd h he; rfl
    rw [hf] at c1
    have C1 := hid c1
    have HE := hid he
    clear c1 he hf
    go_enter Tryd.func22, Tryd.ntmps22
    go_wp2_with fail
    refine C1.out.mono ?_
    rintro e w1 ⟨rfl, hb1⟩
    go_wp2_with fail
    have hb0 := below_alloc w1 (.cells #[strV G] 9)
    refine (C2.out _ _ ((HT.out.below hb1).below hb0) (reads_one_at w1 G _ _ _ rfl)).mono ?_
    rintro e w2 ⟨rfl, hb2⟩
    have hbw := chain2 hb1 hb1.size (chain2 hb0 hb0.size hb2)
    clear hb0 hb2
    go_wp2_with fail
    go_ret
    refine ⟨ret_str ?_, hbw⟩
    rw [HX.out.2, if_neg HE.out, HX.out.1]; rfl
theorem secondL_flat (l : List Fld) (ns : List (List UInt8)) : (ns.map (markF l)).flatten = secondL l ns := by simp [secondL, List.flatMap]
set_option maxRecDepth 4000 in
theorem second_any (lv nv : Value) (l : List Fld) (ns : List (List UInt8)) (w : World) (ht : Tab10 w) (hr : Reads2 w lv l) (hn : Reads w nv (ns.map strV)) (hs : SmallF l) (hl : ns.length ≤ 20000) (hb : ∀ n ∈ ns, n.length ≤ 20000) :
    Calls Tryd.prog 14 #[lv, nv] w fun e w' => e = .returned (strV (secondL l ns)) ∧ Below w.heap.size w w' := by
  obtain ⟨ao, cap, rfl⟩ := hr.form
  obtain ⟨no, nc, rfl⟩ := hn.strs
  obtain ⟨n, hnn⟩ : ∃ n, ns.length = n := ⟨_, rfl⟩
  have hml := second_len hs ns
  have C1 := hid (fun (u : List UInt8) (W : World) (h : Below w.heap.size w W) (hu : u.length ≤ 20000) => fieldMark_any (.slice ao l.length cap) l u W (ht.below h) (hr.below h) hs (by omega))
  have HR := hid hn
  have HB := hid hb
  have HN := hid hnn
  have HML := hid hml
  rw [hnn] at hl ⊢
  clear hr hn hs ht hb hnn hml
  go_enter Tryd.func14, Tryd.ntmps14
  go_wp2_with fail
  go_loopw [5, 10] (fun v' i wr => ∃ (k : Nat), k ≤ n ∧ i = .int .i64 k ∧ wr.ownsRow w.heap.size 9 1 v' k (((ns.take k).map (markF l)).map strV) ∧ Below w.heap.size w wr) (fun _ i _ => n - (intOf i).toNat)
  case atStart => exact ⟨0, Nat.zero_le _, rfl, World.ownsRow_nil _ _ _ _, Below.refl _ _⟩
  case round =>
    obtain ⟨k, hk, rfl, ho, hbw⟩ := hrel
    have HBW := hid hbw
    have HO := hid ho
    clear ho
    by_cases hlt : k < n
    · obtain ⟨u, hu⟩ : ∃ u, ns[k]? = some u := ⟨_, List.getElem?_eq_getElem (by rw [HN.out]; exact hlt)⟩
      obtain ⟨bb, off, hao, d0⟩ := (HR.out.below hbw).str hu
      subst hao
      have hkI : (k : Int) < (n : Int) := by omega
      have hk0 : (0 : Int) ≤ (k : Int) := by omega
      have hkw : IntKind.i64.wrap ((k : Int) + 1) = (k : Int) + 1 := IntWalk.i64_in _ (by omega)
      have hub := HB.out u (List.mem_of_getElem? hu)
      have hst : (ns.take (k + 1)).map (markF l) = (ns.take k).map (markF l) ++ [markF l u] := by rw [take_str hu, List.map_append]; rfl
      have c1 := fun (W : World) (h : Below w.heap.size w W) => C1.out u W h hub
      generalize markF l u = D at c1 hst
      have C2 := hid c1
      have HS := hid hst
      clear c1 hst hu hbw
      go_wp2_with fail
      refine (C2.out _ HBW.out).mono ?_
      rintro e w2 ⟨rfl, hb2⟩
      have ho2 := HO.out.below hb2
      have hbw2 := chain2 HBW.out HBW.out.size hb2
      have hs2 := hbw2.size
      have HB2 := hid hbw2
      clear hb2 d0 hbw2
      go_wp2_with ((at_builtin; go_must (refine wpList_append_one _ rfl _ _ 22 rfl w.heap.size 9 Tryd.underlying22 infoStr rfl (by decide) rfl ho2 rfl (by first | rfl | simp) (by omega) hs2 ?_); intro v3 w3 ho3 hg3 hb3))
      go_roundw
      case rel =>
        refine ⟨k + 1, hlt, by go_num, ?_, HB2.out.trans hb3⟩
        rw [HS.out]; simpa using ho3
      case measure => simp [intOf]; omega
    · have hk2 : ns.take k = ns := List.take_of_length_le (by rw [HN.out]; omega)
      have ho := HO.out
      rw [hk2, show k = (ns.map (markF l)).length by rw [List.length_map, HN.out]; omega] at ho
      have c2 := join_bare _ (ns.map (markF l)) wr ho (by rw [List.length_map, HN.out]; omega) (by rw [secondL_flat]; have := HML.out; rw [HN.out] at this; omega)
      rw [secondL_flat] at c2
      have C2 := hid c2
      clear c2 ho hk2
      go_wp2_with fail
      refine C2.out.mono ?_
      rintro e w2 ⟨rfl, hb2⟩
      go_wp2_with fail
      go_ret
      exact ⟨rfl, chain2 hbw hbw.size hb2⟩
end Go.Proofs.YtbjgbkbhalibdaaDoor
