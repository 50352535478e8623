/-
  Contracts of package key: the key; the names that vary; all of them as the walks of layer 11 take them.
-/
import Derived.Test.YtbjgbkbhalibdaaDoorKeyB
import Derived.Test.YtbjgbkbhalibdaaDoorPureAll2
import Derived.Deep.RegionHeld
import Derived.Test.YtbjgbkbhalibdaaDoorKeySort
import Derived.Test.YtbjgbkbhalibdaaDoorFieldH
import Derived.Test.YtbjgbkbhalibdaaDoorSignLw
import Derived.Test.YtbjgbkbhalibdaaDoorLaw11C
namespace Go.Proofs.YtbjgbkbhalibdaaDoor
open Go.RowKit Go.Pantry

theorem reads_two_at (w : World) (x y : List UInt8) (e : TypeId) (cap g : Nat) (hg : g = w.heap.size) : Reads (w.alloc (.cells #[strV x, strV y] e)) (.slice (some ⟨g, 0, none⟩) 2 cap) ([x, y].map strV) := by
  subst hg; exact reads_new w ([x, y].map strV) e cap
set_option maxRecDepth 8000 in
set_option maxHeartbeats 4000000 in
theorem first_any (hv lv : Value) (s : SiteZ) (p : PlaceR) (l : List Fld) (w : World) (ht : Tab10 w) (hr : Reads2 w lv l) (hh : Reads w hv (s.heads.map strV)) (hs : SmallF l) (hl : s.heads.length ≤ 1000) (hb : ∀ y ∈ s.heads, y.length ≤ 1000) (h1 : p.host.length ≤ 1000) (h2 : p.path.length ≤ 1000) (h3 : p.query.length ≤ 1000) :
    Calls Tryd.prog 13 #[.agg (rowZ hv s), .agg #[strV p.host, strV p.path, strV p.query, .bool p.has], lv] w fun e w' => e = .returned (strV (firstL s.query s.heads p l)) ∧ Below w.heap.size w w' := by
  obtain ⟨ao, cap, rfl⟩ := hr.form
  obtain ⟨no, nc, rfl⟩ := hh.strs
  obtain ⟨m, hm⟩ : ∃ m, s.heads.length = m := ⟨_, rfl⟩
  rw [hm] at hh ⊢
  obtain ⟨W, hW⟩ : ∃ W, (w.alloc (.cells (rowZ (.slice no m nc) s) 24)).alloc (.cells #[strV p.host, strV p.path, strV p.query, .bool p.has] 26) = W := ⟨_, rfl⟩
  have hbW : Below w.heap.size w W := by rw [← hW]; exact chainK (below_alloc _ _) (below_alloc _ _)
  have q1 : rowIs W w.heap.size (rowZ (.slice no m nc) s) 24 := by rw [← hW]; exact (rowIs_new _ _ _).below (below_alloc _ _)
  have q2 : rowIs W (w.heap.size + 1) #[strV p.host, strV p.path, strV p.query, .bool p.has] 26 := by rw [← hW]; exact rowIs_new_at _ _ _ _ (by simp)
  have HQ := hid (And.intro q1 (And.intro q2 hbW))
  have m1 := mark_le h1 (by decide)
  have m2 := mark_le h2 (by decide)
  have m3 := mark_le h3 (by decide)
  have hqk : (queryK s.query p).length ≤ 1010 := by
    unfold queryK
    split
    · split
      · rw [List.length_cons]; omega
      · simp
    · simp
  have hsl := second_len hs s.heads
  have C1 := hid (fun (W' : World) (v : Value) (hT : Below w.heap.size w W') (h : Reads W' v ([p.host, p.path].map strV)) => marks_any v [p.host, p.path] W' (ht.below hT) h (by simp) (by simp; omega))
  have C2 := hid (fun (W' : World) (hT : Below w.heap.size w W') => queryMark_any (.slice no m nc) s p W' (ht.below hT) (by omega))
  have C3 := hid (fun (W' : World) (hT : Below w.heap.size w W') => second_any (.slice ao l.length cap) (.slice no m nc) l s.heads W' (ht.below hT) (hr.below hT) (hh.below hT) hs (by omega) (fun y hy => Nat.le_trans (hb y hy) (by decide)))
  have HF : Hid (firstL s.query s.heads p l = ([p.host, p.path].flatMap markT ++ queryK s.query p) ++ secondL l s.heads) := by show _ = _; simp [firstL]
  obtain ⟨K1, hK1⟩ : ∃ x, [p.host, p.path].flatMap markT = x := ⟨_, rfl⟩
  have hk1 : K1.length ≤ 2020 := by rw [← hK1]; simp; omega
  rw [hK1] at C1 HF
  generalize queryK s.query p = K2 at hqk C2 HF
  generalize secondL l s.heads = K3 at hsl C3 HF
  have hk3 : K3.length ≤ 18130 * 1000 := Nat.le_trans hsl (Nat.mul_le_mul_left _ hl)
  obtain ⟨X1, x1, xl1, s1⟩ := sum_lists (P := Tryd.prog) K1 K2 (by omega) (by omega)
  obtain ⟨X2, x2, -, s2⟩ := sum_lists (P := Tryd.prog) X1 K3 (by omega) (by omega)
  have HX := hid (And.intro x1 x2)
  clear hr hh hs ht hb hm hsl hqk hk1 hk3 m1 m2 m3 q1 q2 hbW x1 x2 xl1 hK1 hl h1 h2 h3
  go_enter Tryd.func13, Tryd.ntmps13
  go_wp2_with fail
  refine wp_region_held_drew (S := fun W' => rowIs W' w.heap.size (rowZ (.slice no m nc) s) 24 ∧ rowIs W' (w.heap.size + 1) #[strV p.host, strV p.path, strV p.query, .bool p.has] 26 ∧ Below w.heap.size w W') (by kernel_rfl) ⟨HQ.out.1, HQ.out.2.1, HQ.out.2.2.drew⟩ (fun hH => ?_)
  clear hW
  refine wpAnyH_take (i := 0) (v := ?_) rfl (by kernel_rfl) (by kernel_rfl) (by kernel_rfl) (fun _ _ _ h => h) (Or.inl ⟨by kernel_rfl, ?_⟩) hH ?_
  rotate_left
  · intro W hS
    have h0 := hS.2.1.cell 0
    have h1 := hS.2.1.cell 1
    have h6 := hS.1.cell 6
    go_simp
    first | done | with_reducible rfl
  simp only [Act.put, List.getElem_toArray, List.getElem_cons_succ, List.getElem_cons_zero, List.setIfInBounds_toArray, List.set_cons_zero, List.set_cons_succ]
  refine wpAnyH_take (i := 1) (v := ?_) rfl (by kernel_rfl) (by kernel_rfl) (by kernel_rfl) (fun _ _ _ h => h) (Or.inl ⟨by kernel_rfl, ?_⟩) hH ?_
  rotate_left
  · intro W hS
    have h0 := hS.2.1.cell 0
    have h1 := hS.2.1.cell 1
    have h6 := hS.1.cell 6
    go_simp
    first | done | with_reducible rfl
  simp only [Act.put, List.getElem_toArray, List.getElem_cons_succ, List.getElem_cons_zero, List.setIfInBounds_toArray, List.set_cons_zero, List.set_cons_succ]
  refine wpAnyH_take (i := 2) (v := ?_) rfl (by kernel_rfl) (by kernel_rfl) (by kernel_rfl) (fun _ _ _ h => h) (Or.inl ⟨by kernel_rfl, ?_⟩) hH ?_
  rotate_left
  · intro W hS
    have h0 := hS.2.1.cell 0
    have h1 := hS.2.1.cell 1
    have h6 := hS.1.cell 6
    go_simp
    first | done | with_reducible rfl
  simp only [Act.put, List.getElem_toArray, List.getElem_cons_succ, List.getElem_cons_zero, List.setIfInBounds_toArray, List.set_cons_zero, List.set_cons_succ]
  refine wpAnyH_take (i := 3) (v := ?_) rfl (by kernel_rfl) (by kernel_rfl) (by kernel_rfl) (fun _ _ _ h => h) (Or.inl ⟨by kernel_rfl, ?_⟩) hH ?_
  rotate_left
  · intro W hS
    have h0 := hS.2.1.cell 0
    have h1 := hS.2.1.cell 1
    have h6 := hS.1.cell 6
    go_simp
    first | done | with_reducible rfl
  simp only [Act.put, List.getElem_toArray, List.getElem_cons_succ, List.getElem_cons_zero, List.setIfInBounds_toArray, List.set_cons_zero, List.set_cons_succ]
  refine wpAnyH_take (i := 6) (v := .agg (rowZ (.slice no m nc) s)) rfl (by kernel_rfl) (by kernel_rfl) (by kernel_rfl) (fun _ _ _ h => h) (Or.inl ⟨by kernel_rfl, ?_⟩) hH ?_
  · intro W hS
    exact load_gives (x := .tmp 3) (by kernel_rfl) w.heap.size (by kernel_rfl) hS.1 Tryd.underlying24 rfl infoSiteK
  simp only [Act.put, List.getElem_toArray, List.getElem_cons_succ, List.getElem_cons_zero, List.setIfInBounds_toArray, List.set_cons_zero, List.set_cons_succ]
  refine wpAnyH_take (i := 7) (v := .agg #[strV p.host, strV p.path, strV p.query, .bool p.has]) rfl (by kernel_rfl) (by kernel_rfl) (by kernel_rfl) (fun _ _ _ h => h) (Or.inl ⟨by kernel_rfl, ?_⟩) hH ?_
  · intro W hS
    exact load_gives (x := .tmp 4) (by kernel_rfl) (w.heap.size + 1) (by kernel_rfl) hS.2.1 Tryd.underlying26 rfl infoPlaceQ
  simp only [Act.put, List.getElem_toArray, List.getElem_cons_succ, List.getElem_cons_zero, List.setIfInBounds_toArray, List.set_cons_zero, List.set_cons_succ]
  refine wpAnyH_take (i := 10) (v := ?_) rfl (by kernel_rfl) (by kernel_rfl) (by kernel_rfl) (fun _ _ _ h => h) (Or.inl ⟨by kernel_rfl, ?_⟩) hH ?_
  rotate_left
  · intro W hS
    have h0 := hS.2.1.cell 0
    have h1 := hS.2.1.cell 1
    have h6 := hS.1.cell 6
    go_simp
    first | done | with_reducible rfl
  simp only [Act.put, List.getElem_toArray, List.getElem_cons_succ, List.getElem_cons_zero, List.setIfInBounds_toArray, List.set_cons_zero, List.set_cons_succ]
  refine wpAnyH_take (i := 11) (v := ?_) rfl (by kernel_rfl) (by kernel_rfl) (by kernel_rfl) (fun _ _ _ h => h) (Or.inl ⟨by kernel_rfl, ?_⟩) hH ?_
  rotate_left
  · intro W hS
    have h0 := hS.2.1.cell 0
    have h1 := hS.2.1.cell 1
    have h6 := hS.1.cell 6
    go_simp
    first | done | with_reducible rfl
  simp only [Act.put, List.getElem_toArray, List.getElem_cons_succ, List.getElem_cons_zero, List.setIfInBounds_toArray, List.set_cons_zero, List.set_cons_succ]
  refine wpAnyH_take (i := 12) (v := ?_) rfl (by kernel_rfl) (by kernel_rfl) (by kernel_rfl) (fun _ _ _ h => h) (Or.inl ⟨by kernel_rfl, ?_⟩) hH ?_
  rotate_left
  · intro W hS
    have h0 := hS.2.1.cell 0
    have h1 := hS.2.1.cell 1
    have h6 := hS.1.cell 6
    go_simp
    first | done | with_reducible rfl
  simp only [Act.put, List.getElem_toArray, List.getElem_cons_succ, List.getElem_cons_zero, List.setIfInBounds_toArray, List.set_cons_zero, List.set_cons_succ]
  refine wpAnyH_ready (rs := [4]) (by kernel_rfl) (by simp) ?_
  refine AllReadyH.cons rfl (fun K hK => ?_) AllReadyH.nil
  go_simp
  have hb0 := below_alloc W.drew (.cells #[strV p.host, strV p.path] 9)
  have HR0 := hid (reads_two_at W.drew p.host p.path 9 2 W.heap.size rfl)
  refine hK.out _ _ ⟨hH.1.below hb0, hH.2.1.below hb0, chain2 hH.2.2 hH.2.2.size hb0⟩ (fun hH => ?_)
  clear hb0
  clear hK K
  try simp only [Act.put, List.getElem_toArray, List.getElem_cons_succ, List.getElem_cons_zero, List.setIfInBounds_toArray, List.set_cons_zero, List.set_cons_succ]
  refine wpAnyH_ready (rs := [5]) (by kernel_rfl) (by simp) ?_
  refine AllReadyH.cons rfl (fun K hK => ?_) AllReadyH.nil
  go_simp
  refine (C1.out _ _ hH.2.2 HR0.out).mono ?_
  rintro e w5 ⟨rfl, hb5⟩
  refine hK.out _ _ ⟨hH.1.below hb5, hH.2.1.below hb5, chain2 hH.2.2 hH.2.2.size hb5⟩ (fun hH => ?_)
  clear HR0 hb5
  clear hK K
  try simp only [Act.put, List.getElem_toArray, List.getElem_cons_succ, List.getElem_cons_zero, List.setIfInBounds_toArray, List.set_cons_zero, List.set_cons_succ]
  refine wpAnyH_ready (rs := [8]) (by kernel_rfl) (by simp) ?_
  refine AllReadyH.cons rfl (fun K hK => ?_) AllReadyH.nil
  go_simp
  refine (C2.out _ hH.2.2).mono ?_
  rintro e w8 ⟨rfl, hb8⟩
  refine hK.out _ _ ⟨hH.1.below hb8, hH.2.1.below hb8, chain2 hH.2.2 hH.2.2.size hb8⟩ (fun hH => ?_)
  clear hb8
  clear hK K
  try simp only [Act.put, List.getElem_toArray, List.getElem_cons_succ, List.getElem_cons_zero, List.setIfInBounds_toArray, List.set_cons_zero, List.set_cons_succ]
  refine wpAnyH_take (i := 9) (v := ?_) rfl (by kernel_rfl) (by kernel_rfl) (by kernel_rfl) (fun _ _ _ h => h) (Or.inl ⟨by kernel_rfl, ?_⟩) hH ?_
  rotate_left
  · intro W hS
    have h0 := hS.2.1.cell 0
    have h1 := hS.2.1.cell 1
    have h6 := hS.1.cell 6
    go_simp
    first | done | with_reducible rfl
  simp only [Act.put, List.getElem_toArray, List.getElem_cons_succ, List.getElem_cons_zero, List.setIfInBounds_toArray, List.set_cons_zero, List.set_cons_succ]
  refine wpAnyH_ready (rs := [13]) (by kernel_rfl) (by simp) ?_
  refine AllReadyH.cons rfl (fun K hK => ?_) AllReadyH.nil
  go_simp
  refine (C3.out _ hH.2.2).mono ?_
  rintro e w9 ⟨rfl, hb9⟩
  refine hK.out _ _ ⟨hH.1.below hb9, hH.2.1.below hb9, chain2 hH.2.2 hH.2.2.size hb9⟩ (fun hH => ?_)
  clear hb9
  clear hK K
  try simp only [Act.put, List.getElem_toArray, List.getElem_cons_succ, List.getElem_cons_zero, List.setIfInBounds_toArray, List.set_cons_zero, List.set_cons_succ]
  refine wpAnyH_take (i := 14) (v := ?_) rfl (by kernel_rfl) (by kernel_rfl) (by kernel_rfl) (fun _ _ _ h => h) (Or.inl ⟨by kernel_rfl, ?_⟩) hH ?_
  rotate_left
  · intro W hS
    have h0 := hS.2.1.cell 0
    have h1 := hS.2.1.cell 1
    have h6 := hS.1.cell 6
    go_simp
    first | done | with_reducible rfl
  simp only [Act.put, List.getElem_toArray, List.getElem_cons_succ, List.getElem_cons_zero, List.setIfInBounds_toArray, List.set_cons_zero, List.set_cons_succ]
  refine wpAnyH_take (i := 15) (v := ?_) rfl (by kernel_rfl) (by kernel_rfl) (by kernel_rfl) (fun _ _ _ h => h) (Or.inl ⟨by kernel_rfl, ?_⟩) hH ?_
  rotate_left
  · intro W hS
    have h0 := hS.2.1.cell 0
    have h1 := hS.2.1.cell 1
    have h6 := hS.1.cell 6
    go_simp
    first | done | with_reducible rfl
  simp only [Act.put, List.getElem_toArray, List.getElem_cons_succ, List.getElem_cons_zero, List.setIfInBounds_toArray, List.set_cons_zero, List.set_cons_succ]
  refine wpAnyH_done (by kernel_rfl) ?_ _
  have HB := hid hH.2.2
  clear hH
  go_wp2_with fail
  go_ret
  refine ⟨ret_str ?_, HB.out⟩
  rw [HF.out, HX.out.2, HX.out.1]
end Go.Proofs.YtbjgbkbhalibdaaDoor
namespace Go.Proofs.YtbjgbkbhalibdaaDoor
open Go.RowKit Go.Pantry

/-- the names ahead of their sorting -/
def rawE (es : List (List UInt8)) : List (List UInt8) := (es.filter fun e => !(e == [42])).map lowerL
theorem rawE_snoc (es : List (List UInt8)) (e : List UInt8) : rawE (es ++ [e]) = if e == [42] then rawE es else rawE es ++ [lowerL e] := by
  unfold rawE
  by_cases h : e == [42]
  · simp [h]
  · simp [h]
theorem rawE_len (es : List (List UInt8)) : (rawE es).length ≤ es.length := by
  unfold rawE; rw [List.length_map]; exact List.length_filter_le _ _
theorem rawE_vary (es : List (List UInt8)) : Lib.compact ((rawE es).mergeSort fun x y => decide (x ≤ y)) = varyE es := compact_sort _
theorem elements_small {l : List Fld} (h : SmallF l) (n : List UInt8) : (elementsF l n).length ≤ 18120 ∧ ∀ e ∈ elementsF l n, e.length ≤ 18120 := by
  have h1 := h.get n
  exact ⟨Nat.le_trans (listL_len _) h1, fun e he => Nat.le_trans (listL_size _ e he) h1⟩
set_option maxRecDepth 8000 in
set_option maxHeartbeats 4000000 in
theorem names_big (lv : Value) (l : List Fld) (w : World) (hr : Reads2 w lv l) (hs : okFs l) (hg : (getF l varyN).length ≤ 1000000) :
    Calls Tryd.prog 15 #[lv] w fun e w' => ∃ v', e = .returned (.tuple #[v', .bool (starE (elementsF l varyN))]) ∧ Reads w' v' ((varyE (elementsF l varyN)).map strV) ∧ Below w.heap.size w w' := by
  have hE : (elementsF l varyN).length ≤ 1000000 ∧ ∀ e ∈ elementsF l varyN, e.length ≤ 1000000 := ⟨Nat.le_trans (listL_len _) hg, fun e he => Nat.le_trans (listL_size _ e he) hg⟩
  have c1 := lElements_any lv l ⟨varyN.toArray⟩ w hr hs (by decide)
  rw [dtL] at c1
  generalize elementsF l varyN = E at c1 hE
  obtain ⟨n, hn⟩ : ∃ n, E.length = n := ⟨_, rfl⟩
  have hnb : n ≤ 1000000 := by omega
  have HN := hid hn
  have HE := hid hE.2
  have C1 := hid c1
  clear hr hs c1 hE hn hg
  go_enter Tryd.func15, Tryd.ntmps15
  go_wp2_with fail
  refine C1.out.mono ?_
  rintro e w1 ⟨⟨v1, rfl, ho⟩, hb1⟩
  have hr1 := ho.reads
  obtain ⟨eo, ec, rfl⟩ := hr1.strs
  have HR := hid hr1
  have HB1 := hid hb1
  rw [HN.out]
  clear ho hr1 hb1
  go_wp2_with fail
  go_loopw [4, 5, 11] (fun v' st z wr => ∃ (k m : Nat), z = .int .i64 (k : Int) ∧ k ≤ n ∧ m ≤ k ∧ m = (rawE (E.take k)).length ∧ st = .bool (starE (E.take k)) ∧ wr.ownsRow w1.heap.size 9 1 v' m ((rawE (E.take k)).map strV) ∧ Below w1.heap.size w1 wr) (fun _ _ z _ => n - (intOf z).toNat)
  case atStart => exact ⟨0, 0, rfl, Nat.zero_le _, Nat.le_refl _, rfl, rfl, World.ownsRow_nil _ _ _ _, Below.refl _ _⟩
  case round =>
    obtain ⟨k, m, rfl, hk, hmk, hm, rfl, ho, hb⟩ := hrel
    have HB := hid hb
    have HO := hid ho
    have HM := hid hm
    clear ho hm
    by_cases hlt : k < n
    · obtain ⟨u, hu⟩ : ∃ u, E[k]? = some u := ⟨_, List.getElem?_eq_getElem (by rw [HN.out]; exact hlt)⟩
      obtain ⟨bb, off, heo, d0⟩ := (HR.out.below hb).str hu
      subst heo
      have hkI : (k : Int) < (n : Int) := by omega
      have hk0 : (0 : Int) ≤ (k : Int) := by omega
      have hkw : IntKind.i64.wrap ((k : Int) + 1) = (k : Int) + 1 := IntWalk.i64_in _ (by omega)
      have htk := take_str hu
      have hub := HE.out u (List.mem_of_getElem? hu)
      have hse : starE (E.take (k + 1)) = (starE (E.take k) || u == [42]) := by rw [htk, starE_snoc]
      have hve : rawE (E.take (k + 1)) = if u == [42] then rawE (E.take k) else rawE (E.take k) ++ [lowerL u] := by rw [htk, rawE_snoc]
      obtain ⟨X, hX⟩ : ∃ X, rawE (E.take k) = X := ⟨_, rfl⟩
      obtain ⟨b, hbq⟩ : ∃ b, starE (E.take k) = b := ⟨_, rfl⟩
      rw [hX] at hve HO HM
      rw [hbq] at hse ⊢
      have HV := hid (And.intro hse hve)
      clear hse hve htk hu hb hX hbq
      cases hz : (u == [42])
      · have c2 := fun (W : World) => Lower_any ⟨u.toArray⟩ W (by rw [szL]; unfold maxLen; omega)
        rw [dtL] at c2
        have C2 := hid c2
        clear c2
        go_wp2_with fail
        refine (C2.out _).mono ?_
        rintro e w2 ⟨rfl, hb2⟩
        have ho2 := HO.out.below hb2
        have hbw2 := chain2 HB.out HB.out.size hb2
        have hs2 := hbw2.size
        have HB2 := hid hbw2
        clear hb2 d0 hbw2
        go_wp2_with ((at_builtin; go_must (refine wpList_append_one _ rfl _ _ 22 rfl w1.heap.size 9 Tryd.underlying22 infoStr rfl (by decide) rfl ho2 rfl (by first | rfl | simp) (by omega) hs2 ?_); intro v3 w3 ho3 hg3 hb3))
        go_roundw
        case rel =>
          refine ⟨k + 1, m + 1, by go_num, hlt, by omega, ?_, ?_, ?_, HB2.out.trans hb3⟩
          · rw [HV.out.2, hz, HM.out]; simp
          · rw [HV.out.1, hz, Bool.or_false]
          · rw [HV.out.2, hz]; simpa using ho3
        case measure => simp [intOf]; omega
      · go_wp2_with fail
        go_roundw
        case rel =>
          refine ⟨k + 1, m, by go_num, hlt, by omega, ?_, ?_, ?_, HB.out⟩
          · rw [HV.out.2, hz]; exact HM.out
          · rw [HV.out.1, hz, Bool.or_true]
          · rw [HV.out.2, hz]; exact HO.out
        case measure => simp [intOf]; omega
    · have hkn : k = n := by omega
      have e0 : E.take k = E := List.take_of_length_le (by rw [HN.out]; omega)
      rw [e0] at HO HM ⊢
      have ho := HO.out
      rw [HM.out] at ho
      have hrl := rawE_len E
      have hrb : (rawE E).length ≤ 1000000 := by have := HN.out; omega
      have c3 := sort_made _ (rawE E) wr ho hrb
      have C3 := hid c3
      have HRB := hid hrb
      have HMM := hid (And.intro hmk hkn)
      clear c3 ho hrl hrb hmk hkn
      go_wp2_with fail
      refine C3.out.mono ?_
      rintro e w2 ⟨rfl, ho2, hb2, hs2⟩
      have hln : (rawE E).length = ((rawE E).mergeSort fun x y => decide (x ≤ y)).length := by simp
      rw [hln] at ho2
      have C4 := hid (compact_made _ ((rawE E).mergeSort fun x y => decide (x ≤ y)) w2 ho2 (by rw [← hln]; exact HRB.out))
      have HB2 := hid (And.intro hb2 hs2)
      clear ho2 hb2 hs2 hln
      go_wp2_with fail
      refine C4.out.mono ?_
      rintro e w3 ⟨v3, rfl, ho3, hb3, hs3⟩
      rw [rawE_vary] at ho3
      have HB3 := hid (And.intro hb3 hs3)
      have HR3 := hid ho3.reads
      clear ho3 hb3 hs3
      go_wp2_with fail
      go_ret2
      refine ⟨_, rfl, HR3.out, chain2 HB1.out HB1.out.size ?_⟩
      exact (HB.out.trans HB2.out.1).trans HB3.out.1
end Go.Proofs.YtbjgbkbhalibdaaDoor
namespace Go.Proofs.YtbjgbkbhalibdaaDoor
open Go.RowKit Go.Pantry

theorem names_any (lv : Value) (l : List Fld) (w : World) (hr : Reads2 w lv l) (hs : SmallF l) :
    Calls Tryd.prog 15 #[lv] w fun e w' => ∃ v', e = .returned (.tuple #[v', .bool (starE (elementsF l varyN))]) ∧ Reads w' v' ((varyE (elementsF l varyN)).map strV) ∧ Below w.heap.size w w' :=
  names_big lv l w hr hs.okFs (Nat.le_trans (hs.get varyN) (by decide))
theorem keys_ok : Keys Tab10 where
  keep := fun _ _ h hb => h.below hb
  first := fun hv lv s p l w ok hr hh hs hl hb h1 h2 h3 => first_any hv lv s p l w ok hr hh hs hl hb h1 h2 h3
  second := fun lv nv l ns w ok hr hn hs hl hb => second_any lv nv l ns w ok hr hn hs hl hb
  names := fun lv l w _ hr hs => names_any lv l w hr hs
end Go.Proofs.YtbjgbkbhalibdaaDoor
