/-
  The walk of the statement HeadResponses.
-/
import Derived.Test.YtjfkehdlamnigaaGreatDoorLaw05A
import Derived.Test.YtjfkehdlamnigaaGreatDoorLaw05S
import Derived.Test.YtjfkehdlamnigaaGreatDoorMade5
import Derived.Test.YtjfkehdlamnigaaGreatDoorResS
import Derived.Test.YtjfkehdlamnigaaGreatDoorResT
import Derived.Test.YtjfkehdlamnigaaGreatDoorHeadI
namespace Go.Proofs.YtjfkehdlamnigaaGreatDoor
open Go.RowKit Go.Pantry

set_option maxRecDepth 100000 in
set_option maxHeartbeats 4000000 in
theorem madeRes_any (st : Int) (m : List UInt8) (z : Int) (v : Value) (L : List Fld) (w : World) (hr : Reads2 w v L) (hn : L.length < 1000000) :
    Calls Tryz.prog 7 #[.agg #[.int .i64 st, strV m, .int .i64 z, v]] w fun e w' => MadeHd m [] st z L e w' ∧ Below w.heap.size w w' := by
  obtain ⟨ao, cap, rfl⟩ := hr.form
  have cf := fun W h => Fields_any (.slice ao L.length cap) L W h hn
  have CF := hid cf
  have HR := hid hr
  clear cf hr
  obtain ⟨W, hW⟩ : ∃ W, W = (w.alloc (.cells #[.int .i64 st, strV m, .int .i64 z, .slice ao L.length cap] 30)).alloc (.cells #[.string ⟨#[]⟩, .string ⟨#[]⟩, .int .i64 0, .int .i64 0, .slice none 0 0] 33) := ⟨_, rfl⟩
  have hbW : Below w.heap.size w W := by rw [hW]; exact (below_alloc _ _).alloc (by simp) _
  have hg : rowIs W w.heap.size #[.int .i64 st, strV m, .int .i64 z, .slice ao L.length cap] 30 := by rw [hW]; exact (rowIs_new _ _ _).below (below_alloc _ _)
  have hg2 : rowIs W (w.heap.size + 1) #[.string ⟨#[]⟩, .string ⟨#[]⟩, .int .i64 0, .int .i64 0, .slice none 0 0] 33 := by rw [hW]; exact rowIs_new_at _ _ _ _ (by simp)
  have HS : MadeS w w.heap.size #[.int .i64 st, strV m, .int .i64 z, .slice ao L.length cap] 30 (w.heap.size + 1) 33 W.drew := ⟨hbW.drew, hbW.size, hg, ⟨_, hg2, rfl⟩⟩
  have hne : w.heap.size ≠ w.heap.size + 1 := by omega
  have hrl : w.heap.size + 1 < W.drew.heap.size := hg2.lt
  clear hbW hg hg2
  go_enter Tryz.func7, Tryz.ntmps7
  go_wp2_with fail
  rw [← hW]
  clear hW
  refine wp_region_held_drew (S := MadeS w w.heap.size #[.int .i64 st, strV m, .int .i64 z, .slice ao L.length cap] 30 (w.heap.size + 1) 33) (by kernel_rfl) HS (fun hH => ?_)
  refine wpAnyH_take (i := 0) (v := ?_) rfl (by kernel_rfl) (by kernel_rfl) (by kernel_rfl) (fun _ _ _ h => h) (Or.inl ⟨by kernel_rfl, ?_⟩) hH ?_
  rotate_left
  · intro W hS
    have h0 := hS.2.2.1.cell 0
    have h1 := hS.2.2.1.cell 1
    have h2 := hS.2.2.1.cell 2
    have h3 := hS.2.2.1.cell 3
    go_simp
    first | done | with_reducible rfl
  simp only [Act.put, List.getElem_toArray, List.getElem_cons_zero, List.setIfInBounds_toArray, List.set_cons_zero, List.set_cons_succ]
  refine wpAnyH_take (i := 1) (v := ?_) rfl (by kernel_rfl) (by kernel_rfl) (by kernel_rfl) (fun _ _ _ h => h) (Or.inl ⟨by kernel_rfl, ?_⟩) hH ?_
  rotate_left
  · intro W hS
    have h0 := hS.2.2.1.cell 0
    have h1 := hS.2.2.1.cell 1
    have h2 := hS.2.2.1.cell 2
    have h3 := hS.2.2.1.cell 3
    go_simp
    first | done | with_reducible rfl
  simp only [Act.put, List.getElem_toArray, List.getElem_cons_succ, List.getElem_cons_zero, List.setIfInBounds_toArray, List.set_cons_zero, List.set_cons_succ]
  refine wpAnyH_take (i := 2) (v := ?_) rfl (by kernel_rfl) (by kernel_rfl) (by kernel_rfl) (fun _ _ _ h => h) (Or.inl ⟨by kernel_rfl, ?_⟩) hH ?_
  rotate_left
  · intro W hS
    have h0 := hS.2.2.1.cell 0
    have h1 := hS.2.2.1.cell 1
    have h2 := hS.2.2.1.cell 2
    have h3 := hS.2.2.1.cell 3
    go_simp
    first | done | with_reducible rfl
  simp only [Act.put, List.getElem_toArray, List.getElem_cons_succ, List.getElem_cons_zero, List.setIfInBounds_toArray, List.set_cons_zero, List.set_cons_succ]
  refine wpAnyH_take (i := 3) (v := ?_) rfl (by kernel_rfl) (by kernel_rfl) (by kernel_rfl) (fun _ _ _ h => h) (Or.inl ⟨by kernel_rfl, ?_⟩) hH ?_
  rotate_left
  · intro W hS
    have h0 := hS.2.2.1.cell 0
    have h1 := hS.2.2.1.cell 1
    have h2 := hS.2.2.1.cell 2
    have h3 := hS.2.2.1.cell 3
    go_simp
    first | done | with_reducible rfl
  simp only [Act.put, List.getElem_toArray, List.getElem_cons_succ, List.getElem_cons_zero, List.setIfInBounds_toArray, List.set_cons_zero, List.set_cons_succ]
  refine wpAnyH_take (i := 4) (v := ?_) rfl (by kernel_rfl) (by kernel_rfl) (by kernel_rfl) (fun _ _ _ h => h) (Or.inl ⟨by kernel_rfl, ?_⟩) hH ?_
  rotate_left
  · intro W hS
    have h0 := hS.2.2.1.cell 0
    have h1 := hS.2.2.1.cell 1
    have h2 := hS.2.2.1.cell 2
    have h3 := hS.2.2.1.cell 3
    go_simp
    first | done | with_reducible rfl
  simp only [Act.put, List.getElem_toArray, List.getElem_cons_succ, List.getElem_cons_zero, List.setIfInBounds_toArray, List.set_cons_zero, List.set_cons_succ]
  refine wpAnyH_take (i := 5) (v := ?_) rfl (by kernel_rfl) (by kernel_rfl) (by kernel_rfl) (fun _ _ _ h => h) (Or.inl ⟨by kernel_rfl, ?_⟩) hH ?_
  rotate_left
  · intro W hS
    have h0 := hS.2.2.1.cell 0
    have h1 := hS.2.2.1.cell 1
    have h2 := hS.2.2.1.cell 2
    have h3 := hS.2.2.1.cell 3
    go_simp
    first | done | with_reducible rfl
  simp only [Act.put, List.getElem_toArray, List.getElem_cons_succ, List.getElem_cons_zero, List.setIfInBounds_toArray, List.set_cons_zero, List.set_cons_succ]
  refine wpAnyH_take (i := 6) (v := ?_) rfl (by kernel_rfl) (by kernel_rfl) (by kernel_rfl) (fun _ _ _ h => h) (Or.inl ⟨by kernel_rfl, ?_⟩) hH ?_
  rotate_left
  · intro W hS
    have h0 := hS.2.2.1.cell 0
    have h1 := hS.2.2.1.cell 1
    have h2 := hS.2.2.1.cell 2
    have h3 := hS.2.2.1.cell 3
    go_simp
    first | done | with_reducible rfl
  simp only [Act.put, List.getElem_toArray, List.getElem_cons_succ, List.getElem_cons_zero, List.setIfInBounds_toArray, List.set_cons_zero, List.set_cons_succ]
  refine wpAnyH_take (i := 7) (v := ?_) rfl (by kernel_rfl) (by kernel_rfl) (by kernel_rfl) (fun _ _ _ h => h) (Or.inl ⟨by kernel_rfl, ?_⟩) hH ?_
  rotate_left
  · intro W hS
    have h0 := hS.2.2.1.cell 0
    have h1 := hS.2.2.1.cell 1
    have h2 := hS.2.2.1.cell 2
    have h3 := hS.2.2.1.cell 3
    go_simp
    first | done | with_reducible rfl
  simp only [Act.put, List.getElem_toArray, List.getElem_cons_succ, List.getElem_cons_zero, List.setIfInBounds_toArray, List.set_cons_zero, List.set_cons_succ]
  refine wpAnyH_take (i := 8) (v := ?_) rfl (by kernel_rfl) (by kernel_rfl) (by kernel_rfl) (fun _ _ _ h => h) (Or.inl ⟨by kernel_rfl, ?_⟩) hH ?_
  rotate_left
  · intro W hS
    have h0 := hS.2.2.1.cell 0
    have h1 := hS.2.2.1.cell 1
    have h2 := hS.2.2.1.cell 2
    have h3 := hS.2.2.1.cell 3
    go_simp
    first | done | with_reducible rfl
  simp only [Act.put, List.getElem_toArray, List.getElem_cons_succ, List.getElem_cons_zero, List.setIfInBounds_toArray, List.set_cons_zero, List.set_cons_succ]
  refine wpAnyH_take (i := 9) (v := ?_) rfl (by kernel_rfl) (by kernel_rfl) (by kernel_rfl) (fun _ _ _ h => h) (Or.inl ⟨by kernel_rfl, ?_⟩) hH ?_
  rotate_left
  · intro W hS
    have h0 := hS.2.2.1.cell 0
    have h1 := hS.2.2.1.cell 1
    have h2 := hS.2.2.1.cell 2
    have h3 := hS.2.2.1.cell 3
    go_simp
    first | done | with_reducible rfl
  simp only [Act.put, List.getElem_toArray, List.getElem_cons_succ, List.getElem_cons_zero, List.setIfInBounds_toArray, List.set_cons_zero, List.set_cons_succ]
  refine wpAnyH_ready (rs := [10]) (by kernel_rfl) (by simp) ?_
  refine AllReadyH.cons rfl (fun K hK => ?_) AllReadyH.nil
  go_simp
  refine (CF.out _ (HR.out.below (hH.1))).mono ?_
  rintro e w9 ⟨v2, rfl, ho2, hb9⟩
  obtain ⟨ao2, c2, rfl⟩ := ownsRow_form ho2
  have hS1 := MadeS.below hH hb9
  have hrd := (ho2.reads2).2
  refine hK.out _ _ hS1 (fun hH => ?_)
  clear hK K
  try simp only [Act.put, List.getElem_toArray, List.getElem_cons_succ, List.getElem_cons_zero, List.setIfInBounds_toArray, List.set_cons_zero, List.set_cons_succ]
  refine wpAnyH_take (i := 11) (v := ?_) rfl (by kernel_rfl) (by kernel_rfl) (by kernel_rfl) (fun _ _ _ h => h) (Or.inl ⟨by kernel_rfl, ?_⟩) hH ?_
  rotate_left
  · intro W hS
    have h0 := hS.2.2.1.cell 0
    have h1 := hS.2.2.1.cell 1
    have h2 := hS.2.2.1.cell 2
    have h3 := hS.2.2.1.cell 3
    go_simp
    first | done | with_reducible rfl
  simp only [Act.put, List.getElem_toArray, List.getElem_cons_succ, List.getElem_cons_zero, List.setIfInBounds_toArray, List.set_cons_zero, List.set_cons_succ]
  refine wpAnyH_ready (rs := [12]) (by kernel_rfl) (by simp) ?_
  refine AllReadyH.cons rfl (fun K hK => ?_) AllReadyH.nil
  obtain ⟨ds, hds, hdz⟩ := hH.2.2.2
  refine wp_store_row 33 _ _ rfl (w.heap.size + 1) #[strV m, strV [], .int .i64 st, .int .i64 z, .slice ao2 L.length c2] rfl rfl 33 ds hds infoHdS hdz (one5 m [] st z ao2 L.length c2) ?_
  have hS1 := MadeS.stored hH (ds := #[strV m, strV [], .int .i64 st, .int .i64 z, .slice ao2 L.length c2]) rfl (by omega) hne
  refine hK.out _ _ hS1 (fun hH => ?_)
  clear hK K
  try simp only [Act.put, List.getElem_toArray, List.getElem_cons_succ, List.getElem_cons_zero]
  refine wpAnyH_done (by kernel_rfl) ?_ _
  go_wp2_with fail
  refine bodyPost_ret (results_row Tryz.results7 _ _ (w.heap.size + 1) _ rfl (hds.setRow #[strV m, strV [], .int .i64 st, .int .i64 z, .slice ao2 L.length c2]) Tryz.underlying33 rfl infoHdS) rfl ?_
  exact ⟨⟨ao2, c2, rfl, ((ownsRow_far ho2 fun k hk => _root_.Go.setRow_other _ _ _ _ (by omega)).reads2).2⟩, hH.1⟩
end Go.Proofs.YtjfkehdlamnigaaGreatDoor
namespace Go.Proofs.YtjfkehdlamnigaaGreatDoor
open Go.RowKit Go.Pantry

theorem bytes_oneCell (l : List UInt8) : ∀ u ∈ l.map byteV, u.oneCell' = true := by
  intro u hu
  obtain ⟨c, _, rfl⟩ := List.mem_map.1 hu
  rfl
/-- from w0 on; two boxes -/
def Box2T (w0 : World) (g1 : Nat) (c1 : Array Value) (t1 : TypeId) (g2 : Nat) (c2 : Array Value) (t2 : TypeId) : List Bool → World → Prop := fun _ W => Below w0.heap.size w0 W ∧ w0.heap.size ≤ W.heap.size ∧ rowIs W g1 c1 t1 ∧ rowIs W g2 c2 t2
theorem Box2T.below {w0 : World} {g1 g2 : Nat} {c1 c2 : Array Value} {t1 t2 : TypeId} {b : List Bool} {W W' : World} (h : Box2T w0 g1 c1 t1 g2 c2 t2 b W) (hb : Below W.heap.size W W') : Box2T w0 g1 c1 t1 g2 c2 t2 b W' :=
  ⟨h.1.trans (hb.mono h.2.1), Nat.le_trans h.2.1 hb.size, h.2.2.1.below hb, h.2.2.2.below hb⟩
theorem right_res {m : List UInt8} {st z : Int} {L : List Fld} (h : rightS st m z L = true) : 0 ≤ z ∧ 100 ≤ st ∧ st ≤ 599 ∧ rightRes ⟨m, [], st.toNat, z.toNat, L⟩ = true := by
  rw [rightS_eq] at h
  simp only [Bool.and_eq_true, Bool.not_eq_true', decide_eq_false_iff_not, decide_eq_true_eq] at h
  obtain ⟨⟨⟨⟨⟨⟨⟨h1, h2⟩, h3⟩, h4⟩, h5⟩, h6⟩, h7⟩, h8⟩ := h
  refine ⟨by omega, h4, h5, ?_⟩
  unfold rightRes
  simp only [Bool.and_eq_true, decide_eq_true_eq]
  refine ⟨⟨⟨by show z.toNat ≤ 1; omega, h3⟩, ⟨⟨⟨by show 100 ≤ st.toNat; omega, by show st.toNat ≤ 599; omega⟩, h6⟩, h7⟩, h8⟩, rfl⟩
set_option maxRecDepth 100000 in
set_option maxHeartbeats 16000000 in
theorem headResponses_walk (st : Int) (sm : ByteArray) (z : Int) (v : Value) (L : List Fld) (vr : Value) (rest : List UInt8) (w : World) (hm : MaxOk w) (htab : Tab10 w) (hsm : sm.size ≤ maxLen)
    (hl : Reads2 w v L ∧ (∀ f ∈ L, f.1.length ≤ maxLen ∧ f.2.length ≤ maxLen) ∧ L.length ≤ maxLen) (hl2 : Reads w vr (rest.map byteV) ∧ (∀ ao n cap, vr = .slice ao n cap → n ≤ cap) ∧ rest.length ≤ maxLen) :
    Calls Tryz.prog 3 #[.int .i64 st, .string sm, .int .i64 z, v, vr] w fun e w' => e = .returned (.bool true) ∧ Below w.heap.size w w' := by
  obtain ⟨m, rfl⟩ := as_list sm
  rw [szL] at hsm
  obtain ⟨hr, -, hLl⟩ := hl
  obtain ⟨hr2, -, hll2⟩ := hl2
  obtain ⟨ao, cap, rfl⟩ := hr.form
  obtain ⟨aor, capr, rfl⟩ := hr2.form
  simp only [List.length_map] at hr2 ⊢
  unfold maxLen at hsm hLl hll2
  have cs := fun W h => small_any (.slice ao L.length cap) L W h (by omega)
  have ca := fun W h => anchor_any W h
  have CA := hid ca
  have HTB := hid htab
  have HR := hid hr
  have HRR := hid hr2
  clear ca hr hr2 htab
  obtain ⟨q, hq⟩ : ∃ q, smallF L = q := ⟨_, rfl⟩
  rw [hq] at cs
  have CSM := hid cs
  clear cs
  cases q
  · clear hq
    go_enter Tryz.func3, Tryz.ntmps3
    go_wp2_with fail
    refine (CA.out _ hm).mono ?_
    rintro e w1 ⟨rfl, hb1⟩
    have hm1 := hm.below hb1
    go_wp2_with fail
    refine (CSM.out _ (HR.out.below hb1)).mono ?_
    rintro e w2 ⟨rfl, hb2⟩
    have hm2 := hm1.below hb2
    have hb3 := chain2 hb1 hb1.size hb2
    clear hb1 hb2 hm1
    go_wp2_with fail
    go_ret
    exact ⟨rfl, hb3⟩
  by_cases h1 : (100 : Int) < (m.length : Int)
  · clear hq
    go_enter Tryz.func3, Tryz.ntmps3
    go_wp2_with fail
    refine (CA.out _ hm).mono ?_
    rintro e w1 ⟨rfl, hb1⟩
    have hm1 := hm.below hb1
    go_wp2_with fail
    refine (CSM.out _ (HR.out.below hb1)).mono ?_
    rintro e w2 ⟨rfl, hb2⟩
    have hm2 := hm1.below hb2
    have hb3 := chain2 hb1 hb1.size hb2
    clear hb1 hb2 hm1
    go_wp2_with fail
    go_ret
    exact ⟨rfl, hb3⟩
  have d1 : decide ((100 : Int) < (m.length : Int)) = false := decide_eq_false h1
  by_cases h3 : (100 : Int) < (rest.length : Int)
  · clear hq
    go_enter Tryz.func3, Tryz.ntmps3
    go_wp2_with fail
    refine (CA.out _ hm).mono ?_
    rintro e w1 ⟨rfl, hb1⟩
    have hm1 := hm.below hb1
    go_wp2_with fail
    refine (CSM.out _ (HR.out.below hb1)).mono ?_
    rintro e w2 ⟨rfl, hb2⟩
    have hm2 := hm1.below hb2
    have hb3 := chain2 hb1 hb1.size hb2
    clear hb1 hb2 hm1
    go_wp2_with fail
    go_ret
    exact ⟨rfl, hb3⟩
  have d3 : decide ((100 : Int) < (rest.length : Int)) = false := decide_eq_false h3
  obtain ⟨hk, hl70, hk2⟩ := smallF_ok hq
  have cm := fun W h => madeRes_any st m z (.slice ao L.length cap) L W h (by omega)
  have CM := hid cm
  have cq := fun a n c W (h : Reads2 W (.slice a n c) L) => sRight_any st m z (.slice a n c) L W (by omega) h hk
  have cd := fun a c W (h : Reads2 W (.slice a L.length c) L) => refRightRes_any m [] st z (.slice a L.length c) L W (by omega) h hk
  clear cm hq
  cases hqq : rightS st m z L with
  | false =>
    rw [hqq] at cq cd
    have csh := fun W h (_ : Tab10 W) => ShowResponse_no st m z (.slice ao L.length cap) L W (by omega) h hk hqq
    have CSH := hid csh
    have CQ0 := hid cq
    have CD0 := hid cd
    clear csh cq cd hqq hk hk2 h1 h3
    go_enter Tryz.func3, Tryz.ntmps3
    go_wp2_with fail
    refine (CA.out _ hm).mono ?_
    rintro e w1 ⟨rfl, hb1⟩
    have hm1 := hm.below hb1
    go_wp2_with fail
    refine (CSM.out _ (HR.out.below hb1)).mono ?_
    rintro e w2 ⟨rfl, hb2⟩
    have hm2 := hm1.below hb2
    have hb3 := chain2 hb1 hb1.size hb2
    clear hb1 hb2 hm1
    obtain ⟨W1, hW1⟩ : ∃ W, W = w2.alloc (.cells #[.int .i64 st, strV m, .int .i64 z, .slice ao L.length cap] 30) := ⟨_, rfl⟩
    have hbW : Below w2.heap.size w2 W1 := by rw [hW1]; exact below_alloc _ _
    have hg1 : rowIs W1 w2.heap.size #[.int .i64 st, strV m, .int .i64 z, .slice ao L.length cap] 30 := by rw [hW1]; exact rowIs_new _ _ _
    have hm3 := hm2.below hbW
    have hb4 := chain2 hb3 hb3.size hbW
    clear hbW hb3 hm2
    go_wp2_with fail
    rw [← hW1]
    clear hW1
    generalize w2.heap.size = G1 at *
    refine (CM.out _ (HR.out.below hb4)).mono ?_
    rintro e w3 ⟨⟨ao2, c2, rfl, rd2⟩, hb5⟩
    obtain ⟨W2, hW2⟩ : ∃ W, W = w3.alloc (.cells #[strV m, strV [], .int .i64 st, .int .i64 z, .slice ao2 L.length c2] 33) := ⟨_, rfl⟩
    have hbW : Below w3.heap.size w3 W2 := by rw [hW2]; exact below_alloc _ _
    have hg2 : rowIs W2 w3.heap.size #[strV m, strV [], .int .i64 st, .int .i64 z, .slice ao2 L.length c2] 33 := by rw [hW2]; exact rowIs_new _ _ _
    have hg1b := (hg1.below hb5).below hbW
    have rd3 := rd2.below hbW
    have hm4 := (hm3.below hb5).below hbW
    have hb6 := chain2 hb4 hb4.size (hb5.trans (hbW.mono hb5.size))
    clear hg1 rd2 hm3 hb4 hb5 hbW CM
    have g0 := hg1b.cell 0
    have g1 := hg1b.cell 1
    have g2 := hg1b.cell 2
    have g3 := hg1b.cell 3
    rw [hW2] at g0 g1 g2 g3
    go_wp2_with fail
    rw [← hW2]
    clear hW2 g0 g1 g2 g3
    generalize w3.heap.size = G2 at *
    refine (CSH.out _ (HR.out.below hb6) (HTB.out.below hb6)).mono ?_
    rintro e w4 ⟨rfl, hb7⟩
    have hg1c := hg1b.below hb7
    have hg2c := hg2.below hb7
    have rd4 := rd3.below hb7
    have hm5 := hm4.below hb7
    have hb8 := chain2 hb6 hb6.size hb7
    have hrd := HR.out.below hb8
    clear hg1b hg2 rd3 hm4 hb6 hb7 CSH
    have HR1 := hid hrd
    have HR2 := hid rd4
    have HS : Box2T w4 G1 #[.int .i64 st, strV m, .int .i64 z, .slice ao L.length cap] 30 G2 #[strV m, strV [], .int .i64 st, .int .i64 z, .slice ao2 L.length c2] 33 [] w4.drew := ⟨(Below.refl _ _).drew, Nat.le_refl _, hg1c, hg2c⟩
    have HM := hid hm5
    clear hrd rd4 hg1c hg2c hm5
    go_wp2_with fail
    have cq := fun W h => CQ0.out ao L.length cap W h
    have cd := fun W h => CD0.out ao2 c2 W h
    have CQ := hid cq
    have CD := hid cd
    clear cq cd
    refine wp_region_U [] (by kernel_rfl) (Box2T w4 G1 #[.int .i64 st, strV m, .int .i64 z, .slice ao L.length cap] 30 G2 #[strV m, strV [], .int .i64 st, .int .i64 z, .slice ao2 L.length c2] 33) (b := []) (by kernel_rfl) HS ?_
    refine wpAnyU_take (i := 0) (v := .agg #[.int .i64 st, strV m, .int .i64 z, .slice ao L.length cap]) (by decide) rfl (by kernel_rfl) (by kernel_rfl) (by kernel_rfl) (fun _ _ _ h => h) (Steady.plain (by kernel_rfl) ?_) ?_
    · intro b W hS
      exact load_gives (x := .tmp 11) (by kernel_rfl) G1 (by kernel_rfl) hS.2.2.1 Tryz.underlying30 rfl infoResS
    simp only [Act.put, List.getElem_toArray, List.getElem_cons_zero, List.setIfInBounds_toArray, List.set_cons_zero, List.set_cons_succ]
    refine wpAnyU_take (i := 1) (v := .bool false) (by decide) rfl (by kernel_rfl) (by kernel_rfl) (by kernel_rfl) (fun _ _ _ h => h) (Steady.call (f := 9) (args := #[.agg #[.int .i64 st, strV m, .int .i64 z, .slice ao L.length cap]]) (by kernel_rfl) (fun _ => by kernel_rfl) ?_) ?_
    · intro b W hS
      refine (CQ.out W (HR1.out.below hS.1)).mono ?_
      rintro e w' ⟨he, hb⟩
      exact ⟨he, hS.below hb⟩
    simp only [Act.put, List.getElem_toArray, List.getElem_cons_succ, List.getElem_cons_zero, List.setIfInBounds_toArray, List.set_cons_zero, List.set_cons_succ]
    refine wpAnyU_take (i := 2) (v := .agg #[strV m, strV [], .int .i64 st, .int .i64 z, .slice ao2 L.length c2]) (by decide) rfl (by kernel_rfl) (by kernel_rfl) (by kernel_rfl) (fun _ _ _ h => h) (Steady.plain (by kernel_rfl) ?_) ?_
    · intro b W hS
      exact load_gives (x := .tmp 12) (by kernel_rfl) G2 (by kernel_rfl) hS.2.2.2 Tryz.underlying33 rfl infoHdS
    simp only [Act.put, List.getElem_toArray, List.getElem_cons_succ, List.getElem_cons_zero, List.setIfInBounds_toArray, List.set_cons_zero, List.set_cons_succ]
    refine wpAnyU_take (i := 3) (v := .bool false) (by decide) rfl (by kernel_rfl) (by kernel_rfl) (by kernel_rfl) (fun _ _ _ h => h) (Steady.call (f := 10) (args := #[.agg #[strV m, strV [], .int .i64 st, .int .i64 z, .slice ao2 L.length c2], .bool false]) (by kernel_rfl) (fun _ => by kernel_rfl) ?_) ?_
    · intro b W hS
      refine (CD.out W (HR2.out.below hS.1)).mono ?_
      rintro e w' ⟨he, hb⟩
      exact ⟨he, hS.below hb⟩
    simp only [Act.put, List.getElem_toArray, List.getElem_cons_succ, List.getElem_cons_zero, List.setIfInBounds_toArray, List.set_cons_zero, List.set_cons_succ]
    refine wpAnyU_take (i := 4) (v := ?_) (by decide) rfl (by kernel_rfl) (by kernel_rfl) (by kernel_rfl) (fun _ _ _ h => h) (Steady.plain (by kernel_rfl) ?_) ?_
    rotate_left
    · intro b W hS
      go_simp
      first | done | with_reducible rfl
    simp only [Act.put, List.getElem_toArray, List.getElem_cons_succ, List.getElem_cons_zero, List.setIfInBounds_toArray, List.set_cons_zero, List.set_cons_succ]
    refine wpAnyU_done (b := []) (by kernel_rfl) (by kernel_rfl) ?_ _
    intro w5 hS
    have hb9 := chain2 hb8 hb8.size hS.1
    have HM2 := hid (HM.out.below hS.1)
    clear HS HM CQ hb8
    obtain ⟨hSb, -, hr1, hr2⟩ := hS
    have HRD2 := hid (HR2.out.below hSb)
    clear hSb HR2
    have k0 := hr2.cell 0
    have k1 := hr2.cell 1
    have k2 := hr2.cell 2
    have k3 := hr2.cell 3
    have k4 := hr2.cell 4
    go_wp2_with fail
    refine (CD.out _ HRD2.out).mono ?_
    rintro e w6 ⟨rfl, hb10⟩
    have hr1b := hr1.below hb10
    have hr2b := hr2.below hb10
    have hb11 := chain2 hb9 hb9.size hb10
    have hm6 := HM2.out.below hb10
    have rd6 := HRD2.out.below hb10
    clear k0 k1 k2 k3 k4 hb9 hb10 HM2 HRD2 hr1 hr2
    go_wp2_with fail
    go_ret
    exact ⟨rfl, hb11⟩
  | true =>
    rw [hqq] at cq cd
    obtain ⟨hz0, hs1, hs2, hrr⟩ := right_res hqq
    obtain ⟨zn, rfl⟩ : ∃ zn : Nat, z = (zn : Int) := ⟨z.toNat, by omega⟩
    obtain ⟨sn, rfl⟩ : ∃ sn : Nat, st = (sn : Int) := ⟨st.toNat, by omega⟩
    simp only [Int.toNat_natCast] at hrr
    have csh := fun W h ht => ShowResponse_yes sn m (zn : Int) (.slice ao L.length cap) L W (by omega) h hk hz0 (by omega) (by omega) ht hqq
    have ct := fun a c W (h : Reads2 W (.slice a L.length c) L) => refTextRes_any m [] sn (zn : Int) (.slice a L.length c) L W (by omega) (by omega) (by omega) hz0 h hk
    rw [Int.toNat_natCast] at csh ct
    have hread := fun h4 => read_res hrr h4 rest
    have htx : textRes ⟨m, [], sn, zn, L⟩ = textH (resLine ⟨m, [], sn, zn, []⟩) L := rfl
    rw [htx] at hread
    generalize textH (resLine ⟨m, [], sn, zn, []⟩) L = T at csh ct hread
    have cm3 := fun v W h => madeRes_any (sn : Int) m (zn : Int) v L W h (by omega)
    have ce := fun a1 a2 b1 b2 W h1 h2 => same_eq m [] (sn : Int) (zn : Int) L a1 a2 b1 b2 W h1 h2 (by omega)
    have CT := hid ct
    have CM3 := hid cm3
    have CE := hid ce
    have CQ0 := hid cq
    have CD0 := hid cd
    clear ct cm3 ce cq cd htx hrr hz0 hs1 hs2
    by_cases h4 : (4096 : Int) < (T.length : Int)
    · rw [if_pos (by omega), if_pos (by omega)] at csh
      have CSH := hid csh
      clear csh hread hqq hk hk2 h1 h3
      go_enter Tryz.func3, Tryz.ntmps3
      go_wp2_with fail
      refine (CA.out _ hm).mono ?_
      rintro e w1 ⟨rfl, hb1⟩
      have hm1 := hm.below hb1
      go_wp2_with fail
      refine (CSM.out _ (HR.out.below hb1)).mono ?_
      rintro e w2 ⟨rfl, hb2⟩
      have hm2 := hm1.below hb2
      have hb3 := chain2 hb1 hb1.size hb2
      clear hb1 hb2 hm1
      obtain ⟨W1, hW1⟩ : ∃ W, W = w2.alloc (.cells #[.int .i64 (sn : Int), strV m, .int .i64 (zn : Int), .slice ao L.length cap] 30) := ⟨_, rfl⟩
      have hbW : Below w2.heap.size w2 W1 := by rw [hW1]; exact below_alloc _ _
      have hg1 : rowIs W1 w2.heap.size #[.int .i64 (sn : Int), strV m, .int .i64 (zn : Int), .slice ao L.length cap] 30 := by rw [hW1]; exact rowIs_new _ _ _
      have hm3 := hm2.below hbW
      have hb4 := chain2 hb3 hb3.size hbW
      clear hbW hb3 hm2
      go_wp2_with fail
      rw [← hW1]
      clear hW1
      generalize w2.heap.size = G1 at *
      refine (CM.out _ (HR.out.below hb4)).mono ?_
      rintro e w3 ⟨⟨ao2, c2, rfl, rd2⟩, hb5⟩
      obtain ⟨W2, hW2⟩ : ∃ W, W = w3.alloc (.cells #[strV m, strV [], .int .i64 (sn : Int), .int .i64 (zn : Int), .slice ao2 L.length c2] 33) := ⟨_, rfl⟩
      have hbW : Below w3.heap.size w3 W2 := by rw [hW2]; exact below_alloc _ _
      have hg2 : rowIs W2 w3.heap.size #[strV m, strV [], .int .i64 (sn : Int), .int .i64 (zn : Int), .slice ao2 L.length c2] 33 := by rw [hW2]; exact rowIs_new _ _ _
      have hg1b := (hg1.below hb5).below hbW
      have rd3 := rd2.below hbW
      have hm4 := (hm3.below hb5).below hbW
      have hb6 := chain2 hb4 hb4.size (hb5.trans (hbW.mono hb5.size))
      clear hg1 rd2 hm3 hb4 hb5 hbW CM
      have g0 := hg1b.cell 0
      have g1 := hg1b.cell 1
      have g2 := hg1b.cell 2
      have g3 := hg1b.cell 3
      rw [hW2] at g0 g1 g2 g3
      go_wp2_with fail
      rw [← hW2]
      clear hW2 g0 g1 g2 g3
      generalize w3.heap.size = G2 at *
      refine (CSH.out _ (HR.out.below hb6) (HTB.out.below hb6)).mono ?_
      rintro e w4 ⟨rfl, hb7⟩
      have hg1c := hg1b.below hb7
      have hg2c := hg2.below hb7
      have rd4 := rd3.below hb7
      have hm5 := hm4.below hb7
      have hb8 := chain2 hb6 hb6.size hb7
      have hrd := HR.out.below hb8
      clear hg1b hg2 rd3 hm4 hb6 hb7 CSH
      have HR1 := hid hrd
      have HR2 := hid rd4
      have HS : Box2T w4 G1 #[.int .i64 (sn : Int), strV m, .int .i64 (zn : Int), .slice ao L.length cap] 30 G2 #[strV m, strV [], .int .i64 (sn : Int), .int .i64 (zn : Int), .slice ao2 L.length c2] 33 [] w4.drew := ⟨(Below.refl _ _).drew, Nat.le_refl _, hg1c, hg2c⟩
      have HM := hid hm5
      clear hrd rd4 hg1c hg2c hm5
      go_wp2_with fail
      have cq := fun W h => CQ0.out ao L.length cap W h
      have cd := fun W h => CD0.out ao2 c2 W h
      have CQ := hid cq
      have CD := hid cd
      clear cq cd
      refine wp_region_U [] (by kernel_rfl) (Box2T w4 G1 #[.int .i64 (sn : Int), strV m, .int .i64 (zn : Int), .slice ao L.length cap] 30 G2 #[strV m, strV [], .int .i64 (sn : Int), .int .i64 (zn : Int), .slice ao2 L.length c2] 33) (b := []) (by kernel_rfl) HS ?_
      refine wpAnyU_take (i := 0) (v := .agg #[.int .i64 (sn : Int), strV m, .int .i64 (zn : Int), .slice ao L.length cap]) (by decide) rfl (by kernel_rfl) (by kernel_rfl) (by kernel_rfl) (fun _ _ _ h => h) (Steady.plain (by kernel_rfl) ?_) ?_
      · intro b W hS
        exact load_gives (x := .tmp 11) (by kernel_rfl) G1 (by kernel_rfl) hS.2.2.1 Tryz.underlying30 rfl infoResS
      simp only [Act.put, List.getElem_toArray, List.getElem_cons_zero, List.setIfInBounds_toArray, List.set_cons_zero, List.set_cons_succ]
      refine wpAnyU_take (i := 1) (v := .bool true) (by decide) rfl (by kernel_rfl) (by kernel_rfl) (by kernel_rfl) (fun _ _ _ h => h) (Steady.call (f := 9) (args := #[.agg #[.int .i64 (sn : Int), strV m, .int .i64 (zn : Int), .slice ao L.length cap]]) (by kernel_rfl) (fun _ => by kernel_rfl) ?_) ?_
      · intro b W hS
        refine (CQ.out W (HR1.out.below hS.1)).mono ?_
        rintro e w' ⟨he, hb⟩
        exact ⟨he, hS.below hb⟩
      simp only [Act.put, List.getElem_toArray, List.getElem_cons_succ, List.getElem_cons_zero, List.setIfInBounds_toArray, List.set_cons_zero, List.set_cons_succ]
      refine wpAnyU_take (i := 2) (v := .agg #[strV m, strV [], .int .i64 (sn : Int), .int .i64 (zn : Int), .slice ao2 L.length c2]) (by decide) rfl (by kernel_rfl) (by kernel_rfl) (by kernel_rfl) (fun _ _ _ h => h) (Steady.plain (by kernel_rfl) ?_) ?_
      · intro b W hS
        exact load_gives (x := .tmp 12) (by kernel_rfl) G2 (by kernel_rfl) hS.2.2.2 Tryz.underlying33 rfl infoHdS
      simp only [Act.put, List.getElem_toArray, List.getElem_cons_succ, List.getElem_cons_zero, List.setIfInBounds_toArray, List.set_cons_zero, List.set_cons_succ]
      refine wpAnyU_take (i := 3) (v := .bool true) (by decide) rfl (by kernel_rfl) (by kernel_rfl) (by kernel_rfl) (fun _ _ _ h => h) (Steady.call (f := 10) (args := #[.agg #[strV m, strV [], .int .i64 (sn : Int), .int .i64 (zn : Int), .slice ao2 L.length c2], .bool false]) (by kernel_rfl) (fun _ => by kernel_rfl) ?_) ?_
      · intro b W hS
        refine (CD.out W (HR2.out.below hS.1)).mono ?_
        rintro e w' ⟨he, hb⟩
        exact ⟨he, hS.below hb⟩
      simp only [Act.put, List.getElem_toArray, List.getElem_cons_succ, List.getElem_cons_zero, List.setIfInBounds_toArray, List.set_cons_zero, List.set_cons_succ]
      refine wpAnyU_take (i := 4) (v := ?_) (by decide) rfl (by kernel_rfl) (by kernel_rfl) (by kernel_rfl) (fun _ _ _ h => h) (Steady.plain (by kernel_rfl) ?_) ?_
      rotate_left
      · intro b W hS
        go_simp
        first | done | with_reducible rfl
      simp only [Act.put, List.getElem_toArray, List.getElem_cons_succ, List.getElem_cons_zero, List.setIfInBounds_toArray, List.set_cons_zero, List.set_cons_succ]
      refine wpAnyU_done (b := []) (by kernel_rfl) (by kernel_rfl) ?_ _
      intro w5 hS
      have hb9 := chain2 hb8 hb8.size hS.1
      have HM2 := hid (HM.out.below hS.1)
      clear HS HM CQ hb8
      obtain ⟨hSb, -, hr1, hr2⟩ := hS
      have HRD2 := hid (HR2.out.below hSb)
      clear hSb HR2
      have k0 := hr2.cell 0
      have k1 := hr2.cell 1
      have k2 := hr2.cell 2
      have k3 := hr2.cell 3
      have k4 := hr2.cell 4
      go_wp2_with fail
      refine (CD.out _ HRD2.out).mono ?_
      rintro e w6 ⟨rfl, hb10⟩
      have hr1b := hr1.below hb10
      have hr2b := hr2.below hb10
      have hb11 := chain2 hb9 hb9.size hb10
      have hm6 := HM2.out.below hb10
      have rd6 := HRD2.out.below hb10
      clear k0 k1 k2 k3 k4 hb9 hb10 HM2 HRD2 hr1 hr2
      have k0 := hr2b.cell 0
      have k1 := hr2b.cell 1
      have k2 := hr2b.cell 2
      have k3 := hr2b.cell 3
      have k4 := hr2b.cell 4
      go_wp2_with fail
      refine (CT.out _ _ _ rd6).mono ?_
      rintro e w7 ⟨rfl, hb12⟩
      have hb13 := chain2 hb11 hb11.size hb12
      have hr2c := hr2b.below hb12
      have rd7 := rd6.below hb12
      have hm7 := hm6.below hb12
      clear k0 k1 k2 k3 k4 hb11 hb12 hr1b hr2b rd6 hm6 CT CD
      go_wp2_with fail
      go_ret
      exact ⟨rfl, hb13⟩
    · rw [if_neg (by omega), if_neg (by omega)] at csh
      have hrd := hread (by omega)
      have d4 : decide ((4096 : Int) < (T.length : Int)) = false := decide_eq_false h4
      have c3 := fun a c W h1 h2 h3 => ReadResponse_any a c (T ++ rest) W h1 h2 h3
      have hlen : (T ++ rest).length = T.length + rest.length := List.length_append
      rw [hrd, hlen] at c3
      have C3 := hid c3
      have CSH := hid csh
      have HLN := hid hlen
      have hT4 : T.length ≤ 4096 := by omega
      have hR1 : rest.length ≤ 100 := by omega
      have eT : (T == T) = true := by simp
      clear csh hread hqq hk hk2 h1 h3 hrd c3 hlen
      go_enter Tryz.func3, Tryz.ntmps3
      go_wp2_with fail
      refine (CA.out _ hm).mono ?_
      rintro e w1 ⟨rfl, hb1⟩
      have hm1 := hm.below hb1
      go_wp2_with fail
      refine (CSM.out _ (HR.out.below hb1)).mono ?_
      rintro e w2 ⟨rfl, hb2⟩
      have hm2 := hm1.below hb2
      have hb3 := chain2 hb1 hb1.size hb2
      clear hb1 hb2 hm1
      obtain ⟨W1, hW1⟩ : ∃ W, W = w2.alloc (.cells #[.int .i64 (sn : Int), strV m, .int .i64 (zn : Int), .slice ao L.length cap] 30) := ⟨_, rfl⟩
      have hbW : Below w2.heap.size w2 W1 := by rw [hW1]; exact below_alloc _ _
      have hg1 : rowIs W1 w2.heap.size #[.int .i64 (sn : Int), strV m, .int .i64 (zn : Int), .slice ao L.length cap] 30 := by rw [hW1]; exact rowIs_new _ _ _
      have hm3 := hm2.below hbW
      have hb4 := chain2 hb3 hb3.size hbW
      clear hbW hb3 hm2
      go_wp2_with fail
      rw [← hW1]
      clear hW1
      generalize w2.heap.size = G1 at *
      refine (CM.out _ (HR.out.below hb4)).mono ?_
      rintro e w3 ⟨⟨ao2, c2, rfl, rd2⟩, hb5⟩
      obtain ⟨W2, hW2⟩ : ∃ W, W = w3.alloc (.cells #[strV m, strV [], .int .i64 (sn : Int), .int .i64 (zn : Int), .slice ao2 L.length c2] 33) := ⟨_, rfl⟩
      have hbW : Below w3.heap.size w3 W2 := by rw [hW2]; exact below_alloc _ _
      have hg2 : rowIs W2 w3.heap.size #[strV m, strV [], .int .i64 (sn : Int), .int .i64 (zn : Int), .slice ao2 L.length c2] 33 := by rw [hW2]; exact rowIs_new _ _ _
      have hg1b := (hg1.below hb5).below hbW
      have rd3 := rd2.below hbW
      have hm4 := (hm3.below hb5).below hbW
      have hb6 := chain2 hb4 hb4.size (hb5.trans (hbW.mono hb5.size))
      clear hg1 rd2 hm3 hb4 hb5 hbW CM
      have g0 := hg1b.cell 0
      have g1 := hg1b.cell 1
      have g2 := hg1b.cell 2
      have g3 := hg1b.cell 3
      rw [hW2] at g0 g1 g2 g3
      go_wp2_with fail
      rw [← hW2]
      clear hW2 g0 g1 g2 g3
      generalize w3.heap.size = G2 at *
      refine (CSH.out _ (HR.out.below hb6) (HTB.out.below hb6)).mono ?_
      rintro e w4 ⟨rfl, hb7⟩
      have hg1c := hg1b.below hb7
      have hg2c := hg2.below hb7
      have rd4 := rd3.below hb7
      have hm5 := hm4.below hb7
      have hb8 := chain2 hb6 hb6.size hb7
      have hrd := HR.out.below hb8
      clear hg1b hg2 rd3 hm4 hb6 hb7 CSH
      have HR1 := hid hrd
      have HR2 := hid rd4
      have HS : Box2T w4 G1 #[.int .i64 (sn : Int), strV m, .int .i64 (zn : Int), .slice ao L.length cap] 30 G2 #[strV m, strV [], .int .i64 (sn : Int), .int .i64 (zn : Int), .slice ao2 L.length c2] 33 [] w4.drew := ⟨(Below.refl _ _).drew, Nat.le_refl _, hg1c, hg2c⟩
      have HM := hid hm5
      clear hrd rd4 hg1c hg2c hm5
      go_wp2_with fail
      have cq := fun W h => CQ0.out ao L.length cap W h
      have cd := fun W h => CD0.out ao2 c2 W h
      have CQ := hid cq
      have CD := hid cd
      clear cq cd
      refine wp_region_U [] (by kernel_rfl) (Box2T w4 G1 #[.int .i64 (sn : Int), strV m, .int .i64 (zn : Int), .slice ao L.length cap] 30 G2 #[strV m, strV [], .int .i64 (sn : Int), .int .i64 (zn : Int), .slice ao2 L.length c2] 33) (b := []) (by kernel_rfl) HS ?_
      refine wpAnyU_take (i := 0) (v := .agg #[.int .i64 (sn : Int), strV m, .int .i64 (zn : Int), .slice ao L.length cap]) (by decide) rfl (by kernel_rfl) (by kernel_rfl) (by kernel_rfl) (fun _ _ _ h => h) (Steady.plain (by kernel_rfl) ?_) ?_
      · intro b W hS
        exact load_gives (x := .tmp 11) (by kernel_rfl) G1 (by kernel_rfl) hS.2.2.1 Tryz.underlying30 rfl infoResS
      simp only [Act.put, List.getElem_toArray, List.getElem_cons_zero, List.setIfInBounds_toArray, List.set_cons_zero, List.set_cons_succ]
      refine wpAnyU_take (i := 1) (v := .bool true) (by decide) rfl (by kernel_rfl) (by kernel_rfl) (by kernel_rfl) (fun _ _ _ h => h) (Steady.call (f := 9) (args := #[.agg #[.int .i64 (sn : Int), strV m, .int .i64 (zn : Int), .slice ao L.length cap]]) (by kernel_rfl) (fun _ => by kernel_rfl) ?_) ?_
      · intro b W hS
        refine (CQ.out W (HR1.out.below hS.1)).mono ?_
        rintro e w' ⟨he, hb⟩
        exact ⟨he, hS.below hb⟩
      simp only [Act.put, List.getElem_toArray, List.getElem_cons_succ, List.getElem_cons_zero, List.setIfInBounds_toArray, List.set_cons_zero, List.set_cons_succ]
      refine wpAnyU_take (i := 2) (v := .agg #[strV m, strV [], .int .i64 (sn : Int), .int .i64 (zn : Int), .slice ao2 L.length c2]) (by decide) rfl (by kernel_rfl) (by kernel_rfl) (by kernel_rfl) (fun _ _ _ h => h) (Steady.plain (by kernel_rfl) ?_) ?_
      · intro b W hS
        exact load_gives (x := .tmp 12) (by kernel_rfl) G2 (by kernel_rfl) hS.2.2.2 Tryz.underlying33 rfl infoHdS
      simp only [Act.put, List.getElem_toArray, List.getElem_cons_succ, List.getElem_cons_zero, List.setIfInBounds_toArray, List.set_cons_zero, List.set_cons_succ]
      refine wpAnyU_take (i := 3) (v := .bool true) (by decide) rfl (by kernel_rfl) (by kernel_rfl) (by kernel_rfl) (fun _ _ _ h => h) (Steady.call (f := 10) (args := #[.agg #[strV m, strV [], .int .i64 (sn : Int), .int .i64 (zn : Int), .slice ao2 L.length c2], .bool false]) (by kernel_rfl) (fun _ => by kernel_rfl) ?_) ?_
      · intro b W hS
        refine (CD.out W (HR2.out.below hS.1)).mono ?_
        rintro e w' ⟨he, hb⟩
        exact ⟨he, hS.below hb⟩
      simp only [Act.put, List.getElem_toArray, List.getElem_cons_succ, List.getElem_cons_zero, List.setIfInBounds_toArray, List.set_cons_zero, List.set_cons_succ]
      refine wpAnyU_take (i := 4) (v := ?_) (by decide) rfl (by kernel_rfl) (by kernel_rfl) (by kernel_rfl) (fun _ _ _ h => h) (Steady.plain (by kernel_rfl) ?_) ?_
      rotate_left
      · intro b W hS
        go_simp
        first | done | with_reducible rfl
      simp only [Act.put, List.getElem_toArray, List.getElem_cons_succ, List.getElem_cons_zero, List.setIfInBounds_toArray, List.set_cons_zero, List.set_cons_succ]
      refine wpAnyU_done (b := []) (by kernel_rfl) (by kernel_rfl) ?_ _
      intro w5 hS
      have hb9 := chain2 hb8 hb8.size hS.1
      have HM2 := hid (HM.out.below hS.1)
      clear HS HM CQ hb8
      obtain ⟨hSb, -, hr1, hr2⟩ := hS
      have HRD2 := hid (HR2.out.below hSb)
      clear hSb HR2
      have k0 := hr2.cell 0
      have k1 := hr2.cell 1
      have k2 := hr2.cell 2
      have k3 := hr2.cell 3
      have k4 := hr2.cell 4
      go_wp2_with fail
      refine (CD.out _ HRD2.out).mono ?_
      rintro e w6 ⟨rfl, hb10⟩
      have hr1b := hr1.below hb10
      have hr2b := hr2.below hb10
      have hb11 := chain2 hb9 hb9.size hb10
      have hm6 := HM2.out.below hb10
      have rd6 := HRD2.out.below hb10
      clear k0 k1 k2 k3 k4 hb9 hb10 HM2 HRD2 hr1 hr2
      have k0 := hr2b.cell 0
      have k1 := hr2b.cell 1
      have k2 := hr2b.cell 2
      have k3 := hr2b.cell 3
      have k4 := hr2b.cell 4
      go_wp2_with fail
      refine (CT.out _ _ _ rd6).mono ?_
      rintro e w7 ⟨rfl, hb12⟩
      have hb13 := chain2 hb11 hb11.size hb12
      have hr2c := hr2b.below hb12
      have rd7 := rd6.below hb12
      have hm7 := hm6.below hb12
      clear k0 k1 k2 k3 k4 hb11 hb12 hr1b hr2b rd6 hm6 CT CD
      obtain ⟨capb, W8, cur, fz, hcv, hg8, hfz, hcc, htk, hxc, hbW8⟩ := bytes_conv (P := Tryz.prog) w7 T 9 24 5 Tryz.underlying9 Tryz.underlying24 Tryz.underlying5
      have hxl : (T.map byteV).length = T.length := List.length_map ..
      have hrest := (HRR.out.below hb13).below hbW8
      rw [← hxl] at htk hxc
      rw [← hxl] at hcv
      have hnn : (T.map byteV).length + (rest.map byteV).length < 4294967296 := by rw [List.length_map, List.length_map]; omega
      rw [hxl] at hcv
      have hgB : w7.heap.size ≤ w7.heap.size := Nat.le_refl _
      go_wp2_with (at_builtin; (refine wpList_append_marked2 _ rfl _ _ 24 rfl w7.heap.size 5 Tryz.underlying24 infoU8 (by decide) (T.map byteV) (by rw [hxl]; rfl) hg8 hfz hcc htk hxc hrest (bytes_oneCell _) rfl hnn hgB ?_); intro v9 w9 hrd9 hrm9 hb14)
      rw [← List.map_append] at hrd9
      obtain ⟨ao5, cp5, rfl⟩ := hrd9.form
      simp only [List.length_map, HLN.out] at hrd9 hrm9 ⊢
      have hroom := hrm9 _ _ _ rfl
      have hbig := hbW8.trans hb14
      have hm9 := hm7.below hbig
      have hr2d := hr2c.below hbig
      have rd9 := rd7.below hbig
      have hb15 := chain2 hb13 hb13.size hbig
      clear hcv hg8 hfz hcc htk hxc hbW8 hxl hrest hnn hgB hrm9 hb14 hbig hm7 hr2c rd7 hb13
      refine (C3.out ao5 cp5 _ hrd9 hroom hm9).mono ?_
      rintro e w10 ⟨⟨v8, rfl, ho8⟩, hb16⟩
      obtain ⟨ao3, cp3, rfl⟩ := ownsRow_form ho8
      obtain ⟨Wa, hWa⟩ : ∃ W, W = w10.alloc (.cells #[.int .i64 (sn : Int), strV m, .int .i64 (zn : Int), .slice ao3 L.length cp3] 30) := ⟨_, rfl⟩
      have hbW : Below w10.heap.size w10 Wa := by rw [hWa]; exact below_alloc _ _
      have hga : rowIs Wa w10.heap.size #[.int .i64 (sn : Int), strV m, .int .i64 (zn : Int), .slice ao3 L.length cp3] 30 := by rw [hWa]; exact rowIs_new _ _ _
      have hr2e := (hr2d.below hb16).below hbW
      have rdA := (rd9.below hb16).below hbW
      have rdB := (ho8.reads2).2.below hbW
      have hbZ := chain2 hb15 hb15.size (hb16.trans (hbW.mono hb16.size))
      have RD2 := hid rdA
      have RD3 := hid rdB
      clear hb15 hb16 hbW hr2d rd9 ho8 rdA rdB hm9 hrd9 hroom C3
      go_wp2_with fail
      rw [← hWa]
      clear hWa
      generalize w10.heap.size = G3 at *
      refine wp_region_held_drew (S := Box2T Wa G3 #[.int .i64 (sn : Int), strV m, .int .i64 (zn : Int), .slice ao3 L.length cp3] 30 G2 #[strV m, strV [], .int .i64 (sn : Int), .int .i64 (zn : Int), .slice ao2 L.length c2] 33 []) (by kernel_rfl) ⟨(Below.refl _ _).drew, Nat.le_refl _, hga, hr2e⟩ (fun hH => ?_)
      refine wpAnyH_take (i := 0) (v := ?_) rfl (by kernel_rfl) (by kernel_rfl) (by kernel_rfl) (fun _ _ _ h => h) (Or.inl ⟨by kernel_rfl, ?_⟩) hH ?_
      rotate_left
      · intro W hS
        go_simp
        first | done | with_reducible rfl
      simp only [Act.put, List.getElem_toArray, List.getElem_cons_zero, List.setIfInBounds_toArray, List.set_cons_zero, List.set_cons_succ]
      refine wpAnyH_take (i := 1) (v := ?_) rfl (by kernel_rfl) (by kernel_rfl) (by kernel_rfl) (fun _ _ _ h => h) (Or.inl ⟨by kernel_rfl, ?_⟩) hH ?_
      rotate_left
      · intro W hS
        go_simp
        first | done | with_reducible rfl
      simp only [Act.put, List.getElem_toArray, List.getElem_cons_succ, List.getElem_cons_zero, List.setIfInBounds_toArray, List.set_cons_zero, List.set_cons_succ]
      refine wpAnyH_take (i := 2) (v := ?_) rfl (by kernel_rfl) (by kernel_rfl) (by kernel_rfl) (fun _ _ _ h => h) (Or.inl ⟨by kernel_rfl, ?_⟩) hH ?_
      rotate_left
      · intro W hS
        go_simp
        first | done | with_reducible rfl
      simp only [Act.put, List.getElem_toArray, List.getElem_cons_succ, List.getElem_cons_zero, List.setIfInBounds_toArray, List.set_cons_zero, List.set_cons_succ]
      refine wpAnyH_take (i := 3) (v := ?_) rfl (by kernel_rfl) (by kernel_rfl) (by kernel_rfl) (fun _ _ _ h => h) (Or.inl ⟨by kernel_rfl, ?_⟩) hH ?_
      rotate_left
      · intro W hS
        go_simp
        first | done | with_reducible rfl
      simp only [Act.put, List.getElem_toArray, List.getElem_cons_succ, List.getElem_cons_zero, List.setIfInBounds_toArray, List.set_cons_zero, List.set_cons_succ]
      refine wpAnyH_take (i := 4) (v := ?_) rfl (by kernel_rfl) (by kernel_rfl) (by kernel_rfl) (fun _ _ _ h => h) (Or.inl ⟨by kernel_rfl, ?_⟩) hH ?_
      rotate_left
      · intro W hS
        go_simp
        first | done | with_reducible rfl
      simp only [Act.put, List.getElem_toArray, List.getElem_cons_succ, List.getElem_cons_zero, List.setIfInBounds_toArray, List.set_cons_zero, List.set_cons_succ]
      refine wpAnyH_take (i := 5) (v := ?_) rfl (by kernel_rfl) (by kernel_rfl) (by kernel_rfl) (fun _ _ _ h => h) (Or.inl ⟨by kernel_rfl, ?_⟩) hH ?_
      rotate_left
      · intro W hS
        go_simp
        first | done | with_reducible rfl
      simp only [Act.put, List.getElem_toArray, List.getElem_cons_succ, List.getElem_cons_zero, List.setIfInBounds_toArray, List.set_cons_zero, List.set_cons_succ]
      refine wpAnyH_take (i := 6) (v := ?_) rfl (by kernel_rfl) (by kernel_rfl) (by kernel_rfl) (fun _ _ _ h => h) (Or.inl ⟨by kernel_rfl, ?_⟩) hH ?_
      rotate_left
      · intro W hS
        go_simp
        first | done | with_reducible rfl
      simp only [Act.put, List.getElem_toArray, List.getElem_cons_succ, List.getElem_cons_zero, List.setIfInBounds_toArray, List.set_cons_zero, List.set_cons_succ]
      refine wpAnyH_take (i := 7) (v := ?_) rfl (by kernel_rfl) (by kernel_rfl) (by kernel_rfl) (fun _ _ _ h => h) (Or.inl ⟨by kernel_rfl, ?_⟩) hH ?_
      rotate_left
      · intro W hS
        go_simp
        first | done | with_reducible rfl
      simp only [Act.put, List.getElem_toArray, List.getElem_cons_succ, List.getElem_cons_zero, List.setIfInBounds_toArray, List.set_cons_zero, List.set_cons_succ]
      refine wpAnyH_take (i := 8) (v := ?_) rfl (by kernel_rfl) (by kernel_rfl) (by kernel_rfl) (fun _ _ _ h => h) (Or.inl ⟨by kernel_rfl, ?_⟩) hH ?_
      rotate_left
      · intro W hS
        go_simp
        first | done | with_reducible rfl
      simp only [Act.put, List.getElem_toArray, List.getElem_cons_succ, List.getElem_cons_zero, List.setIfInBounds_toArray, List.set_cons_zero, List.set_cons_succ]
      refine wpAnyH_take (i := 9) (v := ?_) rfl (by kernel_rfl) (by kernel_rfl) (by kernel_rfl) (fun _ _ _ h => h) (Or.inl ⟨by kernel_rfl, ?_⟩) hH ?_
      rotate_left
      · intro W hS
        go_simp
        first | done | with_reducible rfl
      simp only [Act.put, List.getElem_toArray, List.getElem_cons_succ, List.getElem_cons_zero, List.setIfInBounds_toArray, List.set_cons_zero, List.set_cons_succ]
      refine wpAnyH_take (i := 10) (v := ?_) rfl (by kernel_rfl) (by kernel_rfl) (by kernel_rfl) (fun _ _ _ h => h) (Or.inl ⟨by kernel_rfl, ?_⟩) hH ?_
      rotate_left
      · intro W hS
        go_simp
        first | done | with_reducible rfl
      simp only [Act.put, List.getElem_toArray, List.getElem_cons_succ, List.getElem_cons_zero, List.setIfInBounds_toArray, List.set_cons_zero, List.set_cons_succ]
      refine wpAnyH_take (i := 11) (v := ?_) rfl (by kernel_rfl) (by kernel_rfl) (by kernel_rfl) (fun _ _ _ h => h) (Or.inl ⟨by kernel_rfl, ?_⟩) hH ?_
      rotate_left
      · intro W hS
        go_simp
        first | done | with_reducible rfl
      simp only [Act.put, List.getElem_toArray, List.getElem_cons_succ, List.getElem_cons_zero, List.setIfInBounds_toArray, List.set_cons_zero, List.set_cons_succ]
      refine wpAnyH_take (i := 12) (v := ?_) rfl (by kernel_rfl) (by kernel_rfl) (by kernel_rfl) (fun _ _ _ h => h) (Or.inl ⟨by kernel_rfl, ?_⟩) hH ?_
      rotate_left
      · intro W hS
        go_simp
        first | done | with_reducible rfl
      simp only [Act.put, List.getElem_toArray, List.getElem_cons_succ, List.getElem_cons_zero, List.setIfInBounds_toArray, List.set_cons_zero, List.set_cons_succ]
      refine wpAnyH_take (i := 13) (v := ?_) rfl (by kernel_rfl) (by kernel_rfl) (by kernel_rfl) (fun _ _ _ h => h) (Or.inl ⟨by kernel_rfl, ?_⟩) hH ?_
      rotate_left
      · intro W hS
        go_simp
        first | done | with_reducible rfl
      simp only [Act.put, List.getElem_toArray, List.getElem_cons_succ, List.getElem_cons_zero, List.setIfInBounds_toArray, List.set_cons_zero, List.set_cons_succ]
      refine wpAnyH_take (i := 14) (v := ?_) rfl (by kernel_rfl) (by kernel_rfl) (by kernel_rfl) (fun _ _ _ h => h) (Or.inl ⟨by kernel_rfl, ?_⟩) hH ?_
      rotate_left
      · intro W hS
        go_simp
        first | done | with_reducible rfl
      simp only [Act.put, List.getElem_toArray, List.getElem_cons_succ, List.getElem_cons_zero, List.setIfInBounds_toArray, List.set_cons_zero, List.set_cons_succ]
      refine wpAnyH_take (i := 15) (v := ?_) rfl (by kernel_rfl) (by kernel_rfl) (by kernel_rfl) (fun _ _ _ h => h) (Or.inl ⟨by kernel_rfl, ?_⟩) hH ?_
      rotate_left
      · intro W hS
        go_simp
        first | done | with_reducible rfl
      simp only [Act.put, List.getElem_toArray, List.getElem_cons_succ, List.getElem_cons_zero, List.setIfInBounds_toArray, List.set_cons_zero, List.set_cons_succ]
      refine wpAnyH_take (i := 16) (v := ?_) rfl (by kernel_rfl) (by kernel_rfl) (by kernel_rfl) (fun _ _ _ h => h) (Or.inl ⟨by kernel_rfl, ?_⟩) hH ?_
      rotate_left
      · intro W hS
        go_simp
        first | done | with_reducible rfl
      simp only [Act.put, List.getElem_toArray, List.getElem_cons_succ, List.getElem_cons_zero, List.setIfInBounds_toArray, List.set_cons_zero, List.set_cons_succ]
      refine wpAnyH_take (i := 17) (v := ?_) rfl (by kernel_rfl) (by kernel_rfl) (by kernel_rfl) (fun _ _ _ h => h) (Or.inl ⟨by kernel_rfl, ?_⟩) hH ?_
      rotate_left
      · intro W hS
        go_simp
        first | done | with_reducible rfl
      simp only [Act.put, List.getElem_toArray, List.getElem_cons_succ, List.getElem_cons_zero, List.setIfInBounds_toArray, List.set_cons_zero, List.set_cons_succ]
      refine wpAnyH_take (i := 18) (v := .agg #[.int .i64 (sn : Int), strV m, .int .i64 (zn : Int), .slice ao3 L.length cp3]) rfl (by kernel_rfl) (by kernel_rfl) (by kernel_rfl) (fun _ _ _ h => h) (Or.inl ⟨by kernel_rfl, ?_⟩) hH ?_
      · intro W hS
        exact load_gives (x := .tmp 16) (by kernel_rfl) G3 (by kernel_rfl) hS.2.2.1 Tryz.underlying30 rfl infoResS
      simp only [Act.put, List.getElem_toArray, List.getElem_cons_succ, List.getElem_cons_zero, List.setIfInBounds_toArray, List.set_cons_zero, List.set_cons_succ]
      refine wpAnyH_take (i := 20) (v := .agg #[strV m, strV [], .int .i64 (sn : Int), .int .i64 (zn : Int), .slice ao2 L.length c2]) rfl (by kernel_rfl) (by kernel_rfl) (by kernel_rfl) (fun _ _ _ h => h) (Or.inl ⟨by kernel_rfl, ?_⟩) hH ?_
      · intro W hS
        exact load_gives (x := .tmp 12) (by kernel_rfl) G2 (by kernel_rfl) hS.2.2.2 Tryz.underlying33 rfl infoHdS
      simp only [Act.put, List.getElem_toArray, List.getElem_cons_succ, List.getElem_cons_zero, List.setIfInBounds_toArray, List.set_cons_zero, List.set_cons_succ]
      refine wpAnyH_ready (rs := [19]) (by kernel_rfl) (by simp) ?_
      refine AllReadyH.cons rfl (fun K hK => ?_) AllReadyH.nil
      go_simp
      refine (CM3.out (.slice ao3 L.length cp3) _ (RD3.out.below hH.1)).mono ?_
      rintro e w9 ⟨⟨aom1, cm1, rfl, rd17⟩, hb17⟩
      have hS1 := Box2T.below hH hb17
      clear hH
      refine hK.out _ _ hS1 (fun hH => ?_)
      clear hK K
      try simp only [Act.put, List.getElem_toArray, List.getElem_cons_succ, List.getElem_cons_zero, List.setIfInBounds_toArray, List.set_cons_zero, List.set_cons_succ]
      refine wpAnyH_ready (rs := [21]) (by kernel_rfl) (by simp) ?_
      refine AllReadyH.cons rfl (fun K hK => ?_) AllReadyH.nil
      go_simp
      refine (CE.out _ _ _ _ _ rd17 (RD2.out.below hH.1)).mono ?_
      rintro e w9 ⟨rfl, hb20⟩
      have hS1 := Box2T.below hH hb20
      clear hH
      refine hK.out _ _ hS1 (fun hH => ?_)
      clear hK K
      try simp only [Act.put, List.getElem_toArray, List.getElem_cons_succ, List.getElem_cons_zero, List.setIfInBounds_toArray, List.set_cons_zero, List.set_cons_succ]
      refine wpAnyH_take (i := 22) (v := ?_) rfl (by kernel_rfl) (by kernel_rfl) (by kernel_rfl) (fun _ _ _ h => h) (Or.inl ⟨by kernel_rfl, ?_⟩) hH ?_
      rotate_left
      · intro W hS
        go_simp
        first | done | with_reducible rfl
      simp only [Act.put, List.getElem_toArray, List.getElem_cons_succ, List.getElem_cons_zero, List.setIfInBounds_toArray, List.set_cons_zero, List.set_cons_succ]
      refine wpAnyH_take (i := 23) (v := ?_) rfl (by kernel_rfl) (by kernel_rfl) (by kernel_rfl) (fun _ _ _ h => h) (Or.inl ⟨by kernel_rfl, ?_⟩) hH ?_
      rotate_left
      · intro W hS
        go_simp
        first | done | with_reducible rfl
      simp only [Act.put, List.getElem_toArray, List.getElem_cons_succ, List.getElem_cons_zero, List.setIfInBounds_toArray, List.set_cons_zero, List.set_cons_succ]
      refine wpAnyH_done (by kernel_rfl) ?_ _
      go_wp2_with fail
      go_ret
      exact ⟨rfl, chain2 hbZ hbZ.size hH.1⟩
end Go.Proofs.YtjfkehdlamnigaaGreatDoor
