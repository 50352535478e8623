/-
  The document's answers of layer 10: a table's Next.
-/
import Derived.Test.YtenijpcjemdhfaaGreatDoorP10d07
import Derived.Test.YtenijpcjemdhfaaGreatDoorP10dRef10C
namespace Go.Pantry
open Go.RowKit
theorem find_only {L : List RuleZ} (hn : ((L.map (·.1)).map (·.host)).Nodup) {k : Nat} {y : RuleZ} (hk : L[k]? = some y) : L.find? (fun x => x.1.host == y.1.host) = some y := by
  induction L generalizing k with
  | nil => cases hk
  | cons a L ih =>
    rw [List.map_cons, List.map_cons, List.nodup_cons] at hn
    rw [List.find?_cons]
    cases k with
    | zero => cases hk; simp
    | succ k =>
      have hk' : L[k]? = some y := by simpa using hk
      have hne : ¬ a.1.host = y.1.host := fun e => hn.1 (by rw [e]; exact List.mem_map.2 ⟨y.1, List.mem_map.2 ⟨y, List.mem_of_getElem? hk', rfl⟩, rfl⟩)
      have e' : (a.1.host == y.1.host) = false := by simpa using hne
      rw [e']
      exact ih hn.2 hk'
theorem nodup_idx {L : List RuleZ} (hn : ((L.map (·.1)).map (·.host)).Nodup) {i j : Nat} {x y : RuleZ} (hi : L[i]? = some x) (hj : L[j]? = some y) (h : x.1.host = y.1.host) : i = j := by
  rw [List.map_map, List.nodup_iff_pairwise_ne, List.pairwise_map, List.pairwise_iff_getElem] at hn
  obtain ⟨hil, rfl⟩ := List.getElem?_eq_some_iff.1 hi
  obtain ⟨hjl, rfl⟩ := List.getElem?_eq_some_iff.1 hj
  rcases Nat.lt_trichotomy i j with e | e | e
  · exact absurd h (hn i j hil hjl e)
  · exact e
  · exact absurd h.symm (hn j i hjl hil e)
theorem find_index {L : List RuleZ} (hn : ((L.map (·.1)).map (·.host)).Nodup) {h : List UInt8} {x : RuleZ} (hf : L.find? (fun x => x.1.host == h) = some x) :
    ∃ j : Nat, L[j]? = some x ∧ ∀ e : Ending, ((∃ (k : Nat) (y : SiteZ × Value), e = .returned (.int .i64 (k : Int)) ∧ (zT L)[k]? = some y ∧ (zT L).find? (fun x => x.1.host == h) = some y) ∨
      (e = .returned (.int .i64 (-1)) ∧ (zT L).find? (fun x => x.1.host == h) = none)) → e = .returned (.int .i64 (j : Int)) := by
  obtain ⟨j, hj⟩ := List.getElem?_of_mem (List.mem_of_find?_eq_some hf)
  have hxh : x.1.host = h := by simpa using List.find?_some hf
  refine ⟨j, hj, fun e he => ?_⟩
  rcases he with ⟨k, y, rfl, hk, hy⟩ | ⟨_, hy⟩
  · have hyh : y.1.host = h := by simpa using List.find?_some hy
    unfold zT at hk
    rw [List.getElem?_map, Option.map_eq_some_iff] at hk
    obtain ⟨z, hz, rfl⟩ := hk
    rw [nodup_idx hn hz hj (hyh.trans hxh.symm)]
  · exfalso
    unfold zT at hy
    rw [List.find?_map, Option.map_eq_none_iff] at hy
    have h1 : L.find? (fun x => x.1.host == h) = none := hy
    rw [h1] at hf
    cases hf
theorem kindD_site {A C : List SiteZ} {s : SiteZ} (hn : (C.map (·.host)).Nodup) (h : s ∈ C) : kindD A C s.host = kindP A s := by
  unfold kindD
  rw [findS_some hn h]
end Go.Pantry
namespace Go.Proofs.YtenijpcjemdhfaaGreatDoor
open Go.RowKit Go.Pantry

theorem infoRefRule : (Tryz.prog.info? 72).map (·.size) = some 8 := by kernel_rfl
set_option maxRecDepth 100000 in
set_option maxHeartbeats 8000000 in
theorem refTNext_any (g : Int) (v vc : Value) (L : List RuleZ) (LC : List (SiteZ × Value)) (w : World) (h : ReadsR w v L) (hf : FewR L) (hC : ReadsP w vc LC) (fC : Few LC) (hr : rightT g (tT L) = true) (hrc : rightC (LC.map (·.1)) = true) :
    Calls Tryz.prog 33 #[.agg #[.int .i64 g, v], .agg #[vc]] w fun e w' => ∃ v' L', e = .returned (.agg #[.int .i64 (g + 1), v']) ∧ tT L' = nextL g (tT L) (LC.map (·.1)) ∧ zT L' = LC ∧ w'.ownsRow w.heap.size 72 8 v' L'.length (rowsR L') ∧ Below w.heap.size w w' := by
  obtain ⟨ao, cap, e1, f1⟩ := h.form
  obtain ⟨bo, d, e2, f2⟩ := hC.form
  obtain ⟨n, hln⟩ : ∃ n, L.length = n := ⟨_, rfl⟩
  obtain ⟨m, hlm⟩ : ∃ n, LC.length = n := ⟨_, rfl⟩
  rw [hln] at e1
  rw [hlm] at e2
  subst e1 e2
  have hmb : m ≤ 1000000 := by rw [← hlm]; exact fC.len
  obtain ⟨W, hW⟩ : ∃ W, ((w.alloc (.cells #[.int .i64 g, .slice ao n cap] 56)).alloc (.cells #[.slice bo m d] 33)).alloc (.cells zeroTab 56) = W := ⟨_, rfl⟩
  have hb : Below w.heap.size w W := by rw [← hW]; exact chainP (chainP (below_alloc _ _) (below_alloc _ _)) (below_alloc _ _)
  have q0 : rowIs W w.heap.size #[.int .i64 g, .slice ao n cap] 56 := by rw [← hW]; exact ((rowIs_new _ _ _).below (below_alloc _ _)).below (below_alloc _ _)
  have q1 : rowIs W (w.heap.size + 1) #[.slice bo m d] 33 := by rw [← hW]; exact (rowIs_new_at _ _ _ _ (by simp)).below (below_alloc _ _)
  have q2 : rowIs W (w.heap.size + 1 + 1) zeroTab 56 := by rw [← hW]; exact rowIs_new_at _ _ _ _ (by simp)
  obtain ⟨B, hB⟩ : ∃ B, W.heap.size = B := ⟨_, rfl⟩
  have hBs : w.heap.size + 1 + 1 < B := by rw [← hB, ← hW]; simp
  obtain ⟨V, hV⟩ : ∃ V, W.alloc (.cells #[.int .i64 (g + 1), .slice none 0 0] 56) = V := ⟨_, rfl⟩
  have hbv : Below W.heap.size W V := by rw [← hV]; exact below_alloc _ _
  have HQ := hid (And.intro (q0.below hbv) (And.intro (q1.below hbv) (And.intro (q2.below hbv) (And.intro (show rowIs V B #[.int .i64 (g + 1), .slice none 0 0] 56 by rw [← hV, ← hB]; exact rowIs_new _ _ _) (And.intro (chainP hb hbv) hBs)))))
  have HLN := hid (And.intro hln hlm)
  have hgr := (rightT_iff.1 hr).1
  have hgw : IntKind.i64.wrap (g + 1) = g + 1 := IntWalk.i64_in _ (by omega)
  have hnd : ((L.map (·.1)).map (·.host)).Nodup := by have h1 := (rightT_iff.1 hr).2.2; rw [tT_map] at h1; exact nodup_right h1
  have HF := hid (And.intro hf (And.intro h hnd))
  have HC := hid (And.intro hC (And.intro fC (nodup_right hrc)))
  have y0 := q0.cell 0
  have q0v := q0.below hbv
  have cc := refTConfig_own g (.slice ao n cap) L V (h.below (chainP hb hbv)) hf.len
  have CC := hid cc
  clear h hf hC fC f1 f2 hln hlm hb hr hrc hgr q1 q2 hbv hBs hnd q0 cc
  have HVS := hid (show B < V.heap.size by rw [← hV, ← hB]; simp)
  subst hV
  go_enter Tryz.func33, Tryz.ntmps33
  go_wp2_with (refine wpList_load_row rfl 56 _ rfl w.heap.size rfl 56 _ (0, 0) _ q0v Tryz.underlying56 rfl infoRefTable ?_)
  refine CC.out.mono ?_
  rintro e w5 ⟨v5, rfl, ho5, hb5⟩
  obtain ⟨a5, n5, c5, rfl⟩ : ∃ a n c, v5 = .slice a n c := by obtain ⟨a, c, e⟩ := ownsRow_formN ho5; exact ⟨a, _, c, e⟩
  obtain ⟨w6, hW6⟩ : ∃ W, w5.alloc (.cells #[.slice a5 n5 c5] 33) = W := ⟨_, rfl⟩
  have hb6 : Below w5.heap.size w5 w6 := by rw [← hW6]; exact below_alloc _ _
  obtain ⟨O, hO⟩ : ∃ O, w5.heap.size = O := ⟨_, rfl⟩
  have ro : rowIs w6 O #[.slice a5 n5 c5] 33 := by rw [← hW6, ← hO]; exact rowIs_new _ _ _
  have hb56 := chainP hb5 hb6
  have hbw := chainP HQ.out.2.2.2.2.1 hb56
  have R6 := hid (And.intro (HQ.out.1.below hb56) (And.intro (HQ.out.2.1.below hb56) (And.intro (HQ.out.2.2.1.below hb56) (And.intro (HQ.out.2.2.2.1.below hb56) (And.intro ro (And.intro (ho5.below hb6) hbw))))))
  clear y0 hgw ho5 hb5 hb6 ro hb56 hbw hW hB q0v
  go_wp2_with fail
  clear hW6 hO
  obtain ⟨D, hD⟩ : ∃ D, D + 1 = w6.heap.size := ⟨w6.heap.size - 1, by have := R6.out.2.2.2.2.1.lt; omega⟩
  have HD := hid (show B ≤ D ∧ O ≤ D ∧ D + 1 = w6.heap.size ∧ w.heap.size + 1 + 1 < B ∧ w.heap.size ≤ D ∧ ¬ O = B from ⟨by have := R6.out.2.2.2.1.lt; omega, by have := R6.out.2.2.2.2.1.lt; omega, hD, HQ.out.2.2.2.2.2, by have := R6.out.2.2.2.1.lt; have := HQ.out.2.2.2.2.2; omega, fun e => by
    have h1 := R6.out.2.2.2.1
    have h2 := R6.out.2.2.2.2.1
    rw [e] at h2
    unfold rowIs at h1 h2
    rw [h1] at h2
    have h3 := Option.some.inj h2
    injection h3 with h4
    exact absurd (congrArg Array.size h4) (by simp)⟩)
  clear hD
  go_loopw [7] (fun z wr => ∃ (k : Nat) (sv : Value) (T : List RuleZ), z = .int .i64 (k : Int) ∧ k ≤ m ∧ (tT T = (nextL g (tT L) (LC.map (·.1))).take k ∧ zT T = LC.take k) ∧ rowIs wr B #[.int .i64 (g + 1), sv] 56 ∧ (wr.ownsRow 0 72 8 sv T.length (rowsR T) ∧ In (fun k => D < k) sv) ∧ Kept (fun j => j = B) w6 wr) (fun z _ => m - (intOf z).toNat)
  case atStart => exact ⟨0, _, [], rfl, Nat.zero_le _, ⟨rfl, rfl⟩, R6.out.2.2.2.1, ⟨World.ownsRow_nil _ _ _ _, In.nil _ _⟩, Kept.refl _ _⟩
  case round =>
    obtain ⟨k, sv, T, rfl, hk, he, hrb, hz, hkp⟩ := hrel
    have HE := hid he
    obtain ⟨aos, cs, hfs⟩ := ownsRow_formN hz.1
    obtain ⟨ns, hns⟩ : ∃ ns, T.length = ns := ⟨_, rfl⟩
    have HNK := hid (show ns = k by
      have h1 := congrArg List.length he.1
      have h2 := HLN.out.2
      rw [tT_len, List.length_take, nextL, List.length_map, List.length_map] at h1
      omega)
    rw [hns] at hfs
    subst hfs
    have HNS := hid hns
    have HR := hid (And.intro hrb (And.intro hz hkp))
    have hbr : Below w.heap.size w wr := ((Kept.of_below (X := fun _ => False) R6.out.2.2.2.2.2.2).trans (Y := fun j => j = B) (hkp.mono (fun k h _ => h)) (fun k h hk => by have := HD.out; omega)).below (fun k h _ => h.elim) (Nat.le_refl _)
    have HBR := hid hbr
    have KR0 := hid (R6.out.1.kept hkp (by have := HD.out; omega))
    have KR1 := hid (R6.out.2.1.kept hkp (by have := HD.out; omega))
    have KR2 := hid (R6.out.2.2.1.kept hkp (by have := HD.out; omega))
    have KRO := hid (R6.out.2.2.2.2.1.kept hkp HD.out.2.2.2.2.2)
    have q1c := KR1.out.cell 0
    by_cases hlt : k < m
    · obtain ⟨⟨s, hv⟩, hx⟩ : ∃ x, LC[k]? = some x := by
        have := HLN.out
        exact ⟨LC[k]'(by omega), List.getElem?_eq_getElem (by omega)⟩
      have hmem := List.mem_of_getElem? hx
      have hrd := (HC.out.1.heads _ hmem).below hbr
      obtain ⟨aox, cx, hfv⟩ := hrd.form
      simp only at hfv hrd
      obtain ⟨nx, hnx⟩ : ∃ nh, (s.heads.map strV).length = nh := ⟨_, rfl⟩
      rw [hnx] at hfv
      subst hfv
      obtain ⟨b1, o1, g1, i1⟩ := (HC.out.1.below hbr).at_ hx
      subst g1
      have hkI : (k : Int) < (m : Int) := by omega
      have hk0 : (0 : Int) ≤ (k : Int) := by omega
      have hkw : IntKind.i64.wrap ((k : Int) + 1) = (k : Int) + 1 := IntWalk.i64_in _ (by omega)
      obtain ⟨p1, hp1⟩ : ∃ p, o1 + k * 7 = p := ⟨_, rfl⟩
      rw [hp1] at i1
      have y0 := i1 0 _ rfl
      rw [Nat.add_zero] at y0
      have Y0 := hid y0
      have Y1 := hid (i1 1 _ rfl)
      have Y2 := hid (i1 2 _ rfl)
      have Y3 := hid (i1 3 _ rfl)
      have Y4 := hid (i1 4 _ rfl)
      have Y5 := hid (i1 5 _ rfl)
      have Y6 := hid (i1 6 _ rfl)
      have hx2 : (LC.map (·.1))[k]? = some s := by rw [List.getElem?_map, hx]; rfl
      have HX := hid (And.intro hx2 (And.intro hx hmem))
      have Q1 : Hid (∀ W', Below wr.heap.size wr W' → rowIs W' (w.heap.size + 1) #[.slice (some ⟨b1, o1, none⟩) m d] 33) := fun W' hS => KR1.out.below hS
      have QB : Hid (∀ W', Below wr.heap.size wr W' → W'.cell? ⟨B, 0, none⟩ = some (.int .i64 (g + 1))) := fun W' hS => (HR.out.1.below hS).cell 0
      clear he hrb hz hkp hbr hx hx2 hmem hnx i1 hns y0 hrd
      go_wp2_with fail
      clear q1c
      refine wp_region_held_drew (S := fun w' => Below wr.heap.size wr w') (by kernel_rfl) ((Below.refl _ _).drew) (fun hH => ?_)
      generalize wr.drew = w0 at hH ⊢
      refine wpAnyH_take (i := 0) (v := ?_) rfl (by kernel_rfl) (by kernel_rfl) (by kernel_rfl) (fun _ _ _ h => h) (Or.inl ⟨by kernel_rfl, ?_⟩) hH ?_
      rotate_left
      · intro W hS
        have q1 := (Q1.out W hS).cell 0
        have q2 := QB.out W hS
        have y0 := kept Y0.out hS
        have y1 := kept Y1.out hS
        have y2 := kept Y2.out hS
        have y3 := kept Y3.out hS
        have y4 := kept Y4.out hS
        have y5 := kept Y5.out hS
        have y6 := kept Y6.out hS
        go_simp
        first | done | with_reducible rfl
      simp only [Act.put, List.getElem_toArray, List.getElem_cons_succ, List.getElem_cons_zero, List.setIfInBounds_toArray, List.set_cons_zero, List.set_cons_succ]
      refine wpAnyH_take (i := 1) (v := ?_) rfl (by kernel_rfl) (by kernel_rfl) (by kernel_rfl) (fun _ _ _ h => h) (Or.inl ⟨by kernel_rfl, ?_⟩) hH ?_
      rotate_left
      · intro W hS
        have q1 := (Q1.out W hS).cell 0
        have q2 := QB.out W hS
        have y0 := kept Y0.out hS
        have y1 := kept Y1.out hS
        have y2 := kept Y2.out hS
        have y3 := kept Y3.out hS
        have y4 := kept Y4.out hS
        have y5 := kept Y5.out hS
        have y6 := kept Y6.out hS
        go_simp
        first | done | with_reducible rfl
      simp only [Act.put, List.getElem_toArray, List.getElem_cons_succ, List.getElem_cons_zero, List.setIfInBounds_toArray, List.set_cons_zero, List.set_cons_succ]
      refine wpAnyH_take (i := 2) (v := ?_) rfl (by kernel_rfl) (by kernel_rfl) (by kernel_rfl) (fun _ _ _ h => h) (Or.inl ⟨by kernel_rfl, ?_⟩) hH ?_
      rotate_left
      · intro W hS
        have q1 := (Q1.out W hS).cell 0
        have q2 := QB.out W hS
        have y0 := kept Y0.out hS
        have y1 := kept Y1.out hS
        have y2 := kept Y2.out hS
        have y3 := kept Y3.out hS
        have y4 := kept Y4.out hS
        have y5 := kept Y5.out hS
        have y6 := kept Y6.out hS
        go_simp
        first | done | with_reducible rfl
      simp only [Act.put, List.getElem_toArray, List.getElem_cons_succ, List.getElem_cons_zero, List.setIfInBounds_toArray, List.set_cons_zero, List.set_cons_succ]
      refine wpAnyH_take (i := 3) (v := ?_) rfl (by kernel_rfl) (by kernel_rfl) (by kernel_rfl) (fun _ _ _ h => h) (Or.inl ⟨by kernel_rfl, ?_⟩) hH ?_
      rotate_left
      · intro W hS
        have q1 := (Q1.out W hS).cell 0
        have q2 := QB.out W hS
        have y0 := kept Y0.out hS
        have y1 := kept Y1.out hS
        have y2 := kept Y2.out hS
        have y3 := kept Y3.out hS
        have y4 := kept Y4.out hS
        have y5 := kept Y5.out hS
        have y6 := kept Y6.out hS
        go_simp
        first | done | with_reducible rfl
      simp only [Act.put, List.getElem_toArray, List.getElem_cons_succ, List.getElem_cons_zero, List.setIfInBounds_toArray, List.set_cons_zero, List.set_cons_succ]
      refine wpAnyH_take (i := 4) (v := ?_) rfl (by kernel_rfl) (by kernel_rfl) (by kernel_rfl) (fun _ _ _ h => h) (Or.inl ⟨by kernel_rfl, ?_⟩) hH ?_
      rotate_left
      · intro W hS
        have q1 := (Q1.out W hS).cell 0
        have q2 := QB.out W hS
        have y0 := kept Y0.out hS
        have y1 := kept Y1.out hS
        have y2 := kept Y2.out hS
        have y3 := kept Y3.out hS
        have y4 := kept Y4.out hS
        have y5 := kept Y5.out hS
        have y6 := kept Y6.out hS
        go_simp
        first | done | with_reducible rfl
      simp only [Act.put, List.getElem_toArray, List.getElem_cons_succ, List.getElem_cons_zero, List.setIfInBounds_toArray, List.set_cons_zero, List.set_cons_succ]
      refine wpAnyH_take (i := 5) (v := ?_) rfl (by kernel_rfl) (by kernel_rfl) (by kernel_rfl) (fun _ _ _ h => h) (Or.inl ⟨by kernel_rfl, ?_⟩) hH ?_
      rotate_left
      · intro W hS
        have q1 := (Q1.out W hS).cell 0
        have q2 := QB.out W hS
        have y0 := kept Y0.out hS
        have y1 := kept Y1.out hS
        have y2 := kept Y2.out hS
        have y3 := kept Y3.out hS
        have y4 := kept Y4.out hS
        have y5 := kept Y5.out hS
        have y6 := kept Y6.out hS
        go_simp
        first | done | with_reducible rfl
      simp only [Act.put, List.getElem_toArray, List.getElem_cons_succ, List.getElem_cons_zero, List.setIfInBounds_toArray, List.set_cons_zero, List.set_cons_succ]
      refine wpAnyH_take (i := 6) (v := ?_) rfl (by kernel_rfl) (by kernel_rfl) (by kernel_rfl) (fun _ _ _ h => h) (Or.inl ⟨by kernel_rfl, ?_⟩) hH ?_
      rotate_left
      · intro W hS
        have q1 := (Q1.out W hS).cell 0
        have q2 := QB.out W hS
        have y0 := kept Y0.out hS
        have y1 := kept Y1.out hS
        have y2 := kept Y2.out hS
        have y3 := kept Y3.out hS
        have y4 := kept Y4.out hS
        have y5 := kept Y5.out hS
        have y6 := kept Y6.out hS
        go_simp
        first | done | with_reducible rfl
      simp only [Act.put, List.getElem_toArray, List.getElem_cons_succ, List.getElem_cons_zero, List.setIfInBounds_toArray, List.set_cons_zero, List.set_cons_succ]
      refine wpAnyH_take (i := 7) (v := ?_) rfl (by kernel_rfl) (by kernel_rfl) (by kernel_rfl) (fun _ _ _ h => h) (Or.inl ⟨by kernel_rfl, ?_⟩) hH ?_
      rotate_left
      · intro W hS
        have q1 := (Q1.out W hS).cell 0
        have q2 := QB.out W hS
        have y0 := kept Y0.out hS
        have y1 := kept Y1.out hS
        have y2 := kept Y2.out hS
        have y3 := kept Y3.out hS
        have y4 := kept Y4.out hS
        have y5 := kept Y5.out hS
        have y6 := kept Y6.out hS
        go_simp
        first | done | with_reducible rfl
      simp only [Act.put, List.getElem_toArray, List.getElem_cons_succ, List.getElem_cons_zero, List.setIfInBounds_toArray, List.set_cons_zero, List.set_cons_succ]
      refine wpAnyH_ready (rs := [8]) (by kernel_rfl) (by simp) ?_
      refine AllReadyH.cons rfl (fun K hK => ?_) AllReadyH.nil
      obtain ⟨w3, hW3⟩ : ∃ W, W = w0.alloc (.cells zeroRule 72) := ⟨_, rfl⟩
      have hb3 : Below w0.heap.size w0 w3 := by rw [hW3]; exact below_alloc _ _
      have HP3 : Hid (rowIs w3 w0.heap.size zeroRule 72) := by rw [hW3]; exact rowIs_new _ _ _
      have hsz := hH.size
      go_simp
      rw [← hW3]
      clear hW3
      refine hK.out _ _ (chainP hH hb3) (fun hH => ?_)
      clear hK K
      try simp only [Act.put, List.getElem_toArray, List.getElem_cons_succ, List.getElem_cons_zero, List.setIfInBounds_toArray, List.set_cons_zero, List.set_cons_succ]
      refine wpAnyH_ready (rs := [9]) (by kernel_rfl) (by simp) ?_
      refine AllReadyH.cons rfl (fun K hK => ?_) AllReadyH.nil
      rw [if_pos (by kernel_rfl)]
      refine wp_store_row 72 _ _ rfl w0.heap.size (rowRz (s, .slice aox nx cx, g + 1)) rfl rfl 72 zeroRule HP3.out infoRefRule rfl (oneRule _ _ _ _ _ _ _ _ _ _) ?_
      have HW1 := hid (HP3.out.setRow (rowRz (s, .slice aox nx cx, g + 1)))
      refine hK.out _ _ (below_setRow hH hsz _) (fun hH => ?_)
      clear hK K
      try simp only [Act.put, List.getElem_toArray, List.getElem_cons_succ, List.getElem_cons_zero, List.setIfInBounds_toArray, List.set_cons_zero, List.set_cons_succ]
      refine wpAnyH_done (by kernel_rfl) ?_ _
      obtain ⟨w1, hw1⟩ : ∃ W, w3.setRow w0.heap.size (rowRz (s, .slice aox nx cx, g + 1)) = W := ⟨_, rfl⟩
      rw [hw1] at HW1 hH ⊢
      obtain ⟨p, hp⟩ : ∃ p, w0.heap.size = p := ⟨_, rfl⟩
      rw [hp] at HW1 hsz ⊢
      have H1 := hid (And.intro hH (And.intro (chainP HBR.out hH) hsz))
      have hq1 := HR.out.2.1.2
      clear hw1 hp hsz HP3 hb3
      go_wp2_with fail
      have hS1 : w6.heap.size ≤ wr.heap.size := HR.out.2.2.size
      have P0 : Hid (∀ W', Below w1.heap.size w1 W' → rowIs W' w.heap.size #[.int .i64 g, .slice ao n cap] 56) := fun W' hS => (KR0.out.below H1.out.1).below hS
      have P1 : Hid (∀ W', Below w1.heap.size w1 W' → rowIs W' (w.heap.size + 1) #[.slice (some ⟨b1, o1, none⟩) m d] 33) := fun W' hS => (KR1.out.below H1.out.1).below hS
      have PO : Hid (∀ W', Below w1.heap.size w1 W' → rowIs W' O #[.slice a5 n5 c5] 33) := fun W' hS => (KRO.out.below H1.out.1).below hS
      have Z0 := hid (kept Y0.out H1.out.1)
      have rz6 : ReadsP wr (.slice a5 n5 c5) (zT L) := zT_readsP (ownsRow_kept R6.out.2.2.2.2.2.1 HR.out.2.2 (fun j hj e => by have h1 := (R6.out.2.2.2.2.2.1.lt j hj).1; have h2 := HVS.out; omega)) (fun x hx => (HF.out.2.1.heads x hx).below HBR.out)
      have CK : Hid (∀ W', Below w1.heap.size w1 W' → Calls Tryz.prog 47 #[.agg #[.slice a5 n5 c5], .agg #[.slice (some ⟨b1, o1, none⟩) m d], strV s.host] W' fun e w' => e = .returned (.int .i64 ((kindD ((zT L).map (·.1)) (LC.map (·.1)) s.host : Nat) : Int)) ∧ Below W'.heap.size W' w') := fun W' hS =>
        refKind_any (.slice a5 n5 c5) (.slice (some ⟨b1, o1, none⟩) m d) (zT L) LC s.host W' ((rz6.below H1.out.1).below hS) (HC.out.1.below (chainP H1.out.2.1 hS)) (by rw [zT_len]; exact HF.out.1.len) HC.out.2.1.len (few_zT HF.out.1).heads HC.out.2.1.heads
      obtain ⟨q, hq⟩ : ∃ q, kindP (L.map (·.1)) s = q := ⟨_, rfl⟩
      rw [kindD_site HC.out.2.2 (List.mem_map.2 ⟨_, HX.out.2.2, rfl⟩), zT_map, hq] at CK
      have HQQ := hid hq
      have HRZ := hid (rz6.below H1.out.1)
      clear rz6 hq1 hS1 hq
      refine wp_region_held_drew (S := fun w' => Below w1.heap.size w1 w') (by kernel_rfl) ((Below.refl _ _).drew) (fun hH => ?_)
      refine wpAnyH_take (i := 0) (v := .agg #[.slice a5 n5 c5]) rfl (by kernel_rfl) (by kernel_rfl) (by kernel_rfl) (fun _ _ _ h => h) (Or.inl ⟨by kernel_rfl, ?_⟩) hH ?_
      · intro W hS
        exact load_gives rfl _ rfl (PO.out W hS) Tryz.underlying33 rfl infoRefCfg
      simp only [Act.put, List.getElem_toArray, List.getElem_cons_succ, List.getElem_cons_zero, List.setIfInBounds_toArray, List.set_cons_zero, List.set_cons_succ]
      refine wpAnyH_take (i := 1) (v := .agg #[.slice (some ⟨b1, o1, none⟩) m d]) rfl (by kernel_rfl) (by kernel_rfl) (by kernel_rfl) (fun _ _ _ h => h) (Or.inl ⟨by kernel_rfl, ?_⟩) hH ?_
      · intro W hS
        exact load_gives rfl _ rfl (P1.out W hS) Tryz.underlying33 rfl infoRefCfg
      simp only [Act.put, List.getElem_toArray, List.getElem_cons_succ, List.getElem_cons_zero, List.setIfInBounds_toArray, List.set_cons_zero, List.set_cons_succ]
      refine wpAnyH_take (i := 2) (v := ?_) rfl (by kernel_rfl) (by kernel_rfl) (by kernel_rfl) (fun _ _ _ h => h) (Or.inl ⟨by kernel_rfl, ?_⟩) hH ?_
      rotate_left
      · intro W hS
        have q1 := (P1.out W hS).cell 0
        have y0 := kept Z0.out hS
        go_simp
        first | done | with_reducible rfl
      simp only [Act.put, List.getElem_toArray, List.getElem_cons_succ, List.getElem_cons_zero, List.setIfInBounds_toArray, List.set_cons_zero, List.set_cons_succ]
      refine wpAnyH_take (i := 3) (v := ?_) rfl (by kernel_rfl) (by kernel_rfl) (by kernel_rfl) (fun _ _ _ h => h) (Or.inl ⟨by kernel_rfl, ?_⟩) hH ?_
      rotate_left
      · intro W hS
        have q1 := (P1.out W hS).cell 0
        have y0 := kept Z0.out hS
        go_simp
        first | done | with_reducible rfl
      simp only [Act.put, List.getElem_toArray, List.getElem_cons_succ, List.getElem_cons_zero, List.setIfInBounds_toArray, List.set_cons_zero, List.set_cons_succ]
      refine wpAnyH_take (i := 4) (v := ?_) rfl (by kernel_rfl) (by kernel_rfl) (by kernel_rfl) (fun _ _ _ h => h) (Or.inl ⟨by kernel_rfl, ?_⟩) hH ?_
      rotate_left
      · intro W hS
        have q1 := (P1.out W hS).cell 0
        have y0 := kept Z0.out hS
        go_simp
        first | done | with_reducible rfl
      simp only [Act.put, List.getElem_toArray, List.getElem_cons_succ, List.getElem_cons_zero, List.setIfInBounds_toArray, List.set_cons_zero, List.set_cons_succ]
      refine wpAnyH_take (i := 5) (v := ?_) rfl (by kernel_rfl) (by kernel_rfl) (by kernel_rfl) (fun _ _ _ h => h) (Or.inl ⟨by kernel_rfl, ?_⟩) hH ?_
      rotate_left
      · intro W hS
        have q1 := (P1.out W hS).cell 0
        have y0 := kept Z0.out hS
        go_simp
        first | done | with_reducible rfl
      simp only [Act.put, List.getElem_toArray, List.getElem_cons_succ, List.getElem_cons_zero, List.setIfInBounds_toArray, List.set_cons_zero, List.set_cons_succ]
      refine wpAnyH_take (i := 6) (v := ?_) rfl (by kernel_rfl) (by kernel_rfl) (by kernel_rfl) (fun _ _ _ h => h) (Or.inl ⟨by kernel_rfl, ?_⟩) hH ?_
      rotate_left
      · intro W hS
        have q1 := (P1.out W hS).cell 0
        have y0 := kept Z0.out hS
        go_simp
        first | done | with_reducible rfl
      simp only [Act.put, List.getElem_toArray, List.getElem_cons_succ, List.getElem_cons_zero, List.setIfInBounds_toArray, List.set_cons_zero, List.set_cons_succ]
      refine wpAnyH_take (i := 7) (v := ?_) rfl (by kernel_rfl) (by kernel_rfl) (by kernel_rfl) (fun _ _ _ h => h) (Or.inl ⟨by kernel_rfl, ?_⟩) hH ?_
      rotate_left
      · intro W hS
        have q1 := (P1.out W hS).cell 0
        have y0 := kept Z0.out hS
        go_simp
        first | done | with_reducible rfl
      simp only [Act.put, List.getElem_toArray, List.getElem_cons_succ, List.getElem_cons_zero, List.setIfInBounds_toArray, List.set_cons_zero, List.set_cons_succ]
      refine wpAnyH_ready (rs := [8]) (by kernel_rfl) (by simp) ?_
      refine AllReadyH.cons rfl (fun K hK => ?_) AllReadyH.nil
      go_simp
      refine (CK.out _ hH).mono ?_
      rintro e w3 ⟨rfl, hb3⟩
      refine hK.out _ _ (chainP hH hb3) (fun hH => ?_)
      clear hb3
      clear hK K
      try simp only [Act.put, List.getElem_toArray, List.getElem_cons_succ, List.getElem_cons_zero, List.setIfInBounds_toArray, List.set_cons_zero, List.set_cons_succ]
      refine wpAnyH_take (i := 9) (v := ?_) rfl (by kernel_rfl) (by kernel_rfl) (by kernel_rfl) (fun _ _ _ h => h) (Or.inl ⟨by kernel_rfl, ?_⟩) hH ?_
      rotate_left
      · intro W hS
        have q1 := (P1.out W hS).cell 0
        have y0 := kept Z0.out hS
        go_simp
        first | done | with_reducible rfl
      simp only [Act.put, List.getElem_toArray, List.getElem_cons_succ, List.getElem_cons_zero, List.setIfInBounds_toArray, List.set_cons_zero, List.set_cons_succ]
      refine wpAnyH_done (by kernel_rfl) ?_ _
      have H2 := hid hH
      have HW2 := hid (HW1.out.below hH)
      clear hH
      go_upto_if 39 with fail
      go_cut [] from 30 to 53 (fun W' => ∃ (zz : Int), zz = sinceN (g + 1) (tT L) s ∧ rowIs W' p (rowRz (s, .slice aox nx cx, zz)) 72 ∧ Kept (fun k => k = p) w3 W')
      case first =>
        by_cases hq0 : q = 0
        · have h0 : ((q : Nat) : Int) = 0 := by omega
          obtain ⟨x, hfx, hsx⟩ := since_keep (g := g + 1) (HQQ.out.trans hq0)
          obtain ⟨j, hjx, hje⟩ := find_index HF.out.2.2 hfx
          have hjl : j < n := by have h1 := (List.getElem?_eq_some_iff.1 hjx).1; have h2 := HLN.out.1; omega
          obtain ⟨b9, o9, g9, i9⟩ := (HF.out.2.1.below HBR.out).at_ hjx
          subst g9
          obtain ⟨p9, hp9⟩ : ∃ p, o9 + j * 8 = p := ⟨_, rfl⟩
          rw [hp9] at i9
          have Z7 := hid (kept (i9 7 _ rfl) H1.out.1)
          have hjI : (j : Int) < (n : Int) := by omega
          have hj0 : (0 : Int) ≤ (j : Int) := by omega
          have CF : Hid (∀ W', Below w1.heap.size w1 W' → Calls Tryz.prog 29 #[.agg #[.slice a5 n5 c5], strV s.host] W' fun e w' => e = .returned (.int .i64 (j : Int)) ∧ Below W'.heap.size W' w') := fun W' hS => by
            refine (refFindC_any (.slice a5 n5 c5) (zT L) s.host W' (HRZ.out.below hS) (by rw [zT_len]; exact HF.out.1.len)).mono ?_
            rintro e w' ⟨h1, h2⟩
            exact ⟨hje e h1, h2⟩
          have HSX := hid hsx
          clear hq0 hfx hsx hjx hje hjl i9 CK
          go_wp2_with fail
          refine wp_region_K 14 (by kernel_rfl) (fun w' => Below w1.heap.size w1 w') (H2.out.drew) (fun hH => ?_)
          refine wpAnyK_take (i := 0) (v := ?_) rfl (by kernel_rfl) (by kernel_rfl) (by kernel_rfl) (by decide) (by kernel_rfl) (fun _ _ _ h => h) (Or.inl ⟨by kernel_rfl, ?_⟩) hH ?_
          rotate_left
          · intro W hS
            have q0 := (P0.out W hS).cell 1
            have q1 := (P1.out W hS).cell 0
            have y0 := kept Z0.out hS
            have y7 := kept Z7.out hS
            go_simp
            first | done | with_reducible rfl
          simp only [Act.put, List.getElem_toArray, List.getElem_cons_succ, List.getElem_cons_zero, List.setIfInBounds_toArray, List.set_cons_zero, List.set_cons_succ]
          refine wpAnyK_take (i := 1) (v := ?_) rfl (by kernel_rfl) (by kernel_rfl) (by kernel_rfl) (by decide) (by kernel_rfl) (fun _ _ _ h => h) (Or.inl ⟨by kernel_rfl, ?_⟩) hH ?_
          rotate_left
          · intro W hS
            have q0 := (P0.out W hS).cell 1
            have q1 := (P1.out W hS).cell 0
            have y0 := kept Z0.out hS
            have y7 := kept Z7.out hS
            go_simp
            first | done | with_reducible rfl
          simp only [Act.put, List.getElem_toArray, List.getElem_cons_succ, List.getElem_cons_zero, List.setIfInBounds_toArray, List.set_cons_zero, List.set_cons_succ]
          refine wpAnyK_take (i := 2) (v := .agg #[.slice a5 n5 c5]) rfl (by kernel_rfl) (by kernel_rfl) (by kernel_rfl) (by decide) (by kernel_rfl) (fun _ _ _ h => h) (Or.inl ⟨by kernel_rfl, ?_⟩) hH ?_
          · intro W hS
            exact load_gives rfl _ rfl (PO.out W hS) Tryz.underlying33 rfl infoRefCfg
          simp only [Act.put, List.getElem_toArray, List.getElem_cons_succ, List.getElem_cons_zero, List.setIfInBounds_toArray, List.set_cons_zero, List.set_cons_succ]
          refine wpAnyK_take (i := 3) (v := ?_) rfl (by kernel_rfl) (by kernel_rfl) (by kernel_rfl) (by decide) (by kernel_rfl) (fun _ _ _ h => h) (Or.inl ⟨by kernel_rfl, ?_⟩) hH ?_
          rotate_left
          · intro W hS
            have q0 := (P0.out W hS).cell 1
            have q1 := (P1.out W hS).cell 0
            have y0 := kept Z0.out hS
            have y7 := kept Z7.out hS
            go_simp
            first | done | with_reducible rfl
          simp only [Act.put, List.getElem_toArray, List.getElem_cons_succ, List.getElem_cons_zero, List.setIfInBounds_toArray, List.set_cons_zero, List.set_cons_succ]
          refine wpAnyK_take (i := 4) (v := ?_) rfl (by kernel_rfl) (by kernel_rfl) (by kernel_rfl) (by decide) (by kernel_rfl) (fun _ _ _ h => h) (Or.inl ⟨by kernel_rfl, ?_⟩) hH ?_
          rotate_left
          · intro W hS
            have q0 := (P0.out W hS).cell 1
            have q1 := (P1.out W hS).cell 0
            have y0 := kept Z0.out hS
            have y7 := kept Z7.out hS
            go_simp
            first | done | with_reducible rfl
          simp only [Act.put, List.getElem_toArray, List.getElem_cons_succ, List.getElem_cons_zero, List.setIfInBounds_toArray, List.set_cons_zero, List.set_cons_succ]
          refine wpAnyK_take (i := 5) (v := ?_) rfl (by kernel_rfl) (by kernel_rfl) (by kernel_rfl) (by decide) (by kernel_rfl) (fun _ _ _ h => h) (Or.inl ⟨by kernel_rfl, ?_⟩) hH ?_
          rotate_left
          · intro W hS
            have q0 := (P0.out W hS).cell 1
            have q1 := (P1.out W hS).cell 0
            have y0 := kept Z0.out hS
            have y7 := kept Z7.out hS
            go_simp
            first | done | with_reducible rfl
          simp only [Act.put, List.getElem_toArray, List.getElem_cons_succ, List.getElem_cons_zero, List.setIfInBounds_toArray, List.set_cons_zero, List.set_cons_succ]
          refine wpAnyK_take (i := 6) (v := ?_) rfl (by kernel_rfl) (by kernel_rfl) (by kernel_rfl) (by decide) (by kernel_rfl) (fun _ _ _ h => h) (Or.inl ⟨by kernel_rfl, ?_⟩) hH ?_
          rotate_left
          · intro W hS
            have q0 := (P0.out W hS).cell 1
            have q1 := (P1.out W hS).cell 0
            have y0 := kept Z0.out hS
            have y7 := kept Z7.out hS
            go_simp
            first | done | with_reducible rfl
          simp only [Act.put, List.getElem_toArray, List.getElem_cons_succ, List.getElem_cons_zero, List.setIfInBounds_toArray, List.set_cons_zero, List.set_cons_succ]
          refine wpAnyK_take (i := 7) (v := ?_) rfl (by kernel_rfl) (by kernel_rfl) (by kernel_rfl) (by decide) (by kernel_rfl) (fun _ _ _ h => h) (Or.inl ⟨by kernel_rfl, ?_⟩) hH ?_
          rotate_left
          · intro W hS
            have q0 := (P0.out W hS).cell 1
            have q1 := (P1.out W hS).cell 0
            have y0 := kept Z0.out hS
            have y7 := kept Z7.out hS
            go_simp
            first | done | with_reducible rfl
          simp only [Act.put, List.getElem_toArray, List.getElem_cons_succ, List.getElem_cons_zero, List.setIfInBounds_toArray, List.set_cons_zero, List.set_cons_succ]
          refine wpAnyK_take (i := 8) (v := ?_) rfl (by kernel_rfl) (by kernel_rfl) (by kernel_rfl) (by decide) (by kernel_rfl) (fun _ _ _ h => h) (Or.inl ⟨by kernel_rfl, ?_⟩) hH ?_
          rotate_left
          · intro W hS
            have q0 := (P0.out W hS).cell 1
            have q1 := (P1.out W hS).cell 0
            have y0 := kept Z0.out hS
            have y7 := kept Z7.out hS
            go_simp
            first | done | with_reducible rfl
          simp only [Act.put, List.getElem_toArray, List.getElem_cons_succ, List.getElem_cons_zero, List.setIfInBounds_toArray, List.set_cons_zero, List.set_cons_succ]
          refine wpAnyK_next (i := 9) (by kernel_rfl) rfl (by decide) (fun K hK => ?_)
          go_simp
          refine (CF.out _ hH).mono ?_
          rintro e w4 ⟨rfl, hb4⟩
          have c7 := (HW1.out.below (chainP hH hb4)).cell 7
          have f7 := (HW1.out.below (chainP hH hb4)).free 7
          have H4 := hid (chainP hH hb4)
          have H34 := hid (show Below w3.heap.size w3 w4 from below_of_drew hb4)
          refine hK.out _ _ (chainP hH hb4) (fun hH => ?_)
          clear hb4
          clear hK K
          try simp only [Act.put, List.getElem_toArray, List.getElem_cons_succ, List.getElem_cons_zero, List.setIfInBounds_toArray, List.set_cons_zero, List.set_cons_succ]
          refine wpAnyK_take (i := 10) (v := ?_) rfl (by kernel_rfl) (by kernel_rfl) (by kernel_rfl) (by decide) (by kernel_rfl) (fun _ _ _ h => h) (Or.inl ⟨by kernel_rfl, ?_⟩) hH ?_
          rotate_left
          · intro W hS
            have q0 := (P0.out W hS).cell 1
            have q1 := (P1.out W hS).cell 0
            have y0 := kept Z0.out hS
            have y7 := kept Z7.out hS
            go_simp
            first | done | with_reducible rfl
          simp only [Act.put, List.getElem_toArray, List.getElem_cons_succ, List.getElem_cons_zero, List.setIfInBounds_toArray, List.set_cons_zero, List.set_cons_succ]
          refine wpAnyK_take (i := 11) (v := ?_) rfl (by kernel_rfl) (by kernel_rfl) (by kernel_rfl) (by decide) (by kernel_rfl) (fun _ _ _ h => h) (Or.inl ⟨by kernel_rfl, ?_⟩) hH ?_
          rotate_left
          · intro W hS
            have q0 := (P0.out W hS).cell 1
            have q1 := (P1.out W hS).cell 0
            have y0 := kept Z0.out hS
            have y7 := kept Z7.out hS
            go_simp
            first | done | with_reducible rfl
          simp only [Act.put, List.getElem_toArray, List.getElem_cons_succ, List.getElem_cons_zero, List.setIfInBounds_toArray, List.set_cons_zero, List.set_cons_succ]
          refine wpAnyK_take (i := 12) (v := ?_) rfl (by kernel_rfl) (by kernel_rfl) (by kernel_rfl) (by decide) (by kernel_rfl) (fun _ _ _ h => h) (Or.inl ⟨by kernel_rfl, ?_⟩) hH ?_
          rotate_left
          · intro W hS
            have q0 := (P0.out W hS).cell 1
            have q1 := (P1.out W hS).cell 0
            have y0 := kept Z0.out hS
            have y7 := kept Z7.out hS
            go_simp
            first | done | with_reducible rfl
          simp only [Act.put, List.getElem_toArray, List.getElem_cons_succ, List.getElem_cons_zero, List.setIfInBounds_toArray, List.set_cons_zero, List.set_cons_succ]
          refine wpAnyK_take (i := 13) (v := ?_) rfl (by kernel_rfl) (by kernel_rfl) (by kernel_rfl) (by decide) (by kernel_rfl) (fun _ _ _ h => h) (Or.inl ⟨by kernel_rfl, ?_⟩) hH ?_
          rotate_left
          · intro W hS
            have q0 := (P0.out W hS).cell 1
            have q1 := (P1.out W hS).cell 0
            have y0 := kept Z0.out hS
            have y7 := kept Z7.out hS
            go_simp
            first | done | with_reducible rfl
          simp only [Act.put, List.getElem_toArray, List.getElem_cons_succ, List.getElem_cons_zero, List.setIfInBounds_toArray, List.set_cons_zero, List.set_cons_succ]
          refine wpAnyK_last (by kernel_rfl) rfl (fun K hK => ?_)
          go_simp
          refine hK.out _ _ ?_
          clear hK K
          try simp only [Act.put, List.getElem_toArray, List.getElem_cons_succ, List.getElem_cons_zero, List.setIfInBounds_toArray, List.set_cons_zero, List.set_cons_succ]
          refine wpAnyK_done (by kernel_rfl) ?_ _
          go_wp2_with fail
          go_meet
          case rel =>
            refine ⟨x.2.2, HSX.out.symm, ?_, ?_⟩
            · exact (HW1.out.below H4.out).setCell 7 _
            · exact (Kept.of_below (X := fun k => k = p) H34.out).setCell (i := 7) (.inl rfl) _
        · have h0 : ¬ ((q : Nat) : Int) = 0 := by omega
          have h0b : (((q : Nat) : Int) == 0) = false := by simp; omega
          have hsn := since_new (g := g + 1) (show ¬ kindP (L.map (·.1)) s = 0 by rw [HQQ.out]; exact hq0)
          go_wp2_with fail
          go_meet
          case rel => exact ⟨g + 1, hsn.symm, HW2.out, Kept.refl _ _⟩
      case rest =>
        obtain ⟨zz, hzz, hpq, hkq⟩ := hcut
        have hkx : Kept (fun k => wr.heap.size ≤ k) wr wc := (Kept.of_below (X := fun k => wr.heap.size ≤ k) (chainP H1.out.1 H2.out)).trans hkq (fun k h hk => by have := H1.out.2.2; omega)
        have HBQ := hid (hkx.below (fun k h _ => h) (Nat.le_refl _))
        obtain ⟨wz, hWZ⟩ : ∃ W, wc.alloc (.cells (rowRz (s, .slice aox nx cx, zz)) 72) = W := ⟨_, rfl⟩
        have hbz : Below wc.heap.size wc wz := by rw [← hWZ]; exact below_alloc _ _
        have hrz : rowIs wz wc.heap.size (rowRz (s, .slice aox nx cx, zz)) 72 := by rw [← hWZ]; exact rowIs_new _ _ _
        have hbwz := chainP HBQ.out hbz
        have hown := HR.out.2.1.1.below hbwz
        have hbB : rowIs wc B #[.int .i64 (g + 1), .slice aos ns cs] 56 := HR.out.1.below HBQ.out
        have c1 := hbB.cell 1
        have HZ := hid (And.intro hown (And.intro (HR.out.1.below hbwz) (And.intro hbwz (show wr.heap.size ≤ wz.heap.size from hbwz.size))))
        have hZ := hid hzz
        have hns4 : T.length + 1 < 4294967296 := by have := HNK.out; have := HNS.out; omega
        clear hzz hkq hkx hbz hbwz hbB
        go_wp2_with (first
          | (refine wpList_load_row rfl 72 _ rfl p rfl 72 _ (0, 0) _ hpq Tryz.underlying72 rfl infoRefRule ?_)
          | (at_builtin; go_must (refine wpList_append_gen wz rfl _ _ 54 rfl 0 72 Tryz.underlying54 infoRefRuleA rfl (by decide) (by decide) (v := .slice aos ns cs) rfl hown ⟨wc.heap.size, 0, none⟩ 1 1 (rowRz (s, .slice aox nx cx, zz)).toList rfl (fun j u hj => by rw [addAt2, Nat.zero_add, hrz.cell j]; simpa using hj) rowRz_one rfl hns4 (Nat.zero_le _) ?_); intro v6 w9 ho6 hg6 hi6; obtain ⟨ao6, n6, c6, rfl⟩ : ∃ ao n c, v6 = Value.slice ao n c := (by obtain ⟨ao, c, e⟩ := ownsRow_formN ho6; exact ⟨ao, _, c, e⟩); have hB6 := HZ.out.2.1.kept ((Kept.refl (fun k => (Value.slice aos ns cs).ownBlock = some k) wz).grown hg6 (fun k hk _ => hk)) (fun e => by have h1 := HR.out.2.1.2 _ e; have h2 := HD.out.1; omega); have cB6 := hB6.cell 1; have fB6 := hB6.free 1))
        have kk6 := (Kept.refl (fun k => (Value.slice aos ns cs).ownBlock = some k) wz).grown hg6 (fun k hk _ => hk)
        have i6 : In (fun k => D < k) (.slice ao6 n6 c6) := fun k hk => by
          rcases hi6 k hk with e | e
          · exact HR.out.2.1.2 k e
          · have h1 := HD.out.2.2.1
            have h2 := HR.out.2.2.size
            have h3 := HZ.out.2.2.2
            omega
        have kB := (Kept.refl (fun k => k = B) w9).setCell (i := 1) (.inl rfl) (.slice ao6 n6 c6)
        have H6 := hid (And.intro (hB6.setCell 1 (.slice ao6 n6 c6)) (And.intro (ownsRow_kept ho6 kB (fun k hk e => by have := i6 k hk; have := HD.out.1; omega)) (And.intro i6 (((HR.out.2.2.trans (Kept.of_below (X := fun _ => False) HZ.out.2.2.1) (fun k h _ => h.elim)).trans kk6 (fun k h hk => by have h1 := HR.out.2.1.2 k h; have h2 := HD.out.2.2.1; omega)).trans kB (fun k h _ => h)))))
        clear c1 hpq hrz hown hB6 cB6 fB6 kk6 kB ho6 hg6 hi6 i6
        go_wp2_with fail
        go_roundw
        case rel =>
          refine ⟨k + 1, _, T ++ [(s, .slice aox nx cx, zz)], by go_num, hlt, ⟨?_, ?_⟩, H6.out.1, ⟨?_, H6.out.2.2.1⟩, H6.out.2.2.2⟩
          · rw [nextL_at HX.out.1, ← HE.out.1, ← hZ.out]
            unfold tT
            rw [List.map_append]; rfl
          · rw [List.take_add_one, HX.out.2.1, ← HE.out.2]
            unfold zT
            rw [List.map_append]; rfl
          · rw [rowsR_snoc, List.length_append]
            exact H6.out.2.1
        case measure => simp [intOf]; omega
    · have hkn : k = m := by omega
      have e0 : (nextL g (tT L) (LC.map (·.1))).take k = nextL g (tT L) (LC.map (·.1)) := List.take_of_length_le (by rw [nextL_len, List.length_map]; have := HLN.out.2; omega)
      have e1 : LC.take k = LC := List.take_of_length_le (by have := HLN.out.2; omega)
      have HEE := hid (And.intro (he.1.trans e0) (he.2.trans e1))
      have hkI : ¬ (k : Int) < (m : Int) := by omega
      clear he hrb hz hkp hbr e0 e1 hkn hns
      have rB := HR.out.1
      go_wp2_with (first
        | (refine wpList_load_row rfl 56 _ rfl B rfl 56 _ (0, 0) _ rB Tryz.underlying56 rfl infoRefTable ?_)
        | (refine wpList_store_row rfl 56 _ _ rfl (w.heap.size + 1 + 1) _ rfl rfl 56 _ KR2.out infoRefTable rfl (oneTab _ _ _ _) ?_))
      refine bodyPost_ret (results_row Tryz.results33 _ _ (w.heap.size + 1 + 1) _ rfl (KR2.out.setRow #[.int .i64 (g + 1), .slice aos ns cs]) Tryz.underlying56 rfl infoRefTable) rfl ?_
      have k7 := (Kept.refl (fun k => k = w.heap.size + 1 + 1) wr).setRow (g := w.heap.size + 1 + 1) (.inl rfl) #[.int .i64 (g + 1), .slice aos ns cs]
      have hz7 := own_raise (ownsRow_kept HR.out.2.1.1 k7 (fun k hk e => by have := HR.out.2.1.2 k hk; have := HD.out; omega)) (B' := w.heap.size) (fun k hk => by have := HR.out.2.1.2 k hk; have := HD.out; omega)
      exact ⟨_, rfl, T, HEE.out.1, HEE.out.2, hz7, below_setRow HBR.out (by omega) _⟩
end Go.Proofs.YtenijpcjemdhfaaGreatDoor
