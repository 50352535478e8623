/-
  Contracts of package conf: a config is right.
-/
import Derived.Test.YtffenndchmcncaaDoorConfS
namespace Go.Proofs.YtffenndchmcncaaDoor
open Go.RowKit Go.Pantry

/-- how much the sites of a config may hold -/
structure Few (L : List (SiteZ × Value)) : Prop where
  len : L.length ≤ 1000000
  room : ∀ x ∈ L, Room x.2
  host : ∀ x ∈ L, x.1.host.length ≤ 100000
  heads : ∀ x ∈ L, x.1.heads.length ≤ 1000000
  texts : ∀ x ∈ L, ∀ y ∈ x.1.heads, y.length ≤ 100000
theorem count_pos (u : List UInt8) (L : List (List UInt8)) : decide ((0 : Int) < (L.count u : Int)) = L.any (fun x => x == u) := by
  rw [Bool.eq_iff_iff, decide_eq_true_eq, List.any_eq_true]
  have h := List.count_pos_iff (a := u) (l := L)
  constructor
  · intro h1
    exact ⟨u, h.1 (by omega), by simp⟩
  · rintro ⟨x, hx, e⟩
    have e' : x = u := by simpa using e
    subst e'
    have := h.2 hx
    omega
set_option maxRecDepth 8000 in
theorem configRight_any (v : Value) (L : List (SiteZ × Value)) (w : World) (h : ReadsP w v L) (hf : Few L) (hm : MaxOk w) (ht : Tab10 w) :
    Calls Tryd.prog 10 #[.agg #[v]] w fun e w' => e = .returned (.bool (rightC (L.map (·.1)))) ∧ Below w.heap.size w w' := by
  obtain ⟨n, hn⟩ : ∃ n, L.length = n := ⟨_, rfl⟩
  obtain ⟨ao, c, e1, f1⟩ := h.form
  rw [hn] at e1
  subst e1
  have hnl : n ≤ 1000000 := by rw [← hn]; exact hf.len
  have HR := hid h
  have HF := hid hf
  have HL := hid hn
  have HM := hid (And.intro hm ht)
  have j1 := (rowIs_new w #[.slice ao n c] 25).cell 0
  have J0 := hid (rowIs_new w #[.slice ao n c] 25)
  have K0 := hid (below_alloc w (.cells #[.slice ao n c] 25))
  by_cases h8 : 8 < n
  · have h8' : (8 : Int) < (n : Int) := by omega
    have HB := hid (rightC_long (L := L.map (·.1)) (by rw [List.length_map]; omega))
    clear h hf hn f1 hm ht h8
    go_enter Tryd.func10, Tryd.ntmps10
    go_wp2_with fail
    go_ret
    exact ⟨by rw [HB.out]; rfl, K0.out⟩
  have h8' : ¬ (8 : Int) < (n : Int) := by omega
  have H8 := hid (show (L.map (·.1)).length ≤ 8 by rw [List.length_map]; omega)
  clear h hf hn f1 hm ht h8
  have hmm := @run_makeMap Tryd.prog
  go_enter Tryd.func10, Tryd.ntmps10
  go_wp2_with fail
  clear hmm
  obtain ⟨W, hW⟩ : ∃ W, w.alloc (.cells #[.slice ao n c] 25) = W := ⟨_, rfl⟩
  rw [hW] at j1 J0 K0 ⊢
  have hsz : W.heap.size = w.heap.size + 1 := by rw [← hW]; simp
  have S0 := hid (seen_new W)
  have K1 := hid (chainP K0.out (below_alloc W (.map #[] 0)))
  obtain ⟨m, hm⟩ : ∃ m, w.heap.size + 1 = m := ⟨_, rfl⟩
  rw [hsz, hm] at S0
  rw [hm]
  have HMM := hid (And.intro (hsz.trans hm) hsz)
  clear hm hsz hW
  go_loopw [14] (fun z wr => ∃ (k : Nat), z = .int .i64 (k : Int) ∧ k ≤ n ∧ Seen wr m (((L.map (·.1.host)).take k).reverse) ∧ (∀ j s, j < k → (L.map (·.1))[j]? = some s → rightZ s = true ∧ (((L.map (·.1)).take j).any fun x => x.host == s.host) = false) ∧ Below w.heap.size w wr) (fun z _ => n - (intOf z).toNat)
  case atStart => exact ⟨0, rfl, Nat.zero_le _, S0.out, fun j s hj => absurd hj (Nat.not_lt_zero _), K1.out⟩
  case round =>
    obtain ⟨k, rfl, hk, hsn, hf, hb⟩ := hrel
    have HB := hid (And.intro hsn (And.intro hf hb))
    by_cases hlt : k < n
    · obtain ⟨⟨s, hv⟩, hx⟩ : ∃ x, L[k]? = some x := by
        have := HL.out
        exact ⟨L[k]'(by omega), List.getElem?_eq_getElem (by omega)⟩
      have hmem := List.mem_of_getElem? hx
      have hrd := (HR.out.heads _ hmem).below hb
      obtain ⟨ah, ch, hfv⟩ := hrd.form
      simp only at hfv hrd
      obtain ⟨nh, hnh⟩ : ∃ nh, (s.heads.map strV).length = nh := ⟨_, rfl⟩
      rw [hnh] at hfv
      subst hfv
      obtain ⟨b1, o1, g1, i1⟩ := (HR.out.below hb).at_ hx
      subst g1
      have hkI : (k : Int) < (n : Int) := by omega
      have hk0 : (0 : Int) ≤ (k : Int) := by omega
      have hkw : IntKind.i64.wrap ((k : Int) + 1) = (k : Int) + 1 := IntWalk.i64_in _ (by omega)
      obtain ⟨p1, hp1⟩ : ∃ p, o1 + k * 7 = p := ⟨_, rfl⟩
      rw [hp1] at i1
      have y0 := i1 0 _ rfl
      have y1 := i1 1 _ rfl
      have y2 := i1 2 _ rfl
      have y3 := i1 3 _ rfl
      have y4 := i1 4 _ rfl
      have y5 := i1 5 _ rfl
      have y6 := i1 6 _ rfl
      rw [Nat.add_zero] at y0
      obtain ⟨W1, hW1⟩ : ∃ W, wr.alloc (.cells (rowZ (.slice ah nh ch) s) 36) = W := ⟨_, rfl⟩
      have hb1 : Below wr.heap.size wr W1 := by rw [← hW1]; exact below_alloc _ _
      have hr1 : rowIs W1 wr.heap.size (rowZ (.slice ah nh ch) s) 36 := by rw [← hW1]; exact rowIs_new _ _ _
      have hbw := chainP hb hb1
      have cs := siteRight_any (.slice ah nh ch) s W1 (hrd.below hb1) (HF.out.room _ hmem) (HF.out.host _ hmem) (HF.out.heads _ hmem) (HF.out.texts _ hmem) (HM.out.1.below hbw) (HM.out.2.below hbw)
      have hx2 : (L.map (·.1))[k]? = some s := by rw [List.getElem?_map, hx]; rfl
      obtain ⟨q, hq⟩ : ∃ q, rightZ s = q := ⟨_, rfl⟩
      rw [hq] at cs
      have CS := hid cs
      have hkey := key_str s.host (HF.out.host _ hmem)
      have HX := hid (And.intro hx2 (And.intro hq (And.intro hb1 (And.intro hbw hr1))))
      clear hb hx i1 hf hnh hrd hsn hmem hq cs hb1 hbw hx2
      go_wp2_with (refine wpList_load_row rfl 36 _ rfl wr.heap.size rfl 36 _ (0, 0) _ hr1 Tryd.underlying36 rfl infoSite ?_)
      refine CS.out.mono ?_
      rintro e w2 ⟨rfl, hb2⟩
      clear hr1 y0 y1 y2 y3 y4 y5 y6 hW1
      have hbw2 := chainP HX.out.2.2.1 hb2
      have hs2 := HB.out.1.kept (Kept.of_below (X := fun _ => False) hbw2) (fun h => h)
      have z0 := kept (HX.out.2.2.2.2.cell 0) hb2
      have HX2 := hid (chainP HX.out.2.2.2.1 hb2)
      have HS2 := hid hs2
      obtain ⟨D, hown, hmap, hat⟩ := hs2
      obtain ⟨cc, hrun, hc, hwf⟩ := hown.lookup_int lawS Tryd.underlying43 Tryd.underlying3 (zeroI w2) hkey
      rw [hat s.host] at hc
      obtain ⟨C, hC⟩ : ∃ C, ((L.map (·.1.host)).take k).reverse = C := ⟨_, rfl⟩
      rw [hC] at hc HS2 hat hown
      have hce : cc = (C.count s.host : Int) := by injection hc with e; injection e with _ e; exact e.symm
      subst hce
      have hcl : C.length ≤ 1000000 := by rw [← hC, List.length_reverse, List.length_take]; omega
      have hcl2 : C.count s.host ≤ 1000000 := Nat.le_trans List.count_le_length hcl
      have hany : decide ((0 : Int) < (C.count s.host : Int)) = (((L.map (·.1)).take k).any fun x => x.host == s.host) := by
        rw [count_pos, ← hC, List.any_reverse, ← List.map_take, ← List.map_take, List.any_map, List.any_map]
        rfl
      obtain ⟨N, hN⟩ : ∃ N, C.count s.host = N := ⟨_, rfl⟩
      rw [hN] at hrun hcl2 hany
      have HANY := hid hany
      cases q
      · clear hany hat hmap hc hwf hb2 hbw2 hown
        go_wp2_with fail
        go_ret
        exact ⟨by rw [rightC_not HX.out.1 (.inl HX.out.2.1)]; rfl, HX2.out⟩
      by_cases h0 : 0 < N
      · have h0' : (0 : Int) < (N : Int) := by omega
        have HANY2 := hid (HANY.out.symm.trans (decide_eq_true h0'))
        clear hany hat hmap hc hwf hb2 hbw2 hown
        go_wp2_with fail
        go_ret
        exact ⟨by rw [rightC_not HX.out.1 (.inr HANY2.out)]; rfl, HX2.out⟩
      have h0' : ¬ (0 : Int) < (N : Int) := by omega
      have HANY2 := hid (HANY.out.symm.trans (decide_eq_false h0'))
      have hz : IntKind.i64.wrap ((N : Int) + 1) = ((N + 1 : Nat) : Int) := by rw [IntWalk.i64_in _ (by omega)]; omega
      have hval : plainElem (H := Unit) Tryd.prog 3 (.int .i64 ((N + 1 : Nat) : Int)) = some (.lit (.int .i64 ((N + 1 : Nat) : Int)), []) := plainElem_int Tryd.underlying3 (WalkArith.wf_i64 (by omega))
      have HS3 : Hid (∀ w3, w3.ownsMap Tryd.prog 9 (plainElem Tryd.prog 3) m (C.length + 1) (D.put (.string s.host) (.lit (.int .i64 ((N + 1 : Nat) : Int)))) → Seen w3 m (s.host :: C)) := by
        intro w3 h3
        refine ⟨_, h3, hmap.put _ _, fun u => ?_⟩
        by_cases e : u = s.host
        · subst e
          rw [Maps.atKey_put_same hmap (show WideAt.IsKeyLit (.string s.host) from trivial), List.count_cons_self, hN]
        · rw [Maps.atKey_put_other (by intro h; injection h with h; exact e h), count_cons_other C e]
          exact hat u
      have hL2 : C.length < maxLen := by unfold maxLen; omega
      have HCC := hid hC
      have HBW2 := hid hbw2
      clear hany hat hmap hc hwf hb2 hN hcl hcl2 hC hbw2
      go_wp2_with (first | (at_mapUpdate; refine wpList_mapUpdate_own _ rfl _ _ _ 43 rfl 9 3 lawS Tryd.underlying43 _ m C.length _ rfl hown hL2 _ _ _ rfl rfl hkey _ [] hval ?_; intro w3 hown3 hgrow3))
      have HK3 := hid (HX2.out.grown hgrow3 HX2.out.size (fun j hj => by cases hj; have := HMM.out; omega))
      have HS4 := hid (HS3.out _ hown3)
      clear hown3 hgrow3 hown hrun hval z0
      go_wp2_with fail
      go_roundw
      case rel =>
        refine ⟨k + 1, by go_num, hlt, ?_, fun j t hj ht => ?_, HK3.out⟩
        · have e : ((L.map (·.1.host)).take (k + 1)).reverse = s.host :: ((L.map (·.1.host)).take k).reverse := by
            have h1 : (L.map (·.1.host))[k]? = some s.host := by
              have := HX.out.1
              rw [List.getElem?_map] at this ⊢
              cases h : L[k]? with
              | none => rw [h] at this; cases this
              | some x => rw [h] at this; cases this; rfl
            rw [List.take_add_one, h1, List.reverse_append]; rfl
          rw [e, HCC.out]
          exact HS4.out
        · by_cases e : j = k
          · subst e
            have h1 := HX.out.1
            rw [ht] at h1
            cases h1
            exact ⟨HX.out.2.1, HANY2.out⟩
          · exact HB.out.2.1 j t (by omega) ht
      case measure => simp [intOf]; omega
    · have HE := hid (rightC_all H8.out (fun j s hj => hf j s (by have := HL.out; have := (List.getElem?_eq_some_iff.1 hj).1; rw [List.length_map] at this; omega) hj))
      clear hb hf hsn
      go_wp2_with fail
      go_ret
      exact ⟨by rw [HE.out]; rfl, HB.out.2.2⟩
end Go.Proofs.YtffenndchmcncaaDoor
