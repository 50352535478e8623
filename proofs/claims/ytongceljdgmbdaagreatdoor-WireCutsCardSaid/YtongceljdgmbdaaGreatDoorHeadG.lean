/-
  Contract of package head: ReadRequest.
-/
import Derived.Test.YtongceljdgmbdaaGreatDoorHeadF
namespace Go.Proofs.YtongceljdgmbdaaGreatDoor
open Go.RowKit Go.Pantry

theorem minorZ_cases (v : List UInt8) : (minorL v = some 0 ∧ minorZ v = 0) ∨ (minorL v = some 1 ∧ minorZ v = 1) ∨ (minorL v = none ∧ minorZ v = -1) := by
  unfold minorZ
  cases h : minorL v with
  | none => right; right; exact ⟨rfl, rfl⟩
  | some n =>
    have := minorL_le h
    rcases Nat.lt_or_ge n 1 with h1 | h1
    · left
      have : n = 0 := by omega
      subst this
      exact ⟨rfl, rfl⟩
    · right; left
      have : n = 1 := by omega
      subst this
      exact ⟨rfl, rfl⟩
theorem reqL_code (s : List UInt8) : ((reqP s).2.2.2 = 0 ∧ 0 ≤ (reqP s).2.2.1 ∧ reqL s = .ok ⟨(reqP s).1, (reqP s).2.1, 0, (reqP s).2.2.1.toNat, []⟩) ∨ (((reqP s).2.2.2 = 21 ∨ (reqP s).2.2.2 = 22) ∧ reqL s = .error (reqP s).2.2.2.toNat) := by
  unfold reqP reqL
  generalize piecesL [32] s.length s = l
  match l with
  | [] => right; exact ⟨.inl rfl, rfl⟩
  | [_] => right; exact ⟨.inl rfl, rfl⟩
  | [_, _] => right; exact ⟨.inl rfl, rfl⟩
  | _ :: _ :: _ :: _ :: _ => right; exact ⟨.inl rfl, rfl⟩
  | [m, t, v] =>
    simp only
    unfold judgeZ formedR longR
    rcases minorZ_cases v with ⟨h1, h2⟩ | ⟨h1, h2⟩ | ⟨h1, h2⟩
    · rw [h1, h2]
      cases tokenL m && seenL t with
      | false => right; exact ⟨.inl rfl, rfl⟩
      | true =>
        by_cases h3 : 16 < m.length ∨ 1024 < t.length
        · right
          have e : (decide (16 < m.length) || decide (1024 < t.length)) = true := by simpa using h3
          rw [e]
          refine ⟨.inr rfl, ?_⟩
          rw [if_pos (show (true && (some 0).isSome) = true from rfl), if_pos h3]; rfl
        · left
          have e : (decide (16 < m.length) || decide (1024 < t.length)) = false := by simp; omega
          rw [e]
          refine ⟨rfl, Int.le_refl _, ?_⟩
          rw [if_pos (show (true && (some 0).isSome) = true from rfl), if_neg h3]; rfl
    · rw [h1, h2]
      cases tokenL m && seenL t with
      | false => right; exact ⟨.inl rfl, rfl⟩
      | true =>
        by_cases h3 : 16 < m.length ∨ 1024 < t.length
        · right
          have e : (decide (16 < m.length) || decide (1024 < t.length)) = true := by simpa using h3
          rw [e]
          refine ⟨.inr rfl, ?_⟩
          rw [if_pos (show (true && (some 1).isSome) = true from rfl), if_pos h3]; rfl
        · left
          have e : (decide (16 < m.length) || decide (1024 < t.length)) = false := by simp; omega
          rw [e]
          refine ⟨rfl, by decide, ?_⟩
          rw [if_pos (show (true && (some 1).isSome) = true from rfl), if_neg h3]; rfl
    · right
      rw [h1, h2]
      cases tokenL m && seenL t <;> exact ⟨.inl rfl, rfl⟩
theorem cutL_err {s : List UInt8} {e : Nat} (h : cutL s = .error e) : e = 20 ∨ e = 22 := by
  unfold cutL at h
  cases hf : findL crlf2 (s.take 4096) with
  | some i => rw [hf] at h; cases h
  | none =>
    rw [hf] at h
    simp only at h
    split at h <;> cases h <;> simp
theorem ownsRow_far {w w' : World} {B : Nat} {e : TypeId} {size : Nat} {v : Value} {n : Nat} {xs : List Value} (h : w.ownsRow B e size v n xs) (hh : ∀ k, B ≤ k → w'.heap[k]? = w.heap[k]?) : w'.ownsRow B e size v n xs := by
  refine ⟨h.1, ?_⟩
  rcases h.2 with hn | ⟨g, cap, cur, rfl, hbg, hgg, rest⟩
  · exact .inl hn
  · exact .inr ⟨g, cap, cur, rfl, hbg, (hh g hbg).trans hgg, rest⟩
/-- what ReadRequest tells -/
def ReqRead (t : TypeId) (B : Nat) (x : Except Nat (Hd × Nat)) (e : Ending) (w' : World) : Prop := match x with
  | .error k => k ≠ 0 ∧ e = .returned (.tuple #[reqV [] [] 0 none 0 0, .int .i64 0, .int .i64 (k : Int)])
  | .ok (h, n) => ∃ v', e = .returned (.tuple #[.agg #[strV h.first, strV h.second, .int .i64 (h.minor : Int), v'], .int .i64 (n : Int), .int .i64 0]) ∧ w'.ownsRow B t 2 v' h.flds.length (fldCells h.flds)
set_option maxRecDepth 100000 in
set_option maxHeartbeats 4000000 in
theorem ReadRequest_any (ao : Option Addr) (cap : Nat) (l : List UInt8) (w : World) (hr : Reads w (.slice ao l.length cap) (l.map byteV)) (hc : l.length ≤ cap) (hm : MaxOk w) :
    Calls Tryz.prog 29 #[.slice ao l.length cap] w fun e w' => ReqRead 104 w.heap.size (readL reqL l) e w' ∧ Below w.heap.size w w' := by
  obtain ⟨W0, hW0⟩ : ∃ W, W = w.alloc (.cells #[.string ⟨#[]⟩, .string ⟨#[]⟩, .int .i64 0, .slice none 0 0] 40) := ⟨_, rfl⟩
  have hb0 : Below w.heap.size w W0 := by rw [hW0]; exact below_alloc _ _
  have hr0 : rowIs W0 w.heap.size #[.string ⟨#[]⟩, .string ⟨#[]⟩, .int .i64 0, .slice none 0 0] 40 := by rw [hW0]; exact rowIs_new _ _ _
  obtain ⟨R, hR⟩ : ∃ R, readL reqL l = R := ⟨_, rfl⟩
  rw [hR]
  rw [readL_cut] at hR
  have hrd0 := hr.below hb0
  have hm0 := hm.below hb0
  cases hcut : cutL l with
  | error k =>
    rw [hcut] at hR
    simp only at hR
    have c0 := cut_err ao cap l k W0 hrd0 hc hm0 hcut
    have C0 := hid c0
    subst hR
    rcases cutL_err hcut with rfl | rfl
    all_goals
      clear hcut c0 hr hrd0 hm hm0 hc
      go_enter Tryz.func29, Tryz.ntmps29
      go_wp2_with fail
      rw [← hW0]
      clear hW0
      refine C0.out.mono ?_
      rintro e w1 ⟨rfl, hb1⟩
      have hr1 := hr0.below hb1
      have hbb := chain2 hb0 hb0.size hb1
      clear hb0 hr0 hb1
      go_wp2_with (refine wpList_store_row rfl 40 _ _ rfl w.heap.size _ rfl rfl 40 #[.string ⟨#[]⟩, .string ⟨#[]⟩, .int .i64 0, .slice none 0 0] hr1 infoReqS rfl (one4 [] [] 0 none 0 0) ?_)
      refine bodyPost_ret (results_row3 Tryz.results29 _ _ w.heap.size _ rfl (hr1.setRow _) Tryz.underlying40 rfl infoReqS) rfl ?_
      exact ⟨⟨by decide, rfl⟩, below_setRow hbb (Nat.le_refl _) _⟩
  | ok p =>
    obtain ⟨lst, n⟩ := p
    obtain ⟨p1, p2, p3, p4, p5⟩ := cutL_pos hcut
    obtain ⟨a, r, rfl⟩ : ∃ a r, lst = a :: r := by
      cases lst with
      | nil => cases p1
      | cons a r => exact ⟨a, r, rfl⟩
    rw [hcut] at hR
    simp only at hR
    have c0 := cut_ok ao cap l a r n W0 hrd0 hc hm0 hcut
    have C0 := hid c0
    have ha : a.length ≤ 100000 := Nat.le_trans (p3 a (by simp)) (by decide)
    have hrl : ∀ x ∈ r, x.length ≤ 100000 := fun x hx => Nat.le_trans (p3 x (by simp [hx])) (by decide)
    have hrn : r.length < 4294967296 := by simp at p2; omega
    have c1 := fun W h => readRequestLine_any a W h ha
    have c2 := fun W v h1 h2 => readFields_any v r W h1 hrn hrl h2
    have hq := reqL_code a
    generalize reqP a = q at c1 hq
    obtain ⟨m, t, z, code⟩ := q
    simp only at c1 hq
    have hR2 : R = match reqL a with
      | .error e => .error e
      | .ok h => match fldsL 0 r with | .error e => .error e | .ok f => .ok ({ h with flds := f }, n) := by
      rw [← hR]
      unfold headL
      simp only
      cases reqL a with
      | error e => rfl
      | ok h => cases fldsL 0 r <;> rfl
    have C1 := hid c1
    have C2 := hid c2
    have HQ := hid hq
    have HR2 := hid hR2
    clear c0 c1 c2 hq hR hR2 hcut hr hrd0 hm hc p1 p2 p3 p4 p5 ha hrl hrn
    by_cases h0 : code = 0
    · subst h0
      obtain ⟨hz, hqe⟩ : 0 ≤ z ∧ reqL a = .ok ⟨m, t, 0, z.toNat, []⟩ := by
        rcases HQ.out with h | ⟨h, _⟩
        · exact h.2
        · rcases h with h | h <;> cases h
      have hR3 : R = match fldsL 0 r with | .error e => .error e | .ok f => .ok (⟨m, t, 0, z.toNat, f⟩, n) := by
        rw [HR2.out, hqe]
      have hzz : ((z.toNat : Nat) : Int) = z := by omega
      have HZ := hid hzz
      have HR3 := hid hR3
      clear hR3 HR2 hqe HQ hzz hz
      generalize fldsL 0 r = F at C2 HR3
      go_enter Tryz.func29, Tryz.ntmps29
      go_wp2_with fail
      rw [← hW0]
      clear hW0
      refine C0.out.mono ?_
      rintro e w1 ⟨⟨aor, capr, rfl, hrd⟩, hb1⟩
      have hr1 := hr0.below hb1
      have hbb := chain2 hb0 hb0.size hb1
      have hm1 := hm0.below hb1
      clear hb0 hr0 hb1 hm0 C0
      go_wp2_with fail
      refine (C1.out _ hm1).mono ?_
      rintro e w2 ⟨rfl, hb2⟩
      obtain ⟨W, hW⟩ : ∃ W, W = w2.alloc (.cells #[strV m, strV t, .int .i64 z, .slice none 0 0] 40) := ⟨_, rfl⟩
      have hbW : Below w2.heap.size w2 W := by rw [hW]; exact below_alloc _ _
      have hg : rowIs W w2.heap.size #[strV m, strV t, .int .i64 z, .slice none 0 0] 40 := by rw [hW]; exact rowIs_new _ _ _
      have hr2 := (hr1.below hb2).below hbW
      have hne : w2.heap.size ≠ w.heap.size := by have := (hr1.below hb2).lt; omega
      have hm2 := (hm1.below hb2).below hbW
      have hrd2 := (hrd.below hb2).below hbW
      have hb3 := chain2 (chain2 hbb hbb.size hb2) (chain2 hbb hbb.size hb2).size hbW
      have hwg : w.heap.size ≤ w2.heap.size := (chain2 hbb hbb.size hb2).size
      clear hr1 hbb hm1 hrd hb2 hbW C1
      go_wp2_with fail
      rw [← hW]
      clear hW
      generalize w2.heap.size = G at *
      refine (C2.out _ _ hrd2 hm2).mono ?_
      rintro e w3 ⟨hfl, hb4⟩
      have hr3 := hr2.below hb4
      have hg3 := hg.below hb4
      have hb5 := chain2 hb3 hb3.size hb4
      have hBs := hb3.size
      have hgl := hg.lt
      have hwl := hr2.lt
      clear hr2 hg hb4 hb3 hrd2 hm2 C2
      cases F with
      | error k =>
        obtain ⟨hk0, rfl⟩ := hfl
        have hR4 : R = .error k := HR3.out
        subst hR4
        have k1 : ((k : Int) == 0) = false := by simp; omega
        have k2 : ((k : Int) != 0) = true := by simp; omega
        have HK := hid hk0
        clear hk0
        have hcl := hg3.cell 3
        have hfr := hg3.free 3
        have hg4 := hg3.setCell 3 (.slice none 0 0)
        have hr4 := hr3.setCell_block (g' := G) (Ne.symm hne) 3 (.slice none 0 0)
        have hb6 := hb5.setCell (p := ⟨G, 3, none⟩) hwg (.slice none 0 0)
        have d0 : (w3.setCell ⟨G, 3, none⟩ (.slice none 0 0)).cell? ⟨G, 0, none⟩ = some (strV m) := hg4.cell 0
        have d1 : (w3.setCell ⟨G, 3, none⟩ (.slice none 0 0)).cell? ⟨G, 1, none⟩ = some (strV t) := hg4.cell 1
        have d2 : (w3.setCell ⟨G, 3, none⟩ (.slice none 0 0)).cell? ⟨G, 2, none⟩ = some (.int .i64 z) := hg4.cell 2
        have d3 : (w3.setCell ⟨G, 3, none⟩ (.slice none 0 0)).cell? ⟨G, 3, none⟩ = some (.slice none 0 0) := hg4.cell 3
        clear hg3 hr3 hb5 hg4
        go_wp2_with (refine wpList_store_row rfl 40 _ _ rfl w.heap.size _ rfl rfl 40 #[.string ⟨#[]⟩, .string ⟨#[]⟩, .int .i64 0, .slice none 0 0] hr4 infoReqS rfl (one4 [] [] 0 none 0 0) ?_)
        refine bodyPost_ret (results_row3 Tryz.results29 _ _ w.heap.size _ rfl (hr4.setRow _) Tryz.underlying40 rfl infoReqS) rfl ?_
        exact ⟨⟨HK.out, rfl⟩, below_setRow hb6 (Nat.le_refl _) _⟩
      | ok L =>
        obtain ⟨v', rfl, ho⟩ := hfl
        have hR4 : R = .ok (⟨m, t, 0, z.toNat, L⟩, n) := HR3.out
        subst hR4
        obtain ⟨aov, capv, rfl⟩ := ownsRow_form ho
        have HO := hid ho
        clear ho
        have hcl := hg3.cell 3
        have hfr := hg3.free 3
        have hg4 := hg3.setCell 3 (.slice aov L.length capv)
        have hr4 := hr3.setCell_block (g' := G) (Ne.symm hne) 3 (.slice aov L.length capv)
        have hb6 := hb5.setCell (p := ⟨G, 3, none⟩) hwg (.slice aov L.length capv)
        have d0 : (w3.setCell ⟨G, 3, none⟩ (.slice aov L.length capv)).cell? ⟨G, 0, none⟩ = some (strV m) := hg4.cell 0
        have d1 : (w3.setCell ⟨G, 3, none⟩ (.slice aov L.length capv)).cell? ⟨G, 1, none⟩ = some (strV t) := hg4.cell 1
        have d2 : (w3.setCell ⟨G, 3, none⟩ (.slice aov L.length capv)).cell? ⟨G, 2, none⟩ = some (.int .i64 z) := hg4.cell 2
        have d3 : (w3.setCell ⟨G, 3, none⟩ (.slice aov L.length capv)).cell? ⟨G, 3, none⟩ = some (.slice aov L.length capv) := hg4.cell 3
        clear hg3 hr3 hb5 hg4
        go_wp2_with (refine wpList_store_row rfl 40 _ _ rfl w.heap.size _ rfl rfl 40 #[.string ⟨#[]⟩, .string ⟨#[]⟩, .int .i64 0, .slice none 0 0] hr4 infoReqS rfl (one4 m t z aov L.length capv) ?_)
        refine bodyPost_ret (results_row3 Tryz.results29 _ _ w.heap.size _ rfl (hr4.setRow _) Tryz.underlying40 rfl infoReqS) rfl ?_
        refine ⟨⟨_, by rw [HZ.out]; rfl, ?_⟩, below_setRow hb6 (Nat.le_refl _) _⟩
        refine (ownsRow_far HO.out fun k hk => ?_).base hBs
        rw [_root_.Go.setRow_other _ _ _ _ (by omega), Below.heap_setCell _ ⟨G, 3, none⟩ _ k (by show k ≠ G; omega)]
    · have hq2 : code = 21 ∨ code = 22 := by
        rcases HQ.out with h | h
        · exact absurd h.1 h0
        · exact h.1
      have hR3 : R = .error code.toNat := by
        rw [HR2.out]
        rcases HQ.out with h | h
        · exact absurd h.1 h0
        · rw [h.2]
      subst hR3
      have k1 : (code == 0) = false := by simpa using h0
      have k2 : (code != 0) = true := by simpa using h0
      have hcz : ((code.toNat : Nat) : Int) = code := by omega
      have hcn : code.toNat ≠ 0 := by omega
      have HK := hid (And.intro hcz hcn)
      clear hq2 h0 hcz hcn HQ HR2
      go_enter Tryz.func29, Tryz.ntmps29
      go_wp2_with fail
      rw [← hW0]
      clear hW0
      refine C0.out.mono ?_
      rintro e w1 ⟨⟨aor, capr, rfl, hrd⟩, hb1⟩
      have hr1 := hr0.below hb1
      have hbb := chain2 hb0 hb0.size hb1
      have hm1 := hm0.below hb1
      clear hb0 hr0 hb1 hm0 C0
      go_wp2_with fail
      refine (C1.out _ hm1).mono ?_
      rintro e w2 ⟨rfl, hb2⟩
      have hr2 := hr1.below hb2
      have hb3 := chain2 hbb hbb.size hb2
      obtain ⟨W, hW⟩ : ∃ W, W = w2.alloc (.cells #[strV m, strV t, .int .i64 z, .slice none 0 0] 40) := ⟨_, rfl⟩
      have hbW : Below w2.heap.size w2 W := by rw [hW]; exact below_alloc _ _
      have hr3 := hr2.below hbW
      have hb4 := chain2 hb3 hb3.size hbW
      rw [hW] at hr3 hb4
      clear hr1 hr2 hbb hb2 hb3 hm1 hrd hW hbW
      go_wp2_with (refine wpList_store_row rfl 40 _ _ rfl w.heap.size _ rfl rfl 40 #[.string ⟨#[]⟩, .string ⟨#[]⟩, .int .i64 0, .slice none 0 0] hr3 infoReqS rfl (one4 [] [] 0 none 0 0) ?_)
      refine bodyPost_ret (results_row3 Tryz.results29 _ _ w.heap.size _ rfl (hr3.setRow _) Tryz.underlying40 rfl infoReqS) rfl ?_
      exact ⟨⟨HK.out.2, by rw [HK.out.1]; rfl⟩, below_setRow hb4 (Nat.le_refl _) _⟩
end Go.Proofs.YtongceljdgmbdaaGreatDoor
