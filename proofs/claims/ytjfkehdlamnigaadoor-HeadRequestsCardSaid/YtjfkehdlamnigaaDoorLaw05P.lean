/-
  The walk of the statement HeadParts.
-/
import Derived.Test.YtjfkehdlamnigaaDoorLaw05A
import Derived.Test.YtjfkehdlamnigaaDoorMade5
namespace Go.Proofs.YtjfkehdlamnigaaDoor
open Go.RowKit Go.Pantry

/-- from w0 on; two boxes -/
def Box2S (w0 : World) (g1 : Nat) (c1 : Array Value) (g2 : Nat) (c2 : Array Value) (t : TypeId) : World → Prop := fun W => Below w0.heap.size w0 W ∧ w0.heap.size ≤ W.heap.size ∧ rowIs W g1 c1 t ∧ rowIs W g2 c2 t
theorem Box2S.below {w0 : World} {g1 g2 : Nat} {c1 c2 : Array Value} {t : TypeId} {W W' : World} (h : Box2S w0 g1 c1 g2 c2 t W) (hb : Below W.heap.size W W') : Box2S w0 g1 c1 g2 c2 t W' :=
  ⟨h.1.trans (hb.mono h.2.1), Nat.le_trans h.2.1 hb.size, h.2.2.1.below hb, h.2.2.2.below hb⟩
theorem bytes_oneCell (l : List UInt8) : ∀ u ∈ l.map byteV, u.oneCell' = true := by
  intro u hu
  obtain ⟨c, _, rfl⟩ := List.mem_map.1 hu
  rfl
theorem own_room {w : World} {B : Nat} {e : TypeId} {v : Value} {n : Nat} {l : List UInt8} (h : w.ownsRow B e 1 v n (l.map byteV)) : n = l.length ∧ ∃ ao c, v = .slice ao l.length c ∧ l.length ≤ c := by
  have hl : n = l.length := by have := h.1; simp at this; omega
  subst hl
  refine ⟨rfl, ?_⟩
  rcases h.2 with ⟨rfl, h0⟩ | ⟨g, cap, cur, rfl, _, _, hnc, _⟩
  · exact ⟨none, 0, by rw [h0], by omega⟩
  · exact ⟨_, cap, rfl, hnc⟩
theorem readReq_flds {s : List UInt8} {h : Hd} {n : Nat} (hr : readL reqL s = .ok (h, n)) : h.flds.length < 1000000 := by
  have := readReq_right hr
  unfold rightReq at this
  simp only [Bool.and_eq_true] at this
  have h2 := this.1.1.2
  unfold rightFs at h2
  simp only [Bool.and_eq_true, decide_eq_true_eq] at h2
  omega
set_option maxRecDepth 100000 in
set_option maxHeartbeats 8000000 in
theorem headParts_walk (v : Value) (l : List UInt8) (cut : Int) (vr : Value) (rest : List UInt8) (w : World) (hm : MaxOk w) (hl : Reads w v (l.map byteV) ∧ (∀ ao n cap, v = .slice ao n cap → n ≤ cap) ∧ l.length ≤ maxLen)
    (hl2 : Reads w vr (rest.map byteV) ∧ (∀ ao n cap, vr = .slice ao n cap → n ≤ cap) ∧ rest.length ≤ maxLen) :
    Calls Tryd.prog 4 #[v, .int .i64 cut, vr] w fun e w' => e = .returned (.bool true) ∧ Below w.heap.size w w' := by
  obtain ⟨hr, hroom, hll⟩ := hl
  obtain ⟨hr2, -, hll2⟩ := hl2
  obtain ⟨ao, cap, rfl⟩ := hr.form
  obtain ⟨aor, capr, rfl⟩ := hr2.form
  simp only [List.length_map] at hr hr2 hroom ⊢
  have hc := hroom ao l.length cap rfl
  unfold maxLen at hll hll2
  have HR := hid hr
  have HR2 := hid hr2
  have ca := fun W h => anchor_any W h
  have CA := hid ca
  clear hr hroom ca hr2
  by_cases h4 : (4000 : Int) < (l.length : Int)
  · go_enter Tryd.func4, Tryd.ntmps4
    go_wp2_with fail
    refine (CA.out _ hm).mono ?_
    rintro e w1 ⟨rfl, hb1⟩
    go_wp2_with fail
    go_ret
    exact ⟨rfl, hb1⟩
  have d4 : decide ((4000 : Int) < (l.length : Int)) = false := decide_eq_false h4
  by_cases hc0 : cut < 0
  · go_enter Tryd.func4, Tryd.ntmps4
    go_wp2_with fail
    refine (CA.out _ hm).mono ?_
    rintro e w1 ⟨rfl, hb1⟩
    go_wp2_with fail
    go_ret
    exact ⟨rfl, hb1⟩
  have dc : decide (cut < 0) = false := decide_eq_false hc0
  by_cases h1 : (100 : Int) < (rest.length : Int)
  · go_enter Tryd.func4, Tryd.ntmps4
    go_wp2_with fail
    refine (CA.out _ hm).mono ?_
    rintro e w1 ⟨rfl, hb1⟩
    go_wp2_with fail
    go_ret
    exact ⟨rfl, hb1⟩
  have d1 : decide ((100 : Int) < (rest.length : Int)) = false := decide_eq_false h1
  have c1 := fun W h1 h2 => ReadRequest_any ao cap l W h1 hc h2
  cases hx : readL reqL l with
  | error k =>
    rw [hx] at c1
    have C1 := hid c1
    clear c1 hx
    go_enter Tryd.func4, Tryd.ntmps4
    go_wp2_with fail
    refine (CA.out _ hm).mono ?_
    rintro e w1 ⟨rfl, hb1⟩
    go_wp2_with fail
    refine (C1.out _ (HR.out.below hb1) (hm.below hb1)).mono ?_
    rintro e w2 ⟨⟨hk0, rfl⟩, hb2⟩
    have hb3 := chain2 hb1 hb1.size hb2
    have hb4 := chain2 hb3 hb3.size (below_alloc w2 (.cells #[strV [], strV [], .int .i64 0, .slice none 0 0] 30))
    have k1 : ((k : Int) == 0) = false := by simp; omega
    have k2 : ((k : Int) != 0) = true := by simp; omega
    clear hb1 hb2 hb3 hk0
    go_wp2_with fail
    go_ret
    exact ⟨rfl, hb4⟩
  | ok p =>
    obtain ⟨hd, n⟩ := p
    rw [hx] at c1
    obtain ⟨p1, p2, p3, p4⟩ := read_parts hx (by omega) rest
    obtain ⟨k, hk⟩ : ∃ k, cut.toNat % n = k := ⟨_, rfl⟩
    have hkn : k < n := by rw [← hk]; exact Nat.mod_lt _ p1
    have hmod : cut.tmod (n : Int) = (k : Int) := by
      obtain ⟨c, rfl⟩ : ∃ c : Nat, cut = (c : Int) := ⟨cut.toNat, by omega⟩
      rw [← hk, Int.tmod_eq_emod_of_nonneg (by omega)]
      simp
    have htk : (l.take k).length = k := by rw [List.length_take]; omega
    have c2 := fun W h1 h2 => ReadRequest_any ao cap (l.take k) W h1 (by omega) h2
    rw [htk, p3 k hkn] at c2
    have c3 := fun ao3 c3 W h1 h2 h3 => ReadRequest_any ao3 c3 (l.take n ++ rest) W h1 h2 h3
    rw [p4] at c3
    have hlen : (l.take n ++ rest).length = n + rest.length := by rw [List.length_append, List.length_take]; omega
    rw [hlen] at c3
    have hfl := readReq_flds hx
    obtain ⟨m, t, st, z, L⟩ := hd
    simp only at hfl
    have cm := fun v W h => madeReq_any m t (z : Int) v L W h hfl
    have ce := fun a1 a2 b1 b2 W h1 h2 => same_eq m t 0 (z : Int) L a1 a2 b1 b2 W h1 h2 hfl
    have hz1 : ((n : Int) == 0) = false := by simp; omega
    have hz2 : ¬ ((n : Int) = 0) := by omega
    have hkc : (k : Int) ≤ (cap : Int) := by omega
    have hnc : (n : Int) ≤ (cap : Int) := by omega
    have C1 := hid c1
    have C2 := hid c2
    have C3 := hid c3
    have CM := hid cm
    have CE := hid ce
    have HT := hid (And.intro htk hlen)
    have hn5 : n ≤ 4000 := by omega
    have hr1 : rest.length ≤ 100 := by omega
    clear c1 c2 c3 cm ce p1 p2 p3 p4 hx hk htk hlen hfl hkn h4 hc0 h1 hc hll hll2
    go_enter Tryd.func4, Tryd.ntmps4
    go_wp2_with fail
    refine (CA.out _ hm).mono ?_
    rintro e w1 ⟨rfl, hb1⟩
    have hm1 := hm.below hb1
    go_wp2_with fail
    refine (C1.out _ (HR.out.below hb1) hm1).mono ?_
    rintro e w2 ⟨⟨v1, rfl, ho1⟩, hb2⟩
    obtain ⟨ao1, cp1, rfl⟩ := ownsRow_form ho1
    obtain ⟨W, hW⟩ : ∃ W, W = w2.alloc (.cells #[strV m, strV t, .int .i64 (z : Int), .slice ao1 L.length cp1] 30) := ⟨_, rfl⟩
    have hbW : Below w2.heap.size w2 W := by rw [hW]; exact below_alloc _ _
    have hg1 : rowIs W w2.heap.size #[strV m, strV t, .int .i64 (z : Int), .slice ao1 L.length cp1] 30 := by rw [hW]; exact rowIs_new _ _ _
    have rd1 := (ho1.reads2).2.below hbW
    have hm2 := (hm1.below hb2).below hbW
    have hb3 := chain2 hb1 hb1.size (hb2.trans (hbW.mono hb2.size))
    clear hb1 hb2 hbW hm hm1 ho1 C1 CA
    go_wp2_with fail
    rw [← hW]
    clear hW
    generalize w2.heap.size = G1 at *
    have hrk := (HR.out.below hb3).take k (by rw [List.length_map]; have := HT.out.1; rw [List.length_take] at this; omega)
    rw [← List.map_take] at hrk
    refine (C2.out _ hrk hm2).mono ?_
    rintro e w3 ⟨⟨-, rfl⟩, hb4⟩
    obtain ⟨W3, hW3⟩ : ∃ W, W = w3.alloc (.cells #[strV [], strV [], .int .i64 0, .slice none 0 0] 30) := ⟨_, rfl⟩
    have hbW : Below w3.heap.size w3 W3 := by rw [hW3]; exact below_alloc _ _
    have hg2 := (hg1.below hb4).below hbW
    have rd2 := (rd1.below hb4).below hbW
    have hm3 := (hm2.below hb4).below hbW
    have hb5 := chain2 hb3 hb3.size (hb4.trans (hbW.mono hb4.size))
    clear hb3 hb4 hbW hm2 hg1 rd1 hrk C2
    -- the empty slice and the two appends
    obtain ⟨W4, hW4⟩ : ∃ W, W = W3.alloc (.cells #[] 5) := ⟨_, rfl⟩
    have hb6 : Below W3.heap.size W3 W4 := by rw [hW4]; exact below_alloc _ _
    have hg4 : rowIs W4 W3.heap.size #[] 5 := by rw [hW4]; exact rowIs_new _ _ _
    have ho4 : W4.ownsRow W3.heap.size 5 1 (.slice (some ⟨w3.heap.size + 1, 0, none⟩) 0 0) 0 [] := ⟨rfl, .inr ⟨w3.heap.size + 1, 0, #[], rfl, by rw [hW3]; simp, by have h := hg4; rw [show W3.heap.size = w3.heap.size + 1 by rw [hW3]; simp] at h; exact h, Nat.le_refl _, by decide, rfl, rfl⟩⟩
    have hrn := ((HR.out.below hb5).below hb6).take n (by rw [List.length_map]; have := HT.out.2; rw [List.length_append, List.length_take] at this; omega)
    rw [← List.map_take] at hrn
    have hrs := HR2.out.below hb5
    have hb6b := hb6
    have hls : (l.take n).length = n := by have := HT.out.2; rw [List.length_append] at this; omega
    have hmd := hm3.below hb6
    have hs4 : W3.heap.size ≤ W4.heap.size := hb6.size
    rw [hW4, hW3] at ho4 hrn hs4 hb6b
    rw [hW3] at hrs
    clear hg4
    go_wp2_with (first
      | (at_builtin; (refine wpList_append_all _ rfl _ _ 24 rfl (w3.alloc (.cells #[strV [], strV [], .int .i64 0, .slice none 0 0] 30)).heap.size 5 Tryd.underlying24 infoU8 rfl (by decide) rfl ho4 hrn (bytes_oneCell _) rfl (by rw [List.length_map, hls]; omega) hs4 ?_); intro v5 w5 ho5 hg5 hb7; have hrs5 := hrs.below (hb6b.trans hb7); have hs5 := Nat.le_trans hs4 hb7.size)
      | (at_builtin; (refine wpList_append_all _ rfl _ _ 24 rfl (w3.alloc (.cells #[strV [], strV [], .int .i64 0, .slice none 0 0] 30)).heap.size 5 Tryd.underlying24 infoU8 rfl (by decide) rfl ho5 hrs5 (bytes_oneCell _) rfl (by rw [List.length_map, List.length_map, hls]; omega) hs5 ?_); intro v6 w6 ho6 hg6 hb8))
    rw [← hW3] at hb6b hb7 hb8
    have hbig : Below W3.heap.size W3 w6 := hb6b.trans (hb7.trans hb8)
    have ho6' : w6.ownsRow W3.heap.size 5 1 v6 (0 + ((l.take n).map byteV).length + (rest.map byteV).length) ((l.take n ++ rest).map byteV) := by
      rw [List.map_append, hW3]
      exact ho6
    obtain ⟨-, ao5, cp5, hv6, hroom5⟩ := own_room ho6'
    rw [HT.out.2] at hv6 hroom5
    subst hv6
    have hrd6 := ho6'.reads
    have hm6 := hm3.below hbig
    have hg6' := hg2.below hbig
    have rd6 := rd2.below hbig
    have hb10 := chain2 hb5 hb5.size hbig
    clear ho6 ho6' hbig hb6b hb7 hb8 hg6 hg5 ho5 hrs5 hs5 hrs hrn ho4 hs4 hb6 hmd hm3 hg2 rd2 hb5 hW4
    refine (C3.out ao5 cp5 _ hrd6 hroom5 hm6).mono ?_
    rintro e w7 ⟨⟨v8, rfl, ho8⟩, hb9⟩
    obtain ⟨ao3, cp3, rfl⟩ := ownsRow_form ho8
    obtain ⟨W8, hW8⟩ : ∃ W, W = w7.alloc (.cells #[strV m, strV t, .int .i64 (z : Int), .slice ao3 L.length cp3] 30) := ⟨_, rfl⟩
    have hbW : Below w7.heap.size w7 W8 := by rw [hW8]; exact below_alloc _ _
    have hg8 : rowIs W8 w7.heap.size #[strV m, strV t, .int .i64 (z : Int), .slice ao3 L.length cp3] 30 := by rw [hW8]; exact rowIs_new _ _ _
    have hg7 := (hg6'.below hb9).below hbW
    have rd7 := (rd6.below hb9).below hbW
    have rd8 := (ho8.reads2).2.below hbW
    have hb11 := chain2 hb10 hb10.size (hb9.trans (hbW.mono hb9.size))
    have RD1 := hid rd7
    have RD3 := hid rd8
    clear hb9 hb10 hbW hg6' rd6 ho8 rd7 rd8 hm6 hrd6 hroom5 C3 hW3
    go_wp2_with fail
    rw [← hW8]
    clear hW8
    generalize w7.heap.size = G3 at *
    refine wp_region_held_drew (S := Box2S W8 G1 #[strV m, strV t, .int .i64 (z : Int), .slice ao1 L.length cp1] G3 #[strV m, strV t, .int .i64 (z : Int), .slice ao3 L.length cp3] 30) (by kernel_rfl) ⟨(Below.refl _ _).drew, Nat.le_refl _, hg7, hg8⟩ (fun hH => ?_)
    refine wpAnyH_take (i := 0) (v := ?_) rfl (by kernel_rfl) (by kernel_rfl) (by kernel_rfl) (fun _ _ _ h => h) (Or.inl ⟨by kernel_rfl, ?_⟩) hH ?_
    rotate_left
    · intro W hS
      go_simp
      first | done | with_reducible rfl
    simp only [Act.put, List.getElem_toArray, List.getElem_cons_zero, List.setIfInBounds_toArray, List.set_cons_zero, List.set_cons_succ]
    refine wpAnyH_take (i := 1) (v := ?_) rfl (by kernel_rfl) (by kernel_rfl) (by kernel_rfl) (fun _ _ _ h => h) (Or.inl ⟨by kernel_rfl, ?_⟩) hH ?_
    rotate_left
    · intro W hS
      go_simp
      first | done | with_reducible rfl
    simp only [Act.put, List.getElem_toArray, List.getElem_cons_succ, List.getElem_cons_zero, List.setIfInBounds_toArray, List.set_cons_zero, List.set_cons_succ]
    refine wpAnyH_take (i := 2) (v := ?_) rfl (by kernel_rfl) (by kernel_rfl) (by kernel_rfl) (fun _ _ _ h => h) (Or.inl ⟨by kernel_rfl, ?_⟩) hH ?_
    rotate_left
    · intro W hS
      go_simp
      first | done | with_reducible rfl
    simp only [Act.put, List.getElem_toArray, List.getElem_cons_succ, List.getElem_cons_zero, List.setIfInBounds_toArray, List.set_cons_zero, List.set_cons_succ]
    refine wpAnyH_take (i := 3) (v := ?_) rfl (by kernel_rfl) (by kernel_rfl) (by kernel_rfl) (fun _ _ _ h => h) (Or.inl ⟨by kernel_rfl, ?_⟩) hH ?_
    rotate_left
    · intro W hS
      go_simp
      first | done | with_reducible rfl
    simp only [Act.put, List.getElem_toArray, List.getElem_cons_succ, List.getElem_cons_zero, List.setIfInBounds_toArray, List.set_cons_zero, List.set_cons_succ]
    refine wpAnyH_take (i := 4) (v := ?_) rfl (by kernel_rfl) (by kernel_rfl) (by kernel_rfl) (fun _ _ _ h => h) (Or.inl ⟨by kernel_rfl, ?_⟩) hH ?_
    rotate_left
    · intro W hS
      go_simp
      first | done | with_reducible rfl
    simp only [Act.put, List.getElem_toArray, List.getElem_cons_succ, List.getElem_cons_zero, List.setIfInBounds_toArray, List.set_cons_zero, List.set_cons_succ]
    refine wpAnyH_take (i := 5) (v := ?_) rfl (by kernel_rfl) (by kernel_rfl) (by kernel_rfl) (fun _ _ _ h => h) (Or.inl ⟨by kernel_rfl, ?_⟩) hH ?_
    rotate_left
    · intro W hS
      go_simp
      first | done | with_reducible rfl
    simp only [Act.put, List.getElem_toArray, List.getElem_cons_succ, List.getElem_cons_zero, List.setIfInBounds_toArray, List.set_cons_zero, List.set_cons_succ]
    refine wpAnyH_take (i := 6) (v := ?_) rfl (by kernel_rfl) (by kernel_rfl) (by kernel_rfl) (fun _ _ _ h => h) (Or.inl ⟨by kernel_rfl, ?_⟩) hH ?_
    rotate_left
    · intro W hS
      go_simp
      first | done | with_reducible rfl
    simp only [Act.put, List.getElem_toArray, List.getElem_cons_succ, List.getElem_cons_zero, List.setIfInBounds_toArray, List.set_cons_zero, List.set_cons_succ]
    refine wpAnyH_take (i := 7) (v := ?_) rfl (by kernel_rfl) (by kernel_rfl) (by kernel_rfl) (fun _ _ _ h => h) (Or.inl ⟨by kernel_rfl, ?_⟩) hH ?_
    rotate_left
    · intro W hS
      go_simp
      first | done | with_reducible rfl
    simp only [Act.put, List.getElem_toArray, List.getElem_cons_succ, List.getElem_cons_zero, List.setIfInBounds_toArray, List.set_cons_zero, List.set_cons_succ]
    refine wpAnyH_take (i := 8) (v := ?_) rfl (by kernel_rfl) (by kernel_rfl) (by kernel_rfl) (fun _ _ _ h => h) (Or.inl ⟨by kernel_rfl, ?_⟩) hH ?_
    rotate_left
    · intro W hS
      go_simp
      first | done | with_reducible rfl
    simp only [Act.put, List.getElem_toArray, List.getElem_cons_succ, List.getElem_cons_zero, List.setIfInBounds_toArray, List.set_cons_zero, List.set_cons_succ]
    refine wpAnyH_take (i := 9) (v := ?_) rfl (by kernel_rfl) (by kernel_rfl) (by kernel_rfl) (fun _ _ _ h => h) (Or.inl ⟨by kernel_rfl, ?_⟩) hH ?_
    rotate_left
    · intro W hS
      go_simp
      first | done | with_reducible rfl
    simp only [Act.put, List.getElem_toArray, List.getElem_cons_succ, List.getElem_cons_zero, List.setIfInBounds_toArray, List.set_cons_zero, List.set_cons_succ]
    refine wpAnyH_take (i := 10) (v := ?_) rfl (by kernel_rfl) (by kernel_rfl) (by kernel_rfl) (fun _ _ _ h => h) (Or.inl ⟨by kernel_rfl, ?_⟩) hH ?_
    rotate_left
    · intro W hS
      go_simp
      first | done | with_reducible rfl
    simp only [Act.put, List.getElem_toArray, List.getElem_cons_succ, List.getElem_cons_zero, List.setIfInBounds_toArray, List.set_cons_zero, List.set_cons_succ]
    refine wpAnyH_take (i := 11) (v := ?_) rfl (by kernel_rfl) (by kernel_rfl) (by kernel_rfl) (fun _ _ _ h => h) (Or.inl ⟨by kernel_rfl, ?_⟩) hH ?_
    rotate_left
    · intro W hS
      go_simp
      first | done | with_reducible rfl
    simp only [Act.put, List.getElem_toArray, List.getElem_cons_succ, List.getElem_cons_zero, List.setIfInBounds_toArray, List.set_cons_zero, List.set_cons_succ]
    refine wpAnyH_take (i := 12) (v := ?_) rfl (by kernel_rfl) (by kernel_rfl) (by kernel_rfl) (fun _ _ _ h => h) (Or.inl ⟨by kernel_rfl, ?_⟩) hH ?_
    rotate_left
    · intro W hS
      go_simp
      first | done | with_reducible rfl
    simp only [Act.put, List.getElem_toArray, List.getElem_cons_succ, List.getElem_cons_zero, List.setIfInBounds_toArray, List.set_cons_zero, List.set_cons_succ]
    refine wpAnyH_take (i := 13) (v := ?_) rfl (by kernel_rfl) (by kernel_rfl) (by kernel_rfl) (fun _ _ _ h => h) (Or.inl ⟨by kernel_rfl, ?_⟩) hH ?_
    rotate_left
    · intro W hS
      go_simp
      first | done | with_reducible rfl
    simp only [Act.put, List.getElem_toArray, List.getElem_cons_succ, List.getElem_cons_zero, List.setIfInBounds_toArray, List.set_cons_zero, List.set_cons_succ]
    refine wpAnyH_take (i := 14) (v := ?_) rfl (by kernel_rfl) (by kernel_rfl) (by kernel_rfl) (fun _ _ _ h => h) (Or.inl ⟨by kernel_rfl, ?_⟩) hH ?_
    rotate_left
    · intro W hS
      go_simp
      first | done | with_reducible rfl
    simp only [Act.put, List.getElem_toArray, List.getElem_cons_succ, List.getElem_cons_zero, List.setIfInBounds_toArray, List.set_cons_zero, List.set_cons_succ]
    refine wpAnyH_take (i := 15) (v := ?_) rfl (by kernel_rfl) (by kernel_rfl) (by kernel_rfl) (fun _ _ _ h => h) (Or.inl ⟨by kernel_rfl, ?_⟩) hH ?_
    rotate_left
    · intro W hS
      go_simp
      first | done | with_reducible rfl
    simp only [Act.put, List.getElem_toArray, List.getElem_cons_succ, List.getElem_cons_zero, List.setIfInBounds_toArray, List.set_cons_zero, List.set_cons_succ]
    refine wpAnyH_take (i := 16) (v := .agg #[strV m, strV t, .int .i64 (z : Int), .slice ao3 L.length cp3]) rfl (by kernel_rfl) (by kernel_rfl) (by kernel_rfl) (fun _ _ _ h => h) (Or.inl ⟨by kernel_rfl, ?_⟩) hH ?_
    · intro W hS
      exact load_gives (x := .tmp 14) (by kernel_rfl) G3 (by kernel_rfl) hS.2.2.2 Tryd.underlying30 rfl infoReqS
    simp only [Act.put, List.getElem_toArray, List.getElem_cons_succ, List.getElem_cons_zero, List.setIfInBounds_toArray, List.set_cons_zero, List.set_cons_succ]
    refine wpAnyH_take (i := 18) (v := .agg #[strV m, strV t, .int .i64 (z : Int), .slice ao1 L.length cp1]) rfl (by kernel_rfl) (by kernel_rfl) (by kernel_rfl) (fun _ _ _ h => h) (Or.inl ⟨by kernel_rfl, ?_⟩) hH ?_
    · intro W hS
      exact load_gives (x := .tmp 7) (by kernel_rfl) G1 (by kernel_rfl) hS.2.2.1 Tryd.underlying30 rfl infoReqS
    simp only [Act.put, List.getElem_toArray, List.getElem_cons_succ, List.getElem_cons_zero, List.setIfInBounds_toArray, List.set_cons_zero, List.set_cons_succ]
    refine wpAnyH_ready (rs := [17]) (by kernel_rfl) (by simp) ?_
    refine AllReadyH.cons rfl (fun K hK => ?_) AllReadyH.nil
    go_simp
    refine (CM.out (.slice ao3 L.length cp3) _ (RD3.out.below hH.1)).mono ?_
    rintro e w9 ⟨⟨aom1, cm1, rfl, rd17⟩, hb17⟩
    have hS1 := Box2S.below hH hb17
    clear hH
    refine hK.out _ _ hS1 (fun hH => ?_)
    clear hK K
    try simp only [Act.put, List.getElem_toArray, List.getElem_cons_succ, List.getElem_cons_zero, List.setIfInBounds_toArray, List.set_cons_zero, List.set_cons_succ]
    refine wpAnyH_ready (rs := [19]) (by kernel_rfl) (by simp) ?_
    refine AllReadyH.cons rfl (fun K hK => ?_) AllReadyH.nil
    go_simp
    refine (CM.out (.slice ao1 L.length cp1) _ (RD1.out.below hH.1)).mono ?_
    rintro e w9 ⟨⟨aom2, cm2, rfl, rd19⟩, hb19⟩
    have hS1 := Box2S.below hH hb19
    have rd17b := rd17.below hb19
    clear hH rd17
    refine hK.out _ _ hS1 (fun hH => ?_)
    clear hK K
    try simp only [Act.put, List.getElem_toArray, List.getElem_cons_succ, List.getElem_cons_zero, List.setIfInBounds_toArray, List.set_cons_zero, List.set_cons_succ]
    refine wpAnyH_ready (rs := [20]) (by kernel_rfl) (by simp) ?_
    refine AllReadyH.cons rfl (fun K hK => ?_) AllReadyH.nil
    go_simp
    refine (CE.out _ _ _ _ _ rd17b rd19).mono ?_
    rintro e w9 ⟨rfl, hb20⟩
    have hS1 := Box2S.below hH hb20
    clear hH
    refine hK.out _ _ hS1 (fun hH => ?_)
    clear hK K
    try simp only [Act.put, List.getElem_toArray, List.getElem_cons_succ, List.getElem_cons_zero, List.setIfInBounds_toArray, List.set_cons_zero, List.set_cons_succ]
    refine wpAnyH_take (i := 21) (v := ?_) rfl (by kernel_rfl) (by kernel_rfl) (by kernel_rfl) (fun _ _ _ h => h) (Or.inl ⟨by kernel_rfl, ?_⟩) hH ?_
    rotate_left
    · intro W hS
      go_simp
      first | done | with_reducible rfl
    simp only [Act.put, List.getElem_toArray, List.getElem_cons_succ, List.getElem_cons_zero, List.setIfInBounds_toArray, List.set_cons_zero, List.set_cons_succ]
    refine wpAnyH_take (i := 22) (v := ?_) rfl (by kernel_rfl) (by kernel_rfl) (by kernel_rfl) (fun _ _ _ h => h) (Or.inl ⟨by kernel_rfl, ?_⟩) hH ?_
    rotate_left
    · intro W hS
      go_simp
      first | done | with_reducible rfl
    simp only [Act.put, List.getElem_toArray, List.getElem_cons_succ, List.getElem_cons_zero, List.setIfInBounds_toArray, List.set_cons_zero, List.set_cons_succ]
    refine wpAnyH_done (by kernel_rfl) ?_ _
    go_wp2_with fail
    go_ret
    exact ⟨rfl, chain2 hb11 hb11.size hH.1⟩
end Go.Proofs.YtjfkehdlamnigaaDoor
