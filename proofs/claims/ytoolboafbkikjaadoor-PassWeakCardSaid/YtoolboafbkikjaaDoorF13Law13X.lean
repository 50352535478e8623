/-
  The walk of PassWeak.
-/
import Derived.Test.YtoolboafbkikjaaDoorF13Law13V
import Derived.Test.YtoolboafbkikjaaDoorF1304
set_option linter.unusedVariables false
set_option linter.unusedSimpArgs false

namespace Go.Proofs.YtoolboafbkikjaaDoor
open Go.RowKit Go.Pantry

def sET : List UInt8 := [69, 84, 97, 103]
def dgP (n : Nat) : UInt8 := UInt8.ofNat (48 + n)
theorem dg_all : ∀ n : Fin 10, dgP n.val ≠ 34 ∧ dgP n.val ≠ 92 ∧ isBl (dgP n.val) = false := by decide
theorem dg_ok {n : Nat} (h : n ≤ 9) : dgP n ≠ 34 ∧ dgP n ≠ 92 ∧ isBl (dgP n) = false := dg_all ⟨n, by omega⟩
theorem dg_eq2 : ∀ n m : Fin 10, (dgP n.val == dgP m.val) = decide (n.val = m.val) := by decide
theorem dg_eq {n m : Nat} (h : n ≤ 9) (h2 : m ≤ 9) : ((n : Int) == (m : Int)) = (dgP n == dgP m) := by
  rw [dg_eq2 ⟨n, by omega⟩ ⟨m, by omega⟩, Bool.eq_iff_iff]
  simp
  omega
theorem wkTag_any (n : Nat) (hn : n ≤ 9) (w : World) :
    Calls Tryd.prog 32 #[.int .i64 (n : Int)] w fun e w' => e = .returned (strV (tagT (dgP n))) ∧ Below w.heap.size w w' := by
  have hcv := run_one_byte (P := Tryd.prog) 46 9 5 Tryd.underlying46 Tryd.underlying5 Tryd.underlying9 (w.alloc (.cells #[.int .u8 (48 + (n : Int))] 5)) w.heap.size (48 + (n : Int)) (World.cell?_alloc_at _ _ _ _ rfl)
  have e1 : UInt8.ofNat (48 + (n : Int)).toNat = dgP n := by
    have : (48 + (n : Int)).toNat = 48 + n := by omega
    rw [this]; rfl
  rw [e1] at hcv
  have k1 : IntKind.i64.wrap (48 + (n : Int)) = 48 + (n : Int) := IntWalk.i64_in _ (by omega)
  generalize dgP n = c at hcv
  obtain ⟨X1, x1, l1, s1⟩ := sum_lists (P := Tryd.prog) [34] [c] (by decide) (by simp)
  obtain ⟨X2, x2, l2, s2⟩ := sum_lists (P := Tryd.prog) X1 [34] (by rw [l1]; simp) (by decide)
  have HX : Hid (X2 = tagT c) := by show X2 = _; rw [x2, x1]; rfl
  clear x1 x2 l1 l2 e1
  have hb := below_alloc w (.cells #[.int .u8 (48 + (n : Int))] 5)
  have HB := hid hb
  clear hb
  go_enter Tryd.func32, Tryd.ntmps32
  go_wp2_with fail
  go_ret
  exact ⟨by rw [HX.out]; rfl, HB.out⟩
set_option maxRecDepth 8000 in
set_option maxHeartbeats 4000000 in
theorem wkAsk_any {Ok : World → Prop} (K : Passes Ok) (v tg : List UInt8) (g : Nat) (cvv : Value) (w : World) (ok : Ok w) (hc : w.cell? ⟨g, 0, none⟩ = some cvv) (hr : Reads2 w cvv [(sET, tg)]) (hv : v.length ≤ 100000) (ht : tg.length ≤ 300) :
    Calls Tryd.prog 33 #[strV v, .pointer (some ⟨g, 0, none⟩)] w fun e w' => e = .returned (.bool (goodF [(nINM, v)] [(sET, tg)])) ∧ Below w.heap.size w w' := by
  have hb := below_alloc w (.cells #[strV nINM, strV v] 49)
  have h1 := reads2_new_at w (nINM, v) 49 1 w.heap.size rfl
  have hw : WideF [(nINM, v)] := ⟨by simp, by simp [nINM], by simpa using hv⟩
  have hs : SmallF [(sET, tg)] := ⟨by simp, by simp [sET], by simpa using ht⟩
  have C := hid (K.good _ cvv [(nINM, v)] [(sET, tg)] _ (K.keep _ _ ok hb) h1 (hr.below hb) hw hs)
  obtain ⟨ao, cap, rfl⟩ := hr.form
  have hc2 : (w.alloc (.cells #[.string ⟨#[105, 102, 45, 110, 111, 110, 101, 45, 109, 97, 116, 99, 104]⟩, strV v] 49)).cell? ⟨g, 0, none⟩ = some (.slice ao 1 cap) := kept hc hb
  have HB := hid hb
  clear hb h1 hw hs hr ok
  go_enter Tryd.func33, Tryd.ntmps33
  go_wp2_with fail
  refine C.out.mono ?_
  rintro e w2 ⟨rfl, hb2⟩
  have HB2 := hid (chain2 HB.out HB.out.size hb2)
  clear hb2
  go_wp2_with fail
  go_ret
  exact ⟨rfl, HB2.out⟩
/-- the bytes of some digits -/
def dgL (xs : List Int) : List UInt8 := xs.map fun x => dgP x.toNat
abbrev askedT (wk : Bool) (cb : UInt8) (L : List UInt8) : List UInt8 := joinC (weakT wk cb :: L.map tagT)
theorem asked_snoc (wk : Bool) (cb c : UInt8) (L : List UInt8) : askedT wk cb (L ++ [c]) = askedT wk cb L ++ ([44, 32] ++ tagT c) := by
  unfold askedT
  rw [List.map_append, List.map_cons, List.map_nil, ← List.cons_append, joinC_snoc, if_neg (by simp)]
  rfl
theorem asked_len (wk : Bool) (cb : UInt8) (L : List UInt8) : (askedT wk cb L).length ≤ 7 * (L.length + 1) := by
  have := joinC_len 5 (weakT wk cb :: L.map tagT) (by
    intro x hx
    rcases List.mem_cons.1 hx with rfl | h
    · cases wk <;> simp [weakT, tagT]
    · obtain ⟨c, -, rfl⟩ := List.mem_map.1 h; simp [tagT])
  simpa using this
theorem asked_shut {wk : Bool} {b : Nat} {xs : List Int} (hb : b ≤ 9) (hx : ∀ x ∈ xs, 0 ≤ x ∧ x ≤ 9) : ∀ e ∈ weakT wk (dgP b) :: (dgL xs).map tagT, Go.Pantry.Shut e := by
  intro e he
  rcases List.mem_cons.1 he with rfl | h
  · obtain ⟨h1, h2, h3⟩ := dg_ok hb
    exact shut_weak h1 h2 h3 wk
  · obtain ⟨c, hc, rfl⟩ := List.mem_map.1 h
    obtain ⟨x, hx2, rfl⟩ := List.mem_map.1 hc
    obtain ⟨h1, h2, h3⟩ := dg_ok (n := x.toNat) (by have := hx x hx2; omega)
    exact shut_tag h1 h2 h3
theorem ask_list {wk : Bool} {a b : Nat} {xs : List Int} (hb : b ≤ 9) (hx : ∀ x ∈ xs, 0 ≤ x ∧ x ≤ 9) :
    goodF [(nINM, askedT wk (dgP b) (dgL xs))] [(sET, tagT (dgP a))] = (dgP b == dgP a || (dgL xs).any (· == dgP a)) := by
  rw [good_asked nINM sET (tagT (dgP a)) (by decide) (by decide) _ (asked_shut hb hx), weak_asked]
theorem ask_star (t : List UInt8) : goodF [(nINM, [42])] [(sET, t)] = true :=
  (good_asked nINM sET t (by decide) (by decide) [[42]] (by simpa using shut_star)).trans (by simp [good_star])
theorem ask_more {wk : Bool} {a b : Nat} {xs : List Int} (hb : b ≤ 9) (hx : ∀ x ∈ xs, 0 ≤ x ∧ x ≤ 9) :
    goodF [(nINM, askedT wk (dgP b) (dgL xs) ++ [44, 32, 42])] [(sET, tagT (dgP a))] = true := by
  have h1 : askedT wk (dgP b) (dgL xs) ++ [44, 32, 42] = joinC ((weakT wk (dgP b) :: (dgL xs).map tagT) ++ [[42]]) := by
    rw [joinC_snoc, if_neg (by simp)]
  rw [h1, good_asked nINM sET (tagT (dgP a)) (by decide) (by decide) _ (fun e he => by
    rcases List.mem_append.1 he with h | h
    · exact asked_shut hb hx e h
    · rw [List.mem_singleton.1 h]; exact shut_star), star_asked]
theorem ask_none (t : List UInt8) : goodF [(nINM, [])] [(sET, t)] = false :=
  (good_asked nINM sET t (by decide) (by decide) [] (by simp)).trans rfl
theorem dgL_take {xs : List Int} {k : Nat} {x : Int} (h : xs[k]? = some x) : dgL (xs.take (k + 1)) = dgL (xs.take k) ++ [dgP x.toNat] := by
  obtain ⟨hk', rfl⟩ := List.getElem?_eq_some_iff.1 h
  unfold dgL
  rw [List.take_succ_eq_append_getElem hk', List.map_append]; rfl
set_option maxRecDepth 8000 in
set_option maxHeartbeats 4000000 in
theorem passWeak_over {Ok : World → Prop} (K : Passes Ok) (a b : Int) (wk : Bool) (mv : Value) (xs : List Int) (w : World) (ok : Ok w) (hm : Reads w mv (xs.map (Value.int .i64)) ∧ xs.length ≤ maxLen) :
    Calls Tryd.prog 9 #[.int .i64 a, .int .i64 b, .bool wk, mv] w fun e w' => e = .returned (.bool true) ∧ Below w.heap.size w w' := by
  obtain ⟨hmr, hml⟩ := hm
  obtain ⟨mo, mc, rfl, -⟩ := id hmr
  have HR := hid hmr
  rw [List.length_map] at *
  obtain ⟨n, hn⟩ : ∃ n, xs.length = n := ⟨_, rfl⟩
  rw [hn] at hml ⊢
  have HN := hid hn
  unfold maxLen at hml
  clear hmr hn
  have cA := hid (anchor13_any K.toMoves w ok)
  have OK := hid ok
  clear ok
  go_enter Tryd.func9, Tryd.ntmps9
  go_wp2_with fail
  refine cA.out.mono ?_
  rintro e w1 ⟨rfl, hb1⟩
  have HB1 := hid hb1
  clear hb1 cA
  by_cases ha0 : a < 0
  · have da0 : decide (a < 0) = true := decide_eq_true ha0
    go_wp2_with fail
    go_ret
    exact ⟨rfl, HB1.out⟩
  have da0 : decide (a < 0) = false := decide_eq_false ha0
  by_cases ha1 : (9 : Int) < a
  · have da1 : decide ((9 : Int) < a) = true := decide_eq_true ha1
    go_wp2_with fail
    go_ret
    exact ⟨rfl, HB1.out⟩
  have da1 : decide ((9 : Int) < a) = false := decide_eq_false ha1
  by_cases hb0 : b < 0
  · have db0 : decide (b < 0) = true := decide_eq_true hb0
    go_wp2_with fail
    go_ret
    exact ⟨rfl, HB1.out⟩
  have db0 : decide (b < 0) = false := decide_eq_false hb0
  by_cases hb1 : (9 : Int) < b
  · have db1 : decide ((9 : Int) < b) = true := decide_eq_true hb1
    go_wp2_with fail
    go_ret
    exact ⟨rfl, HB1.out⟩
  have db1 : decide ((9 : Int) < b) = false := decide_eq_false hb1
  by_cases hn1 : (10 : Int) < (n : Int)
  · have dn1 : decide ((10 : Int) < (n : Int)) = true := decide_eq_true hn1
    go_wp2_with fail
    go_ret
    exact ⟨rfl, HB1.out⟩
  have dn1 : decide ((10 : Int) < (n : Int)) = false := decide_eq_false hn1
  obtain ⟨na, rfl⟩ : ∃ m : Nat, a = (m : Int) := ⟨a.toNat, by omega⟩
  obtain ⟨nb, rfl⟩ : ∃ m : Nat, b = (m : Int) := ⟨b.toNat, by omega⟩
  have hna : na ≤ 9 := by omega
  have hnb : nb ≤ 9 := by omega
  have hn10 : n ≤ 10 := by omega
  have cTa := hid (fun (W : World) => wkTag_any na hna W)
  have cTb := hid (fun (W : World) => wkTag_any nb hnb W)
  go_wp2_with fail
  refine (cTa.out _).mono ?_
  rintro e w2 ⟨rfl, hb2⟩
  have HB2 := hid (chain2 HB1.out HB1.out.size hb2)
  clear hb2 HB1 cTa
  obtain ⟨TA, hTA⟩ : ∃ t, tagT (dgP na) = t := ⟨_, rfl⟩
  have hTl : TA.length ≤ 300 := by rw [← hTA]; simp [tagT]
  rw [hTA]
  go_upto_region 7 with fail
  have r0 := reads2_new_at w2 (sET, TA) 49 1 w2.heap.size rfl
  have hb3 := below_alloc w2 (.cells #[strV sET, strV TA] 49)
  change Code.wp _ _ _ _ ((w2.alloc (.cells #[strV sET, strV TA] 49)).alloc (.cells #[.slice (some ⟨w2.heap.size, 0, none⟩) 1 1] 23))
  have hb4 := below_alloc (w2.alloc (.cells #[strV sET, strV TA] 49)) (.cells #[.slice (some ⟨w2.heap.size, 0, none⟩) 1 1] 23)
  have hc4 : ((w2.alloc (.cells #[strV sET, strV TA] 49)).alloc (.cells #[.slice (some ⟨w2.heap.size, 0, none⟩) 1 1] 23)).cell? ⟨w2.heap.size + 1, 0, none⟩ = some (.slice (some ⟨w2.heap.size, 0, none⟩) 1 1) := by
    rw [World.cell?_alloc_at _ _ _ _ (by simp)]; rfl
  have r4 := r0.below hb4
  have HB4 := hid (chain2 (chain2 HB2.out HB2.out.size hb3) (chain2 HB2.out HB2.out.size hb3).size hb4)
  generalize (w2.alloc (.cells #[strV sET, strV TA] 49)).alloc (.cells #[.slice (some ⟨w2.heap.size, 0, none⟩) 1 1] 23) = w4 at hc4 r4 HB4 ⊢
  obtain ⟨g, hg⟩ : ∃ g, w2.heap.size + 1 = g := ⟨_, rfl⟩
  obtain ⟨CV, hCV⟩ : ∃ v, Value.slice (some ⟨w2.heap.size, 0, none⟩) 1 1 = v := ⟨_, rfl⟩
  rw [hg, hCV] at hc4
  rw [hCV] at r4
  try rw [hg]
  try simp only [hg]
  clear r0 hb3 hb4 HB2 hg hCV
  go_wp2_with fail
  refine (cTb.out _).mono ?_
  rintro e w5 ⟨rfl, hb5⟩
  have HB5 := hid (chain2 HB4.out HB4.out.size hb5)
  have HC5 := hid (kept hc4 hb5)
  have HR5 := hid (r4.below hb5)
  clear hb5 HB4 hc4 r4 cTb
  have cA := hid (fun (W : World) (v : List UInt8) (hb : Below w5.heap.size w5 W) (hv : v.length ≤ 100000) => wkAsk_any K v TA g CV W (K.keep _ _ OK.out (chain2 HB5.out HB5.out.size hb)) (kept HC5.out hb) (HR5.out.below hb) hv hTl)
  have HQ0 := hid (dg_eq hnb hna)
  have HTA := hid hTA
  clear HC5 HR5 hTA hTl
  have hqab : ((na : Int) == (nb : Int)) = (dgP nb == dgP na) := by rw [dg_eq hna hnb, Bool.beq_comm]
  obtain ⟨q0, hq0⟩ : ∃ q, (dgP nb == dgP na) = q := ⟨_, rfl⟩
  rw [hq0] at hqab
  have HQ := hid hq0
  clear hq0 HQ0
  cases wk
  · go_wp2_with fail
    go_loopw [11, 12, 53] (fun sv wv i wr => ∃ k : Nat, k ≤ n ∧ i = .int .i64 (k : Int) ∧ sv = strV (askedT false (dgP nb) (dgL (xs.take k))) ∧ wv = .bool (q0 || (dgL (xs.take k)).any (· == dgP na)) ∧ (∀ x ∈ xs.take k, 0 ≤ x ∧ x ≤ 9) ∧ Below w5.heap.size w5 wr) (fun _ _ i _ => n - (intOf i).toNat)
    case atStart => exact ⟨0, Nat.zero_le _, rfl, rfl, by simp [dgL], by simp, Below.refl _ _⟩
    case round =>
      obtain ⟨k, hk, rfl, rfl, rfl, hall, hbr⟩ := hrel
      have HA := hid hall
      have HBR := hid hbr
      have HBW := hid (chain2 HB5.out HB5.out.size hbr)
      have hal := asked_len false (dgP nb) (dgL (xs.take k))
      have hdl : (dgL (xs.take k)).length ≤ 10 := by unfold dgL; rw [List.length_map, List.length_take]; omega
      by_cases hlt : k < n
      · obtain ⟨x, hx⟩ : ∃ x, xs[k]? = some x := ⟨_, List.getElem?_eq_getElem (by rw [HN.out]; exact hlt)⟩
        obtain ⟨bb, off, cap', hv, hcell⟩ := (HR.out.below (chain2 HB5.out HB5.out.size hbr)).at_some (by rw [List.length_map, HN.out]; omega)
        have hc := hcell k (.int .i64 x) (by simp [hx])
        have hv2 : mo = some ⟨bb, off, none⟩ := by simp only [Value.slice.injEq] at hv; exact hv.1
        subst hv2
        clear hv hcell hbr hall
        have hkI : (k : Int) < (n : Int) := by omega
        have hk0 : (0 : Int) ≤ (k : Int) := by omega
        have hkw : IntKind.i64.wrap ((k : Int) + 1) = (k : Int) + 1 := IntWalk.i64_in _ (by omega)
        by_cases h0 : x < 0
        · have d0 : decide (x < 0) = true := decide_eq_true h0
          go_wp2_with fail
          go_ret
          exact ⟨rfl, HBW.out⟩
        have d0 : decide (x < 0) = false := decide_eq_false h0
        by_cases h9 : (9 : Int) < x
        · have d9 : decide ((9 : Int) < x) = true := decide_eq_true h9
          go_wp2_with fail
          go_ret
          exact ⟨rfl, HBW.out⟩
        have d9 : decide ((9 : Int) < x) = false := decide_eq_false h9
        obtain ⟨nx, rfl⟩ : ∃ m : Nat, x = (m : Int) := ⟨x.toNat, by omega⟩
        have hnx : nx ≤ 9 := by omega
        have HT := hid (dgL_take hx)
        have hall2 : ∀ y ∈ xs.take (k + 1), 0 ≤ y ∧ y ≤ 9 := by
          obtain ⟨hk', e⟩ := List.getElem?_eq_some_iff.1 hx
          rw [List.take_succ_eq_append_getElem hk', e]
          intro y hy
          rcases List.mem_append.1 hy with h | h
          · exact HA.out y h
          · rw [List.mem_singleton.1 h]; omega
        have HA2 := hid hall2
        have cX := hid (fun (W : World) => wkTag_any nx hnx W)
        obtain ⟨X1, x1, l1, s1⟩ := sum_lists (P := Tryd.prog) [44, 32] (tagT (dgP nx)) (by decide) (by simp [tagT])
        obtain ⟨S, hS⟩ : ∃ S, askedT false (dgP nb) (dgL (xs.take k)) = S := ⟨_, rfl⟩
        rw [hS] at hal ⊢
        have hX1l : X1.length = 5 := by rw [l1]; rfl
        obtain ⟨X2, x2, -, s2⟩ := sum_lists (P := Tryd.prog) S X1 (by omega) (by omega)
        have HS := hid (show X2 = askedT false (dgP nb) (dgL (xs.take (k + 1))) by rw [HT.out, asked_snoc, hS, x2, x1]; rfl)
        have hq : ((nx : Int) == (na : Int)) = (dgP nx == dgP na) := dg_eq hnx hna
        obtain ⟨q1, hq1⟩ : ∃ q, (dgP nx == dgP na) = q := ⟨_, rfl⟩
        rw [hq1] at hq
        obtain ⟨wv, hwv⟩ : ∃ q, (q0 || (dgL (xs.take k)).any (· == dgP na)) = q := ⟨_, rfl⟩
        have HW := hid (show (q0 || (dgL (xs.take (k + 1))).any (· == dgP na)) = (wv || q1) by
          have e1 : (dgL (xs.take (k + 1))).any (· == dgP na) = ((dgL (xs.take k)).any (· == dgP na) || q1) := by
            rw [HT.out, List.any_append]
            simp [hq1]
          rw [e1, ← hwv, Bool.or_assoc])
        rw [hwv]
        clear hx hall2 x1 l1 hS x2 hq1 hwv h0 h9 hal hdl
        cases wv
        all_goals
          go_wp2_with fail
          refine (cX.out _).mono ?_
          rintro e w6 ⟨rfl, hb6⟩
          have HBR6 := hid (chain2 HBR.out HBR.out.size hb6)
          clear hb6
          go_wp2_with fail
          go_roundw
          case rel => exact ⟨k + 1, hlt, by go_num, by rw [HS.out], by rw [HW.out]; rfl, HA2.out, HBR6.out⟩
          case measure => simp [intOf]; omega
      · have hkn : k = n := by omega
        subst hkn
        have hdk : decide ((k : Int) < (k : Int)) = false := decide_eq_false (by omega)
        have htk : xs.take k = xs := List.take_of_length_le (by rw [HN.out]; omega)
        rw [htk] at hal hdl ⊢
        have hxs : ∀ x ∈ xs, 0 ≤ x ∧ x ≤ 9 := by rw [← htk]; exact HA.out
        have g1 := ask_list (wk := false) (a := na) hnb hxs
        have g3 := ask_more (wk := false) (a := na) hnb hxs
        rw [HQ.out] at g1
        obtain ⟨q, hq⟩ : ∃ q, (q0 || (dgL xs).any (· == dgP na)) = q := ⟨_, rfl⟩
        rw [hq] at g1 ⊢
        rw [HTA.out] at g1 g3
        obtain ⟨S, hS⟩ : ∃ S, askedT false (dgP nb) (dgL xs) = S := ⟨_, rfl⟩
        rw [hS] at hal g1 g3 ⊢
        obtain ⟨X, hX, hXl, sX⟩ := sum_lists (P := Tryd.prog) S [44, 32, 42] (by omega) (by decide)
        rw [← hX] at g3
        have c1 := hid (fun (W : World) (hb : Below w5.heap.size w5 W) => cA.out W S hb (by omega))
        have c2 := hid (fun (W : World) (hb : Below w5.heap.size w5 W) => cA.out W [42] hb (by decide))
        have c3 := hid (fun (W : World) (hb : Below w5.heap.size w5 W) => cA.out W X hb (by rw [hXl]; simp; omega))
        have c4 := hid (fun (W : World) (hb : Below w5.heap.size w5 W) => cA.out W [] hb (by decide))
        rw [g1] at c1
        rw [ask_star] at c2
        rw [g3] at c3
        rw [ask_none] at c4
        clear g1 g3 hS hX hXl hq hal hdl htk hxs hbr hall HA cA HQ HTA HN
        cases q
        all_goals
          go_wp2_with fail
          refine (c1.out _ HBR.out).mono ?_
          rintro e w6 ⟨rfl, hb⟩
          have HB6 := hid (chain2 HBR.out HBR.out.size hb)
          clear hb
          go_wp2_with fail
          refine (c2.out _ HB6.out).mono ?_
          rintro e w7 ⟨rfl, hb⟩
          have HB7 := hid (chain2 HB6.out HB6.out.size hb)
          clear hb
          go_wp2_with fail
          refine (c3.out _ HB7.out).mono ?_
          rintro e w8 ⟨rfl, hb⟩
          have HB8 := hid (chain2 HB7.out HB7.out.size hb)
          clear hb
          go_wp2_with fail
          refine (c4.out _ HB8.out).mono ?_
          rintro e w9 ⟨rfl, hb⟩
          have HB9 := hid (chain2 HB8.out HB8.out.size hb)
          clear hb
          go_wp2_with fail
          go_ret
          exact ⟨rfl, chain2 HB5.out HB5.out.size HB9.out⟩
  · obtain ⟨X0, x0, -, s0⟩ := sum_lists (P := Tryd.prog) [87, 47] (tagT (dgP nb)) (by decide) (by simp [tagT])
    have hX0 : X0 = askedT true (dgP nb) [] := by rw [x0]; rfl
    clear x0
    go_wp2_with fail
    go_loopw [11, 12, 53] (fun sv wv i wr => ∃ k : Nat, k ≤ n ∧ i = .int .i64 (k : Int) ∧ sv = strV (askedT true (dgP nb) (dgL (xs.take k))) ∧ wv = .bool (q0 || (dgL (xs.take k)).any (· == dgP na)) ∧ (∀ x ∈ xs.take k, 0 ≤ x ∧ x ≤ 9) ∧ Below w5.heap.size w5 wr) (fun _ _ i _ => n - (intOf i).toNat)
    case atStart => exact ⟨0, Nat.zero_le _, rfl, by first | rfl | (rw [hX0]; rfl), by simp [dgL], by simp, Below.refl _ _⟩
    case round =>
      obtain ⟨k, hk, rfl, rfl, rfl, hall, hbr⟩ := hrel
      have HA := hid hall
      have HBR := hid hbr
      have HBW := hid (chain2 HB5.out HB5.out.size hbr)
      have hal := asked_len true (dgP nb) (dgL (xs.take k))
      have hdl : (dgL (xs.take k)).length ≤ 10 := by unfold dgL; rw [List.length_map, List.length_take]; omega
      by_cases hlt : k < n
      · obtain ⟨x, hx⟩ : ∃ x, xs[k]? = some x := ⟨_, List.getElem?_eq_getElem (by rw [HN.out]; exact hlt)⟩
        obtain ⟨bb, off, cap', hv, hcell⟩ := (HR.out.below (chain2 HB5.out HB5.out.size hbr)).at_some (by rw [List.length_map, HN.out]; omega)
        have hc := hcell k (.int .i64 x) (by simp [hx])
        have hv2 : mo = some ⟨bb, off, none⟩ := by simp only [Value.slice.injEq] at hv; exact hv.1
        subst hv2
        clear hv hcell hbr hall
        have hkI : (k : Int) < (n : Int) := by omega
        have hk0 : (0 : Int) ≤ (k : Int) := by omega
        have hkw : IntKind.i64.wrap ((k : Int) + 1) = (k : Int) + 1 := IntWalk.i64_in _ (by omega)
        by_cases h0 : x < 0
        · have d0 : decide (x < 0) = true := decide_eq_true h0
          go_wp2_with fail
          go_ret
          exact ⟨rfl, HBW.out⟩
        have d0 : decide (x < 0) = false := decide_eq_false h0
        by_cases h9 : (9 : Int) < x
        · have d9 : decide ((9 : Int) < x) = true := decide_eq_true h9
          go_wp2_with fail
          go_ret
          exact ⟨rfl, HBW.out⟩
        have d9 : decide ((9 : Int) < x) = false := decide_eq_false h9
        obtain ⟨nx, rfl⟩ : ∃ m : Nat, x = (m : Int) := ⟨x.toNat, by omega⟩
        have hnx : nx ≤ 9 := by omega
        have HT := hid (dgL_take hx)
        have hall2 : ∀ y ∈ xs.take (k + 1), 0 ≤ y ∧ y ≤ 9 := by
          obtain ⟨hk', e⟩ := List.getElem?_eq_some_iff.1 hx
          rw [List.take_succ_eq_append_getElem hk', e]
          intro y hy
          rcases List.mem_append.1 hy with h | h
          · exact HA.out y h
          · rw [List.mem_singleton.1 h]; omega
        have HA2 := hid hall2
        have cX := hid (fun (W : World) => wkTag_any nx hnx W)
        obtain ⟨X1, x1, l1, s1⟩ := sum_lists (P := Tryd.prog) [44, 32] (tagT (dgP nx)) (by decide) (by simp [tagT])
        obtain ⟨S, hS⟩ : ∃ S, askedT true (dgP nb) (dgL (xs.take k)) = S := ⟨_, rfl⟩
        rw [hS] at hal ⊢
        have hX1l : X1.length = 5 := by rw [l1]; rfl
        obtain ⟨X2, x2, -, s2⟩ := sum_lists (P := Tryd.prog) S X1 (by omega) (by omega)
        have HS := hid (show X2 = askedT true (dgP nb) (dgL (xs.take (k + 1))) by rw [HT.out, asked_snoc, hS, x2, x1]; rfl)
        have hq : ((nx : Int) == (na : Int)) = (dgP nx == dgP na) := dg_eq hnx hna
        obtain ⟨q1, hq1⟩ : ∃ q, (dgP nx == dgP na) = q := ⟨_, rfl⟩
        rw [hq1] at hq
        obtain ⟨wv, hwv⟩ : ∃ q, (q0 || (dgL (xs.take k)).any (· == dgP na)) = q := ⟨_, rfl⟩
        have HW := hid (show (q0 || (dgL (xs.take (k + 1))).any (· == dgP na)) = (wv || q1) by
          have e1 : (dgL (xs.take (k + 1))).any (· == dgP na) = ((dgL (xs.take k)).any (· == dgP na) || q1) := by
            rw [HT.out, List.any_append]
            simp [hq1]
          rw [e1, ← hwv, Bool.or_assoc])
        rw [hwv]
        clear hx hall2 x1 l1 hS x2 hq1 hwv h0 h9 hal hdl
        cases wv
        all_goals
          go_wp2_with fail
          refine (cX.out _).mono ?_
          rintro e w6 ⟨rfl, hb6⟩
          have HBR6 := hid (chain2 HBR.out HBR.out.size hb6)
          clear hb6
          go_wp2_with fail
          go_roundw
          case rel => exact ⟨k + 1, hlt, by go_num, by rw [HS.out], by rw [HW.out]; rfl, HA2.out, HBR6.out⟩
          case measure => simp [intOf]; omega
      · have hkn : k = n := by omega
        subst hkn
        have hdk : decide ((k : Int) < (k : Int)) = false := decide_eq_false (by omega)
        have htk : xs.take k = xs := List.take_of_length_le (by rw [HN.out]; omega)
        rw [htk] at hal hdl ⊢
        have hxs : ∀ x ∈ xs, 0 ≤ x ∧ x ≤ 9 := by rw [← htk]; exact HA.out
        have g1 := ask_list (wk := true) (a := na) hnb hxs
        have g3 := ask_more (wk := true) (a := na) hnb hxs
        rw [HQ.out] at g1
        obtain ⟨q, hq⟩ : ∃ q, (q0 || (dgL xs).any (· == dgP na)) = q := ⟨_, rfl⟩
        rw [hq] at g1 ⊢
        rw [HTA.out] at g1 g3
        obtain ⟨S, hS⟩ : ∃ S, askedT true (dgP nb) (dgL xs) = S := ⟨_, rfl⟩
        rw [hS] at hal g1 g3 ⊢
        obtain ⟨X, hX, hXl, sX⟩ := sum_lists (P := Tryd.prog) S [44, 32, 42] (by omega) (by decide)
        rw [← hX] at g3
        have c1 := hid (fun (W : World) (hb : Below w5.heap.size w5 W) => cA.out W S hb (by omega))
        have c2 := hid (fun (W : World) (hb : Below w5.heap.size w5 W) => cA.out W [42] hb (by decide))
        have c3 := hid (fun (W : World) (hb : Below w5.heap.size w5 W) => cA.out W X hb (by rw [hXl]; simp; omega))
        have c4 := hid (fun (W : World) (hb : Below w5.heap.size w5 W) => cA.out W [] hb (by decide))
        rw [g1] at c1
        rw [ask_star] at c2
        rw [g3] at c3
        rw [ask_none] at c4
        clear g1 g3 hS hX hXl hq hal hdl htk hxs hbr hall HA cA HQ HTA HN
        cases q
        all_goals
          go_wp2_with fail
          refine (c1.out _ HBR.out).mono ?_
          rintro e w6 ⟨rfl, hb⟩
          have HB6 := hid (chain2 HBR.out HBR.out.size hb)
          clear hb
          go_wp2_with fail
          refine (c2.out _ HB6.out).mono ?_
          rintro e w7 ⟨rfl, hb⟩
          have HB7 := hid (chain2 HB6.out HB6.out.size hb)
          clear hb
          go_wp2_with fail
          refine (c3.out _ HB7.out).mono ?_
          rintro e w8 ⟨rfl, hb⟩
          have HB8 := hid (chain2 HB7.out HB7.out.size hb)
          clear hb
          go_wp2_with fail
          refine (c4.out _ HB8.out).mono ?_
          rintro e w9 ⟨rfl, hb⟩
          have HB9 := hid (chain2 HB8.out HB8.out.size hb)
          clear hb
          go_wp2_with fail
          go_ret
          exact ⟨rfl, chain2 HB5.out HB5.out.size HB9.out⟩
end Go.Proofs.YtoolboafbkikjaaDoor
