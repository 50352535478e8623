/-
  The walk of the statement FieldOwn.
-/
import Derived.Test.YtcipfbjneeafaaaDoorLaw03B
import Derived.Test.YtcipfbjneeafaaaDoorRefFieldC
namespace Go.Pantry
open Go.RowKit
/-- What a made slice is: nothing, or a block of its own, from B on and below C, whose cells can be stored into. -/
def Mine (B C : Nat) (w : World) (ao : Option Addr) (n : Nat) : Prop :=
  (ao = none ∧ n = 0) ∨ ∃ g xs, ao = some ⟨g, 0, none⟩ ∧ B ≤ g ∧ g < C ∧ xs.length = n * 2 ∧ blockAt w g xs
theorem mine_of {w : World} {B : Nat} {e : TypeId} {v : Value} {n : Nat} {xs : List Value} (h : w.ownsRow B e 2 v n xs) : ∃ ao cap, v = .slice ao n cap ∧ Mine B w.heap.size w ao n := by
  rcases h.2 with ⟨rfl, hn⟩ | ⟨g, cap, cur, rfl, hb, hg, hnc, hcm, hcs, htake⟩
  · exact ⟨none, 0, by rw [hn], .inl ⟨rfl, hn⟩⟩
  · refine ⟨some ⟨g, 0, none⟩, cap, rfl, .inr ⟨g, xs, rfl, hb, (Array.getElem?_eq_some_iff.1 hg).1, h.1, ?_, ?_⟩⟩
    · intro j u hj
      have := h.cells (g := g) rfl j u hj
      have hadd : (⟨g, 0, none⟩ : Addr).add j = ⟨g, j, none⟩ := by unfold Addr.add; split <;> simp_all
      rw [hadd] at this
      exact this
    · intro j hj
      unfold World.frozen?
      rw [hg]
      simp
theorem Mine.below {B C K : Nat} {w w' : World} {ao : Option Addr} {n : Nat} (h : Mine B C w ao n) (hb : Below K w w') (hK : C ≤ K) : Mine B C w' ao n := by
  rcases h with h | ⟨g, xs, h1, h2, h3, h4, h5⟩
  · exact .inl h
  · exact .inr ⟨g, xs, h1, h2, h3, h4, h5.below hb (by omega)⟩
theorem blockAt.other {w : World} {g : Nat} {l : List Value} (h : blockAt w g l) (a : Addr) (ha : a.block ≠ g) (c : Value) : blockAt (w.setCell a c) g l := by
  constructor
  · intro j d hj
    rw [World.cell?_setCell_other _ _ _ _ (by intro x; apply ha; rw [x])]
    exact h.cell j d hj
  · intro j hj
    rw [World.frozen?_setCell]
    exact h.free j hj
theorem Mine.other {B C : Nat} {w : World} {ao : Option Addr} {n : Nat} (h : Mine B C w ao n) (a : Addr) (ha : a.block < B ∨ C ≤ a.block) (c : Value) : Mine B C (w.setCell a c) ao n := by
  rcases h with h | ⟨g, xs, h1, h2, h3, h4, h5⟩
  · exact .inl h
  · exact .inr ⟨g, xs, h1, h2, h3, h4, h5.other a (by omega) c⟩
theorem Mine.at {B C : Nat} {w : World} {ao : Option Addr} {n k : Nat} (h : Mine B C w ao n) (hk : k < n * 2) : ∃ g, ao = some ⟨g, 0, none⟩ ∧ B ≤ g ∧ g < C ∧ (∃ u, w.cell? ⟨g, k, none⟩ = some u) ∧ w.frozen? ⟨g, k, none⟩ = false ∧ ∀ c, Mine B C (w.setCell ⟨g, k, none⟩ c) ao n := by
  rcases h with ⟨_, h⟩ | ⟨g, xs, h1, h2, h3, h4, h5⟩
  · omega
  · exact ⟨g, h1, h2, h3, ⟨_, h5.cell k _ (List.getElem?_eq_getElem (by omega))⟩, h5.free k (by omega), fun c => .inr ⟨g, xs.set k c, h1, h2, h3, by rw [List.length_set]; exact h4, h5.set k (by omega) c⟩⟩
end Go.Pantry
namespace Go.Proofs.YtcipfbjneeafaaaDoor
open Go.RowKit Go.Pantry

set_option maxHeartbeats 8000000 in
theorem fieldOwn_main (v vm vn : Value) (L M : List Fld) (A : List (List UInt8)) (w : World) (hr : Reads2 w v L) (hm : Reads2 w vm M) (hn : Reads w vn (A.map strV)) (hsl : smallF L = true) (hsm : smallF M = true) (hM : M.length ≤ 20) (hA : A.length ≤ 20) (hAs : ∀ n ∈ A, n.length ≤ 9223372036854775807) :
    Calls Tryd.prog 6 #[v, vm, vn] w fun e w' => e = .returned (.bool true) ∧ Below w.heap.size w w' := by
  obtain ⟨hkl, hl70, hl2⟩ := small_ok hsl
  obtain ⟨hkm, hm70, hm2⟩ := small_ok hsm
  have csl := fun W h => small_any v L W h (by omega)
  have csm := fun W h => small_any vm M W h (by omega)
  rw [hsl] at csl
  rw [hsm] at csm
  have f1 := fun W h => Fields_any v L W h (by omega)
  have cw := fun W h1 h2 => lWith_any v vm L M W h1 hkl h2 hkm
  have co := fun W h1 h2 => lWithout_any v vn L A W h1 hkl h2 ⟨by omega, hAs⟩
  obtain ⟨aon, capn, rfl⟩ := Reads.strs hn
  obtain ⟨aom, capm, rfl⟩ := hm.form
  have hLl : L.length < 1000000 := by omega
  have hMI : (M.length : Int) ≤ 20 := by omega
  have hAI : (A.length : Int) ≤ 20 := by omega
  have CSL := hid csl
  have CSM := hid csm
  have F1 := hid f1
  have CW := hid cw
  have CO := hid co
  have HR := hid hr
  have HM := hid hm
  have HN := hid hn
  clear csl csm f1 cw co hr hm hn hkl hkm hl70 hm70 hl2 hm2 hsl hsm hAs
  go_enter Tryd.func6, Tryd.ntmps6
  go_wp2_with fail
  refine (anchor_any _).mono ?_
  rintro e w1 ⟨rfl, hb⟩
  go_wp2_with fail
  refine (CSL.out _ (HR.out.below hb)).mono ?_
  rintro e w2 ⟨rfl, hb2⟩
  replace hb := chain2 hb hb.size hb2
  clear hb2
  go_wp2_with fail
  refine (CSM.out _ (HM.out.below hb)).mono ?_
  rintro e w3 ⟨rfl, hb2⟩
  replace hb := chain2 hb hb.size hb2
  clear hb2
  go_wp2_with fail
  refine (F1.out _ (HR.out.below hb)).mono ?_
  rintro e w4 ⟨vx, rfl, hox, hb2⟩
  replace hb := chain2 hb hb.size hb2
  have HX := hid hox.reads2.2
  clear hb2 hox
  go_wp2_with fail
  refine (CW.out _ (HR.out.below hb) (HM.out.below hb)).mono ?_
  rintro e w5 ⟨⟨va, ka, rfl, hoa⟩, hb5⟩
  have hka : ka < 2000000 := by have h1 := hoa.reads2.1; have h2 := withsF_len L M; omega
  obtain ⟨ao, capa, rfl, hma⟩ := mine_of hoa
  clear hoa
  go_wp2_with fail
  refine (CO.out _ (HR.out.below (chain2 hb hb.size hb5)) (HN.out.below (chain2 hb hb.size hb5))).mono ?_
  rintro e w6 ⟨⟨vb, kb, rfl, hob⟩, hb6⟩
  replace hma := hma.below hb6 (Nat.le_refl _)
  have hkb : kb < 1000000 := by have h1 := hob.reads2.1; have h2 := outsF_len L A; omega
  obtain ⟨bo, capb, rfl, hmb⟩ := mine_of hob
  have hbx := chain2 hb5 hb5.size hb6
  have hs56 := hb5.size
  clear hob hb5 hb6
  generalize w6.heap.size = C6 at hmb
  generalize w5.heap.size = C5 at hma hmb hs56
  go_wp2_with fail
  go_loopw [42] (fun i wr => ∃ (k : Nat), k ≤ ka ∧ i = .int .i64 k ∧ Mine w4.heap.size C5 wr ao ka ∧ Mine C5 C6 wr bo kb ∧ Below w4.heap.size w4 wr) (fun i _ => ka - (intOf i).toNat)
  case atStart => exact ⟨0, Nat.zero_le _, rfl, hma, hmb, hbx⟩
  case round =>
    obtain ⟨k, hk, rfl, ha, hbb, hbr⟩ := hrel
    by_cases hlt : k < ka
    · obtain ⟨g, rfl, hg1, hg2, ⟨u, hu⟩, hfr, hset⟩ := ha.at (k := k * 2) (by omega)
      have HSet := hid hset
      clear hset
      go_wp2_with fail
      go_roundw
      case rel => exact ⟨k + 1, hlt, by go_num, HSet.out _, hbb.other _ (.inl hg2) _, hbr.setCell hg1 _⟩
      case measure => simp [intOf]; omega
    · clear hma hmb hbx ha
      go_wp2_with fail
      go_loopw [52] (fun i wr2 => ∃ (k : Nat), k ≤ kb ∧ i = .int .i64 k ∧ Mine C5 C6 wr2 bo kb ∧ Below w4.heap.size w4 wr2) (fun i _ => kb - (intOf i).toNat)
      case atStart => exact ⟨0, Nat.zero_le _, rfl, hbb, hbr⟩
      case round =>
        obtain ⟨j, hj, rfl, hb3, hbr3⟩ := hrel
        by_cases hlj : j < kb
        · obtain ⟨g, rfl, hg1, hg2, ⟨u, hu⟩, hfr, hset⟩ := hb3.at (k := j * 2 + 1) (by omega)
          have HSet := hid hset
          clear hset
          go_wp2_with fail
          go_roundw
          case rel => exact ⟨j + 1, hlj, by go_num, HSet.out _, hbr3.setCell (Nat.le_trans hs56 hg1) _⟩
          case measure => simp [intOf]; omega
        · clear hb3 hbb hbr
          go_wp2_with fail
          have hb7 := chain2 hb hb.size hbr3
          refine (F1.out _ (HR.out.below hb7)).mono ?_
          rintro e w7 ⟨vy, rfl, hoy, hb2⟩
          have hry := hoy.reads2.2
          have hb8 := chain2 hbr3 hbr3.size hb2
          go_wp2_with fail
          refine (refSame_any _ _ L L _ hry (HX.out.below hb8) hLl).mono ?_
          rintro e w8 ⟨rfl, hb9⟩
          have hbf := chain2 hb hb.size (chain2 hb8 hb8.size hb9)
          go_wp2_with fail
          go_ret
          exact ⟨ret_bool (by simp), hbf⟩

theorem fieldOwn_walk (v1 : Value) (La : List Fld) (v2 : Value) (Lb : List Fld) (v3 : Value) (A : List (List UInt8)) (w : World) (hl1 : Reads2 w v1 La ∧ (∀ f ∈ La, f.1.length ≤ maxLen ∧ f.2.length ≤ maxLen) ∧ La.length ≤ maxLen) (hl2 : Reads2 w v2 Lb ∧ (∀ f ∈ Lb, f.1.length ≤ maxLen ∧ f.2.length ≤ maxLen) ∧ Lb.length ≤ maxLen) (hn : Reads w v3 (A.map strV) ∧ (∀ x ∈ A, x.length ≤ maxLen) ∧ A.length ≤ maxLen) :
    Calls Tryd.prog 6 #[v1, v2, v3] w fun e w' => e = .returned (.bool true) ∧ Below w.heap.size w w' := by
  obtain ⟨hra, -, hla⟩ := hl1
  obtain ⟨hrb, -, hlb⟩ := hl2
  obtain ⟨hrn, hAs, hln⟩ := hn
  unfold maxLen at hln hla hlb hAs
  have csa := fun W h => small_any v1 La W h (by omega)
  have csb := fun W h => small_any v2 Lb W h (by omega)
  obtain ⟨qa, hqa⟩ : ∃ q, smallF La = q := ⟨_, rfl⟩
  obtain ⟨qb, hqb⟩ : ∃ q, smallF Lb = q := ⟨_, rfl⟩
  by_cases hall : qa = true ∧ qb = true ∧ (Lb.length : Int) ≤ 20 ∧ (A.length : Int) ≤ 20
  · obtain ⟨rfl, rfl, h1, h2⟩ := hall
    exact fieldOwn_main v1 v2 v3 La Lb A w hra hrb hrn hqa hqb (by omega) (by omega) (fun n hn => by have := hAs n hn; omega)
  · obtain ⟨aob, capb, rfl⟩ := hrb.form
    obtain ⟨aon, capn, rfl⟩ := Reads.strs hrn
    have hcase : qa = false ∨ (qa = true ∧ qb = false) ∨ (qa = true ∧ qb = true ∧ (20 : Int) < (Lb.length : Int)) ∨ (qa = true ∧ qb = true ∧ (Lb.length : Int) ≤ 20 ∧ (20 : Int) < (A.length : Int)) := by
      cases qa
      · exact .inl rfl
      · cases qb
        · exact .inr (.inl ⟨rfl, rfl⟩)
        · simp only [true_and] at hall
          by_cases h : (20 : Int) < (Lb.length : Int)
          · exact .inr (.inr (.inl ⟨rfl, rfl, h⟩))
          · exact .inr (.inr (.inr ⟨rfl, rfl, by omega, by omega⟩))
    rw [hqa] at csa
    rw [hqb] at csb
    have CSA := hid csa
    have CSB := hid csb
    have HRA := hid hra
    have HRB := hid hrb
    clear csa csb hra hrb hrn hqa hqb hall hAs
    rcases hcase with rfl | ⟨rfl, rfl⟩ | ⟨rfl, rfl, hn2⟩ | ⟨rfl, rfl, hn2, hn3⟩
    · go_enter Tryd.func6, Tryd.ntmps6
      go_wp2_with fail
      refine (anchor_any _).mono ?_
      rintro e w1 ⟨rfl, hb⟩
      go_wp2_with fail
      refine (CSA.out _ (HRA.out.below hb)).mono ?_
      rintro e w2 ⟨rfl, hb2⟩
      replace hb := chain2 hb hb.size hb2
      clear hb2
      go_wp2_with fail
      go_ret
      exact ⟨rfl, hb⟩
    all_goals
      go_enter Tryd.func6, Tryd.ntmps6
      go_wp2_with fail
      refine (anchor_any _).mono ?_
      rintro e w1 ⟨rfl, hb⟩
      go_wp2_with fail
      refine (CSA.out _ (HRA.out.below hb)).mono ?_
      rintro e w2 ⟨rfl, hb2⟩
      replace hb := chain2 hb hb.size hb2
      clear hb2
      go_wp2_with fail
      refine (CSB.out _ (HRB.out.below hb)).mono ?_
      rintro e w3 ⟨rfl, hb2⟩
      replace hb := chain2 hb hb.size hb2
      clear hb2
      go_wp2_with fail
      go_ret
      exact ⟨rfl, hb⟩
end Go.Proofs.YtcipfbjneeafaaaDoor
