/-
  Contracts of package pass: joined, Merge.
-/
import Derived.Test.YtoolboafbkikjaaDoorF13PassA
import Derived.Test.YtoolboafbkikjaaDoorF1306
import Derived.Test.YtoolboafbkikjaaDoorHeldA
set_option linter.unusedVariables false
set_option linter.unusedSimpArgs false

namespace Go.Pantry
open Go.RowKit
theorem wpList_append_genP {P : Program} {ops : Array Oper} {rest : List Oper} (w : World) {o : Oper} {a : Act} {Q : Exit → Act → World → Prop} (hgd : o.guard = none) (s x : Operand) (t : TypeId)
    (ho : o.op = .call { callee := .builtin .append, args := #[s, x], argTypes := #[t, t] })
    (B : Nat) (e : TypeId) {z : Value} {sz bytes : Nat} (ht : P.underlying t = some (.slice e)) (hi : (P.info? e).map (fun i => (i.zero, i.size, i.bytes)) = some (some z, sz, bytes)) (hzs : z.cells.size = sz) (hsz : 0 < sz) (hby : bytes ≤ 4096)
    {v : Value} {n : Nat} {xs : List Value} (hs : a.eval s = v) (hown : w.ownsRow B e sz v n xs)
    (ad : Addr) (m c : Nat) (news : List Value) (hl : news.length = m * sz) (hnews : ∀ (j : Nat) u, news[j]? = some u → w.cell? (ad.add j) = some u) (h1 : ∀ u ∈ news, u.oneCell' = true)
    (hx : a.eval x = .slice (some ad) m c) (hn : n + m < 4294967296) (hB : B ≤ w.heap.size)
    (h : ∀ v' w', w'.ownsRow B e sz v' (n + m) (xs ++ news) → w.grownBy w' v.ownBlock → In (fun k => v.ownBlock = some k ∨ w.heap.size ≤ k) v' → wpList P ops Q rest (a.put o.dst v') w') :
    wpList P ops Q (o :: rest) a w :=
  wpList_plain hgd fun _ hK => wp_append_gen w s x t ho B e ht hi hzs hsz hby hs hown ad m c news hl hnews h1 hx hn hB (fun v' w' a1 a2 a3 => hK _ _ (h v' w' a1 a2 a3))
/-- a slice of the call's own made later than another -/
theorem own_later {w : World} {B : Nat} {e : TypeId} {size : Nat} {v : Value} {n : Nat} {xs : List Value} (h : w.ownsRow B e size v n xs) {k : Nat} (hk : v.ownBlock = some k) : B ≤ k ∧ k < w.heap.size := h.lt k hk
theorem fldCells_snoc (D : List Fld) (f : Fld) : fldCells D ++ [strV f.1, strV f.2] = fldCells (D ++ [f]) := by simp [fldCells]
end Go.Pantry
namespace Go.Proofs.YtoolboafbkikjaaDoor
open Go.RowKit Go.Pantry

set_option maxRecDepth 8000 in
set_option maxHeartbeats 4000000 in
theorem pJoined_any (v : Value) (L : List Fld) (w : World) (hr : Reads2 w v L) (hs : WideF L) :
    Calls Tryd.prog 47 #[v] w fun e w' => MadeFlds 49 w.heap.size (onceF L L.length) e w' ∧ Below w.heap.size w w' := by
  have HR := hid hr
  have hL9 := hs.len
  have HW := hid hs
  clear hr hs
  go_enter Tryd.func47, Tryd.ntmps47
  go_wp2_with fail
  go_loopw [0, 3] (fun lv dv wr => ∃ (R D : List Fld) (k : Nat), Reads2 wr lv R ∧ wr.ownsRow w.heap.size 49 2 dv k (fldCells D) ∧ Offs L D R ∧ Below w.heap.size w wr ∧ (∃ ao n c, lv = .slice ao n c ∧ n = R.length) ∧ (∀ k, dv.ownBlock = some k → lv.ownBlock ≠ some k)) (fun lv _ _ => match lv with | .slice _ n _ => n | _ => 0)
  case atStart =>
    obtain ⟨ao, cap, hv⟩ := HR.out.form
    exact ⟨L, [], 0, HR.out, World.ownsRow_nil _ _ _ _, Offs.start L, Below.refl _ _, ⟨ao, L.length, cap, hv, rfl⟩, fun k hk => by cases hk⟩
  case round =>
    obtain ⟨R, D, k, hr, ho, hoff, hb, ⟨ao, n, c, rfl, hn⟩, hap⟩ := hrel
    have HAP := hid hap
    clear hap
    have hk := ho.reads2.1
    have hbd := hoff.bd HW.out
    have hlen := hoff.len
    have HO := hid ho
    have HF := hid hoff
    have HB := hid hb
    have HRR := hid hr
    have HN := hid hn
    cases R with
    | nil =>
      have hD := hoff.done
      have hn0 : n = 0 := hn
      subst hn0
      have HD := hid hD
      clear hr ho hoff hb hn hbd hlen hD
      go_wp2_with fail
      go_ret
      exact ⟨⟨_, k, rfl, by rw [← HD.out]; exact HO.out⟩, HB.out⟩
    | cons f r =>
      obtain ⟨b, off, hao, hc1, hc2⟩ := hr.fld (show (f :: r)[0]? = some f from rfl)
      subst hao
      have hn1 : (0 : Int) < (n : Int) := by rw [hn]; simp
      have hn2 : n ≤ 1000 := by rw [hn]; exact hbd.len
      have hd : decide ((0 : Int) < (n : Int)) = true := decide_eq_true hn1
      have C1 := hid (fun (W : World) (h : Reads2 W (.slice (some ⟨b, off, none⟩) n c) (f :: r)) => by
        have c1 := lGet_any (.slice (some ⟨b, off, none⟩) n c) (f :: r) ⟨f.1.toArray⟩ W h (wideOk hbd) (by rw [szL]; exact hbd.name f (by simp))
        rw [dtL] at c1
        exact c1)
      have C2 := hid (fun (W : World) (vn : Value) (h : Reads2 W (.slice (some ⟨b, off, none⟩) n c) (f :: r)) (hv : Reads W vn ([f.1].map strV)) => by
        have c2 := lWithout_any (.slice (some ⟨b, off, none⟩) n c) vn (f :: r) [f.1] W h (wideOk hbd) hv ⟨by simp, by simp; exact Nat.le_trans (hbd.name f (by simp)) (by decide)⟩
        rw [outsF_one] at c2
        exact c2)
      have HS := hid hoff.step
      have HLE := hid (outF_head_len f r)
      have hD9 : k ≤ 1000 := by omega
      simp only [Nat.zero_mul, Nat.add_zero, Nat.zero_add] at hc1 hc2
      generalize hO : outF (f :: r) f.1 = O at C2 HS HLE
      generalize hG : getF (f :: r) f.1 = G at C1 HS
      generalize hbb : (!(allF (f :: r) f.1).isEmpty) = bb at C1
      clear hO hG hbb hr ho hoff hb hbd hlen hk hL9 hn
      go_wp2_with fail
      refine (C1.out _ HRR.out).mono ?_
      rintro e w2 ⟨rfl, hb2⟩
      have ho2 := HO.out.below hb2
      have HB2 := hid (chain2 HB.out HB.out.size hb2)
      have HR2 := hid (HRR.out.below hb2)
      have hbX := below_alloc w2 (.cells #[strV f.1, strV G] 49)
      have hoX := ho2.below hbX
      have hx1 : rowIs (w2.alloc (.cells #[strV f.1, strV G] 49)) w2.heap.size #[strV f.1, strV G] 49 := rowIs_new _ _ _
      have HBX := hid (HB2.out.trans (hbX.mono HB2.out.size))
      have HRX := hid (HR2.out.below hbX)
      have hsX := HBX.out.size
      clear hb2 hc1 hc2 HO HB HRR C1 HB2 HR2 ho2 hbX
      go_wp2_with (at_builtin; go_must (refine wpList_append_genP (w2.alloc (.cells #[strV f.1, strV G] 49)) rfl _ _ 23 rfl w.heap.size 49 Tryd.underlying23 infoFld rfl (by decide) (by decide) rfl hoX ⟨w2.heap.size, 0, none⟩ 1 1 [strV f.1, strV G] rfl (fun j u hj => by rw [addAt2, Nat.zero_add, hx1.cell j]; simpa using hj) (fun u hu => by simp at hu; rcases hu with rfl | rfl <;> rfl) rfl (by omega) hsX ?_); intro v3 w3 ho3 hg3 hi3)
      rw [fldCells_snoc D (f.1, G)] at ho3
      have hk3 : Kept (fun j => u3.ownBlock = some j) (w2.alloc (.cells #[strV f.1, strV G] 49)) w3 := (Kept.refl _ _).grown hg3 (fun j hj _ => hj)
      have HR3 := hid (reads2_kept HRX.out hk3 (fun j hj e => HAP.out j e hj))
      have hb3 : Below w.heap.size w w3 := HBX.out.trans (hk3.below (fun j hj _ => (own_later hoX hj).1) hsX)
      have HO3 := hid ho3
      have HB3 := hid hb3
      have hbY := below_alloc w3 (.cells ([f.1].map strV).toArray 9)
      have hrY := reads_new w3 ([f.1].map strV) 9 1
      have HB4 := hid (chain2 hb3 hb3.size hbY)
      have HO4 := hid (ho3.below hbY)
      have HLT := hid (fun (j : Nat) (hj : v3.ownBlock = some j) => (own_later ho3 hj).2)
      have D2 := hid (C2.out _ _ (HR3.out.below hbY) hrY)
      clear hk3 hb3 hbY hrY ho3 hg3 hi3 HR3 hoX hx1 HRX HBX hsX HB3 HO3 C2
      go_wp2_with fail
      refine D2.out.mono ?_
      rintro e w5 ⟨⟨v5, k5, rfl, ho5⟩, hb5⟩
      have HB5 := hid (chain2 HB4.out HB4.out.size hb5)
      have HO5 := hid (HO4.out.below hb5)
      have hr5 := ho5.reads2
      obtain ⟨ao5, c5, rfl⟩ := ownsRow_form2 ho5
      have HL5 := hid (fun (j : Nat) (hj : (Value.slice ao5 k5 c5).ownBlock = some j) => (own_later ho5 hj).1)
      have hk5 : k5 < n := by have h1 := HLE.out; have h2 := HN.out; rw [← hr5.1] at h1; simp at h2; omega
      have HR5 := hid hr5.2
      have HK5 := hid hr5.1
      clear hb5 ho5 hr5 HO4 HB4 D2
      go_wp2_with fail
      go_roundw
      case rel => exact ⟨O, D ++ [(f.1, G)], k + 1, HR5.out, HO5.out, HS.out, HB5.out, ⟨_, _, _, rfl, HK5.out⟩, fun j hj e => by have h1 := HLT.out j hj; have h2 := HL5.out j e; simp at h2; omega⟩
      case measure => exact hk5
set_option maxRecDepth 8000 in
theorem pMerge_any (cv v : Value) (came said : List Fld) (w : World) (hc : Reads2 w cv came) (hr : Reads2 w v said) (hk : WideF came) (hs : WideF said) (hL : WideF (answerF said)) (hO : WideF (onceF (answerF said) (answerF said).length)) :
    Calls Tryd.prog 22 #[cv, v] w (GaveF w (mergeF came said)) := by
  have c1 := pStrip_any v said w hr hs
  have c2 := fun (W : World) (x vn : Value) (h : Reads2 W x (stripF said)) (hn : Reads W vn (contS.map strV)) => lWithout_any x vn (stripF said) contS W h (wideOk hs.strip) hn ⟨by decide, by decide⟩
  have ha : outsF (stripF said) contS = answerF said := cont_code _
  simp only [ha] at c2
  have hm : mergeF came said = withsF came (onceF (answerF said) (answerF said).length) := rfl
  rw [hm]
  have c3 := fun (W : World) (x : Value) (h : Reads2 W x (answerF said)) => pJoined_any x (answerF said) W h hL
  have c4 := fun (W : World) (x : Value) (h : Below w.heap.size w W) (hx : Reads2 W x (onceF (answerF said) (answerF said).length)) => lWith_any cv x came _ W (hc.below h) (wideOk hk) hx (wideOk hO)
  clear hm ha hL hO
  generalize onceF (answerF said) (answerF said).length = M at c3 c4 ⊢
  generalize answerF said = L at c2 c3
  have C1 := hid c1
  have C2 := hid c2
  have C3 := hid c3
  have C4 := hid c4
  clear c1 c2 c3 c4 hr hc hk hs
  go_enter Tryd.func22, Tryd.ntmps22
  go_wp2_with fail
  refine C1.out.mono ?_
  rintro e w1 ⟨⟨v1, k1, rfl, ho1⟩, hb1⟩
  have hbX := below_alloc w1 (.cells (contS.map strV).toArray 9)
  have hrX := reads_new w1 (contS.map strV) 9 4
  have hr1 := ho1.reads2.2.below hbX
  have HB2 := hid (chain2 hb1 hb1.size hbX)
  have D2 := hid (C2.out _ _ _ hr1 hrX)
  clear hb1 hbX hrX hr1 ho1 C1 C2
  go_wp2_with fail
  refine D2.out.mono ?_
  rintro e w3 ⟨⟨v3, k3, rfl, ho3⟩, hb3⟩
  have HR3 := hid ho3.reads2.2
  have HB3 := hid (chain2 HB2.out HB2.out.size hb3)
  clear ho3 hb3 D2 HB2
  go_wp2_with fail
  refine (C3.out _ _ HR3.out).mono ?_
  rintro e w4 ⟨⟨v4, k4, rfl, ho4⟩, hb4⟩
  have HR4 := hid ho4.reads2.2
  have HB4 := hid (chain2 HB3.out HB3.out.size hb4)
  clear ho4 hb4 C3 HB3 HR3
  go_wp2_with fail
  refine (C4.out _ _ HB4.out HR4.out).mono ?_
  rintro e w5 ⟨⟨v5, k5, rfl, ho5⟩, hb5⟩
  have HR5 := hid ho5.reads2.2
  have HB5 := hid (chain2 HB4.out HB4.out.size hb5)
  clear ho5 hb5 C4 HB4 HR4
  go_wp2_with fail
  go_ret
  exact ⟨⟨_, rfl, HR5.out⟩, HB5.out⟩
end Go.Proofs.YtoolboafbkikjaaDoor
