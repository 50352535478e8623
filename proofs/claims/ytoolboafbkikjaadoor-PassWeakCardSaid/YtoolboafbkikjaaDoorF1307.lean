/-
  Several texts in one: Ref13A, Ref13B.
-/
import Derived.Test.YtoolboafbkikjaaDoorF1304
import Derived.Test.YtoolboafbkikjaaDoorF1306
import Derived.Test.YtoolboafbkikjaaDoorF1303
import Derived.IntWalk
set_option linter.unusedVariables false
set_option linter.unusedSimpArgs false
/-
  The document's answers of layer 13: without, Strip.
-/
namespace Go.Proofs.YtoolboafbkikjaaDoor
open Go.RowKit Go.Pantry

def MadeP (w : World) (L : List Fld) (e : Ending) (w' : World) : Prop := (∃ v', e = .returned v' ∧ Reads2 w' v' L) ∧ Below w.heap.size w w'
/-- the call's own, where a name was left out -/
def MadeO (w : World) (ns : List (List UInt8)) (L : List Fld) (e : Ending) (w' : World) : Prop := (∃ v', e = .returned v' ∧ Reads2 w' v' L ∧ (0 < ns.length → ∃ j, w'.ownsRow w.heap.size 54 2 v' j (fldCells L))) ∧ Below w.heap.size w w'
set_option maxRecDepth 8000 in
set_option maxHeartbeats 4000000 in
theorem r13WithoutO_any (v vn : Value) (L : List Fld) (ns : List (List UInt8)) (w : World) (hr : Reads2 w v L) (hw : WideF L) (hrn : Reads w vn (ns.map strV)) (h1 : ns.length ≤ 1000000000) (h2 : ∀ n ∈ ns, n.length ≤ 1000000000) :
    Calls Tryd.prog 39 #[v, vn] w (MadeO w ns (outsF L ns)) := by
  obtain ⟨vo, vc, rfl⟩ := hrn.strs
  obtain ⟨m, hm⟩ : ∃ m, ns.length = m := ⟨_, rfl⟩
  rw [hm] at hrn ⊢
  have HR := hid hrn
  have HL := hid hr
  have HN := hid h2
  have HM := hid hm
  have hm9 : m ≤ 1000000000 := by omega
  clear hrn hr h1 h2 hm
  go_enter Tryd.func39, Tryd.ntmps39
  go_wp2_with fail
  go_loopw [0, 5] (fun lv i wr => ∃ k : Nat, i = .int .i64 (k : Int) ∧ k ≤ m ∧ Reads2 wr lv (outsF L (ns.take k)) ∧ (0 < k → ∃ j, wr.ownsRow w.heap.size 54 2 lv j (fldCells (outsF L (ns.take k)))) ∧ Below w.heap.size w wr) (fun _ i _ => m - (intOf i).toNat)
  case atStart => exact ⟨0, rfl, Nat.zero_le _, by rw [List.take_zero, outsF_nil]; exact HL.out, fun h => absurd h (Nat.lt_irrefl 0), Below.refl _ _⟩
  case round =>
    obtain ⟨k, rfl, hk, hro, hrw, hb⟩ := hrel
    have HW := hid hrw
    clear hrw
    have HB := hid hb
    have HO := hid hro
    by_cases hlt : k < m
    · obtain ⟨u, hu⟩ : ∃ u, ns[k]? = some u := ⟨_, List.getElem?_eq_getElem (by rw [HM.out]; exact hlt)⟩
      obtain ⟨bb, off, heo, d0⟩ := (HR.out.below hb).str hu
      subst heo
      have hkI : (k : Int) < (m : Int) := by omega
      have hk0 : (0 : Int) ≤ (k : Int) := by omega
      have hkw : IntKind.i64.wrap ((k : Int) + 1) = (k : Int) + 1 := IntWalk.i64_in _ (by omega)
      have htk := take_str hu
      have hub := HN.out u (List.mem_of_getElem? hu)
      have c1 := fun (W : World) (x : Value) (h : Reads2 W x (outsF L (ns.take k))) => refWithout_any x (outsF L (ns.take k)) ⟨u.toArray⟩ W h (fun f hf => Nat.lt_of_le_of_lt ((hw.outs _).name f hf) (by decide)) (Nat.lt_of_le_of_lt (hw.outs _).len (by decide)) (by rw [szL]; omega)
      rw [dtL] at c1
      rw [← outsF_snoc, ← htk] at c1
      have C1 := hid c1
      clear c1 hro hb htk hu
      go_wp2_with fail
      refine (C1.out _ _ HO.out).mono ?_
      rintro e w2 ⟨⟨v2, k2, rfl, ho2⟩, hb2⟩
      have HO2 := hid ho2.reads2.2
      have HW2 := hid (ho2.base HB.out.size)
      clear ho2
      go_wp2_with fail
      go_roundw
      case rel => exact ⟨k + 1, by go_num, hlt, HO2.out, fun _ => ⟨_, HW2.out⟩, chain2 HB.out HB.out.size hb2⟩
      case measure => simp [intOf]; omega
    · have hkm : k = m := by omega
      have e0 : ns.take k = ns := List.take_of_length_le (by rw [HM.out]; omega)
      rw [e0] at HO HW
      have HM2 := hid (show 0 < ns.length → 0 < k by rw [HM.out]; omega)
      go_wp2_with fail
      go_ret
      exact ⟨⟨_, rfl, HO.out, fun h => HW.out (HM2.out h)⟩, HB.out⟩
theorem r13Without_any (v vn : Value) (L : List Fld) (ns : List (List UInt8)) (w : World) (hr : Reads2 w v L) (hw : WideF L) (hrn : Reads w vn (ns.map strV)) (h1 : ns.length ≤ 1000000000) (h2 : ∀ n ∈ ns, n.length ≤ 1000000000) :
    Calls Tryd.prog 39 #[v, vn] w (MadeP w (outsF L ns)) :=
  (r13WithoutO_any v vn L ns w hr hw hrn h1 h2).mono fun _ _ h => ⟨⟨_, h.1.choose_spec.1, h.1.choose_spec.2.1⟩, h.2⟩
theorem lit_reads (w : World) (l : List (List UInt8)) (e : TypeId) (n : Nat) (g : Nat) (hg : g = w.heap.size) (hn : n = l.length) (xs : Array Value) (hx : xs = (l.map strV).toArray) : Reads (w.alloc (.cells xs e)) (.slice (some ⟨g, 0, none⟩) n n) (l.map strV) := by
  subst hg hn hx
  have := reads_new w (l.map strV) e (l.map strV).length
  rwa [List.length_map] at this
set_option maxRecDepth 8000 in
set_option maxHeartbeats 4000000 in
theorem r13Strip_any (v : Value) (L : List Fld) (w : World) (hr : Reads2 w v L) (hw : WideF L) :
    Calls Tryd.prog 17 #[v] w (MadeP w (stripF L)) := by
  have he := hw.elements nConn
  have c1 := refElements_any v L ⟨nConn.toArray⟩ w hr (fun f hf => Nat.lt_of_le_of_lt (hw.name f hf) (by decide)) hw.val hw.len (by decide)
  rw [dtL] at c1
  have c2 := fun (W : World) (vn : Value) (h : Reads2 W v L) (hn : Reads W vn ((elementsF L nConn).map strV)) => r13Without_any v vn L (elementsF L nConn) W h hw hn (Nat.le_trans he.1 (by decide)) (fun n hn => Nat.le_trans (he.2 n hn) (by decide))
  have c3 := fun (W : World) (x vn : Value) (h : Reads2 W x (outsF L (elementsF L nConn))) (hn : Reads W vn (fixedN.map strV)) => r13Without_any x vn (outsF L (elementsF L nConn)) fixedN W h (hw.outs _) hn (by decide) (by decide)
  have C1 := hid c1
  have C2 := hid c2
  have C3 := hid c3
  have HR := hid hr
  clear c1 c2 c3 he hr
  go_enter Tryd.func17, Tryd.ntmps17
  go_wp2_with fail
  refine C1.out.mono ?_
  rintro e w1 ⟨⟨v1, rfl, ho⟩, hb1⟩
  have R1 := hid ho.reads
  have HL := hid (HR.out.below hb1)
  have HB1 := hid hb1
  clear ho hb1 C1 HR
  have hb2 := below_alloc w1 (.cells (fixedN.map strV).toArray 9)
  have hf2 := lit_reads w1 fixedN 9 10 w1.heap.size rfl rfl (fixedN.map strV).toArray rfl
  have hb12 := chain2 HB1.out HB1.out.size hb2
  have HF := hid hf2
  have HB2 := hid hb12
  have D2 := hid (C2.out _ _ (HL.out.below hb2) (R1.out.below hb2))
  clear hf2 hb12 HL R1 C2
  go_wp2_with fail
  refine D2.out.mono ?_
  rintro e w3 ⟨⟨v3, rfl, hr3⟩, hb3⟩
  have HB3 := hid (chain2 HB2.out HB2.out.size hb3)
  have D3 := hid (C3.out _ _ _ hr3 (HF.out.below hb3))
  clear hr3 hb3 HF C3 hb2 D2
  go_wp2_with fail
  refine D3.out.mono ?_
  rintro e w4 ⟨⟨v4, rfl, hr4⟩, hb4⟩
  have HB4 := hid (chain2 HB3.out HB3.out.size hb4)
  have HR4 := hid hr4
  clear hr4 hb4 D3
  go_wp2_with fail
  go_ret
  exact ⟨⟨_, rfl, HR4.out⟩, HB4.out⟩
end Go.Proofs.YtoolboafbkikjaaDoor
/-
  The document's answers of layer 13: Onward.
-/
namespace Go.Proofs.YtoolboafbkikjaaDoor
open Go.RowKit Go.Pantry

theorem refGetW_any (v : Value) (l : List Fld) (u : List UInt8) (W : World) (h : Reads2 W v l) (hs : WideF l) (hu : u.length ≤ 100000) :
    Calls Tryd.prog 41 #[v, strV u] W fun e w' => e = .returned (.tuple #[strV (getF l u), .int .i64 ((allF l u).length : Int)]) ∧ Below W.heap.size W w' := by
  have c := refGet_any v l ⟨u.toArray⟩ W h (fun f hf => Nat.lt_of_le_of_lt (hs.name f hf) (by decide)) hs.val hs.len (by rw [szL]; omega)
  rw [dtL] at c
  exact c
theorem refWithoutW_any (v : Value) (l : List Fld) (u : List UInt8) (W : World) (h : Reads2 W v l) (hs : WideF l) (hu : u.length ≤ 100000) :
    Calls Tryd.prog 42 #[v, strV u] W fun e w' => MadeFlds 54 W.heap.size (outF l u) e w' ∧ Below W.heap.size W w' := by
  have c := refWithout_any v l ⟨u.toArray⟩ W h (fun f hf => Nat.lt_of_le_of_lt (hs.name f hf) (by decide)) (Nat.lt_of_le_of_lt hs.len (by decide)) (by rw [szL]; omega)
  rw [dtL] at c
  exact c
set_option maxRecDepth 8000 in
set_option maxHeartbeats 4000000 in
theorem r13Onward_any (v : Value) (L : List Fld) (w : World) (hr : Reads2 w v L) (hw : WideF L) :
    Calls Tryd.prog 19 #[v] w (MadeP w (onwardF L)) := by
  have hg := hw.get nViaP
  have hal : (allF L nViaP).length ≤ 1000 := Nat.le_trans (by have := outF_len L nViaP; omega) hw.len
  have hol : (outF (stripF L) nViaP).length ≤ 1000 := (hw.strip.out nViaP).len
  have hv : viaL L = if allF L nViaP = [] then markP else getF L nViaP ++ 44 :: 32 :: markP := rfl
  have ho : onwardF L = outF (stripF L) nViaP ++ [(sViaP, viaL L)] := rfl
  rw [ho]
  have c1 := refGetW_any v L nViaP w hr hw (by decide)
  have c2 := fun (W : World) (h : Reads2 W v L) => r13Strip_any v L W h hw
  have c3 := fun (W : World) (x : Value) (h : Reads2 W x (stripF L)) => refWithoutW_any x (stripF L) nViaP W h hw.strip (by decide)
  obtain ⟨O, hO⟩ : ∃ O, outF (stripF L) nViaP = O := ⟨_, rfl⟩
  obtain ⟨V, hV⟩ : ∃ V, viaL L = V := ⟨_, rfl⟩
  obtain ⟨G, hG⟩ : ∃ G, getF L nViaP = G := ⟨_, rfl⟩
  obtain ⟨A, hA⟩ : ∃ A, allF L nViaP = A := ⟨_, rfl⟩
  rw [hO] at c3 hol ⊢
  rw [hV, hA, hG] at hv
  rw [hV]
  rw [hG, hA] at c1
  rw [hG] at hg
  rw [hA] at hal
  have HR := hid hr
  have C1 := hid c1
  have C2 := hid c2
  have C3 := hid c3
  have HV := hid hv
  have HA := hid (show A = [] → G = [] from fun h => by rw [← hG]; unfold getF; rw [hA, h]; rfl)
  clear hr c1 c2 c3 hv hO hV hG hA ho
  go_enter Tryd.func19, Tryd.ntmps19
  go_wp2_with fail
  refine C1.out.mono ?_
  rintro e w1 ⟨rfl, hb1⟩
  have HL := hid (HR.out.below hb1)
  have HB1 := hid hb1
  clear hb1 C1 HR
  have hA0 : A = [] → G = [] := HA.out
  by_cases h0 : A = []
  · obtain rfl : G = [] := hA0 h0
    subst h0
    have hV := HV.out
    rw [if_pos rfl] at hV
    obtain ⟨X, hX, -, hs1⟩ := sum_lists (P := Tryd.prog) [] [49, 46, 49, 32, 112, 97, 110, 116, 114, 121] (by decide) (by decide)
    have hX' : V = X := by rw [hX, hV]; rfl
    subst hX'
    clear hX hV hA0
    go_wp2_with fail
    refine (C2.out _ HL.out).mono ?_
    rintro e w2 ⟨⟨v2, rfl, hr2⟩, hb2⟩
    have HB2 := hid (chain2 HB1.out HB1.out.size hb2)
    have D3 := hid (C3.out _ _ hr2)
    clear hb2 hr2 C2 C3 HB1 HL
    go_wp2_with fail
    refine D3.out.mono ?_
    rintro e w3 ⟨⟨v3, k3, rfl, ho3⟩, hb3⟩
    have hk3 := ho3.reads2.1
    have HB3 := hid (chain2 HB2.out HB2.out.size hb3)
    have hs3 := hb3.size
    have HB2s := hid HB2.out.size
    clear hb3 D3 HB2
    go_wp2_with (at_builtin; go_must (refine wpList_append_fld _ rfl _ _ 31 rfl w2.heap.size 54 Tryd.underlying31 infoFld3 rfl (by decide) rfl ho3 (sViaP, V) rfl (by first | rfl | simp) (by omega) hs3 ?_); intro v4 w4 ho4 hb4)
    have HR4 := hid ho4.reads2.2
    have HB4 := hid (HB3.out.trans (hb4.mono (Nat.le_trans HB2s.out (Nat.le_refl _))))
    go_ret
    exact ⟨⟨_, rfl, HR4.out⟩, HB4.out⟩
  · have hp : (0 : Int) < (A.length : Int) := by have := List.length_pos_iff.2 h0; omega
    have hd : decide ((0 : Int) < (A.length : Int)) = true := decide_eq_true hp
    have hV := HV.out
    rw [if_neg h0] at hV
    obtain ⟨X, hX, hXl, hs1⟩ := sum_lists (P := Tryd.prog) G [44, 32] (by omega) (by decide)
    obtain ⟨Y, hY, -, hs2⟩ := sum_lists (P := Tryd.prog) X [49, 46, 49, 32, 112, 97, 110, 116, 114, 121] (by rw [hXl]; simp; omega) (by decide)
    have hY' : V = Y := by rw [hY, hX, hV]; simp [markP]
    subst hY'
    clear hX hXl hY hV hA0 h0
    go_wp2_with fail
    refine (C2.out _ HL.out).mono ?_
    rintro e w2 ⟨⟨v2, rfl, hr2⟩, hb2⟩
    have HB2 := hid (chain2 HB1.out HB1.out.size hb2)
    have D3 := hid (C3.out _ _ hr2)
    clear hb2 hr2 C2 C3 HB1 HL
    go_wp2_with fail
    refine D3.out.mono ?_
    rintro e w3 ⟨⟨v3, k3, rfl, ho3⟩, hb3⟩
    have hk3 := ho3.reads2.1
    have HB3 := hid (chain2 HB2.out HB2.out.size hb3)
    have hs3 := hb3.size
    have HB2s := hid HB2.out.size
    clear hb3 D3 HB2
    go_wp2_with (at_builtin; go_must (refine wpList_append_fld _ rfl _ _ 31 rfl w2.heap.size 54 Tryd.underlying31 infoFld3 rfl (by decide) rfl ho3 (sViaP, V) rfl (by first | rfl | simp) (by omega) hs3 ?_); intro v4 w4 ho4 hb4)
    have HR4 := hid ho4.reads2.2
    have HB4 := hid (HB3.out.trans (hb4.mono (Nat.le_trans HB2s.out (Nat.le_refl _))))
    go_ret
    exact ⟨⟨_, rfl, HR4.out⟩, HB4.out⟩
end Go.Proofs.YtoolboafbkikjaaDoor
