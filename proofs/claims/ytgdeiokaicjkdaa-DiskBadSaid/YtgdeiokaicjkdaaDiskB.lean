/-
  Package disk: newest.
-/
import Derived.Test.YtgdeiokaicjkdaaDiskA
import Derived.Test.YtgdeiokaicjkdaaPureArr
set_option linter.unusedVariables false
set_option linter.unusedSimpArgs false
namespace Go.Proofs.Ytgdeiokaicjkdaa
open Go.RowKit Go.Pantry

theorem zeroS (w : World) : (zeroValue 64).run Try.prog w = .ok (secV blankS) w := by kernel_rfl
theorem sizeS : (Try.prog.info? 64).map (·.size) = some 64 := by kernel_rfl
/-- what a look-up answers -/
theorem look_sec {w : World} {gm n : Nat} {D : DataW Value} {pp : List (List UInt8)} (h : w.ownsMap Try.prog 3 secElem gm n D) (hp : PendAt D pp) {k : Nat} (hk : k < pp.length) (h4 : k < 4096) (c : Bool) :
    (Instr.lookup 59 (.map (some gm)) (.int .i64 (k : Int)) c).run Try.prog w = .ok (if c then .tuple #[secV (if pp.getD k [] = [] then blankS else pp.getD k []), .bool (!decide (pp.getD k [] = []))] else secV (if pp.getD k [] = [] then blankS else pp.getD k [])) w := by
  have hkey : keyOf Try.prog 3 (.int .i64 (k : Int)) = some (keyD k) := Maps.keyOf_int_mk Try.underlying3 (WalkArith.wf_i64 (by omega))
  have hval : D.atKey (keyD k) (.held (secV blankS)) = .held (secV (if pp.getD k [] = [] then blankS else pp.getD k [])) := by
    by_cases e : pp.getD k [] = []
    · rw [if_pos e]
      refine Maps.atKey_of_not_has ?_ _
      rw [hp.hasIff hk, decide_eq_true e]
      rfl
    · rw [if_neg e]
      exact (hp.there k hk e).2 _
  cases c with
  | true =>
    obtain ⟨v, ps, hrun, hv⟩ := h.look_ok lawI Try.underlying59 (zeroS w) (zd := .held (secV blankS)) (zp := []) rfl hkey
    rw [hrun, hp.hasIff hk]
    rw [hval] at hv
    cases hv
    rfl
  | false =>
    obtain ⟨v, ps, hrun, hv⟩ := h.lookup lawI Try.underlying59 (zeroS w) (zd := .held (secV blankS)) (zp := []) rfl hkey
    rw [hrun]
    rw [hval] at hv
    cases hv
    rfl
theorem zeroL : blankS.length = 64 := by unfold blankS; rw [List.length_replicate]
theorem LAt.pendLen {w : World} {g gs gm gb N : Nat} {left : Int} {D : DataW Value} {m : DiskM} (h : LAt w g gs gm gb N left D m) (k : Nat) : (if m.pend.getD k [] = [] then blankS else m.pend.getD k []).length = 64 := by
  by_cases e : m.pend.getD k [] = []
  · rw [if_pos e]; exact zeroL
  · rw [if_neg e]
    have hk : k < m.pend.length := by
      refine Decidable.byContradiction fun hk => e ?_
      rw [List.getD_eq_getElem?_getD, List.getElem?_eq_none (by omega)]; rfl
    rw [List.getD_eq_getElem?_getD, List.getElem?_eq_getElem hk] at e ⊢
    exact (h.ok.fullP _ (List.getElem_mem hk)).resolve_left e
theorem LAt.below {w w' : World} {g gs gm gb N : Nat} {left : Int} {D : DataW Value} {m : DiskM} (h : LAt w g gs gm gb N left D m) (hb : Below w.heap.size w w') : LAt w' g gs gm gb N left D m :=
  h.kept (Kept.of_below (X := fun _ => False) hb) (fun _ _ h => h)
theorem LAt.look {w : World} {g gs gm gb N : Nat} {left : Int} {D : DataW Value} {m : DiskM} (h : LAt w g gs gm gb N left D m) {k : Nat} (hk : k < N) (c : Bool) :
    (Instr.lookup 59 (.map (some gm)) (.int .i64 (k : Int)) c).run Try.prog w = .ok (if c then .tuple #[secV (if m.pend.getD k [] = [] then blankS else m.pend.getD k []), .bool (!decide (m.pend.getD k [] = []))] else secV (if m.pend.getD k [] = [] then blankS else m.pend.getD k [])) w :=
  look_sec h.om h.pd (by rw [h.ok.lenP]; exact hk) (by have := h.n1; omega) c
theorem LAt.seen {w : World} {g gs gm gb N : Nat} {left : Int} {D : DataW Value} {m : DiskM} (h : LAt w g gs gm gb N left D m) {k : Nat} (hk : k < N) :
    ∃ (s : List UInt8) (b : Bool), s.length = 64 ∧ (b = true → valueDk m k = s) ∧ (b = false → valueDk m k = m.stands.getD k []) ∧ ∀ W, LAt W g gs gm gb N left D m → (Instr.lookup 59 (.map (some gm)) (.int .i64 (k : Int)) true).run Try.prog W = .ok (.tuple #[secV s, .bool b]) W := by
  refine ⟨_, _, h.pendLen k, fun hb => ?_, fun hb => ?_, fun W hW => hW.look hk true⟩
  · have e : ¬ m.pend.getD k [] = [] := by simpa using hb
    unfold valueDk
    rw [if_neg e, if_neg e]
  · have e : m.pend.getD k [] = [] := by simpa using hb
    unfold valueDk
    rw [if_pos e]
theorem LAt.standLen {w : World} {g gs gm gb N : Nat} {left : Int} {D : DataW Value} {m : DiskM} (h : LAt w g gs gm gb N left D m) {k : Nat} (hk : k < N) : (m.stands.getD k []).length = 64 := by
  have hk' : k < m.stands.length := by rw [h.ok.len]; exact hk
  rw [List.getD_eq_getElem?_getD, List.getElem?_eq_getElem hk']
  exact h.ok.full _ (List.getElem_mem hk')
theorem newest_below {w V1 V2 V3 V4 : World} {s : List UInt8} {t : TypeId} (h1 : SecAt V1 w.heap.size s t ∧ Below w.heap.size w V1) (h2 : Below V1.heap.size V1 V2) (h3 : Kept (fun k => k = V1.heap.size) V2 V3) (h4 : Kept (fun k => k = w.heap.size) V3 V4) : Below w.heap.size w V4 := by
  have s1 := h1.2.size
  have s2 := h2.size
  exact ((h1.2.trans (h2.mono s1)).trans (h3.below (fun k hk _ => by omega) (by omega))).trans (h4.below (fun k hk _ => by omega) (by have := h3.size; omega))
set_option maxRecDepth 8000 in
theorem lNewest_any (g gs gm gb N : Nat) (left : Int) (D : DataW Value) (m : DiskM) (k : Nat) (w : World) (h : LAt w g gs gm gb N left D m) (hk : k < N) :
    Calls Try.prog 29 #[.pointer (some ⟨g, 0, none⟩), .int .i64 (k : Int)] w fun e w' => e = .returned (secV (valueDk m k)) ∧ Below w.heap.size w w' := by
  obtain ⟨s, b, hsl, hb1, hb0, hlook⟩ := h.seen hk
  have hst := hid (h.standLen hk)
  have HL := hid h
  have HK := hid hlook
  have HS := hid hsl
  have hgl := hid (h.lt (.inl rfl))
  clear h hlook hsl
  cases b with
  | true =>
    rw [hb1 rfl]
    clear hb1 hb0 hst
    go_enter Try.func29, Try.ntmps29
    go_wp2_with (first
      | (refine wpList_lookup_run rfl _ _ _ _ rfl rfl rfl (HK.out _ HL1.out) ?_)
      | (have HR1' := HR1.out; refine wpList_alloc_sec rfl 64 rfl zeroS ?_; intro V2 hr2 hb2 hs2; have HR2 := hid (And.intro hr2 (HR1'.1.below hb2)); have HB2 := hid (And.intro hb2 hs2); clear hr2 hb2 hs2 HR1')
      | (refine wpList_alloc_sec rfl 64 rfl zeroS ?_; intro V1 hr1 hb1 hs1; have HL1 := hid (HL.out.below hb1); have c1 := HL1.out.row.cell 1; have f1 := HL1.out.row.free 1; have HR1 := hid (And.intro hr1 hb1); clear hr1 hb1 hs1)
      | (refine wpList_store_sec rfl 64 _ _ rfl V1.heap.size rfl rfl HR2.out.1 zeroL HS.out sizeS ?_; intro V3 hr3 hk3 hs3; have HR3 := hid (And.intro hr3 (And.intro hk3 hs3)); clear hr3 hk3 hs3)
      | (refine wpList_load_sec rfl 64 _ rfl V1.heap.size rfl HR3.out.1 HS.out Try.underlying64 rfl sizeS ?_)
      | (refine wpList_store_sec rfl 64 _ _ rfl w.heap.size rfl rfl (SecAt.kept HR2.out.2 HR3.out.2.1 (by have := rowIs.lt HR1.out.1; omega)) zeroL HS.out sizeS ?_; intro V4 hr4 hk4 hs4; have HR4 := hid (And.intro hr4 hk4); clear hr4 hk4 hs4)
      | fail)
    refine bodyPost_ret (results_row Try.results29 _ _ w.heap.size _ rfl HR4.out.1 Try.underlying64 rfl (by rw [sizeS, List.size_toArray, List.length_map, HS.out])) rfl ?_
    exact ⟨rfl, newest_below HR1.out HB2.out.1 HR3.out.2.1 HR4.out.2⟩
  | false =>
    rw [hb0 rfl]
    clear hb1 hb0
    go_enter Try.func29, Try.ntmps29
    go_wp2_with (first
      | (refine wpList_lookup_run rfl _ _ _ _ rfl rfl rfl (HK.out _ HL1.out) ?_)
      | (have HR1' := HR1.out; refine wpList_alloc_sec rfl 64 rfl zeroS ?_; intro V2 hr2 hb2 hs2; have HR2 := hid (And.intro hr2 (HR1'.1.below hb2)); have HB2 := hid (And.intro hb2 hs2); clear hr2 hb2 hs2 HR1')
      | (refine wpList_alloc_sec rfl 64 rfl zeroS ?_; intro V1 hr1 hb1 hs1; have HL1 := hid (HL.out.below hb1); have c1 := HL1.out.row.cell 1; have f1 := HL1.out.row.free 1; have HR1 := hid (And.intro hr1 hb1); clear hr1 hb1 hs1)
      | (refine wpList_store_sec rfl 64 _ _ rfl V1.heap.size rfl rfl HR2.out.1 zeroL HS.out sizeS ?_; intro V3 hr3 hk3 hs3; have HL3 := hid (LAt.kept (HL1.out.below HB2.out.1) hk3 (fun j hj e => by have := HL1.out.lt hj; omega)); have c0 := HL3.out.row.cell 0; have f0 := HL3.out.row.free 0; have HR3 := hid (And.intro hr3 (And.intro hk3 hs3)); clear hr3 hk3 hs3)
      | (refine wpList_load_run rfl 64 _ rfl rfl (load_stand HL3.out.os (k := k) (by rw [HL3.out.ok.len]; exact hk) Try.underlying64 rfl sizeS) ?_)
      | (refine wpList_store_sec rfl 64 _ _ rfl w.heap.size rfl rfl (SecAt.kept HR2.out.2 HR3.out.2.1 (by have := rowIs.lt HR1.out.1; omega)) zeroL hst.out sizeS ?_; intro V4 hr4 hk4 hs4; have HR4 := hid (And.intro hr4 hk4); clear hr4 hk4 hs4)
      | fail)
    refine bodyPost_ret (results_row Try.results29 _ _ w.heap.size _ rfl HR4.out.1 Try.underlying64 rfl (by rw [sizeS, List.size_toArray, List.length_map, hst.out])) rfl ?_
    exact ⟨rfl, newest_below HR1.out HB2.out.1 HR3.out.2.1 HR4.out.2⟩
end Go.Proofs.Ytgdeiokaicjkdaa
