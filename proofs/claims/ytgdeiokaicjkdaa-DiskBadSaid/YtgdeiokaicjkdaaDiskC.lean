/-
  Package disk: Read, Write, Bad.
-/
import Derived.Test.YtgdeiokaicjkdaaDiskB
import Derived.Test.YtgdeiokaicjkdaaCopyPad
set_option linter.unusedVariables false
set_option linter.unusedSimpArgs false
namespace Go.Proofs.Ytgdeiokaicjkdaa
open Go.RowKit Go.Pantry

theorem padS_full {s : List UInt8} (h : s.length = 64) : padS s = s := by
  unfold padS
  rw [h, Nat.sub_self, List.replicate_zero, List.append_nil]
theorem blank_row : (blankS.map byteV).toArray = Array.replicate 64 (.int .u8 0) := by
  unfold blankS
  rw [List.map_replicate]
  rfl
theorem bad_cell {w : World} {g gs gm gb N : Nat} {left : Int} {D : DataW Value} {m : DiskM} (h : LAt w g gs gm gb N left D m) {k : Nat} (hk : k < N) : w.cell? ⟨gb, k, none⟩ = some (.bool (m.bad.getD k false)) := by
  have hk' : k < m.bad.length := by rw [h.ok.lenB]; exact hk
  rw [h.ob.cell, List.getElem?_toArray, List.getElem?_map, List.getD_eq_getElem?_getD, List.getElem?_eq_getElem hk']
  rfl
theorem owned_nil (w : World) (B : Nat) (t : TypeId) : w.ownsRow B t 1 (.slice none 0 0) ([] : List UInt8).length (([] : List UInt8).map byteV) := ⟨rfl, .inl ⟨rfl, rfl⟩⟩
/-- 64 bytes of the call's own, as a slice -/
theorem owned_sec {w : World} {g B : Nat} {s : List UInt8} {t : TypeId} (h : rowIs w g (s.map byteV).toArray t) (hl : s.length = 64) (hB : B ≤ g) : w.ownsRow B t 1 (.slice (some ⟨g, 0, none⟩) 64 64) s.length (s.map byteV) := by
  refine ⟨by simp, .inr ⟨g, 64, (s.map byteV).toArray, by rw [hl], hB, h, by rw [hl]; decide, by decide, by simp [hl], by rw [hl]; exact List.take_of_length_le (by rw [List.length_map, hl]; exact Nat.le_refl _)⟩⟩
theorem read_below {w w1 w2 V3 V4 W : World} (h1 : Below w.heap.size w w1) (h2 : Below w1.heap.size w1 w2) (e1 : w1.heap.size = w.heap.size + 1) (h3 : Below w2.heap.size w2 V3) (h4 : Kept (fun k => k = w2.heap.size) V3 V4) (h5 : Kept (fun k => k = w.heap.size) V4 W) : Below w.heap.size w W := by
  have s2 := h2.size
  have s3 := h3.size
  have s4 := h4.size
  exact (((h1.trans (h2.mono (by omega))).trans (h3.mono (by omega))).trans (h4.below (fun k hk _ => by omega) (by omega))).trans (h5.below (fun k hk _ => by omega) (by omega))
set_option maxRecDepth 8000 in
theorem lRead_any (g gs gm gb N : Nat) (left : Int) (D : DataW Value) (m : DiskM) (i : Int) (w : World) (h : LAt w g gs gm gb N left D m) :
    Calls Try.prog 13 #[.pointer (some ⟨g, 0, none⟩), .int .i64 i] w fun e w' => Below w.heap.size w w' ∧ ∃ v, e = .returned (.tuple #[v, .int .i64 ((readDk m i).1 : Int)]) ∧ w'.ownsRow w.heap.size 5 1 v (readDk m i).2.length ((readDk m i).2.map byteV) := by
  have h5 := h.row.cell 4
  have f5 := h.row.free 4
  cases hd : m.down with
  | true =>
    have e : readDk m i = (40, []) := by unfold readDk; rw [hd]; rfl
    rw [e]
    rw [hd] at h5
    clear h hd e
    go_enter Try.func13, Try.ntmps13
    go_wp2
    go_ret2
    exact ⟨Below.refl _ _, _, rfl, owned_nil _ _ _⟩
  | false =>
    rw [hd] at h5
    have C1 := hid (lHas_any g gs gm gb N left D m i w h)
    by_cases ht : ThereDk m i
    case neg =>
      have e : readDk m i = (11, []) := by unfold readDk; rw [hd, if_neg (by simp), if_pos ht]
      rw [e]
      rw [decide_eq_false ht] at C1
      clear h hd e ht
      go_enter Try.func13, Try.ntmps13
      go_wp2_with fail
      refine C1.out.mono ?_
      rintro e w1 ⟨rfl, rfl⟩
      go_wp2
      go_ret2
      exact ⟨Below.refl _ _, _, rfl, owned_nil _ _ _⟩
    case pos =>
      obtain ⟨hi0, hi1⟩ := id ht
      obtain ⟨k, rfl⟩ : ∃ k : Nat, i = (k : Int) := ⟨i.toNat, by omega⟩
      have hk : k < N := by rw [h.ok.len] at hi1; omega
      have hcb := bad_cell h hk
      have hfb := h.ob.free k
      have h2 := h.row.cell 2
      have f2 := h.row.free 2
      rw [decide_eq_true ht] at C1
      have er : readDk m (k : Int) = if m.bad.getD k false then (41, []) else (0, valueDk m k) := by
        unfold readDk
        rw [hd, if_neg (by simp), if_neg (by simpa using ht)]
        rfl
      rw [er]
      have HL := hid h
      have hlen := hid (show (valueDk m k).length = 64 by
        obtain ⟨s, b, h1, h2, h3, -⟩ := h.seen hk
        cases b with
        | true => rw [h2 rfl]; exact h1
        | false => rw [h3 rfl]; exact h.standLen hk)
      clear h er hd ht
      generalize m.bad.getD k false = bb at *
      cases bb with
      | true =>
        go_enter Try.func13, Try.ntmps13
        go_wp2_with fail
        refine C1.out.mono ?_
        rintro e w1 ⟨rfl, rfl⟩
        go_wp2
        go_ret2
        exact ⟨Below.refl _ _, _, rfl, owned_nil _ _ _⟩
      | false =>
        have hmk : ∀ w : World, (Instr.makeSlice 29 (.int .i64 64) (.int .i64 64)).run Try.prog w = .ok (.slice (some ⟨w.heap.size, 0, none⟩) 64 64) (w.alloc (.cells (Array.replicate 64 (.int .u8 0)) 5)) := fun _ => by kernel_rfl
        rw [if_neg (by simp)]
        generalize hval : valueDk m k = s at *
        go_enter Try.func13, Try.ntmps13
        go_wp2_with fail
        refine C1.out.mono ?_
        rintro e w1 ⟨rfl, rfl⟩
        go_wp2_with fail
        refine (lNewest_any g gs gm gb N left D m k _ (HL.out.below (below_alloc _ _)) hk).mono ?_
        rintro e w2 ⟨rfl, hb2⟩
        have hr2 := hid ((rowIs_new w (Array.replicate 64 (.int .u8 0)) 5).below hb2)
        have hB2 := hid (And.intro ((Below.refl w.heap.size w).alloc (Nat.le_refl _) (.cells (Array.replicate 64 (.int .u8 0)) 5)) (And.intro hb2 (show (w.alloc (.cells (Array.replicate 64 (.int .u8 0)) 5)).heap.size = w.heap.size + 1 by simp)))
        clear hb2 hmk
        rw [hval] at *
        go_wp2_with (first
          | (refine wpList_alloc_sec rfl 64 rfl zeroS ?_; intro V3 hr3 hb3 hs3; have HR3 := hid (And.intro hr3 (And.intro hb3 hs3)); clear hr3 hb3 hs3)
          | (refine wpList_store_sec rfl 64 _ _ rfl w2.heap.size rfl rfl HR3.out.1 zeroL hlen.out sizeS ?_; intro V4 hr4 hk4 hs4
             have hd4 : rowIs V4 w.heap.size (Array.replicate 64 (.int .u8 0)) 5 := (hr2.out.below HR3.out.2.1).kept hk4 (by have := hr2.out.lt; omega)
             obtain ⟨W, hcp, hW1, hW2, hW3⟩ := copy_pad (P := Try.prog) 29 29 3 5 Try.underlying29 (by kernel_rfl) hd4 (hr4.reads hlen.out) (Nat.le_of_eq hlen.out)
             have HR4 := hid (And.intro hW1 (And.intro hW2 (And.intro hW3 (And.intro hk4 hs4))))
             clear hr4 hk4 hs4 hd4 hW1 hW2 hW3)
          | fail)
        go_ret2
        refine ⟨read_below hB2.out.1 hB2.out.2.1 hB2.out.2.2 HR3.out.2.1 HR4.out.2.2.2.1 HR4.out.2.1, _, rfl, owned_sec (by have := HR4.out.1; rw [padS_full hlen.out] at this; exact this) hlen.out (Nat.le_refl _)⟩
/-- what Write leaves -/
def LPost (w : World) (g gs gm gb N : Nat) (r : Nat × DiskM) (e : Ending) (w' : World) : Prop :=
  e = .returned (.int .i64 (r.1 : Int)) ∧ Kept (FL g gs gm gb) w w' ∧ ∃ left' D', LAt w' g gs gm gb N left' D' r.2
theorem LAt.refl_post {w : World} {g gs gm gb N : Nat} {left : Int} {D : DataW Value} {m : DiskM} (h : LAt w g gs gm gb N left D m) (r : Nat) {e : Ending} (he : e = .returned (.int .i64 (r : Int))) : LPost w g gs gm gb N (r, m) e w := ⟨he, Kept.refl _ _, _, _, h⟩
theorem key_int {k N : Nat} (hk : k < N) (hN : N ≤ 4096) : keyOf Try.prog 3 (.int .i64 (k : Int)) = some (keyD k) := Maps.keyOf_int_mk Try.underlying3 (WalkArith.wf_i64 (by omega))
theorem write_kept {w w2 V3 W V : World} {g gs gm gb : Nat} (h1 : Kept (fun k => k = g) w w2) (e1 : w2.heap.size = w.heap.size) (h2 : Below w2.heap.size w2 V3) (h3 : Kept (fun k => k = w2.heap.size) V3 W) (h4 : Kept (fun _ => False) W V) : Kept (FL g gs gm gb) w V :=
  ((((h1.mono (Y := FL g gs gm gb) (fun x hx _ => .inl hx)).then h2).trans h3 (fun x hx hlt => by omega)).trans h4 (fun x hx _ => hx.elim))
/-- a sector's new bytes are laid -/
theorem LAt.wrote {w W : World} {g gs gm gb N n : Nat} {left : Int} {D : DataW Value} {m : DiskM} (h : LAt w g gs gm gb N left D m) {k : Nat} (hk : k < N) {b : List UInt8} (hb : b.length = 64) (ho : W.ownsMap Try.prog 3 secElem gm n (D.put (keyD k) (.held (secV b)))) (hkp : Kept (fun j => j = gm) w W) : LAt W g gs gm gb N left (D.put (keyD k) (.held (secV b))) { m with pend := m.pend.set k b } := by
  have hn := h.ne
  refine ⟨h.row.kept hkp hn.2.1, h.os.kept hkp hn.2.2.2.1, map_small ho, h.ob.kept hkp (fun e => hn.2.2.2.2.2 e.symm), h.pd.put (h.om.tidy lawI).isMap (by rw [h.ok.lenP]; exact hk) (by have := h.n1; omega) (fun e => by rw [e] at hb; cases hb), ⟨h.ok.len, by rw [List.length_set]; exact h.ok.lenP, h.ok.lenB, h.ok.full, fun s hs => ?_⟩, h.n0, h.n1, h.lo, h.hi, h.lf, h.ne⟩
  rcases List.mem_or_eq_of_mem_set hs with hs | rfl
  · exact h.ok.fullP s hs
  · exact .inr hb
set_option maxRecDepth 8000 in
theorem lWrite_any (g gs gm gb N : Nat) (left : Int) (D : DataW Value) (m : DiskM) (i : Int) (vd : Value) (b : List UInt8) (w : World) (h : LAt w g gs gm gb N left D m) (hb : Reads w vd (b.map byteV)) (hd' : b ≠ [] → In (fun k => ¬ FL g gs gm gb k) vd) :
    Calls Try.prog 15 #[.pointer (some ⟨g, 0, none⟩), .int .i64 i, vd] w (LPost w g gs gm gb N (writeDk m i b)) := by
  have h5 := h.row.cell 4
  have f5 := h.row.free 4
  obtain ⟨ad, cd, rfl⟩ : ∃ ad cd, vd = .slice ad b.length cd := by obtain ⟨a, c, h, _⟩ := hb; exact ⟨a, c, by rw [h, List.length_map]⟩
  cases hd : m.down with
  | true =>
    have e : writeDk m i b = (40, m) := by unfold writeDk; rw [hd]; rfl
    rw [e]
    rw [hd] at h5
    have HF := hid h
    clear h hd e hb
    go_enter Try.func15, Try.ntmps15
    go_wp2
    go_ret
    exact HF.out.refl_post 40 rfl
  | false =>
    rw [hd] at h5
    have C1 := hid (lHas_any g gs gm gb N left D m i w h)
    by_cases ht : ThereDk m i ∧ b.length ≤ 64
    case neg =>
      have e : writeDk m i b = (11, m) := by
        unfold writeDk
        rw [hd, if_neg (by simp), if_pos ?_]
        by_cases h1 : ThereDk m i
        · exact .inr (by have : ¬ b.length ≤ 64 := fun h2 => ht ⟨h1, h2⟩; omega)
        · exact .inl h1
      rw [e]
      have HF := hid h
      have hor : ¬ ThereDk m i ∨ (ThereDk m i ∧ 64 < b.length) := by
        by_cases h1 : ThereDk m i
        · exact .inr ⟨h1, by have : ¬ b.length ≤ 64 := fun h2 => ht ⟨h1, h2⟩; omega⟩
        · exact .inl h1
      clear h hd e ht hb
      rcases hor with hor | ⟨hor, hlen⟩
      · rw [decide_eq_false hor] at C1
        clear hor
        go_enter Try.func15, Try.ntmps15
        go_wp2_with fail
        refine C1.out.mono ?_
        rintro e w1 ⟨rfl, rfl⟩
        go_wp2
        go_ret
        exact HF.out.refl_post 11 rfl
      · rw [decide_eq_true hor] at C1
        clear hor
        go_enter Try.func15, Try.ntmps15
        go_wp2_with fail
        refine C1.out.mono ?_
        rintro e w1 ⟨rfl, rfl⟩
        go_wp2
        go_ret
        exact HF.out.refl_post 11 rfl
    case pos =>
      obtain ⟨ht, hlen⟩ := ht
      obtain ⟨hi0, hi1⟩ := id ht
      obtain ⟨k, rfl⟩ : ∃ k : Nat, i = (k : Int) := ⟨i.toNat, by omega⟩
      have hk : k < N := by rw [h.ok.len] at hi1; omega
      rw [decide_eq_true ht] at C1
      have C2 := hid (lLasts_any g gs gm gb N left D m w h hd)
      have e : writeDk m (k : Int) b = if m.arm = some 0 then (40, fellDk m) else (0, { lessDk m with pend := m.pend.set k (padS b) }) := by
        unfold writeDk
        rw [hd, if_neg (by simp), if_neg (by intro h; rcases h with h | h; exact h ht; omega)]
        rfl
      rw [e]
      have HN := hid (And.intro hd' (And.intro h.row.lt hb))
      by_cases ha : m.arm = some 0
      · rw [if_pos ha]
        rw [decide_eq_true ha, if_pos ha] at C2
        clear h hd e ht hb ha hd'
        go_enter Try.func15, Try.ntmps15
        go_wp2_with fail
        refine C1.out.mono ?_
        rintro e w1 ⟨rfl, rfl⟩
        go_wp2_with fail
        refine C2.out.mono ?_
        rintro e w2 ⟨rfl, hk2, hs2, left', h2⟩
        go_wp2
        go_ret
        exact ⟨rfl, hk2.mono (fun x hx _ => .inl hx), _, _, h2⟩
      · rw [if_neg ha]
        rw [decide_eq_false ha, if_neg ha] at C2
        clear h hd e ht hb ha hd'
        go_enter Try.func15, Try.ntmps15
        go_wp2_with fail
        refine C1.out.mono ?_
        rintro e w1 ⟨rfl, rfl⟩
        go_wp2_with fail
        refine C2.out.mono ?_
        rintro e w2 ⟨rfl, hk2, hs2, left', h2⟩
        have hb2 : Reads w2 (.slice ad b.length cd) (b.map byteV) := reads_stayS HN.out.2.2 hk2 (fun hne x hx e => HN.out.1 (fun e => hne (by rw [e]; rfl)) x hx (.inl e))
        have hpl : (padS b).length = 64 := padS_len hlen
        have HL2 := hid (And.intro h2 (And.intro hb2 (And.intro hk2 hs2)))
        clear h2 hb2 hk2 hs2 C1 C2
        go_wp2_with (refine wpList_alloc_sec rfl 64 rfl zeroS ?_; intro V3 hr3 hb3 hs3
                     obtain ⟨W, hcp, hW1, hW2, hW3⟩ := copy_pad (P := Try.prog) 29 29 3 5 Try.underlying29 (by kernel_rfl) (t := 64) (by have := hr3; unfold SecAt at this; rw [blank_row] at this; exact this) (HL2.out.2.1.below hb3) hlen
                     have HR4 := hid (And.intro hW1 (And.intro hW2 (And.intro hW3 (And.intro hb3 hs3))))
                     clear hr3 hb3 hs3 hW1 hW2 hW3)
        have hlt2 := fun j hj => HL2.out.1.lt (k := j) hj
        have HW := (HL2.out.1.below HR4.out.2.2.2.1).kept HR4.out.2.1 (fun j hj e => by have := hlt2 j hj; omega)
        have HWd := HW.below (Below.refl _ _).drew
        have c1 := HWd.row.cell 1
        have f1 := HWd.row.free 1
        have hR : SecAt W.drew w2.heap.size (padS b) 64 := SecAt.below HR4.out.1 (Below.refl _ _).drew
        have HH := hid (And.intro HWd (And.intro hR hlt2))
        clear hlt2 HW HWd hR
        refine wp_region_still_tail 6 (by kernel_rfl) (by kernel_rfl) ?_
        simp only [List.take_succ_cons, List.take_zero, List.drop_succ_cons, List.drop_zero]
        iterate 5 still_step
        refine wpStill_load rfl 64 _ rfl rfl (load_sec HH.out.2.1 hpl Try.underlying64 rfl sizeS) ?_
        refine wpStill_nil ?_
        change wpList _ _ _ _ _ W.drew
        have kd : Kept (fun _ => False) W W.drew := Kept.of_below (Below.refl _ _).drew
        have kall : Kept (FL g gs gm gb) w W.drew := write_kept HL2.out.2.2.1 HL2.out.2.2.2 HR4.out.2.2.2.1 HR4.out.2.1 kd
        have HK := hid kall
        clear kd kall
        generalize W.drew = V at *
        go_wp2_with (refine wpList_mapUpdate_own _ rfl _ _ _ 59 rfl 3 64 lawI Try.underlying59 secElem gm _ D rfl HH.out.1.om (Nat.lt_of_le_of_lt HH.out.1.size (by decide)) (.int .i64 (k : Int)) (secV (padS b)) (keyD k) rfl rfl (key_int hk HH.out.1.n1) (.held (secV (padS b))) [] rfl ?_; intro W2 hown hgrow; have HO := hid (And.intro hown hgrow); clear hown hgrow)
        go_ret
        have kg : Kept (fun j => j = gm) V W2 := ((Kept.refl (fun j => some gm = some j) V).grown HO.out.2 (fun k hk _ => hk)).mono (fun j hj _ => by cases hj; rfl)
        have hd2 : (lessDk m).pend = m.pend := rfl
        have hfin := HH.out.1.wrote hk hpl HO.out.1 kg
        exact ⟨rfl, HK.out.trans kg (fun j hj _ => .inr (.inr (.inl hj))), _, _, hfin⟩
end Go.Proofs.Ytgdeiokaicjkdaa
