/-
  Package disk: Bad.
-/
import Derived.Test.YtgdeiokaicjkdaaDiskC
set_option linter.unusedVariables false
set_option linter.unusedSimpArgs false
namespace Go.Proofs.Ytgdeiokaicjkdaa
open Go.RowKit Go.Pantry

theorem LAt.turned {w : World} {g gs gm gb N : Nat} {left : Int} {D : DataW Value} {m : DiskM} (h : LAt w g gs gm gb N left D m) (k : Nat) (on : Bool) : LAt (w.setCell ⟨gb, k, none⟩ (.bool on)) g gs gm gb N left D { m with bad := m.bad.set k on } ∧ Kept (fun j => j = gb) w (w.setCell ⟨gb, k, none⟩ (.bool on)) := by
  have hn := h.ne
  have kk := (Kept.refl (fun j => j = gb) w).setCell (i := k) (.inl rfl) (.bool on)
  refine ⟨⟨h.row.kept kk hn.2.2.1, h.os.kept kk hn.2.2.2.2.1, map_kept h.om kk hn.2.2.2.2.2, ?_, h.pd, ⟨h.ok.len, h.ok.lenP, by show (m.bad.set k on).length = N; rw [List.length_set]; exact h.ok.lenB, h.ok.full, h.ok.fullP⟩, h.n0, h.n1, h.lo, h.hi, h.lf, h.ne⟩, kk⟩
  have := h.ob.setCell k (.bool on)
  rw [List.setIfInBounds_toArray] at this
  show rowIs _ gb ((m.bad.set k on).map Value.bool).toArray _
  rw [List.map_set]
  exact this
set_option maxRecDepth 8000 in
theorem lBad_any (g gs gm gb N : Nat) (left : Int) (D : DataW Value) (m : DiskM) (i : Int) (on : Bool) (w : World) (h : LAt w g gs gm gb N left D m) :
    Calls Try.prog 19 #[.pointer (some ⟨g, 0, none⟩), .int .i64 i, .bool on] w (LPost w g gs gm gb N (badDk m i on)) := by
  have C1 := hid (lHas_any g gs gm gb N left D m i w h)
  by_cases ht : ThereDk m i
  case neg =>
    have e : badDk m i on = (11, m) := by unfold badDk; rw [if_neg ht]
    rw [e]
    rw [decide_eq_false ht] at C1
    have HF := hid h
    clear h e ht
    go_enter Try.func19, Try.ntmps19
    go_wp2_with fail
    refine C1.out.mono ?_
    rintro e w1 ⟨rfl, rfl⟩
    go_wp2
    go_ret
    exact HF.out.refl_post 11 rfl
  case pos =>
    have e : badDk m i on = (0, { m with bad := m.bad.set i.toNat on }) := by unfold badDk; rw [if_pos ht]
    rw [e]
    obtain ⟨hi0, hi1⟩ := id ht
    obtain ⟨k, rfl⟩ : ∃ k : Nat, i = (k : Int) := ⟨i.toNat, by omega⟩
    rw [decide_eq_true ht] at C1
    have hk : k < N := by rw [h.ok.len] at hi1; omega
    have c2 := h.row.cell 2
    have f2 := h.row.free 2
    have ck := bad_cell h hk
    have fk := h.ob.free k
    have HF := hid (h.turned k on)
    clear h e ht
    go_enter Try.func19, Try.ntmps19
    go_wp2_with fail
    refine C1.out.mono ?_
    rintro e w1 ⟨rfl, rfl⟩
    go_wp2
    go_ret
    exact ⟨rfl, HF.out.2.mono (fun x hx _ => .inr (.inr (.inr hx))), _, _, HF.out.1⟩
end Go.Proofs.Ytgdeiokaicjkdaa
