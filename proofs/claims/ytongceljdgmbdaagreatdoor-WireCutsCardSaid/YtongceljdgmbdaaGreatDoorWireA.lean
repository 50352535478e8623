/-
  Contracts of package wire: NewReader, Left, Close, tell, ofHead, Feed; slices.Delete at bytes.
-/
import Derived.Test.YtongceljdgmbdaaGreatDoorInfo
import Derived.Test.YtongceljdgmbdaaGreatDoorShelf
import Derived.Test.YtongceljdgmbdaaGreatDoorPureAll2
import Derived.Test.YtongceljdgmbdaaGreatDoorPureWire
namespace Go.Proofs.YtongceljdgmbdaaGreatDoor
open Go.RowKit Go.Pantry

abbrev rdRow (v : Value) (c : Bool) (x : Nat) : Array Value := #[v, .bool c, .int .i64 (x : Int)]
/-- a reader's box, and the bytes that it owns -/
structure RdAt (w : World) (g : Nat) (v : Value) (s : Rd) : Prop where
  row : rowIs w g (rdRow v s.closed s.wrong) 79
  own : w.ownsRow 0 5 1 v s.came.length (s.came.map byteV)
  apart : In (fun k => k ≠ g) v
/-- the blocks of a reader -/
def Fp (g : Nat) (v : Value) (k : Nat) : Prop := k = g ∨ v.ownBlock = some k
theorem RdAt.kept {w w' : World} {g : Nat} {v : Value} {s : Rd} (h : RdAt w g v s) {X : Nat → Prop} (hk : Kept X w w') (hx : ∀ k, Fp g v k → ¬ X k) : RdAt w' g v s :=
  ⟨h.row.kept hk (hx g (.inl rfl)), ownsRow_kept h.own hk (fun k hk => hx k (.inr hk)), h.apart⟩
theorem RdAt.below {w w' : World} {g : Nat} {v : Value} {s : Rd} (h : RdAt w g v s) (hb : Below w.heap.size w w') : RdAt w' g v s := h.kept (Kept.of_below (X := fun _ => False) hb) (fun _ _ h => h)
theorem RdAt.drew {w : World} {g : Nat} {v : Value} {s : Rd} (h : RdAt w g v s) : RdAt w.drew g v s := h.below ((Below.refl _ _).drew)
theorem Fp.lt {w : World} {g : Nat} {v : Value} {s : Rd} (h : RdAt w g v s) {k : Nat} (hk : Fp g v k) : k < w.heap.size := by
  rcases hk with rfl | hk
  · exact h.row.lt
  · exact (h.own.lt k hk).2
theorem RdAt.form {w : World} {g : Nat} {v : Value} {s : Rd} (h : RdAt w g v s) : ∃ ao c, v = .slice ao s.came.length c := ownsRow_bytes_form h.own
theorem RdAt.bytes {w : World} {g : Nat} {v : Value} {s : Rd} (h : RdAt w g v s) : Bytes w v s.came := ownsRow_bytes h.own

theorem newReader_any (w : World) :
    Calls Tryz.prog 11 #[] w fun e w' => e = .returned (.pointer (some ⟨w.heap.size, 0, none⟩)) ∧ w' = w.alloc (.cells (rdRow (.slice none 0 0) false 0) 79) := by
  go_enter Tryz.func11, Tryz.ntmps11
  go_wp2
  go_ret
  exact ⟨rfl, rfl⟩
theorem rdAt_new (w : World) : RdAt (w.alloc (.cells (rdRow (.slice none 0 0) false 0) 79)) w.heap.size (.slice none 0 0) ⟨[], false, 0⟩ :=
  ⟨rowIs_new _ _ _, World.ownsRow_nil _ _ _ _, In.nil _ _⟩
theorem left_any (g : Nat) (v : Value) (s : Rd) (w : World) (h : RdAt w g v s) :
    Calls Tryz.prog 22 #[.pointer (some ⟨g, 0, none⟩)] w fun e w' => e = .returned (.int .i64 (s.came.length : Int)) ∧ w = w' := by
  obtain ⟨ao, c, rfl⟩ := h.form
  have h0 := h.row.cell 0
  clear h
  go_enter Tryz.func22, Tryz.ntmps22
  go_wp2
  go_ret
  exact ⟨rfl, rfl⟩
theorem close_any (g : Nat) (v : Value) (s : Rd) (w : World) (h : RdAt w g v s) :
    Calls Tryz.prog 21 #[.pointer (some ⟨g, 0, none⟩)] w fun e w' => (∃ u, e = .returned u) ∧ RdAt w' g v ⟨s.came, true, s.wrong⟩ ∧ Kept (Fp g v) w w' := by
  obtain ⟨ao, c, rfl⟩ := h.form
  have h0 := h.row.cell 1
  have h1 := h.row.free 1
  have hr := h.row.setCell 1 (.bool true)
  have ho := ownsRow_kept h.own ((Kept.refl (fun k => k = g) w).setCell (i := 1) (.inl rfl) (.bool true)) (fun k hk => h.apart k hk)
  have hk := (Kept.refl (Fp g (.slice ao s.came.length c)) w).setCell (i := 1) (.inl (.inl rfl)) (.bool true)
  have ha := h.apart
  have HF := hid (And.intro hr (And.intro ho (And.intro hk ha)))
  clear h hr ho hk ha
  go_enter Tryz.func21, Tryz.ntmps21
  go_wp2
  go_end0
  exact ⟨⟨_, rfl⟩, ⟨HF.out.1, HF.out.2.1, HF.out.2.2.2⟩, HF.out.2.2.1⟩
theorem tell_any (g : Nat) (v : Value) (s : Rd) (k : Nat) (w : World) (h : RdAt w g v s) (hs : s.wrong = 0) :
    Calls Tryz.prog 53 #[.pointer (some ⟨g, 0, none⟩), .int .i64 (k : Int)] w fun e w' => e = .returned (.int .i64 (k : Int)) ∧ RdAt w' g v ⟨s.came, s.closed, tellX k⟩ ∧ Kept (Fp g v) w w' ∧ w.heap.size = w'.heap.size := by
  by_cases h20 : k = 20
  · subst h20
    have e : (⟨s.came, s.closed, tellX 20⟩ : Rd) = s := by rw [show tellX 20 = 0 from rfl, ← hs]
    rw [e]
    have HF := hid h
    clear h e
    go_enter Tryz.func53, Tryz.ntmps53
    go_wp2
    go_ret
    exact ⟨rfl, HF.out, Kept.refl _ _, rfl⟩
  by_cases h43 : k = 43
  · subst h43
    have e : (⟨s.came, s.closed, tellX 43⟩ : Rd) = s := by rw [show tellX 43 = 0 from rfl, ← hs]
    rw [e]
    have HF := hid h
    clear h e h20
    go_enter Tryz.func53, Tryz.ntmps53
    go_wp2
    go_ret
    exact ⟨rfl, HF.out, Kept.refl _ _, rfl⟩
  have et : tellX k = k := by unfold tellX; rw [if_neg (by omega)]
  rw [et]
  obtain ⟨ao, c, rfl⟩ := h.form
  have h0 := h.row.cell 2
  have h1 := h.row.free 2
  have hr := h.row.setCell 2 (.int .i64 (k : Int))
  have ho := ownsRow_kept h.own ((Kept.refl (fun k => k = g) w).setCell (i := 2) (.inl rfl) (.int .i64 (k : Int))) (fun k hk => h.apart k hk)
  have hk := (Kept.refl (Fp g (.slice ao s.came.length c)) w).setCell (i := 2) (.inl (.inl rfl)) (.int .i64 (k : Int))
  have ha := h.apart
  have HF := hid (And.intro hr (And.intro ho (And.intro hk ha)))
  have k1 : ((k : Int) != 20) = true := by simp; omega
  have k2 : ((k : Int) != 43) = true := by simp; omega
  clear h hr ho hk ha h20 h43 et
  go_enter Tryz.func53, Tryz.ntmps53
  go_wp2
  go_ret
  exact ⟨rfl, ⟨HF.out.1, HF.out.2.1, HF.out.2.2.2⟩, HF.out.2.2.1, by simp⟩
theorem ofHead_any (g : Nat) (v : Value) (s : Rd) (k : Nat) (w : World) (h : RdAt w g v s) :
    Calls Tryz.prog 54 #[.pointer (some ⟨g, 0, none⟩), .int .i64 (k : Int)] w fun e w' => e = .returned (.int .i64 (headE s.closed s.came k : Int)) ∧ w = w' := by
  obtain ⟨ao, c, rfl⟩ := h.form
  have h0 := h.row.cell 0
  have h1 := h.row.cell 1
  clear h
  obtain ⟨came, closed, wrong⟩ := s
  simp only at *
  by_cases h20 : k = 20
  · subst h20
    cases closed
    · go_enter Tryz.func54, Tryz.ntmps54
      go_wp2
      go_ret
      exact ⟨rfl, rfl⟩
    · by_cases hc : came = []
      · subst hc
        go_enter Tryz.func54, Tryz.ntmps54
        go_wp2
        go_ret
        exact ⟨rfl, rfl⟩
      · have e : headE true came 20 = 21 := by unfold headE; rw [if_pos ⟨rfl, rfl⟩, if_neg hc]
        rw [e]
        have hl : 0 < came.length := List.length_pos_iff.2 hc
        have hz : ((came.length : Int) == 0) = false := by simp; omega
        clear e
        go_enter Tryz.func54, Tryz.ntmps54
        go_wp2
        go_ret
        exact ⟨rfl, rfl⟩
  · have e : headE closed came k = k := by unfold headE; rw [if_neg (fun h => h20 h.1)]
    rw [e]
    have k1 : ((k : Int) != 20) = true := by simp; omega
    clear e h20
    go_enter Tryz.func54, Tryz.ntmps54
    go_wp2
    go_ret
    exact ⟨rfl, rfl⟩
/-- what Feed leaves -/
def FedPost (g : Nat) (v : Value) (s : Rd) (b : List UInt8) (w : World) (e : Ending) (w' : World) : Prop :=
  ∃ v', e = .returned (.int .i64 ((feedX s b).1 : Int)) ∧ RdAt w' g v' (feedX s b).2 ∧ Kept (Fp g v) w w' ∧ In (fun k => v.ownBlock = some k ∨ w.heap.size ≤ k) v'
theorem fed_same {g : Nat} {v : Value} {s : Rd} {b : List UInt8} {w : World} {k : Nat} (h : RdAt w g v s) (hf : feedX s b = (k, s)) : FedPost g v s b w (.returned (.int .i64 (k : Int))) w :=
  ⟨v, by rw [hf], by rw [hf]; exact h, Kept.refl _ _, fun k hk => .inl hk⟩
/-- behind the append: what the store finds, and what it leaves -/
theorem fed_after {g : Nat} {v v' : Value} {came b : List UInt8} {closed : Bool} {x : Nat} {w w1 : World} (h : RdAt w g v ⟨came, closed, x⟩) (ho : w1.ownsRow 0 5 1 v' (came.length + (b.map byteV).length) (came.map byteV ++ b.map byteV))
    (hg : w.grownBy w1 v.ownBlock) (hin : In (fun k => v.ownBlock = some k ∨ w.heap.size ≤ k) v') :
    ∃ ao n c, v' = .slice ao n c ∧ w1.cell? ⟨g, 0, none⟩ = some v ∧ w1.frozen? ⟨g, 0, none⟩ = false ∧
      Hid (RdAt (w1.setCell ⟨g, 0, none⟩ (.slice ao n c)) g (.slice ao n c) ⟨came ++ b, closed, x⟩ ∧ Kept (Fp g v) w (w1.setCell ⟨g, 0, none⟩ (.slice ao n c)) ∧ In (fun k => v.ownBlock = some k ∨ w.heap.size ≤ k) (.slice ao n c)) := by
  rw [← List.map_append, List.length_map, ← List.length_append] at ho
  obtain ⟨ao, c, rfl⟩ := ownsRow_bytes_form ho
  have hr1 : rowIs w1 g (rdRow v closed x) 79 := h.row.kept ((Kept.refl (fun k => v.ownBlock = some k) w).grown hg (fun k hk _ => hk)) (fun hk => h.apart g hk rfl)
  have hap : In (fun k => k ≠ g) (.slice ao (came ++ b).length c) := hin.mono fun k hk => by
    rcases hk with hk | hk
    · exact h.apart k hk
    · have := h.row.lt; omega
  refine ⟨ao, _, c, rfl, hr1.cell 0, hr1.free 0, ⟨hr1.setCell 0 _, ?_, hap⟩, ?_, hin⟩
  · exact ownsRow_kept ho ((Kept.refl (fun k => k = g) w1).setCell (i := 0) (.inl rfl) _) hap
  · exact ((Kept.refl (Fp g v) w).grown hg (fun k hk _ => .inr hk)).setCell (i := 0) (.inl (.inl rfl)) _
set_option maxHeartbeats 2000000 in
theorem feed_any (g : Nat) (v vb : Value) (s : Rd) (b : List UInt8) (w : World) (h : RdAt w g v s) (hb : Reads w vb (b.map byteV)) (hl : s.came.length ≤ 8192) (_hbl : b.length ≤ 9223372036854775807) :
    Calls Tryz.prog 12 #[.pointer (some ⟨g, 0, none⟩), vb] w fun e w' => FedPost g v s b w e w' := by
  obtain ⟨aob, cb, rfl⟩ := hb.form
  rw [List.length_map] at hb ⊢
  obtain ⟨came, closed, wrong⟩ := s
  simp only at hl
  obtain ⟨ao, c, rfl⟩ := h.form
  have h0 := h.row.cell 0
  have h1 := h.row.cell 1
  have h2 := h.row.cell 2
  have h3 := h.row.free 0
  cases closed with
  | true =>
    have HF := hid (fed_same (b := b) (k := 13) h (by unfold feedX; rw [if_pos (.inl rfl)]))
    clear h hb
    go_enter Tryz.func12, Tryz.ntmps12
    go_wp2
    go_ret
    exact HF.out
  | false =>
    by_cases hw : wrong = 0
    · subst hw
      by_cases hbig : 8192 - came.length < b.length
      · have HF := hid (fed_same (b := b) (k := 23) h (by unfold feedX; rw [if_neg (by simp), if_pos hbig]))
        have hz : (8192 : Int) - (came.length : Int) < (b.length : Int) := by omega
        clear h hb hbig
        go_enter Tryz.func12, Tryz.ntmps12
        go_wp2
        go_ret
        exact HF.out
      · have hz : ¬ (8192 : Int) - (came.length : Int) < (b.length : Int) := by omega
        have hf : feedX ⟨came, false, 0⟩ b = (0, ⟨came ++ b, false, 0⟩) := by unfold feedX; rw [if_neg (by simp), if_neg hbig]
        have HF := hid hf
        have HH := hid h
        have HO := hid h.own
        have HB := hid hb
        have hn : came.length + b.length < 4294967296 := by omega
        clear h hb hbig hf
        go_enter Tryz.func12, Tryz.ntmps12
        go_wp2_with (at_builtin; go_must (refine wpList_append_more w rfl _ _ 27 rfl 0 5 Tryz.underlying27 infoU8 rfl (by decide) rfl HO.out HB.out (oneCell_bytes b) rfl (by rw [List.length_map]; exact hn) (Nat.zero_le _) ?_); intro v' w1 ho hg hin; obtain ⟨ao2, n2, c2, rfl, q0, q1, HA⟩ := fed_after HH.out ho hg hin; clear ho hg hin)
        go_ret
        refine ⟨_, by rw [HF.out]; rfl, ?_, HA.out.2.1, HA.out.2.2⟩
        rw [HF.out]
        exact HA.out.1
    · have HF := hid (fed_same (b := b) (k := 13) h (by unfold feedX; rw [if_pos (.inr hw)]))
      have hz : ((wrong : Int) != 0) = true := by simp; omega
      clear h hb
      go_enter Tryz.func12, Tryz.ntmps12
      go_wp2
      go_ret
      exact HF.out
theorem delete_any (g : Nat) (c : Nat) (l : List UInt8) (k : Nat) (w : World) (ho : w.ownsRow 0 5 1 (.slice (some ⟨g, 0, none⟩) l.length c) l.length (l.map byteV)) (hk : k ≤ l.length) :
    Calls Tryz.prog 56 #[.slice (some ⟨g, 0, none⟩) l.length c, .int .i64 0, .int .i64 (k : Int)] w fun e w' => e = .returned (.slice (some ⟨g, 0, none⟩) (l.length - k) c) ∧ w'.ownsRow 0 5 1 (.slice (some ⟨g, 0, none⟩) (l.length - k) c) (l.drop k).length ((l.drop k).map byteV) ∧ Kept (fun b => b = g) w w' ∧ w.heap.size = w'.heap.size := by
  rcases ho.2 with ⟨hv, _⟩ | ⟨g', cap, cur, hv, hb, hg, hnc, hcm, hcs, htake⟩
  · cases hv
  cases hv
  have hh := ho.cells (g := g) rfl
  rw [Nat.mul_one] at htake hcs
  have hH : Go.Sort.Holds byteV w g 0 l.toArray := fun j hj => by
    have hj' : j < l.length := by simpa using hj
    have h1 := hh j (byteV l[j]) (by rw [List.getElem?_map, List.getElem?_eq_getElem hj']; rfl)
    rw [addAt] at h1
    rw [Nat.zero_add]
    refine ⟨by rw [h1, getElem!_pos l.toArray j hj]; rfl, ?_⟩
    unfold World.frozen?
    rw [hg]
    simp
  obtain ⟨i0, q1, q2, q3, q4⟩ := info_parts (P := Tryz.prog) (infoU8)
  have h := AnyE.slices_Delete Tryz.sdel byteV (fun _ => rfl) 0 (fun _ => Tryz.zeroValue5 _) i0 q1 q3 g 0 c 0 k l.toArray w hH (by simpa using hnc) (by unfold maxLen at hcm; omega) (Nat.zero_le _) (by simpa using hk)
  have h' : Calls Tryz.prog 56 #[.slice (some ⟨g, 0, none⟩) l.length c, .int .i64 0, .int .i64 (k : Int)] w fun e w' => e = .returned (.slice (some ⟨g, 0, none⟩) (l.toArray.size - (k - 0)) c) ∧ ∃ q, w' = Go.Sort.putRow byteV (Go.Sort.ahead w q) g 0 (l.toArray.toList.take 0 ++ l.toArray.toList.drop k ++ List.replicate (k - 0) 0).toArray := h
  refine h'.mono ?_
  rintro e w' ⟨rfl, q, rfl⟩
  have hgl : g < w.heap.size := (Array.getElem?_eq_some_iff.1 hg).1
  have hsz : (Go.Sort.putRow byteV (Go.Sort.ahead w q) g 0 (l.toArray.toList.take 0 ++ l.toArray.toList.drop k ++ List.replicate (k - 0) 0).toArray).heap.size = w.heap.size := by
    unfold Go.Sort.putRow Go.Sort.mapBlock Go.Sort.ahead
    simp
  refine ⟨by simp, ⟨by simp, .inr ⟨g, c, Go.Sort.putCells byteV 0 (l.toArray.toList.take 0 ++ l.toArray.toList.drop k ++ List.replicate (k - 0) 0).toArray cur, by rw [List.length_drop], Nat.zero_le _, ?_, by rw [List.length_drop]; omega, hcm, by unfold Go.Sort.putCells; simp [hcs], ?_⟩⟩, ⟨⟨rfl, rfl, rfl, by omega, fun k hk => absurd hk (Nat.not_lt_zero _)⟩, fun b hb hne => ?_⟩, hsz.symm⟩
  · unfold Go.Sort.putRow Go.Sort.mapBlock Go.Sort.ahead
    simp only [Array.getElem?_modify, if_true, hg, Option.map_some]
    rfl
  · rw [Nat.mul_one]
    apply List.ext_getElem?
    intro j
    rw [List.getElem?_take, Array.getElem?_toList, List.getElem?_map, List.getElem?_drop]
    unfold Go.Sort.putCells
    rw [Array.getElem?_mapIdx]
    by_cases hj : j < (l.drop k).length
    · rw [if_pos hj]
      have hj2 : j < l.length - k := by rw [List.length_drop] at hj; exact hj
      rw [Array.getElem?_eq_getElem (by omega), List.getElem?_eq_getElem (by omega)]
      simp only [Option.map_some, Nat.sub_zero, List.take_zero, List.nil_append, Nat.zero_add, Nat.zero_le, true_and]
      rw [if_pos (by simp; omega), getElem!_pos _ j (by simp; omega)]
      simp only [List.getElem_toArray]
      rw [List.getElem_append_left (by simp; omega), List.getElem_drop]
    · rw [if_neg hj, List.getElem?_eq_none (by rw [List.length_drop] at hj; omega)]
      rfl
  · unfold Go.Sort.putRow Go.Sort.mapBlock Go.Sort.ahead
    simp only [Array.getElem?_modify]
    rw [if_neg (fun e => hne e.symm)]
end Go.Proofs.YtongceljdgmbdaaGreatDoor
