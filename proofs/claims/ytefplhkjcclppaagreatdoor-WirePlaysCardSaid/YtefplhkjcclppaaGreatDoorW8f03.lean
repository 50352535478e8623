/-
  Several texts in one: WireA, BodyH, BodyI, BodyQ, BodyIB, BodyJ, MadeQ, MadeR5.
-/
import Derived.Test.YtefplhkjcclppaaGreatDoorW8f02
import Derived.Test.YtefplhkjcclppaaGreatDoorShelf
import Derived.Test.YtefplhkjcclppaaGreatDoorPureAll2
import Derived.Test.YtefplhkjcclppaaGreatDoorPureWire
import Derived.Test.YtefplhkjcclppaaGreatDoorW8f04
import Derived.Test.YtefplhkjcclppaaGreatDoorPureAll1
/-
  Contracts of package wire: NewReader, Left, Close, tell, ofHead, Feed; slices.Delete at bytes.
-/
namespace Go.Proofs.YtefplhkjcclppaaGreatDoor
open Go.RowKit Go.Pantry

abbrev rdRow (v : Value) (c : Bool) (x : Nat) : Array Value := #[v, .bool c, .int .i64 (x : Int)]
/-- a reader's box, and the bytes that it owns -/
structure RdAt (w : World) (g : Nat) (v : Value) (s : Rd) : Prop where
  row : rowIs w g (rdRow v s.closed s.wrong) 63
  own : w.ownsRow 0 5 1 v s.came.length (s.came.map byteV)
  apart : In (fun k => k ≠ g) v
/-- the blocks of a reader -/
def Fp (g : Nat) (v : Value) (k : Nat) : Prop := k = g ∨ v.ownBlock = some k
theorem RdAt.kept {w w' : World} {g : Nat} {v : Value} {s : Rd} (h : RdAt w g v s) {X : Nat → Prop} (hk : Kept X w w') (hx : ∀ k, Fp g v k → ¬ X k) : RdAt w' g v s :=
  ⟨h.row.kept hk (hx g (.inl rfl)), ownsRow_kept h.own hk (fun k hk => hx k (.inr hk)), h.apart⟩
theorem RdAt.below {w w' : World} {g : Nat} {v : Value} {s : Rd} (h : RdAt w g v s) (hb : Below w.heap.size w w') : RdAt w' g v s := h.kept (Kept.of_below (X := fun _ => False) hb) (fun _ _ h => h)
theorem RdAt.drew {w : World} {g : Nat} {v : Value} {s : Rd} (h : RdAt w g v s) : RdAt w.drew g v s := h.below ((Below.refl _ _).drew)
theorem Fp.lt {w : World} {g : Nat} {v : Value} {s : Rd} (h : RdAt w g v s) {k : Nat} (hk : Fp g v k) : k < w.heap.size := by
  rcases hk with rfl | hk
  · exact h.row.lt
  · exact (h.own.lt k hk).2
theorem RdAt.form {w : World} {g : Nat} {v : Value} {s : Rd} (h : RdAt w g v s) : ∃ ao c, v = .slice ao s.came.length c := ownsRow_bytes_form h.own
theorem RdAt.bytes {w : World} {g : Nat} {v : Value} {s : Rd} (h : RdAt w g v s) : Bytes w v s.came := ownsRow_bytes h.own

theorem newReader_any (w : World) :
    Calls Tryz.prog 5 #[] w fun e w' => e = .returned (.pointer (some ⟨w.heap.size, 0, none⟩)) ∧ w' = w.alloc (.cells (rdRow (.slice none 0 0) false 0) 63) := by
  go_enter Tryz.func5, Tryz.ntmps5
  go_wp2
  go_ret
  exact ⟨rfl, rfl⟩
theorem rdAt_new (w : World) : RdAt (w.alloc (.cells (rdRow (.slice none 0 0) false 0) 63)) w.heap.size (.slice none 0 0) ⟨[], false, 0⟩ :=
  ⟨rowIs_new _ _ _, World.ownsRow_nil _ _ _ _, In.nil _ _⟩
theorem left_any (g : Nat) (v : Value) (s : Rd) (w : World) (h : RdAt w g v s) :
    Calls Tryz.prog 16 #[.pointer (some ⟨g, 0, none⟩)] w fun e w' => e = .returned (.int .i64 (s.came.length : Int)) ∧ w = w' := by
  obtain ⟨ao, c, rfl⟩ := h.form
  have h0 := h.row.cell 0
  clear h
  go_enter Tryz.func16, Tryz.ntmps16
  go_wp2
  go_ret
  exact ⟨rfl, rfl⟩
theorem close_any (g : Nat) (v : Value) (s : Rd) (w : World) (h : RdAt w g v s) :
    Calls Tryz.prog 15 #[.pointer (some ⟨g, 0, none⟩)] w fun e w' => (∃ u, e = .returned u) ∧ RdAt w' g v ⟨s.came, true, s.wrong⟩ ∧ Kept (Fp g v) w w' := by
  obtain ⟨ao, c, rfl⟩ := h.form
  have h0 := h.row.cell 1
  have h1 := h.row.free 1
  have hr := h.row.setCell 1 (.bool true)
  have ho := ownsRow_kept h.own ((Kept.refl (fun k => k = g) w).setCell (i := 1) (.inl rfl) (.bool true)) (fun k hk => h.apart k hk)
  have hk := (Kept.refl (Fp g (.slice ao s.came.length c)) w).setCell (i := 1) (.inl (.inl rfl)) (.bool true)
  have ha := h.apart
  have HF := hid (And.intro hr (And.intro ho (And.intro hk ha)))
  clear h hr ho hk ha
  go_enter Tryz.func15, Tryz.ntmps15
  go_wp2
  go_end0
  exact ⟨⟨_, rfl⟩, ⟨HF.out.1, HF.out.2.1, HF.out.2.2.2⟩, HF.out.2.2.1⟩
theorem tell_any (g : Nat) (v : Value) (s : Rd) (k : Nat) (w : World) (h : RdAt w g v s) (hs : s.wrong = 0) :
    Calls Tryz.prog 31 #[.pointer (some ⟨g, 0, none⟩), .int .i64 (k : Int)] w fun e w' => e = .returned (.int .i64 (k : Int)) ∧ RdAt w' g v ⟨s.came, s.closed, tellX k⟩ ∧ Kept (Fp g v) w w' ∧ w.heap.size = w'.heap.size := by
  by_cases h20 : k = 20
  · subst h20
    have e : (⟨s.came, s.closed, tellX 20⟩ : Rd) = s := by rw [show tellX 20 = 0 from rfl, ← hs]
    rw [e]
    have HF := hid h
    clear h e
    go_enter Tryz.func31, Tryz.ntmps31
    go_wp2
    go_ret
    exact ⟨rfl, HF.out, Kept.refl _ _, rfl⟩
  by_cases h43 : k = 43
  · subst h43
    have e : (⟨s.came, s.closed, tellX 43⟩ : Rd) = s := by rw [show tellX 43 = 0 from rfl, ← hs]
    rw [e]
    have HF := hid h
    clear h e h20
    go_enter Tryz.func31, Tryz.ntmps31
    go_wp2
    go_ret
    exact ⟨rfl, HF.out, Kept.refl _ _, rfl⟩
  have et : tellX k = k := by unfold tellX; rw [if_neg (by omega)]
  rw [et]
  obtain ⟨ao, c, rfl⟩ := h.form
  have h0 := h.row.cell 2
  have h1 := h.row.free 2
  have hr := h.row.setCell 2 (.int .i64 (k : Int))
  have ho := ownsRow_kept h.own ((Kept.refl (fun k => k = g) w).setCell (i := 2) (.inl rfl) (.int .i64 (k : Int))) (fun k hk => h.apart k hk)
  have hk := (Kept.refl (Fp g (.slice ao s.came.length c)) w).setCell (i := 2) (.inl (.inl rfl)) (.int .i64 (k : Int))
  have ha := h.apart
  have HF := hid (And.intro hr (And.intro ho (And.intro hk ha)))
  have k1 : ((k : Int) != 20) = true := by simp; omega
  have k2 : ((k : Int) != 43) = true := by simp; omega
  clear h hr ho hk ha h20 h43 et
  go_enter Tryz.func31, Tryz.ntmps31
  go_wp2
  go_ret
  exact ⟨rfl, ⟨HF.out.1, HF.out.2.1, HF.out.2.2.2⟩, HF.out.2.2.1, by simp⟩
theorem ofHead_any (g : Nat) (v : Value) (s : Rd) (k : Nat) (w : World) (h : RdAt w g v s) :
    Calls Tryz.prog 32 #[.pointer (some ⟨g, 0, none⟩), .int .i64 (k : Int)] w fun e w' => e = .returned (.int .i64 (headE s.closed s.came k : Int)) ∧ w = w' := by
  obtain ⟨ao, c, rfl⟩ := h.form
  have h0 := h.row.cell 0
  have h1 := h.row.cell 1
  clear h
  obtain ⟨came, closed, wrong⟩ := s
  simp only at *
  by_cases h20 : k = 20
  · subst h20
    cases closed
    · go_enter Tryz.func32, Tryz.ntmps32
      go_wp2
      go_ret
      exact ⟨rfl, rfl⟩
    · by_cases hc : came = []
      · subst hc
        go_enter Tryz.func32, Tryz.ntmps32
        go_wp2
        go_ret
        exact ⟨rfl, rfl⟩
      · have e : headE true came 20 = 21 := by unfold headE; rw [if_pos ⟨rfl, rfl⟩, if_neg hc]
        rw [e]
        have hl : 0 < came.length := List.length_pos_iff.2 hc
        have hz : ((came.length : Int) == 0) = false := by simp; omega
        clear e
        go_enter Tryz.func32, Tryz.ntmps32
        go_wp2
        go_ret
        exact ⟨rfl, rfl⟩
  · have e : headE closed came k = k := by unfold headE; rw [if_neg (fun h => h20 h.1)]
    rw [e]
    have k1 : ((k : Int) != 20) = true := by simp; omega
    clear e h20
    go_enter Tryz.func32, Tryz.ntmps32
    go_wp2
    go_ret
    exact ⟨rfl, rfl⟩
/-- what Feed leaves -/
def FedPost (g : Nat) (v : Value) (s : Rd) (b : List UInt8) (w : World) (e : Ending) (w' : World) : Prop :=
  ∃ v', e = .returned (.int .i64 ((feedX s b).1 : Int)) ∧ RdAt w' g v' (feedX s b).2 ∧ Kept (Fp g v) w w' ∧ In (fun k => v.ownBlock = some k ∨ w.heap.size ≤ k) v'
theorem fed_same {g : Nat} {v : Value} {s : Rd} {b : List UInt8} {w : World} {k : Nat} (h : RdAt w g v s) (hf : feedX s b = (k, s)) : FedPost g v s b w (.returned (.int .i64 (k : Int))) w :=
  ⟨v, by rw [hf], by rw [hf]; exact h, Kept.refl _ _, fun k hk => .inl hk⟩
/-- behind the append: what the store finds, and what it leaves -/
theorem fed_after {g : Nat} {v v' : Value} {came b : List UInt8} {closed : Bool} {x : Nat} {w w1 : World} (h : RdAt w g v ⟨came, closed, x⟩) (ho : w1.ownsRow 0 5 1 v' (came.length + (b.map byteV).length) (came.map byteV ++ b.map byteV))
    (hg : w.grownBy w1 v.ownBlock) (hin : In (fun k => v.ownBlock = some k ∨ w.heap.size ≤ k) v') :
    ∃ ao n c, v' = .slice ao n c ∧ w1.cell? ⟨g, 0, none⟩ = some v ∧ w1.frozen? ⟨g, 0, none⟩ = false ∧
      Hid (RdAt (w1.setCell ⟨g, 0, none⟩ (.slice ao n c)) g (.slice ao n c) ⟨came ++ b, closed, x⟩ ∧ Kept (Fp g v) w (w1.setCell ⟨g, 0, none⟩ (.slice ao n c)) ∧ In (fun k => v.ownBlock = some k ∨ w.heap.size ≤ k) (.slice ao n c)) := by
  rw [← List.map_append, List.length_map, ← List.length_append] at ho
  obtain ⟨ao, c, rfl⟩ := ownsRow_bytes_form ho
  have hr1 : rowIs w1 g (rdRow v closed x) 63 := h.row.kept ((Kept.refl (fun k => v.ownBlock = some k) w).grown hg (fun k hk _ => hk)) (fun hk => h.apart g hk rfl)
  have hap : In (fun k => k ≠ g) (.slice ao (came ++ b).length c) := hin.mono fun k hk => by
    rcases hk with hk | hk
    · exact h.apart k hk
    · have := h.row.lt; omega
  refine ⟨ao, _, c, rfl, hr1.cell 0, hr1.free 0, ⟨hr1.setCell 0 _, ?_, hap⟩, ?_, hin⟩
  · exact ownsRow_kept ho ((Kept.refl (fun k => k = g) w1).setCell (i := 0) (.inl rfl) _) hap
  · exact ((Kept.refl (Fp g v) w).grown hg (fun k hk _ => .inr hk)).setCell (i := 0) (.inl (.inl rfl)) _
set_option maxHeartbeats 2000000 in
theorem feed_any (g : Nat) (v vb : Value) (s : Rd) (b : List UInt8) (w : World) (h : RdAt w g v s) (hb : Reads w vb (b.map byteV)) (hl : s.came.length ≤ 8192) (_hbl : b.length ≤ 9223372036854775807) :
    Calls Tryz.prog 6 #[.pointer (some ⟨g, 0, none⟩), vb] w fun e w' => FedPost g v s b w e w' := by
  obtain ⟨aob, cb, rfl⟩ := hb.form
  rw [List.length_map] at hb ⊢
  obtain ⟨came, closed, wrong⟩ := s
  simp only at hl
  obtain ⟨ao, c, rfl⟩ := h.form
  have h0 := h.row.cell 0
  have h1 := h.row.cell 1
  have h2 := h.row.cell 2
  have h3 := h.row.free 0
  cases closed with
  | true =>
    have HF := hid (fed_same (b := b) (k := 13) h (by unfold feedX; rw [if_pos (.inl rfl)]))
    clear h hb
    go_enter Tryz.func6, Tryz.ntmps6
    go_wp2
    go_ret
    exact HF.out
  | false =>
    by_cases hw : wrong = 0
    · subst hw
      by_cases hbig : 8192 - came.length < b.length
      · have HF := hid (fed_same (b := b) (k := 23) h (by unfold feedX; rw [if_neg (by simp), if_pos hbig]))
        have hz : (8192 : Int) - (came.length : Int) < (b.length : Int) := by omega
        clear h hb hbig
        go_enter Tryz.func6, Tryz.ntmps6
        go_wp2
        go_ret
        exact HF.out
      · have hz : ¬ (8192 : Int) - (came.length : Int) < (b.length : Int) := by omega
        have hf : feedX ⟨came, false, 0⟩ b = (0, ⟨came ++ b, false, 0⟩) := by unfold feedX; rw [if_neg (by simp), if_neg hbig]
        have HF := hid hf
        have HH := hid h
        have HO := hid h.own
        have HB := hid hb
        have hn : came.length + b.length < 4294967296 := by omega
        clear h hb hbig hf
        go_enter Tryz.func6, Tryz.ntmps6
        go_wp2_with (at_builtin; go_must (refine wpList_append_more w rfl _ _ 27 rfl 0 5 Tryz.underlying27 infoU8 rfl (by decide) rfl HO.out HB.out (oneCell_bytes b) rfl (by rw [List.length_map]; exact hn) (Nat.zero_le _) ?_); intro v' w1 ho hg hin; obtain ⟨ao2, n2, c2, rfl, q0, q1, HA⟩ := fed_after HH.out ho hg hin; clear ho hg hin)
        go_ret
        refine ⟨_, by rw [HF.out]; rfl, ?_, HA.out.2.1, HA.out.2.2⟩
        rw [HF.out]
        exact HA.out.1
    · have HF := hid (fed_same (b := b) (k := 13) h (by unfold feedX; rw [if_pos (.inr hw)]))
      have hz : ((wrong : Int) != 0) = true := by simp; omega
      clear h hb
      go_enter Tryz.func6, Tryz.ntmps6
      go_wp2
      go_ret
      exact HF.out
theorem delete_any (g : Nat) (c : Nat) (l : List UInt8) (k : Nat) (w : World) (ho : w.ownsRow 0 5 1 (.slice (some ⟨g, 0, none⟩) l.length c) l.length (l.map byteV)) (hk : k ≤ l.length) :
    Calls Tryz.prog 34 #[.slice (some ⟨g, 0, none⟩) l.length c, .int .i64 0, .int .i64 (k : Int)] w fun e w' => e = .returned (.slice (some ⟨g, 0, none⟩) (l.length - k) c) ∧ w'.ownsRow 0 5 1 (.slice (some ⟨g, 0, none⟩) (l.length - k) c) (l.drop k).length ((l.drop k).map byteV) ∧ Kept (fun b => b = g) w w' ∧ w.heap.size = w'.heap.size := by
  rcases ho.2 with ⟨hv, _⟩ | ⟨g', cap, cur, hv, hb, hg, hnc, hcm, hcs, htake⟩
  · cases hv
  cases hv
  have hh := ho.cells (g := g) rfl
  rw [Nat.mul_one] at htake hcs
  have hH : Go.Sort.Holds byteV w g 0 l.toArray := fun j hj => by
    have hj' : j < l.length := by simpa using hj
    have h1 := hh j (byteV l[j]) (by rw [List.getElem?_map, List.getElem?_eq_getElem hj']; rfl)
    rw [addAt] at h1
    rw [Nat.zero_add]
    refine ⟨by rw [h1, getElem!_pos l.toArray j hj]; rfl, ?_⟩
    unfold World.frozen?
    rw [hg]
    simp
  obtain ⟨i0, q1, q2, q3, q4⟩ := info_parts (P := Tryz.prog) (infoU8)
  have h := AnyE.slices_Delete Tryz.sdel byteV (fun _ => rfl) 0 (fun _ => Tryz.zeroValue5 _) i0 q1 q3 g 0 c 0 k l.toArray w hH (by simpa using hnc) (by unfold maxLen at hcm; omega) (Nat.zero_le _) (by simpa using hk)
  have h' : Calls Tryz.prog 34 #[.slice (some ⟨g, 0, none⟩) l.length c, .int .i64 0, .int .i64 (k : Int)] w fun e w' => e = .returned (.slice (some ⟨g, 0, none⟩) (l.toArray.size - (k - 0)) c) ∧ ∃ q, w' = Go.Sort.putRow byteV (Go.Sort.ahead w q) g 0 (l.toArray.toList.take 0 ++ l.toArray.toList.drop k ++ List.replicate (k - 0) 0).toArray := h
  refine h'.mono ?_
  rintro e w' ⟨rfl, q, rfl⟩
  have hgl : g < w.heap.size := (Array.getElem?_eq_some_iff.1 hg).1
  have hsz : (Go.Sort.putRow byteV (Go.Sort.ahead w q) g 0 (l.toArray.toList.take 0 ++ l.toArray.toList.drop k ++ List.replicate (k - 0) 0).toArray).heap.size = w.heap.size := by
    unfold Go.Sort.putRow Go.Sort.mapBlock Go.Sort.ahead
    simp
  refine ⟨by simp, ⟨by simp, .inr ⟨g, c, Go.Sort.putCells byteV 0 (l.toArray.toList.take 0 ++ l.toArray.toList.drop k ++ List.replicate (k - 0) 0).toArray cur, by rw [List.length_drop], Nat.zero_le _, ?_, by rw [List.length_drop]; omega, hcm, by unfold Go.Sort.putCells; simp [hcs], ?_⟩⟩, ⟨⟨rfl, rfl, rfl, by omega, fun k hk => absurd hk (Nat.not_lt_zero _)⟩, fun b hb hne => ?_⟩, hsz.symm⟩
  · unfold Go.Sort.putRow Go.Sort.mapBlock Go.Sort.ahead
    simp only [Array.getElem?_modify, if_true, hg, Option.map_some]
    rfl
  · rw [Nat.mul_one]
    apply List.ext_getElem?
    intro j
    rw [List.getElem?_take, Array.getElem?_toList, List.getElem?_map, List.getElem?_drop]
    unfold Go.Sort.putCells
    rw [Array.getElem?_mapIdx]
    by_cases hj : j < (l.drop k).length
    · rw [if_pos hj]
      have hj2 : j < l.length - k := by rw [List.length_drop] at hj; exact hj
      rw [Array.getElem?_eq_getElem (by omega), List.getElem?_eq_getElem (by omega)]
      simp only [Option.map_some, Nat.sub_zero, List.take_zero, List.nil_append, Nat.zero_add, Nat.zero_le, true_and]
      rw [if_pos (by simp; omega), getElem!_pos _ j (by simp; omega)]
      simp only [List.getElem_toArray]
      rw [List.getElem_append_left (by simp; omega), List.getElem_drop]
    · rw [if_neg hj, List.getElem?_eq_none (by rw [List.length_drop] at hj; omega)]
      rfl
  · unfold Go.Sort.putRow Go.Sort.mapBlock Go.Sort.ahead
    simp only [Array.getElem?_modify]
    rw [if_neg (fun e => hne e.symm)]
end Go.Proofs.YtefplhkjcclppaaGreatDoor
/-
  Contracts of package body: justChunked, countedFrame.
-/
namespace Go.Proofs.YtefplhkjcclppaaGreatDoor
open Go.RowKit Go.Pantry

theorem infoFrS : (Tryz.prog.info? 80).map (·.size) = some 2 := by kernel_rfl
theorem oneF (a b : Int) : (#[.int .i64 a, .int .i64 b] : Array Value).all (·.oneCell') = true := by simp [Value.oneCell']
set_option maxRecDepth 100000 in
set_option maxHeartbeats 4000000 in
theorem justChunked_any (v : Value) (E : List (List UInt8)) (w : World) (hr : Reads w v (E.map strV)) (hs : ∀ a ∈ E, a.length ≤ 4294967296) :
    Calls Tryz.prog 59 #[v] w fun e w' => e = .returned (.bool (justX E)) ∧ Below w.heap.size w w' := by
  obtain ⟨ao, cap, rfl⟩ := Reads.strs hr
  match E with
  | [] =>
    go_enter Tryz.func59, Tryz.ntmps59
    go_wp2_with fail
    go_ret
    exact ⟨rfl, Below.refl _ _⟩
  | a :: b :: r =>
    have hn : ((((a :: b :: r).length : Nat) : Int) == 1) = false := by simp; omega
    have hl : (a :: b :: r).length = r.length + 2 := rfl
    generalize (a :: b :: r).length = n at *
    go_enter Tryz.func59, Tryz.ntmps59
    go_wp2_with fail
    go_ret
    exact ⟨rfl, Below.refl _ _⟩
  | [a] =>
    have hal := hs a (by simp)
    have c1 := fun W => Same_any ⟨a.toArray⟩ ⟨chW.toArray⟩ W (by rw [szL]; unfold maxLen; omega) (by decide)
    rw [dtL, dtL, show lowerL chW = chW by decide +kernel] at c1
    have hj : justX [a] = (lowerL a == chW) := rfl
    rw [← hj] at c1
    generalize justX [a] = q at c1 ⊢
    unfold chW at c1
    obtain ⟨b, off, cap', hv, hcell⟩ := hr.at_some (by simp)
    have hce := hcell 0 (strV a) rfl
    rw [Nat.add_zero] at hce
    cases hv
    have C1 := hid c1
    clear c1 hr hcell hj
    go_enter Tryz.func59, Tryz.ntmps59
    go_wp2_with fail
    refine (C1.out _).mono ?_
    rintro e w1 ⟨rfl, hb1⟩
    go_wp2_with fail
    go_ret
    exact ⟨rfl, hb1⟩
set_option maxRecDepth 100000 in
set_option maxHeartbeats 8000000 in
theorem countedFrame_any (v : Value) (E : List (List UInt8)) (w : World) (hr : Reads w v (E.map strV)) (hs : ∀ a ∈ E, a.length ≤ 4294967296) (hn : E.length ≤ 4294967296) :
    Calls Tryz.prog 61 #[v] w fun e w' => FrameIs (cntX E) e ∧ Below w.heap.size w w' := by
  obtain ⟨W0, hW0⟩ : ∃ W, W = w.alloc (.cells #[.int .i64 0, .int .i64 0] 80) := ⟨_, rfl⟩
  have hb0 : Below w.heap.size w W0 := by rw [hW0]; exact below_alloc _ _
  have hr0 : rowIs W0 w.heap.size #[.int .i64 0, .int .i64 0] 80 := by rw [hW0]; exact rowIs_new _ _ _
  obtain ⟨ao, cap, rfl⟩ := Reads.strs hr
  have hrd := hr.below hb0
  cases hE : E with
  | nil =>
    subst hE
    go_enter Tryz.func61, Tryz.ntmps61
    go_wp2_with fail
    rw [← hW0]
    clear hW0
    refine bodyPost_ret (results_row2 Tryz.results61 _ _ w.heap.size _ rfl hr0 Tryz.underlying80 rfl infoFrS) rfl ?_
    exact ⟨rfl, hb0⟩
  | cons a r =>
    have hlen : (E.length : Int) ≠ 0 := by rw [hE]; simp; omega
    have hne0 : ((E.length : Int) == 0) = false := by simpa using hlen
    have hp1 : 0 < E.length := by omega
    have hp2 : (0 : Int) < (E.length : Int) := by omega
    have hp3 : ¬ E = [] := by rw [hE]; simp
    have hx : cntX E = if E.all (goodN ((numberL a).getD 0)) then (if 2048 < (numberL a).getD 0 then .error 23 else .ok (1, (numberL a).getD 0)) else .error 24 := by rw [hE]; rfl
    have hal := hs a (by rw [hE]; simp)
    rw [← hE]
    obtain ⟨b, off, cap', hv, hcell⟩ := hrd.at_some (by rw [List.length_map]; omega)
    have hce := hcell 0 (strV a) (by rw [hE]; rfl)
    rw [Nat.add_zero] at hce
    rw [hW0] at hce
    rw [List.length_map] at hv
    cases hv
    have c1 := fun (x : List UInt8) W (h : x.length ≤ 4294967296) => Number_any ⟨x.toArray⟩ W (by rw [szL]; omega)
    have c2 := c1 a W0 hal
    rw [dtL] at c2
    generalize cntX E = X at hx ⊢
    obtain ⟨F, hF⟩ : ∃ F, (numberL a).getD 0 = F := ⟨_, rfl⟩
    rw [hF] at hx c2
    have C1 := hid c1
    have C2 := hid c2
    have HX := hid hx
    have HC := hid hcell
    have HS := hid hs
    clear c1 c2 hx hcell hs hr hrd hal hE hF hlen
    go_enter Tryz.func61, Tryz.ntmps61
    go_wp2_with fail
    rw [← hW0]
    clear hW0 hce
    refine C2.out.mono ?_
    rintro e w1 ⟨rfl, rfl⟩
    clear C2
    go_wp2_with fail
    go_loopw [23] (fun i wr => ∃ k : Nat, k ≤ E.length ∧ i = .int .i64 (k : Int) ∧ (E.take k).all (goodN F) = true ∧ W0 = wr) (fun i _ => E.length - (intOf i).toNat)
    case atStart => exact ⟨0, Nat.zero_le _, rfl, rfl, rfl⟩
    case round =>
      obtain ⟨k, hk, rfl, hall, rfl⟩ := hrel
      have HA := hid hall
      clear hall
      by_cases hlt : k < E.length
      · obtain ⟨x, hx⟩ : ∃ x, E[k]? = some x := ⟨_, List.getElem?_eq_getElem hlt⟩
        have hcx := HC.out k (strV x) (by rw [List.getElem?_map, hx]; rfl)
        have hmem := List.mem_of_getElem? hx
        have c3 := C1.out x W0 (HS.out x hmem)
        try rw [dtL] at c3
        have ht := all_take (f := F) hx
        have hgd : goodN F x = ((numberL x).isSome && (numberL x).getD 0 == F) := rfl
        have HM := hid hmem
        have HT := hid ht
        clear hx hmem ht
        cases hnx : numberL x with
        | none =>
          rw [hnx] at c3 hgd
          simp only [Option.isSome_none, Option.getD_none, Bool.false_and] at c3 hgd
          have hXe : X = .error 24 := by rw [HX.out, all_not HM.out hgd]; rfl
          have C3 := hid c3
          subst hXe
          clear c3 hnx hgd
          go_wp2_with fail
          refine C3.out.mono ?_
          rintro e w2 ⟨rfl, rfl⟩
          go_wp2_with (refine wpList_store_row rfl 80 _ _ rfl w.heap.size _ rfl rfl 80 #[.int .i64 0, .int .i64 0] hr0 infoFrS rfl (oneF 0 0) ?_)
          refine bodyPost_ret (results_row2 Tryz.results61 _ _ w.heap.size _ rfl (hr0.setRow _) Tryz.underlying80 rfl infoFrS) rfl ?_
          exact ⟨rfl, below_setRow hb0 (Nat.le_refl _) _⟩
        | some m =>
          rw [hnx] at c3 hgd
          simp only [Option.isSome_some, Option.getD_some, Bool.true_and] at c3 hgd
          have C3 := hid c3
          by_cases hmF : m = F
          · have hg1 : goodN F x = true := by rw [hgd, hmF]; simp
            have z1 : ((m : Int) == (F : Int)) = true := by simp; omega
            have z2 : ((m : Int) != (F : Int)) = false := by simp; omega
            have hal2 : (E.take (k + 1)).all (goodN F) = true := by rw [HT.out, HA.out, hg1]; rfl
            have HA2 := hid hal2
            clear c3 hnx hgd hg1 hal2 hmF
            go_wp2_with fail
            refine C3.out.mono ?_
            rintro e w2 ⟨rfl, rfl⟩
            go_wp2_with fail
            go_roundw
            case rel => exact ⟨k + 1, hlt, by go_num, HA2.out, by trivial⟩
            case measure => simp [intOf]; omega
          · have hg1 : goodN F x = false := by rw [hgd]; simpa using hmF
            have z1 : ((m : Int) == (F : Int)) = false := beq_eq_false_iff_ne.2 (by omega)
            have z2 : ((m : Int) != (F : Int)) = true := by rw [bne, z1]; rfl
            have hXe : X = .error 24 := by rw [HX.out, all_not HM.out hg1]; rfl
            subst hXe
            clear c3 hnx hgd hg1 hmF
            go_wp2_with fail
            refine C3.out.mono ?_
            rintro e w2 ⟨rfl, rfl⟩
            go_wp2_with (refine wpList_store_row rfl 80 _ _ rfl w.heap.size _ rfl rfl 80 #[.int .i64 0, .int .i64 0] hr0 infoFrS rfl (oneF 0 0) ?_)
            refine bodyPost_ret (results_row2 Tryz.results61 _ _ w.heap.size _ rfl (hr0.setRow _) Tryz.underlying80 rfl infoFrS) rfl ?_
            exact ⟨rfl, below_setRow hb0 (Nat.le_refl _) _⟩
      · have hall := HA.out
        rw [List.take_of_length_le (by omega)] at hall
        have hx2 := HX.out
        rw [hall, if_pos rfl] at hx2
        clear hall
        by_cases h2048 : (2048 : Int) < (F : Int)
        · rw [if_pos (by omega)] at hx2
          subst hx2
          clear HX
          go_wp2_with (refine wpList_store_row rfl 80 _ _ rfl w.heap.size _ rfl rfl 80 #[.int .i64 0, .int .i64 0] hr0 infoFrS rfl (oneF 0 0) ?_)
          refine bodyPost_ret (results_row2 Tryz.results61 _ _ w.heap.size _ rfl (hr0.setRow _) Tryz.underlying80 rfl infoFrS) rfl ?_
          exact ⟨rfl, below_setRow hb0 (Nat.le_refl _) _⟩
        · rw [if_neg (by omega)] at hx2
          subst hx2
          clear HX
          go_wp2_with (refine wpList_store_row rfl 80 _ _ rfl w.heap.size _ rfl rfl 80 #[.int .i64 0, .int .i64 0] hr0 infoFrS rfl (oneF 1 (F : Int)) ?_)
          refine bodyPost_ret (results_row2 Tryz.results61 _ _ w.heap.size _ rfl (hr0.setRow _) Tryz.underlying80 rfl infoFrS) rfl ?_
          exact ⟨rfl, below_setRow hb0 (Nat.le_refl _) _⟩
end Go.Proofs.YtefplhkjcclppaaGreatDoor
/-
  Contracts of package body: frameOf, bare, OfRequest, OfResponse.
-/
namespace Go.Proofs.YtefplhkjcclppaaGreatDoor
open Go.RowKit Go.Pantry

set_option maxRecDepth 100000 in
set_option maxHeartbeats 16000000 in
theorem frameOf_any (minor : Int) (other : Nat) (v : Value) (L : List Fld) (w : World) (hr : Reads2 w v L) (hk : okFs L) :
    Calls Tryz.prog 38 #[.agg #[.int .i64 minor, v], .int .i64 (other : Int)] w fun e w' => FrameIs (frameX minor other L) e ∧ Below w.heap.size w w' := by
  obtain ⟨ao, cap, rfl⟩ := hr.form
  obtain ⟨W, hW⟩ : ∃ W, W = (w.alloc (.cells #[.int .i64 minor, .slice ao L.length cap] 38)).alloc (.cells #[.int .i64 0, .int .i64 0] 80) := ⟨_, rfl⟩
  have hb0 : Below w.heap.size w W := by rw [hW]; exact (below_alloc _ _).alloc (by simp) _
  have hg0 : rowIs W w.heap.size #[.int .i64 minor, .slice ao L.length cap] 38 := by rw [hW]; exact (rowIs_new _ _ _).below (below_alloc _ _)
  have hr0 : rowIs W (w.heap.size + 1) #[.int .i64 0, .int .i64 0] 80 := by rw [hW]; exact rowIs_new_at _ _ _ _ (by simp)
  have e0 := hg0.cell 0
  have e1 := hg0.cell 1
  rw [hW] at e0 e1
  have c1 := fun W h => lGet_any (.slice ao L.length cap) L ⟨teN.toArray⟩ W h hk (by decide)
  have c2 := fun W h => lGet_any (.slice ao L.length cap) L ⟨clN.toArray⟩ W h hk (by decide)
  have c3 := fun W h => lElements_any (.slice ao L.length cap) L ⟨teN.toArray⟩ W h hk (by decide)
  have c4 := fun W h => lElements_any (.slice ao L.length cap) L ⟨clN.toArray⟩ W h hk (by decide)
  rw [dtL] at c1 c2 c3 c4
  have sz1 := elementsF_size (n := teN) (fun f hf => (hk.2 f hf).2) hk.1
  have sz2 := elementsF_size (n := clN) (fun f hf => (hk.2 f hf).2) hk.1
  have hx : frameX minor other L = if (allF L teN).isEmpty then (if (allF L clN).isEmpty then .ok (other, 0) else cntX (elementsF L clN)) else if !(allF L clN).isEmpty || !justX (elementsF L teN) || minor == 0 then .error 24 else .ok (2, 0) := rfl
  generalize frameX minor other L = x at hx ⊢
  generalize (allF L teN).isEmpty = q1 at c1 hx
  generalize (allF L clN).isEmpty = q2 at c2 hx
  generalize getF L teN = s1 at c1
  generalize getF L clN = s2 at c2
  generalize elementsF L teN = E1 at c3 hx sz1
  generalize elementsF L clN = E2 at c4 hx sz2
  have c5 := fun W v h => justChunked_any v E1 W h (fun a ha => Nat.le_trans (sz1.2 a ha) (by decide))
  have c6 := fun W v h => countedFrame_any v E2 W h (fun a ha => Nat.le_trans (sz2.2 a ha) (by decide)) (Nat.le_trans sz2.1 (by decide))
  generalize justX E1 = q3 at c5 hx
  unfold teN at c1 c3
  unfold clN at c2 c4
  have C1 := hid c1
  have C2 := hid c2
  have C3 := hid c3
  have C4 := hid c4
  have C5 := hid c5
  have C6 := hid c6
  have HR := hid hr
  have HX := hid hx
  clear c1 c2 c3 c4 c5 c6 hr hx sz1 sz2 hk
  cases q1 with
  | true =>
    cases q2 with
    | true =>
      have hx : x = .ok (other, 0) := HX.out
      subst hx
      go_enter Tryz.func38, Tryz.ntmps38
      go_wp2_with fail
      rw [← hW]
      clear hW e0 e1
      refine (C1.out _ (HR.out.below hb0)).mono ?_
      rintro e w1 ⟨rfl, hb1⟩
      have hg1 := hg0.below hb1
      have hr1 := hr0.below hb1
      have hbA := chain2 hb0 hb0.size hb1
      have e1 := hg1.cell 1
      clear hg0 hr0 hb0 hb1 C1
      go_wp2_with fail
      refine (C2.out _ (HR.out.below hbA)).mono ?_
      rintro e w2 ⟨rfl, hb2⟩
      have hg2 := hg1.below hb2
      have hr2 := hr1.below hb2
      have hbB := chain2 hbA hbA.size hb2
      have e0' := hg2.cell 0
      have e1' := hg2.cell 1
      clear hg1 hr1 hbA hb2 C2 e1
      go_wp2_with (refine wpList_store_row rfl 80 _ _ rfl (w.heap.size + 1) _ rfl rfl 80 #[.int .i64 0, .int .i64 0] hr2 infoFrS rfl (oneF (other : Int) 0) ?_)
      refine bodyPost_ret (results_row2 Tryz.results38 _ _ (w.heap.size + 1) _ rfl (hr2.setRow _) Tryz.underlying80 rfl infoFrS) rfl ?_
      exact ⟨rfl, below_setRow hbB (Nat.le_succ _) _⟩
    | false =>
      have hx : x = cntX E2 := HX.out
      subst hx
      go_enter Tryz.func38, Tryz.ntmps38
      go_wp2_with fail
      rw [← hW]
      clear hW e0 e1
      refine (C1.out _ (HR.out.below hb0)).mono ?_
      rintro e w1 ⟨rfl, hb1⟩
      have hg1 := hg0.below hb1
      have hr1 := hr0.below hb1
      have hbA := chain2 hb0 hb0.size hb1
      have e1 := hg1.cell 1
      clear hg0 hr0 hb0 hb1 C1
      go_wp2_with fail
      refine (C2.out _ (HR.out.below hbA)).mono ?_
      rintro e w2 ⟨rfl, hb2⟩
      have hg2 := hg1.below hb2
      have hr2 := hr1.below hb2
      have hbB := chain2 hbA hbA.size hb2
      have e0' := hg2.cell 0
      have e1' := hg2.cell 1
      clear hg1 hr1 hbA hb2 C2 e1
      go_wp2_with fail
      refine (C4.out _ (HR.out.below hbB)).mono ?_
      rintro e w3 ⟨⟨v3, rfl, ho3⟩, hb3⟩
      have hr3 := hr2.below hb3
      have hbC := chain2 hbB hbB.size hb3
      obtain ⟨ao3, cp3, rfl⟩ := Reads.strs ho3.reads
      go_wp2_with fail
      refine (C6.out _ _ ho3.reads).mono ?_
      rintro e w4 ⟨hf, hb4⟩
      have hr4 := hr3.below hb4
      have hbD := chain2 hbC hbC.size hb4
      obtain ⟨t1, t2, t3, ht, rfl⟩ := hf.form
      clear hr3 hb4 hb3 hbB hr2 ho3 hg2 e0' e1' C3 C4 C5 C6
      go_wp2_with (refine wpList_store_row rfl 80 _ _ rfl (w.heap.size + 1) _ rfl rfl 80 #[.int .i64 0, .int .i64 0] hr4 infoFrS rfl (oneF t1 t2) ?_)
      refine bodyPost_ret (results_row2 Tryz.results38 _ _ (w.heap.size + 1) _ rfl (hr4.setRow _) Tryz.underlying80 rfl infoFrS) rfl ?_
      exact ⟨by unfold FrameIs; rw [ht]; rfl, below_setRow hbD (Nat.le_succ _) _⟩
  | false =>
    cases q2 with
    | false =>
      have hx : x = .error 24 := HX.out
      subst hx
      go_enter Tryz.func38, Tryz.ntmps38
      go_wp2_with fail
      rw [← hW]
      clear hW e0 e1
      refine (C1.out _ (HR.out.below hb0)).mono ?_
      rintro e w1 ⟨rfl, hb1⟩
      have hg1 := hg0.below hb1
      have hr1 := hr0.below hb1
      have hbA := chain2 hb0 hb0.size hb1
      have e1 := hg1.cell 1
      clear hg0 hr0 hb0 hb1 C1
      go_wp2_with fail
      refine (C2.out _ (HR.out.below hbA)).mono ?_
      rintro e w2 ⟨rfl, hb2⟩
      have hg2 := hg1.below hb2
      have hr2 := hr1.below hb2
      have hbB := chain2 hbA hbA.size hb2
      have e0' := hg2.cell 0
      have e1' := hg2.cell 1
      clear hg1 hr1 hbA hb2 C2 e1
      go_wp2_with (refine wpList_store_row rfl 80 _ _ rfl (w.heap.size + 1) _ rfl rfl 80 #[.int .i64 0, .int .i64 0] hr2 infoFrS rfl (oneF 0 0) ?_)
      refine bodyPost_ret (results_row2 Tryz.results38 _ _ (w.heap.size + 1) _ rfl (hr2.setRow _) Tryz.underlying80 rfl infoFrS) rfl ?_
      exact ⟨rfl, below_setRow hbB (Nat.le_succ _) _⟩
    | true =>
      cases q3 with
      | false =>
        have hx : x = .error 24 := HX.out
        subst hx
        go_enter Tryz.func38, Tryz.ntmps38
        go_wp2_with fail
        rw [← hW]
        clear hW e0 e1
        refine (C1.out _ (HR.out.below hb0)).mono ?_
        rintro e w1 ⟨rfl, hb1⟩
        have hg1 := hg0.below hb1
        have hr1 := hr0.below hb1
        have hbA := chain2 hb0 hb0.size hb1
        have e1 := hg1.cell 1
        clear hg0 hr0 hb0 hb1 C1
        go_wp2_with fail
        refine (C2.out _ (HR.out.below hbA)).mono ?_
        rintro e w2 ⟨rfl, hb2⟩
        have hg2 := hg1.below hb2
        have hr2 := hr1.below hb2
        have hbB := chain2 hbA hbA.size hb2
        have e0' := hg2.cell 0
        have e1' := hg2.cell 1
        clear hg1 hr1 hbA hb2 C2 e1
        go_wp2_with fail
        refine (C3.out _ (HR.out.below hbB)).mono ?_
        rintro e w3 ⟨⟨v3, rfl, ho3⟩, hb3⟩
        have hr3 := hr2.below hb3
        have hg3 := hg2.below hb3
        have hbC := chain2 hbB hbB.size hb3
        obtain ⟨ao3, cp3, rfl⟩ := Reads.strs ho3.reads
        go_wp2_with fail
        refine (C5.out _ _ ho3.reads).mono ?_
        rintro e w4 ⟨rfl, hb4⟩
        have hr4 := hr3.below hb4
        have hg4 := hg3.below hb4
        have hbD := chain2 hbC hbC.size hb4
        clear hr3 hg3 hb4 hb3 hbB hr2 ho3 hg2 e0' e1' C3 C4 C5 C6
        go_wp2_with (refine wpList_store_row rfl 80 _ _ rfl (w.heap.size + 1) _ rfl rfl 80 #[.int .i64 0, .int .i64 0] hr4 infoFrS rfl (oneF 0 0) ?_)
        refine bodyPost_ret (results_row2 Tryz.results38 _ _ (w.heap.size + 1) _ rfl (hr4.setRow _) Tryz.underlying80 rfl infoFrS) rfl ?_
        exact ⟨rfl, below_setRow hbD (Nat.le_succ _) _⟩
      | true =>
        by_cases hm : minor = 0
        · have hx : x = .error 24 := by rw [HX.out, hm]; rfl
          subst hx
          have z1 : (minor == 0) = true := by simpa using hm
          clear hm
          go_enter Tryz.func38, Tryz.ntmps38
          go_wp2_with fail
          rw [← hW]
          clear hW e0 e1
          refine (C1.out _ (HR.out.below hb0)).mono ?_
          rintro e w1 ⟨rfl, hb1⟩
          have hg1 := hg0.below hb1
          have hr1 := hr0.below hb1
          have hbA := chain2 hb0 hb0.size hb1
          have e1 := hg1.cell 1
          clear hg0 hr0 hb0 hb1 C1
          go_wp2_with fail
          refine (C2.out _ (HR.out.below hbA)).mono ?_
          rintro e w2 ⟨rfl, hb2⟩
          have hg2 := hg1.below hb2
          have hr2 := hr1.below hb2
          have hbB := chain2 hbA hbA.size hb2
          have e0' := hg2.cell 0
          have e1' := hg2.cell 1
          clear hg1 hr1 hbA hb2 C2 e1
          go_wp2_with fail
          refine (C3.out _ (HR.out.below hbB)).mono ?_
          rintro e w3 ⟨⟨v3, rfl, ho3⟩, hb3⟩
          have hr3 := hr2.below hb3
          have hg3 := hg2.below hb3
          have hbC := chain2 hbB hbB.size hb3
          obtain ⟨ao3, cp3, rfl⟩ := Reads.strs ho3.reads
          go_wp2_with fail
          refine (C5.out _ _ ho3.reads).mono ?_
          rintro e w4 ⟨rfl, hb4⟩
          have hr4 := hr3.below hb4
          have hg4 := hg3.below hb4
          have hbD := chain2 hbC hbC.size hb4
          clear hr3 hg3 hb4 hb3 hbB hr2 ho3 hg2 e0' e1' C3 C4 C5 C6
          have e0'' := hg4.cell 0
          go_wp2_with (refine wpList_store_row rfl 80 _ _ rfl (w.heap.size + 1) _ rfl rfl 80 #[.int .i64 0, .int .i64 0] hr4 infoFrS rfl (oneF 0 0) ?_)
          refine bodyPost_ret (results_row2 Tryz.results38 _ _ (w.heap.size + 1) _ rfl (hr4.setRow _) Tryz.underlying80 rfl infoFrS) rfl ?_
          exact ⟨rfl, below_setRow hbD (Nat.le_succ _) _⟩
        · have z1 : (minor == 0) = false := by simpa using hm
          have hx : x = .ok (2, 0) := by rw [HX.out, z1]; rfl
          subst hx
          clear hm
          go_enter Tryz.func38, Tryz.ntmps38
          go_wp2_with fail
          rw [← hW]
          clear hW e0 e1
          refine (C1.out _ (HR.out.below hb0)).mono ?_
          rintro e w1 ⟨rfl, hb1⟩
          have hg1 := hg0.below hb1
          have hr1 := hr0.below hb1
          have hbA := chain2 hb0 hb0.size hb1
          have e1 := hg1.cell 1
          clear hg0 hr0 hb0 hb1 C1
          go_wp2_with fail
          refine (C2.out _ (HR.out.below hbA)).mono ?_
          rintro e w2 ⟨rfl, hb2⟩
          have hg2 := hg1.below hb2
          have hr2 := hr1.below hb2
          have hbB := chain2 hbA hbA.size hb2
          have e0' := hg2.cell 0
          have e1' := hg2.cell 1
          clear hg1 hr1 hbA hb2 C2 e1
          go_wp2_with fail
          refine (C3.out _ (HR.out.below hbB)).mono ?_
          rintro e w3 ⟨⟨v3, rfl, ho3⟩, hb3⟩
          have hr3 := hr2.below hb3
          have hg3 := hg2.below hb3
          have hbC := chain2 hbB hbB.size hb3
          obtain ⟨ao3, cp3, rfl⟩ := Reads.strs ho3.reads
          go_wp2_with fail
          refine (C5.out _ _ ho3.reads).mono ?_
          rintro e w4 ⟨rfl, hb4⟩
          have hr4 := hr3.below hb4
          have hg4 := hg3.below hb4
          have hbD := chain2 hbC hbC.size hb4
          clear hr3 hg3 hb4 hb3 hbB hr2 ho3 hg2 e0' e1' C3 C4 C5 C6
          have e0'' := hg4.cell 0
          go_wp2_with (refine wpList_store_row rfl 80 _ _ rfl (w.heap.size + 1) _ rfl rfl 80 #[.int .i64 0, .int .i64 0] hr4 infoFrS rfl (oneF 2 0) ?_)
          refine bodyPost_ret (results_row2 Tryz.results38 _ _ (w.heap.size + 1) _ rfl (hr4.setRow _) Tryz.underlying80 rfl infoFrS) rfl ?_
          exact ⟨rfl, below_setRow hbD (Nat.le_succ _) _⟩
end Go.Proofs.YtefplhkjcclppaaGreatDoor
/-
  Contracts of package body: OfRequest.
-/
namespace Go.Proofs.YtefplhkjcclppaaGreatDoor
open Go.RowKit Go.Pantry

set_option maxRecDepth 100000 in
set_option maxHeartbeats 8000000 in
theorem OfRequest_any (m t : List UInt8) (z : Int) (v : Value) (L : List Fld) (w : World) (hr : Reads2 w v L) (hk : okFs L) :
    Calls Tryz.prog 19 #[.agg #[strV m, strV t, .int .i64 z, v]] w fun e w' => FrameIs (frameX z 0 L) e ∧ Below w.heap.size w w' := by
  obtain ⟨ao, cap, rfl⟩ := hr.form
  obtain ⟨W, hW⟩ : ∃ W, W = (w.alloc (.cells #[strV m, strV t, .int .i64 z, .slice ao L.length cap] 40)).alloc (.cells #[.int .i64 0, .int .i64 0] 80) := ⟨_, rfl⟩
  have hb0 : Below w.heap.size w W := by rw [hW]; exact (below_alloc _ _).alloc (by simp) _
  have hg0 : rowIs W w.heap.size #[strV m, strV t, .int .i64 z, .slice ao L.length cap] 40 := by rw [hW]; exact (rowIs_new _ _ _).below (below_alloc _ _)
  have hr0 : rowIs W (w.heap.size + 1) #[.int .i64 0, .int .i64 0] 80 := by rw [hW]; exact rowIs_new_at _ _ _ _ (by simp)
  have e0 := hg0.cell 0
  have e1 := hg0.cell 1
  have e2 := hg0.cell 2
  have e3 := hg0.cell 3
  rw [hW] at e0 e1 e2 e3
  have C1 := hid (fun W h => frameOf_any z 0 (.slice ao L.length cap) L W h hk)
  have HR := hid hr
  clear hr hk
  go_enter Tryz.func19, Tryz.ntmps19
  go_wp2_with fail
  rw [← hW]
  clear hW e0 e1 e2 e3
  refine (C1.out _ (HR.out.below hb0)).mono ?_
  rintro e w1 ⟨hf, hb1⟩
  obtain ⟨t1, t2, t3, ht, rfl⟩ := hf.form
  have hr1 := hr0.below hb1
  have hbA := chain2 hb0 hb0.size hb1
  clear hg0 hr0 hb0 hb1 C1 hf
  go_wp2_with (refine wpList_store_row rfl 80 _ _ rfl (w.heap.size + 1) _ rfl rfl 80 #[.int .i64 0, .int .i64 0] hr1 infoFrS rfl (oneF t1 t2) ?_)
  refine bodyPost_ret (results_row2 Tryz.results19 _ _ (w.heap.size + 1) _ rfl (hr1.setRow _) Tryz.underlying80 rfl infoFrS) rfl ?_
  exact ⟨by unfold FrameIs; rw [ht]; rfl, below_setRow hbA (Nat.le_succ _) _⟩
end Go.Proofs.YtefplhkjcclppaaGreatDoor
/-
  Contracts of package body: bare.
-/
namespace Go.Proofs.YtefplhkjcclppaaGreatDoor
open Go.RowKit Go.Pantry

theorem bare_any (z : Int) (w : World) : Calls Tryz.prog 46 #[.int .i64 z] w fun e w' => e = .returned (.bool (decide (z < 200) || z == 204 || z == 304)) ∧ w = w' := by
  obtain ⟨d1, h1⟩ : ∃ d, decide (z < 200) = d := ⟨_, rfl⟩
  obtain ⟨d2, h2⟩ : ∃ d, (z == 204) = d := ⟨_, rfl⟩
  obtain ⟨d3, h3⟩ : ∃ d, (z == 304) = d := ⟨_, rfl⟩
  rw [h1, h2, h3]
  cases d1 <;> cases d2 <;> cases d3
  all_goals
    go_enter Tryz.func46, Tryz.ntmps46
    go_wp2
    go_ret
    exact ⟨rfl, rfl⟩
end Go.Proofs.YtefplhkjcclppaaGreatDoor
/-
  Contracts of package body: OfResponse.
-/
namespace Go.Proofs.YtefplhkjcclppaaGreatDoor
open Go.RowKit Go.Pantry

set_option maxRecDepth 100000 in
set_option maxHeartbeats 8000000 in
theorem OfResponse_any (mt m : List UInt8) (st z : Int) (v : Value) (L : List Fld) (w : World) (hr : Reads2 w v L) (hk : okFs L) :
    Calls Tryz.prog 28 #[strV mt, .agg #[.int .i64 st, strV m, .int .i64 z, v]] w fun e w' => FrameIs (if bareX (mt == [72, 69, 65, 68]) st then .ok (0, 0) else frameX z 3 L) e ∧ Below w.heap.size w w' := by
  obtain ⟨ao, cap, rfl⟩ := hr.form
  obtain ⟨W, hW⟩ : ∃ W, W = (w.alloc (.cells #[.int .i64 st, strV m, .int .i64 z, .slice ao L.length cap] 53)).alloc (.cells #[.int .i64 0, .int .i64 0] 80) := ⟨_, rfl⟩
  have hb0 : Below w.heap.size w W := by rw [hW]; exact (below_alloc _ _).alloc (by simp) _
  have hg0 : rowIs W w.heap.size #[.int .i64 st, strV m, .int .i64 z, .slice ao L.length cap] 53 := by rw [hW]; exact (rowIs_new _ _ _).below (below_alloc _ _)
  have hr0 : rowIs W (w.heap.size + 1) #[.int .i64 0, .int .i64 0] 80 := by rw [hW]; exact rowIs_new_at _ _ _ _ (by simp)
  have e0 := hg0.cell 0
  have e1 := hg0.cell 1
  have e2 := hg0.cell 2
  have e3 := hg0.cell 3
  have C1 := hid (fun W h => frameOf_any z 3 (.slice ao L.length cap) L W h hk)
  have c0 := fun W => bare_any st W
  have hbx : bareX (mt == [72, 69, 65, 68]) st = ((mt == [72, 69, 65, 68]) || (decide (st < 200) || st == 204 || st == 304)) := rfl
  obtain ⟨q2, hq2⟩ : ∃ q, (decide (st < 200) || st == 204 || st == 304) = q := ⟨_, rfl⟩
  rw [hq2] at hbx c0
  have HR := hid hr
  have C0 := hid c0
  clear hr hk c0 hq2
  cases hq1 : (mt == [72, 69, 65, 68]) with
  | true =>
    rw [hq1, Bool.true_or] at hbx
    rw [hbx, if_pos rfl]
    rw [hW] at e0 e1 e2 e3
    go_enter Tryz.func28, Tryz.ntmps28
    go_wp2_with fail
    rw [← hW]
    refine bodyPost_ret (results_row2 Tryz.results28 _ _ (w.heap.size + 1) _ rfl hr0 Tryz.underlying80 rfl infoFrS) rfl ?_
    exact ⟨rfl, hb0⟩
  | false =>
    rw [hq1, Bool.false_or] at hbx
    rw [hbx]
    have h0 : W.cell? ⟨w.heap.size, 0, none⟩ = some (.int .i64 st) := e0
    rw [hW] at e0 e1 e2 e3
    cases q2 with
    | true =>
      go_enter Tryz.func28, Tryz.ntmps28
      go_wp2_with fail
      rw [← hW]
      clear hW e0 e1 e2 e3
      refine (C0.out _).mono ?_
      rintro e w1 ⟨rfl, rfl⟩
      go_wp2_with (refine wpList_store_row rfl 80 _ _ rfl (w.heap.size + 1) _ rfl rfl 80 #[.int .i64 0, .int .i64 0] hr0 infoFrS rfl (oneF 0 0) ?_)
      refine bodyPost_ret (results_row2 Tryz.results28 _ _ (w.heap.size + 1) _ rfl (hr0.setRow _) Tryz.underlying80 rfl infoFrS) rfl ?_
      exact ⟨rfl, below_setRow hb0 (Nat.le_succ _) _⟩
    | false =>
      have k0 := hg0.cell 0
      have k1 := hg0.cell 1
      have k2 := hg0.cell 2
      have k3 := hg0.cell 3
      go_enter Tryz.func28, Tryz.ntmps28
      go_wp2_with fail
      rw [← hW]
      clear hW e0 e1 e2 e3
      refine (C0.out _).mono ?_
      rintro e w1 ⟨rfl, rfl⟩
      go_wp2_with fail
      refine (C1.out _ (HR.out.below hb0)).mono ?_
      rintro e w1 ⟨hf, hb1⟩
      obtain ⟨t1, t2, t3, ht, rfl⟩ := hf.form
      have hr1 := hr0.below hb1
      have hbA := chain2 hb0 hb0.size hb1
      clear hg0 hr0 hb0 hb1 C1 hf k0 k1 k2 k3
      go_wp2_with (refine wpList_store_row rfl 80 _ _ rfl (w.heap.size + 1) _ rfl rfl 80 #[.int .i64 0, .int .i64 0] hr1 infoFrS rfl (oneF t1 t2) ?_)
      refine bodyPost_ret (results_row2 Tryz.results28 _ _ (w.heap.size + 1) _ rfl (hr1.setRow _) Tryz.underlying80 rfl infoFrS) rfl ?_
      exact ⟨by unfold FrameIs; simp only; rw [ht]; rfl, below_setRow hbA (Nat.le_succ _) _⟩
end Go.Proofs.YtefplhkjcclppaaGreatDoor
/-
  Contract of pantrymade.Request.
-/
namespace Go.Proofs.YtefplhkjcclppaaGreatDoor
open Go.RowKit Go.Pantry

theorem infoHdS : (Tryz.prog.info? 47).map (·.size) = some 5 := by kernel_rfl
theorem one5 (a b : List UInt8) (x y : Int) (ao : Option Addr) (n c : Nat) : (#[strV a, strV b, .int .i64 x, .int .i64 y, .slice ao n c] : Array Value).all (·.oneCell') = true := by simp [Value.oneCell']
/-- a head as the document has it, made -/
def MadeHd (m t : List UInt8) (st z : Int) (L : List Fld) (e : Ending) (w' : World) : Prop := ∃ ao c, e = .returned (.agg #[strV m, strV t, .int .i64 st, .int .i64 z, .slice ao L.length c]) ∧ Reads2 w' (.slice ao L.length c) L
def MadeS (w0 : World) (g : Nat) (cs : Array Value) (t : TypeId) (r : Nat) (u : TypeId) : World → Prop := fun W => Below w0.heap.size w0 W ∧ w0.heap.size ≤ W.heap.size ∧ rowIs W g cs t ∧ ∃ ds, rowIs W r ds u ∧ ds.size = 5
theorem MadeS.below {w0 : World} {g : Nat} {cs : Array Value} {t : TypeId} {r : Nat} {u : TypeId} {W W' : World} (h : MadeS w0 g cs t r u W) (hb : Below W.heap.size W W') : MadeS w0 g cs t r u W' := by
  obtain ⟨h1, h2, h3, ds, h4, h5⟩ := h
  exact ⟨h1.trans (hb.mono h2), Nat.le_trans h2 hb.size, h3.below hb, ds, h4.below hb, h5⟩
theorem MadeS.stored {w0 : World} {g : Nat} {cs : Array Value} {t : TypeId} {r : Nat} {u : TypeId} {W : World} (h : MadeS w0 g cs t r u W) {ds : Array Value} (hd : ds.size = 5) (hr : w0.heap.size ≤ r) (hne : g ≠ r) : MadeS w0 g cs t r u (W.setRow r ds) := by
  obtain ⟨h1, h2, h3, es, h4, h5⟩ := h
  exact ⟨below_setRow h1 hr _, Nat.le_trans h2 (by simp [World.setRow]), h3.setRow_other ds hne, ds, h4.setRow ds, hd⟩
set_option maxRecDepth 100000 in
set_option maxHeartbeats 4000000 in
theorem madeReq_any (m t : List UInt8) (z : Int) (v : Value) (L : List Fld) (w : World) (hr : Reads2 w v L) (hn : L.length < 1000000) :
    Calls Tryz.prog 11 #[.agg #[strV m, strV t, .int .i64 z, v]] w fun e w' => MadeHd m t 0 z L e w' ∧ Below w.heap.size w w' := by
  obtain ⟨ao, cap, rfl⟩ := hr.form
  have cf := fun W h => Fields_any (.slice ao L.length cap) L W h hn
  have CF := hid cf
  have HR := hid hr
  clear cf hr
  obtain ⟨W, hW⟩ : ∃ W, W = (w.alloc (.cells #[strV m, strV t, .int .i64 z, .slice ao L.length cap] 40)).alloc (.cells #[.string ⟨#[]⟩, .string ⟨#[]⟩, .int .i64 0, .int .i64 0, .slice none 0 0] 47) := ⟨_, rfl⟩
  have hbW : Below w.heap.size w W := by rw [hW]; exact (below_alloc _ _).alloc (by simp) _
  have hg : rowIs W w.heap.size #[strV m, strV t, .int .i64 z, .slice ao L.length cap] 40 := by rw [hW]; exact (rowIs_new _ _ _).below (below_alloc _ _)
  have hg2 : rowIs W (w.heap.size + 1) #[.string ⟨#[]⟩, .string ⟨#[]⟩, .int .i64 0, .int .i64 0, .slice none 0 0] 47 := by rw [hW]; exact rowIs_new_at _ _ _ _ (by simp)
  have HS : MadeS w w.heap.size #[strV m, strV t, .int .i64 z, .slice ao L.length cap] 40 (w.heap.size + 1) 47 W.drew := ⟨hbW.drew, hbW.size, hg, ⟨_, hg2, rfl⟩⟩
  have hne : w.heap.size ≠ w.heap.size + 1 := by omega
  have hrl : w.heap.size + 1 < W.drew.heap.size := hg2.lt
  clear hbW hg hg2
  go_enter Tryz.func11, Tryz.ntmps11
  go_wp2_with fail
  rw [← hW]
  clear hW
  refine wp_region_held_drew (S := MadeS w w.heap.size #[strV m, strV t, .int .i64 z, .slice ao L.length cap] 40 (w.heap.size + 1) 47) (by kernel_rfl) HS (fun hH => ?_)
  refine wpAnyH_take (i := 0) (v := ?_) rfl (by kernel_rfl) (by kernel_rfl) (by kernel_rfl) (fun _ _ _ h => h) (Or.inl ⟨by kernel_rfl, ?_⟩) hH ?_
  rotate_left
  · intro W hS
    have h0 := hS.2.2.1.cell 0
    have h1 := hS.2.2.1.cell 1
    have h2 := hS.2.2.1.cell 2
    have h3 := hS.2.2.1.cell 3
    go_simp
    first | done | with_reducible rfl
  simp only [Act.put, List.getElem_toArray, List.getElem_cons_zero, List.setIfInBounds_toArray, List.set_cons_zero, List.set_cons_succ]
  refine wpAnyH_take (i := 1) (v := ?_) rfl (by kernel_rfl) (by kernel_rfl) (by kernel_rfl) (fun _ _ _ h => h) (Or.inl ⟨by kernel_rfl, ?_⟩) hH ?_
  rotate_left
  · intro W hS
    have h0 := hS.2.2.1.cell 0
    have h1 := hS.2.2.1.cell 1
    have h2 := hS.2.2.1.cell 2
    have h3 := hS.2.2.1.cell 3
    go_simp
    first | done | with_reducible rfl
  simp only [Act.put, List.getElem_toArray, List.getElem_cons_succ, List.getElem_cons_zero, List.setIfInBounds_toArray, List.set_cons_zero, List.set_cons_succ]
  refine wpAnyH_take (i := 2) (v := ?_) rfl (by kernel_rfl) (by kernel_rfl) (by kernel_rfl) (fun _ _ _ h => h) (Or.inl ⟨by kernel_rfl, ?_⟩) hH ?_
  rotate_left
  · intro W hS
    have h0 := hS.2.2.1.cell 0
    have h1 := hS.2.2.1.cell 1
    have h2 := hS.2.2.1.cell 2
    have h3 := hS.2.2.1.cell 3
    go_simp
    first | done | with_reducible rfl
  simp only [Act.put, List.getElem_toArray, List.getElem_cons_succ, List.getElem_cons_zero, List.setIfInBounds_toArray, List.set_cons_zero, List.set_cons_succ]
  refine wpAnyH_take (i := 3) (v := ?_) rfl (by kernel_rfl) (by kernel_rfl) (by kernel_rfl) (fun _ _ _ h => h) (Or.inl ⟨by kernel_rfl, ?_⟩) hH ?_
  rotate_left
  · intro W hS
    have h0 := hS.2.2.1.cell 0
    have h1 := hS.2.2.1.cell 1
    have h2 := hS.2.2.1.cell 2
    have h3 := hS.2.2.1.cell 3
    go_simp
    first | done | with_reducible rfl
  simp only [Act.put, List.getElem_toArray, List.getElem_cons_succ, List.getElem_cons_zero, List.setIfInBounds_toArray, List.set_cons_zero, List.set_cons_succ]
  refine wpAnyH_take (i := 4) (v := ?_) rfl (by kernel_rfl) (by kernel_rfl) (by kernel_rfl) (fun _ _ _ h => h) (Or.inl ⟨by kernel_rfl, ?_⟩) hH ?_
  rotate_left
  · intro W hS
    have h0 := hS.2.2.1.cell 0
    have h1 := hS.2.2.1.cell 1
    have h2 := hS.2.2.1.cell 2
    have h3 := hS.2.2.1.cell 3
    go_simp
    first | done | with_reducible rfl
  simp only [Act.put, List.getElem_toArray, List.getElem_cons_succ, List.getElem_cons_zero, List.setIfInBounds_toArray, List.set_cons_zero, List.set_cons_succ]
  refine wpAnyH_take (i := 5) (v := ?_) rfl (by kernel_rfl) (by kernel_rfl) (by kernel_rfl) (fun _ _ _ h => h) (Or.inl ⟨by kernel_rfl, ?_⟩) hH ?_
  rotate_left
  · intro W hS
    have h0 := hS.2.2.1.cell 0
    have h1 := hS.2.2.1.cell 1
    have h2 := hS.2.2.1.cell 2
    have h3 := hS.2.2.1.cell 3
    go_simp
    first | done | with_reducible rfl
  simp only [Act.put, List.getElem_toArray, List.getElem_cons_succ, List.getElem_cons_zero, List.setIfInBounds_toArray, List.set_cons_zero, List.set_cons_succ]
  refine wpAnyH_take (i := 6) (v := ?_) rfl (by kernel_rfl) (by kernel_rfl) (by kernel_rfl) (fun _ _ _ h => h) (Or.inl ⟨by kernel_rfl, ?_⟩) hH ?_
  rotate_left
  · intro W hS
    have h0 := hS.2.2.1.cell 0
    have h1 := hS.2.2.1.cell 1
    have h2 := hS.2.2.1.cell 2
    have h3 := hS.2.2.1.cell 3
    go_simp
    first | done | with_reducible rfl
  simp only [Act.put, List.getElem_toArray, List.getElem_cons_succ, List.getElem_cons_zero, List.setIfInBounds_toArray, List.set_cons_zero, List.set_cons_succ]
  refine wpAnyH_take (i := 7) (v := ?_) rfl (by kernel_rfl) (by kernel_rfl) (by kernel_rfl) (fun _ _ _ h => h) (Or.inl ⟨by kernel_rfl, ?_⟩) hH ?_
  rotate_left
  · intro W hS
    have h0 := hS.2.2.1.cell 0
    have h1 := hS.2.2.1.cell 1
    have h2 := hS.2.2.1.cell 2
    have h3 := hS.2.2.1.cell 3
    go_simp
    first | done | with_reducible rfl
  simp only [Act.put, List.getElem_toArray, List.getElem_cons_succ, List.getElem_cons_zero, List.setIfInBounds_toArray, List.set_cons_zero, List.set_cons_succ]
  refine wpAnyH_take (i := 8) (v := ?_) rfl (by kernel_rfl) (by kernel_rfl) (by kernel_rfl) (fun _ _ _ h => h) (Or.inl ⟨by kernel_rfl, ?_⟩) hH ?_
  rotate_left
  · intro W hS
    have h0 := hS.2.2.1.cell 0
    have h1 := hS.2.2.1.cell 1
    have h2 := hS.2.2.1.cell 2
    have h3 := hS.2.2.1.cell 3
    go_simp
    first | done | with_reducible rfl
  simp only [Act.put, List.getElem_toArray, List.getElem_cons_succ, List.getElem_cons_zero, List.setIfInBounds_toArray, List.set_cons_zero, List.set_cons_succ]
  refine wpAnyH_take (i := 9) (v := ?_) rfl (by kernel_rfl) (by kernel_rfl) (by kernel_rfl) (fun _ _ _ h => h) (Or.inl ⟨by kernel_rfl, ?_⟩) hH ?_
  rotate_left
  · intro W hS
    have h0 := hS.2.2.1.cell 0
    have h1 := hS.2.2.1.cell 1
    have h2 := hS.2.2.1.cell 2
    have h3 := hS.2.2.1.cell 3
    go_simp
    first | done | with_reducible rfl
  simp only [Act.put, List.getElem_toArray, List.getElem_cons_succ, List.getElem_cons_zero, List.setIfInBounds_toArray, List.set_cons_zero, List.set_cons_succ]
  refine wpAnyH_ready (rs := [10]) (by kernel_rfl) (by simp) ?_
  refine AllReadyH.cons rfl (fun K hK => ?_) AllReadyH.nil
  go_simp
  refine (CF.out _ (HR.out.below (hH.1))).mono ?_
  rintro e w9 ⟨v2, rfl, ho2, hb9⟩
  obtain ⟨ao2, c2, rfl⟩ := ownsRow_form2 ho2
  have hS1 := MadeS.below hH hb9
  have hrd := (ho2.reads2).2
  refine hK.out _ _ hS1 (fun hH => ?_)
  clear hK K
  try simp only [Act.put, List.getElem_toArray, List.getElem_cons_succ, List.getElem_cons_zero, List.setIfInBounds_toArray, List.set_cons_zero, List.set_cons_succ]
  refine wpAnyH_take (i := 11) (v := ?_) rfl (by kernel_rfl) (by kernel_rfl) (by kernel_rfl) (fun _ _ _ h => h) (Or.inl ⟨by kernel_rfl, ?_⟩) hH ?_
  rotate_left
  · intro W hS
    have h0 := hS.2.2.1.cell 0
    have h1 := hS.2.2.1.cell 1
    have h2 := hS.2.2.1.cell 2
    have h3 := hS.2.2.1.cell 3
    go_simp
    first | done | with_reducible rfl
  simp only [Act.put, List.getElem_toArray, List.getElem_cons_succ, List.getElem_cons_zero, List.setIfInBounds_toArray, List.set_cons_zero, List.set_cons_succ]
  refine wpAnyH_ready (rs := [12]) (by kernel_rfl) (by simp) ?_
  refine AllReadyH.cons rfl (fun K hK => ?_) AllReadyH.nil
  obtain ⟨ds, hds, hdz⟩ := hH.2.2.2
  refine wp_store_row 47 _ _ rfl (w.heap.size + 1) #[strV m, strV t, .int .i64 0, .int .i64 z, .slice ao2 L.length c2] rfl rfl 47 ds hds infoHdS hdz (one5 m t 0 z ao2 L.length c2) ?_
  have hS1 := MadeS.stored hH (ds := #[strV m, strV t, .int .i64 0, .int .i64 z, .slice ao2 L.length c2]) rfl (by omega) hne
  refine hK.out _ _ hS1 (fun hH => ?_)
  clear hK K
  try simp only [Act.put, List.getElem_toArray, List.getElem_cons_succ, List.getElem_cons_zero]
  refine wpAnyH_done (by kernel_rfl) ?_ _
  go_wp2_with fail
  refine bodyPost_ret (results_row Tryz.results11 _ _ (w.heap.size + 1) _ rfl (hds.setRow #[strV m, strV t, .int .i64 0, .int .i64 z, .slice ao2 L.length c2]) Tryz.underlying47 rfl infoHdS) rfl ?_
  exact ⟨⟨ao2, c2, rfl, ((ownsRow_far2 ho2 fun k hk => _root_.Go.setRow_other _ _ _ _ (by omega)).reads2).2⟩, hH.1⟩
end Go.Proofs.YtefplhkjcclppaaGreatDoor
/-
  Contract of pantrymade.Response.
-/
namespace Go.Proofs.YtefplhkjcclppaaGreatDoor
open Go.RowKit Go.Pantry

set_option maxRecDepth 100000 in
set_option maxHeartbeats 4000000 in
theorem madeRes_any (st : Int) (m : List UInt8) (z : Int) (v : Value) (L : List Fld) (w : World) (hr : Reads2 w v L) (hn : L.length < 1000000) :
    Calls Tryz.prog 14 #[.agg #[.int .i64 st, strV m, .int .i64 z, v]] w fun e w' => MadeHd m [] st z L e w' ∧ Below w.heap.size w w' := by
  obtain ⟨ao, cap, rfl⟩ := hr.form
  have cf := fun W h => Fields_any (.slice ao L.length cap) L W h hn
  have CF := hid cf
  have HR := hid hr
  clear cf hr
  obtain ⟨W, hW⟩ : ∃ W, W = (w.alloc (.cells #[.int .i64 st, strV m, .int .i64 z, .slice ao L.length cap] 53)).alloc (.cells #[.string ⟨#[]⟩, .string ⟨#[]⟩, .int .i64 0, .int .i64 0, .slice none 0 0] 47) := ⟨_, rfl⟩
  have hbW : Below w.heap.size w W := by rw [hW]; exact (below_alloc _ _).alloc (by simp) _
  have hg : rowIs W w.heap.size #[.int .i64 st, strV m, .int .i64 z, .slice ao L.length cap] 53 := by rw [hW]; exact (rowIs_new _ _ _).below (below_alloc _ _)
  have hg2 : rowIs W (w.heap.size + 1) #[.string ⟨#[]⟩, .string ⟨#[]⟩, .int .i64 0, .int .i64 0, .slice none 0 0] 47 := by rw [hW]; exact rowIs_new_at _ _ _ _ (by simp)
  have HS : MadeS w w.heap.size #[.int .i64 st, strV m, .int .i64 z, .slice ao L.length cap] 53 (w.heap.size + 1) 47 W.drew := ⟨hbW.drew, hbW.size, hg, ⟨_, hg2, rfl⟩⟩
  have hne : w.heap.size ≠ w.heap.size + 1 := by omega
  have hrl : w.heap.size + 1 < W.drew.heap.size := hg2.lt
  clear hbW hg hg2
  go_enter Tryz.func14, Tryz.ntmps14
  go_wp2_with fail
  rw [← hW]
  clear hW
  refine wp_region_held_drew (S := MadeS w w.heap.size #[.int .i64 st, strV m, .int .i64 z, .slice ao L.length cap] 53 (w.heap.size + 1) 47) (by kernel_rfl) HS (fun hH => ?_)
  refine wpAnyH_take (i := 0) (v := ?_) rfl (by kernel_rfl) (by kernel_rfl) (by kernel_rfl) (fun _ _ _ h => h) (Or.inl ⟨by kernel_rfl, ?_⟩) hH ?_
  rotate_left
  · intro W hS
    have h0 := hS.2.2.1.cell 0
    have h1 := hS.2.2.1.cell 1
    have h2 := hS.2.2.1.cell 2
    have h3 := hS.2.2.1.cell 3
    go_simp
    first | done | with_reducible rfl
  simp only [Act.put, List.getElem_toArray, List.getElem_cons_zero, List.setIfInBounds_toArray, List.set_cons_zero, List.set_cons_succ]
  refine wpAnyH_take (i := 1) (v := ?_) rfl (by kernel_rfl) (by kernel_rfl) (by kernel_rfl) (fun _ _ _ h => h) (Or.inl ⟨by kernel_rfl, ?_⟩) hH ?_
  rotate_left
  · intro W hS
    have h0 := hS.2.2.1.cell 0
    have h1 := hS.2.2.1.cell 1
    have h2 := hS.2.2.1.cell 2
    have h3 := hS.2.2.1.cell 3
    go_simp
    first | done | with_reducible rfl
  simp only [Act.put, List.getElem_toArray, List.getElem_cons_succ, List.getElem_cons_zero, List.setIfInBounds_toArray, List.set_cons_zero, List.set_cons_succ]
  refine wpAnyH_take (i := 2) (v := ?_) rfl (by kernel_rfl) (by kernel_rfl) (by kernel_rfl) (fun _ _ _ h => h) (Or.inl ⟨by kernel_rfl, ?_⟩) hH ?_
  rotate_left
  · intro W hS
    have h0 := hS.2.2.1.cell 0
    have h1 := hS.2.2.1.cell 1
    have h2 := hS.2.2.1.cell 2
    have h3 := hS.2.2.1.cell 3
    go_simp
    first | done | with_reducible rfl
  simp only [Act.put, List.getElem_toArray, List.getElem_cons_succ, List.getElem_cons_zero, List.setIfInBounds_toArray, List.set_cons_zero, List.set_cons_succ]
  refine wpAnyH_take (i := 3) (v := ?_) rfl (by kernel_rfl) (by kernel_rfl) (by kernel_rfl) (fun _ _ _ h => h) (Or.inl ⟨by kernel_rfl, ?_⟩) hH ?_
  rotate_left
  · intro W hS
    have h0 := hS.2.2.1.cell 0
    have h1 := hS.2.2.1.cell 1
    have h2 := hS.2.2.1.cell 2
    have h3 := hS.2.2.1.cell 3
    go_simp
    first | done | with_reducible rfl
  simp only [Act.put, List.getElem_toArray, List.getElem_cons_succ, List.getElem_cons_zero, List.setIfInBounds_toArray, List.set_cons_zero, List.set_cons_succ]
  refine wpAnyH_take (i := 4) (v := ?_) rfl (by kernel_rfl) (by kernel_rfl) (by kernel_rfl) (fun _ _ _ h => h) (Or.inl ⟨by kernel_rfl, ?_⟩) hH ?_
  rotate_left
  · intro W hS
    have h0 := hS.2.2.1.cell 0
    have h1 := hS.2.2.1.cell 1
    have h2 := hS.2.2.1.cell 2
    have h3 := hS.2.2.1.cell 3
    go_simp
    first | done | with_reducible rfl
  simp only [Act.put, List.getElem_toArray, List.getElem_cons_succ, List.getElem_cons_zero, List.setIfInBounds_toArray, List.set_cons_zero, List.set_cons_succ]
  refine wpAnyH_take (i := 5) (v := ?_) rfl (by kernel_rfl) (by kernel_rfl) (by kernel_rfl) (fun _ _ _ h => h) (Or.inl ⟨by kernel_rfl, ?_⟩) hH ?_
  rotate_left
  · intro W hS
    have h0 := hS.2.2.1.cell 0
    have h1 := hS.2.2.1.cell 1
    have h2 := hS.2.2.1.cell 2
    have h3 := hS.2.2.1.cell 3
    go_simp
    first | done | with_reducible rfl
  simp only [Act.put, List.getElem_toArray, List.getElem_cons_succ, List.getElem_cons_zero, List.setIfInBounds_toArray, List.set_cons_zero, List.set_cons_succ]
  refine wpAnyH_take (i := 6) (v := ?_) rfl (by kernel_rfl) (by kernel_rfl) (by kernel_rfl) (fun _ _ _ h => h) (Or.inl ⟨by kernel_rfl, ?_⟩) hH ?_
  rotate_left
  · intro W hS
    have h0 := hS.2.2.1.cell 0
    have h1 := hS.2.2.1.cell 1
    have h2 := hS.2.2.1.cell 2
    have h3 := hS.2.2.1.cell 3
    go_simp
    first | done | with_reducible rfl
  simp only [Act.put, List.getElem_toArray, List.getElem_cons_succ, List.getElem_cons_zero, List.setIfInBounds_toArray, List.set_cons_zero, List.set_cons_succ]
  refine wpAnyH_take (i := 7) (v := ?_) rfl (by kernel_rfl) (by kernel_rfl) (by kernel_rfl) (fun _ _ _ h => h) (Or.inl ⟨by kernel_rfl, ?_⟩) hH ?_
  rotate_left
  · intro W hS
    have h0 := hS.2.2.1.cell 0
    have h1 := hS.2.2.1.cell 1
    have h2 := hS.2.2.1.cell 2
    have h3 := hS.2.2.1.cell 3
    go_simp
    first | done | with_reducible rfl
  simp only [Act.put, List.getElem_toArray, List.getElem_cons_succ, List.getElem_cons_zero, List.setIfInBounds_toArray, List.set_cons_zero, List.set_cons_succ]
  refine wpAnyH_take (i := 8) (v := ?_) rfl (by kernel_rfl) (by kernel_rfl) (by kernel_rfl) (fun _ _ _ h => h) (Or.inl ⟨by kernel_rfl, ?_⟩) hH ?_
  rotate_left
  · intro W hS
    have h0 := hS.2.2.1.cell 0
    have h1 := hS.2.2.1.cell 1
    have h2 := hS.2.2.1.cell 2
    have h3 := hS.2.2.1.cell 3
    go_simp
    first | done | with_reducible rfl
  simp only [Act.put, List.getElem_toArray, List.getElem_cons_succ, List.getElem_cons_zero, List.setIfInBounds_toArray, List.set_cons_zero, List.set_cons_succ]
  refine wpAnyH_take (i := 9) (v := ?_) rfl (by kernel_rfl) (by kernel_rfl) (by kernel_rfl) (fun _ _ _ h => h) (Or.inl ⟨by kernel_rfl, ?_⟩) hH ?_
  rotate_left
  · intro W hS
    have h0 := hS.2.2.1.cell 0
    have h1 := hS.2.2.1.cell 1
    have h2 := hS.2.2.1.cell 2
    have h3 := hS.2.2.1.cell 3
    go_simp
    first | done | with_reducible rfl
  simp only [Act.put, List.getElem_toArray, List.getElem_cons_succ, List.getElem_cons_zero, List.setIfInBounds_toArray, List.set_cons_zero, List.set_cons_succ]
  refine wpAnyH_ready (rs := [10]) (by kernel_rfl) (by simp) ?_
  refine AllReadyH.cons rfl (fun K hK => ?_) AllReadyH.nil
  go_simp
  refine (CF.out _ (HR.out.below (hH.1))).mono ?_
  rintro e w9 ⟨v2, rfl, ho2, hb9⟩
  obtain ⟨ao2, c2, rfl⟩ := ownsRow_form2 ho2
  have hS1 := MadeS.below hH hb9
  have hrd := (ho2.reads2).2
  refine hK.out _ _ hS1 (fun hH => ?_)
  clear hK K
  try simp only [Act.put, List.getElem_toArray, List.getElem_cons_succ, List.getElem_cons_zero, List.setIfInBounds_toArray, List.set_cons_zero, List.set_cons_succ]
  refine wpAnyH_take (i := 11) (v := ?_) rfl (by kernel_rfl) (by kernel_rfl) (by kernel_rfl) (fun _ _ _ h => h) (Or.inl ⟨by kernel_rfl, ?_⟩) hH ?_
  rotate_left
  · intro W hS
    have h0 := hS.2.2.1.cell 0
    have h1 := hS.2.2.1.cell 1
    have h2 := hS.2.2.1.cell 2
    have h3 := hS.2.2.1.cell 3
    go_simp
    first | done | with_reducible rfl
  simp only [Act.put, List.getElem_toArray, List.getElem_cons_succ, List.getElem_cons_zero, List.setIfInBounds_toArray, List.set_cons_zero, List.set_cons_succ]
  refine wpAnyH_ready (rs := [12]) (by kernel_rfl) (by simp) ?_
  refine AllReadyH.cons rfl (fun K hK => ?_) AllReadyH.nil
  obtain ⟨ds, hds, hdz⟩ := hH.2.2.2
  refine wp_store_row 47 _ _ rfl (w.heap.size + 1) #[strV m, strV [], .int .i64 st, .int .i64 z, .slice ao2 L.length c2] rfl rfl 47 ds hds infoHdS hdz (one5 m [] st z ao2 L.length c2) ?_
  have hS1 := MadeS.stored hH (ds := #[strV m, strV [], .int .i64 st, .int .i64 z, .slice ao2 L.length c2]) rfl (by omega) hne
  refine hK.out _ _ hS1 (fun hH => ?_)
  clear hK K
  try simp only [Act.put, List.getElem_toArray, List.getElem_cons_succ, List.getElem_cons_zero]
  refine wpAnyH_done (by kernel_rfl) ?_ _
  go_wp2_with fail
  refine bodyPost_ret (results_row Tryz.results14 _ _ (w.heap.size + 1) _ rfl (hds.setRow #[strV m, strV [], .int .i64 st, .int .i64 z, .slice ao2 L.length c2]) Tryz.underlying47 rfl infoHdS) rfl ?_
  exact ⟨⟨ao2, c2, rfl, ((ownsRow_far2 ho2 fun k hk => _root_.Go.setRow_other _ _ _ _ (by omega)).reads2).2⟩, hH.1⟩
end Go.Proofs.YtefplhkjcclppaaGreatDoor
namespace Go.Proofs.YtefplhkjcclppaaGreatDoor
open Go.RowKit Go.Pantry
end Go.Proofs.YtefplhkjcclppaaGreatDoor
