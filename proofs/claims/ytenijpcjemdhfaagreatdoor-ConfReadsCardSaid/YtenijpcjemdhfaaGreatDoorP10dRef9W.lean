/-
  The document's words: comment, plain; what Words makes.
-/
import Derived.Test.YtenijpcjemdhfaaGreatDoorP10d02
import Derived.Test.YtenijpcjemdhfaaGreatDoorHeldA
import Derived.Test.YtenijpcjemdhfaaGreatDoorPureWords
import Derived.Test.YtenijpcjemdhfaaGreatDoorP10d03
namespace Go.Pantry
open Go.RowKit
theorem plain_byte (c : UInt8) : (c != 32 && c != 9 && c != 10 && c != 123 && c != 125 && c != 59) = !(isGap c || isMark c) := by
  have h := byte_all (p := fun c => (c != 32 && c != 9 && c != 10 && c != 123 && c != 125 && c != 59) == !(isGap c || isMark c)) (by decide +kernel) c
  exact beq_iff_eq.1 h
theorem rem_two {t : List UInt8} {i : Nat} : remB (t.drop i) = (t[i]? == some 47 && t[i + 1]? == some 47) := by
  unfold remB
  rw [← List.getElem?_drop (i := i) (j := 1)]
  have h0 : t[i]? = (t.drop i)[0]? := by rw [List.getElem?_drop]; rfl
  rw [h0]
  match t.drop i with
  | [] => rfl
  | [c] => simp [List.isPrefixOf]
  | c :: d :: r =>
    have a : ∀ x y : UInt8, (x == y) = (y == x) := fun x y => BEq.comm
    simp [List.isPrefixOf, a 47 c, a 47 d]
end Go.Pantry
namespace Go.Proofs.YtenijpcjemdhfaaGreatDoor
open Go.RowKit Go.Pantry

theorem plain_any (c : UInt8) (w : World) :
    Calls Tryz.prog 55 #[byteV c] w fun e w' => e = .returned (.bool (!(isGap c || isMark c))) ∧ w = w' := by
  rw [← plain_byte]
  have k1 : (c != 32) = !((c.toNat : Int) == 32) := by unfold bne; rw [byte_beq c 32 (z := 32) (by decide)]
  have k2 : (c != 9) = !((c.toNat : Int) == 9) := by unfold bne; rw [byte_beq c 9 (z := 9) (by decide)]
  have k3 : (c != 10) = !((c.toNat : Int) == 10) := by unfold bne; rw [byte_beq c 10 (z := 10) (by decide)]
  have k4 : (c != 123) = !((c.toNat : Int) == 123) := by unfold bne; rw [byte_beq c 123 (z := 123) (by decide)]
  have k5 : (c != 125) = !((c.toNat : Int) == 125) := by unfold bne; rw [byte_beq c 125 (z := 125) (by decide)]
  have k6 : (c != 59) = !((c.toNat : Int) == 59) := by unfold bne; rw [byte_beq c 59 (z := 59) (by decide)]
  rw [k1, k2, k3, k4, k5, k6]
  clear k1 k2 k3 k4 k5 k6
  go_enter Tryz.func55, Tryz.ntmps55
  go_wp2
  all_goals
    go_ret
    exact ⟨ret_bool (by first | rfl | simp_all), rfl⟩
theorem comment_any (s : ByteArray) (i : Nat) (w : World) (hi : i ≤ s.size) (hs : s.size ≤ 100000) :
    Calls Tryz.prog 54 #[.string s, .int .i64 (i : Int)] w fun e w' => e = .returned (.bool (remB (s.data.toList.drop i))) ∧ w = w' := by
  rw [rem_two]
  have hw : IntKind.i64.wrap ((i : Int) + 1) = ((i + 1 : Nat) : Int) := by rw [IntWalk.i64_in _ (by omega)]; omega
  by_cases h : i + 1 < s.size
  · have h0 : i < s.size := by omega
    have e0 : s.data.toList[i]? = some s[i] := by rw [List.getElem?_eq_getElem (by rw [size_list]; exact h0)]; rfl
    have e1 : s.data.toList[i + 1]? = some s[i + 1] := by rw [List.getElem?_eq_getElem (by rw [size_list]; exact h)]; rfl
    rw [e0, e1]
    have k1 : (some s[i] == some (47 : UInt8)) = ((s[i].toNat : Int) == 47) := by
      rw [← byte_beq s[i] 47 (z := 47) (by decide)]; rfl
    have k2 : (some s[i + 1] == some (47 : UInt8)) = ((s[i + 1].toNat : Int) == 47) := by
      rw [← byte_beq s[i + 1] 47 (z := 47) (by decide)]; rfl
    rw [k1, k2]
    have hI : ((i + 1 : Nat) : Int) < (s.size : Int) := by omega
    clear k1 k2 e0 e1
    go_enter Tryz.func54, Tryz.ntmps54
    go_wp2
    all_goals
      go_ret
      exact ⟨ret_bool (by first | rfl | simp_all), rfl⟩
  · have e1 : s.data.toList[i + 1]? = none := by rw [List.getElem?_eq_none]; rw [size_list]; omega
    rw [e1]
    have hI : ¬ ((i + 1 : Nat) : Int) < (s.size : Int) := by omega
    clear e1
    go_enter Tryz.func54, Tryz.ntmps54
    go_wp2
    go_ret
    exact ⟨ret_bool (by simp), rfl⟩
abbrev pRow (wv lv : Value) (i c a : Nat) : Array Value := #[wv, lv, .int .i64 (i : Int), .int .i64 (c : Int), .int .i64 (a : Int)]
/-- the document's reader: its box, its words, their lines -/
structure PAt (w : World) (g : Nat) (wv lv : Value) (W : List (List UInt8)) (Ln : List Nat) (i c a : Nat) : Prop where
  row : rowIs w g (pRow wv lv i c a) 90
  ow : w.ownsRow 0 9 1 wv W.length (W.map strV)
  ol : w.ownsRow 0 3 1 lv Ln.length (Ln.map fun n : Nat => Value.int .i64 (n : Int))
  aw : In (fun k => g < k) wv
  al : In (fun k => g < k) lv
  ne : ∀ k, wv.ownBlock = some k → ¬ lv.ownBlock = some k
theorem PAt.kept {X : Nat → Prop} {w w' : World} {g : Nat} {wv lv : Value} {W : List (List UInt8)} {Ln : List Nat} {i c a : Nat} (h : PAt w g wv lv W Ln i c a) (hk : Kept X w w') (hx : ∀ k, g ≤ k → k < w.heap.size → ¬ X k) : PAt w' g wv lv W Ln i c a :=
  ⟨h.row.kept hk (hx g (Nat.le_refl _) h.row.lt), ownsRow_kept h.ow hk (fun k e => hx k (Nat.le_of_lt (h.aw k e)) (h.ow.lt k e).2), ownsRow_kept h.ol hk (fun k e => hx k (Nat.le_of_lt (h.al k e)) (h.ol.lt k e).2), h.aw, h.al, h.ne⟩
theorem PAt.below {w w' : World} {g : Nat} {wv lv : Value} {W : List (List UInt8)} {Ln : List Nat} {i c a : Nat} (h : PAt w g wv lv W Ln i c a) (hb : Below w.heap.size w w') : PAt w' g wv lv W Ln i c a :=
  h.kept (Kept.of_below (X := fun _ => False) hb) (fun _ _ _ h => h)
/-- a word more: behind append, ahead of the store -/
theorem PAt.pushW {w w1 w2 : World} {g : Nat} {wv lv v' : Value} {W : List (List UInt8)} {Ln : List Nat} {i c a : Nat} {x : List UInt8} (h : PAt w g wv lv W Ln i c a) (hb : Below w.heap.size w w1)
    (ho : w2.ownsRow 0 9 1 v' (W.length + 1) (W.map strV ++ [strV x])) (hg : w1.grownBy w2 wv.ownBlock) (hi : In (fun k => wv.ownBlock = some k ∨ w1.heap.size ≤ k) v') :
    rowIs w2 g (pRow wv lv i c a) 90 ∧ PAt (w2.setCell ⟨g, 0, none⟩ v') g v' lv (W ++ [x]) Ln i c a ∧ Kept (fun k => g ≤ k) w (w2.setCell ⟨g, 0, none⟩ v') := by
  have h1 := h.below hb
  have kk : Kept (fun k => wv.ownBlock = some k) w1 w2 := (Kept.refl (fun k => wv.ownBlock = some k) w1).grown hg (fun k hk _ => hk)
  have r2 := h1.row.kept kk (fun e => Nat.lt_irrefl _ (h.aw g e))
  have l2 := ownsRow_kept h1.ol kk (fun k e e2 => h.ne k e2 e)
  have hg1 := h1.row.lt
  have av : In (fun k => g < k) v' := fun k hk => by
    rcases hi k hk with e | e
    · exact h.aw k e
    · omega
  have kc := (Kept.refl (fun k => k = g) w2).setCell (i := 0) (.inl rfl) v'
  refine ⟨r2, ⟨r2.setCell 0 v', ?_, ownsRow_kept l2 kc (fun k hk e => by have := h.al k hk; omega), av, h.al, fun k hk e => ?_⟩, ?_⟩
  · rw [List.length_append, List.map_append]
    exact ownsRow_kept ho kc (fun k hk e => by have := av k hk; omega)
  · rcases hi k hk with e2 | e2
    · exact h.ne k e2 e
    · have := (h1.ol.lt k e).2; omega
  · exact (((Kept.of_below (X := fun k => g ≤ k) hb).trans kk (fun k e _ => Nat.le_of_lt (h.aw k e))).trans kc (fun k e _ => Nat.le_of_eq e.symm))
theorem PAt.pushL {w w1 w2 : World} {g : Nat} {wv lv v' : Value} {W : List (List UInt8)} {Ln : List Nat} {i c a x : Nat} (h : PAt w g wv lv W Ln i c a) (hb : Below w.heap.size w w1)
    (ho : w2.ownsRow 0 3 1 v' (Ln.length + 1) (Ln.map (fun n : Nat => Value.int .i64 (n : Int)) ++ [.int .i64 (x : Int)])) (hg : w1.grownBy w2 lv.ownBlock) (hi : In (fun k => lv.ownBlock = some k ∨ w1.heap.size ≤ k) v') :
    rowIs w2 g (pRow wv lv i c a) 90 ∧ PAt (w2.setCell ⟨g, 1, none⟩ v') g wv v' W (Ln ++ [x]) i c a ∧ Kept (fun k => g ≤ k) w (w2.setCell ⟨g, 1, none⟩ v') := by
  have h1 := h.below hb
  have kk : Kept (fun k => lv.ownBlock = some k) w1 w2 := (Kept.refl (fun k => lv.ownBlock = some k) w1).grown hg (fun k hk _ => hk)
  have r2 := h1.row.kept kk (fun e => Nat.lt_irrefl _ (h.al g e))
  have l2 := ownsRow_kept h1.ow kk (fun k e e2 => h.ne k e e2)
  have hg1 := h1.row.lt
  have av : In (fun k => g < k) v' := fun k hk => by
    rcases hi k hk with e | e
    · exact h.al k e
    · omega
  have kc := (Kept.refl (fun k => k = g) w2).setCell (i := 1) (.inl rfl) v'
  refine ⟨r2, ⟨r2.setCell 1 v', ownsRow_kept l2 kc (fun k hk e => by have := h.aw k hk; omega), ?_, h.aw, av, fun k hk e => ?_⟩, ?_⟩
  · rw [List.length_append, List.map_append]
    exact ownsRow_kept ho kc (fun k hk e => by have := av k hk; omega)
  · rcases hi k e with e2 | e2
    · exact h.ne k hk e2
    · have := (h1.ow.lt k hk).2; omega
  · exact (((Kept.of_below (X := fun k => g ≤ k) hb).trans kk (fun k e _ => Nat.le_of_lt (h.al k e))).trans kc (fun k e _ => Nat.le_of_eq e.symm))
theorem reads_new_at (w : World) (xs : List Value) (e : TypeId) (cap g : Nat) (hg : g = w.heap.size) : Reads (w.alloc (.cells xs.toArray e)) (.slice (some ⟨g, 0, none⟩) xs.length cap) xs := by subst hg; exact reads_new _ _ _ _
theorem infoI : (Tryz.prog.info? 3).map (fun i => (i.zero, i.size, i.bytes)) = some (some (.int .i64 0), 1, 8) := by kernel_rfl
end Go.Proofs.YtenijpcjemdhfaaGreatDoor
