/-
  The walks of the statement BodySmuggles: what its ways share.
-/
import Derived.Test.YtefplhkjcclppaaDoorLaw06A
import Derived.Test.YtefplhkjcclppaaDoorLaw06B
import Derived.Test.YtefplhkjcclppaaDoorBodyQ
import Derived.Test.YtefplhkjcclppaaDoorOuts
import Derived.Test.YtefplhkjcclppaaDoorLaw06D
import Derived.Deep.Cut
namespace Go.Proofs.YtefplhkjcclppaaDoor
open Go.RowKit Go.Pantry

theorem ownsRow_cell_other {w : World} {B G t2 : Nat} {e : TypeId} {size : Nat} {v : Value} {n : Nat} {xs : List Value} {cs : Array Value} (h : w.ownsRow B e size v n xs) (hg : rowIs w G cs t2) (hne : t2 ≠ e) (i : Nat) (x : Value) : (w.setCell ⟨G, i, none⟩ x).ownsRow B e size v n xs := by
  refine ⟨h.1, ?_⟩
  rcases h.2 with hn | ⟨g, cap, cur, rfl, hbg, hgg, rest⟩
  · exact .inl hn
  · refine .inr ⟨g, cap, cur, rfl, hbg, ?_, rest⟩
    have hk : g ≠ G := by
      rintro rfl
      have h2 := Option.some.inj (hgg.symm.trans hg)
      injection h2 with _ h3 _
      exact hne h3.symm
    rw [Below.heap_setCell w ⟨G, i, none⟩ x g hk]
    exact hgg
theorem okFs_add {A B : List Fld} (hA : okFs A) (hB : okFs B) (h : A.length + B.length ≤ 1000) : okFs (A ++ B) :=
  ⟨by rw [List.length_append]; exact h, fun f hf => by
    rcases List.mem_append.1 hf with h | h
    · exact hA.2 f h
    · exact hB.2 f h⟩
theorem okFs_one {f : Fld} (h1 : f.1.length ≤ 100000) (h2 : f.2.length ≤ 100000) : okFs [f] := ⟨by simp, fun g hg => by
  simp only [List.mem_cons, List.not_mem_nil, or_false] at hg
  subst hg
  exact ⟨h1, h2⟩⟩
theorem ok_cod : okFs [codF] := okFs_one (by decide) (by decide)
theorem ok_gz : okFs [gzF] := okFs_one (by decide) (by decide)
theorem ok_len (n : Nat) : okFs [lenF n] := okFs_one (by show clL.length ≤ _; decide) (Nat.le_trans (digF_len 5 n) (by decide))
theorem ok_two (a b : Nat) : okFs [twoF a b] := okFs_one (by show clL.length ≤ _; decide) (by
  have h1 := digF_len 5 a
  have h2 := digF_len 5 b
  show (digF 5 a ++ 44 :: 32 :: digF 5 b).length ≤ 100000
  simp
  omega)
theorem infoFld6 : (Tryd.prog.info? 28).map (fun i => (i.zero, i.size, i.bytes)) = some (some (.agg #[.string ⟨#[]⟩, .string ⟨#[]⟩]), 2, 32) := by kernel_rfl
theorem wpList_append_xy {P : Program} {ops : Array Oper} {rest : List Oper} {o : Oper} {a : Act} {Q : Exit → Act → World → Prop} (x y : List UInt8) (w : World) (hgd : o.guard = none) (s z : Operand) (t : TypeId)
    (ho : o.op = .call { callee := .builtin .append, args := #[s, z], argTypes := #[t, t] })
    (B : Nat) (e : TypeId) {zz : Value} {bytes : Nat} (ht : P.underlying t = some (.slice e)) (hi : (P.info? e).map (fun i => (i.zero, i.size, i.bytes)) = some (some zz, 2, bytes)) (hzs : zz.cells.size = 2) (hby : bytes ≤ 4096)
    {v : Value} {n : Nat} {L : List Fld} (hs : a.eval s = v) (hown : w.ownsRow B e 2 v n (fldCells L))
    {g : Nat} (hx : a.eval z = .slice (some ⟨g, 0, none⟩) 1 1) (hgs : g = w.heap.size) (hn : n < 4294967296) (hB : B ≤ w.heap.size)
    (h : ∀ v' w', w'.ownsRow B e 2 v' (n + 1) (fldCells (L ++ [(x, y)])) → Below B w w' → wpList P ops Q rest (a.put o.dst v') w') :
    wpList P ops Q (o :: rest) a (w.alloc (.cells #[strV x, strV y] e)) :=
  wpList_append_fld w hgd s z t ho B e ht hi hzs hby hs hown (x, y) hx hgs hn hB h
theorem row_grown {w w' : World} {r : Option Nat} {k : Nat} {cs : Array Value} {t : TypeId} (h : rowIs w k cs t) (hg : w.grownBy w' r) (hk : r ≠ some k) : rowIs w' k cs t :=
  (hg.block k h.lt (fun e => hk e.symm)).trans h
theorem own_ne {w : World} {B G t2 : Nat} {e : TypeId} {size : Nat} {v : Value} {n : Nat} {xs : List Value} {cs : Array Value} (h : w.ownsRow B e size v n xs) (hg : rowIs w G cs t2) (hne : t2 ≠ e) : v.ownBlock ≠ some G := by
  rcases h.2 with ⟨hn, _⟩ | ⟨g, cap, cur, rfl, hbg, hgg, rest⟩
  · rw [hn]; intro h; cases h
  · intro h
    have hk : g = G := Option.some.inj h
    subst hk
    have h2 := Option.some.inj (hgg.symm.trans hg)
    injection h2 with _ h3 _
    exact hne h3.symm
theorem own_ge {w : World} {B : Nat} {e : TypeId} {size : Nat} {v : Value} {n : Nat} {xs : List Value} (h : w.ownsRow B e size v n xs) : ∀ k, v.ownBlock = some k → B ≤ k := by
  rcases h.2 with ⟨hn, _⟩ | ⟨g, cap, cur, rfl, hbg, hgg, rest⟩
  · rw [hn]; intro k h; cases h
  · intro k h
    have hk : g = k := Option.some.inj h
    omega
theorem grown_any {B : Nat} {w w' : World} {r : Option Nat} (hg : w.grownBy w' r) (hr : ∀ k, r = some k → B ≤ k) (hB : B ≤ w.heap.size) : Below B w w' :=
  ⟨hg.os, hg.tape, hg.output, hg.size, fun k hk => hg.block k (Nat.lt_of_lt_of_le hk hB) (fun e => by have := hr k e.symm; omega)⟩
/-- a box of the call's own, that a store hits, and a row made behind it -/
theorem req_set {w0 W : World} {B g t e : Nat} {size n : Nat} {v : Value} {xs : List Value} {cs : Array Value} (ho : W.ownsRow B e size v n xs) (hR : rowIs W g cs t) (hne : t ≠ e) (hb : Below w0.heap.size w0 W) (hg : w0.heap.size ≤ g) (i : Nat) (x : Value) :
    (W.setCell ⟨g, i, none⟩ x).ownsRow B e size v n xs ∧ rowIs (W.setCell ⟨g, i, none⟩ x) g (cs.setIfInBounds i x) t ∧ Below w0.heap.size w0 (W.setCell ⟨g, i, none⟩ x) :=
  ⟨ownsRow_cell_other ho hR hne i x, hR.setCell i x, hb.setCell (p := ⟨g, i, none⟩) (by exact hg) x⟩
end Go.Proofs.YtefplhkjcclppaaDoor
