/-
  Several texts in one: Base, PureSign, PureList, PureField, Base2, Base3, PureField2, PureTwo, PureEsc, PureDig, PureCtl, PureCtl2, PureCtl3, Base4. No program is imported.
-/
import Derived.WalkKit
import Derived.Lib.Bytealg
import Derived.Lib.SlTrimSet
import Derived.Lib.IndexLaws
import Derived.WalkSpells
import Derived.WalkLawsBesides
import Derived.Laws.AppendOwnNone
import Derived.Deep.QuietTactic
import Derived.Laws.Rows
set_option linter.unusedVariables false
set_option linter.unusedSimpArgs false
/-
  Common helpers: no program is imported.
-/
namespace Go.Pantry
open Go.RowKit
theorem hid {p : Prop} (h : p) : Hid p := h
theorem ret_bool {a b : Bool} (h : a = b) : Ending.returned (.bool a) = .returned (.bool b) := by rw [h]
theorem ret_int {k : IntKind} {a b : Int} (h : a = b) : Ending.returned (.int k a) = .returned (.int k b) := by rw [h]
theorem ret_str {a b : ByteArray} (h : a = b) : Ending.returned (.string a) = .returned (.string b) := by rw [h]
theorem size_list (s : ByteArray) : s.data.toList.length = s.size := (Lib.size_eq s).symm
theorem getElem_list (s : ByteArray) (k : Nat) (h : k < s.size) : s.data.toList[k]'(by rw [size_list]; exact h) = s[k] := rfl
theorem take_succ_list (s : ByteArray) (k : Nat) (h : k < s.size) : s.data.toList.take (k + 1) = s.data.toList.take k ++ [s[k]] := by
  rw [List.take_succ_eq_append_getElem (by rw [size_list]; exact h)]; rfl
theorem take_all (s : ByteArray) (k : Nat) (h : ¬ k < s.size) : s.data.toList.take k = s.data.toList := List.take_of_length_le (by rw [size_list]; omega)
theorem not_isEmpty_int (s : ByteArray) : (!s.data.toList.isEmpty) = decide (0 < (s.size : Int)) := by
  rw [← size_list]; cases s.data.toList <;> simp
theorem drop_cons (s : ByteArray) (k : Nat) (h : k < s.size) : s.data.toList.drop k = s[k] :: s.data.toList.drop (k + 1) := by
  rw [List.drop_eq_getElem_cons (by rw [size_list]; exact h)]; rfl
theorem drop_nil (s : ByteArray) (k : Nat) (h : ¬ k < s.size) : s.data.toList.drop k = [] := List.drop_eq_nil_of_le (by rw [size_list]; omega)

/-- Block g holds the bytes l from its head on, none of them frozen. -/
structure bytesAt (w : World) (g : Nat) (l : List UInt8) : Prop where
  cell : ∀ (j : Nat) (c : UInt8), l[j]? = some c → w.cell? ⟨g, j, none⟩ = some (.int .u8 (c.toNat : Int))
  free : ∀ (j : Nat), j < l.length → w.frozen? ⟨g, j, none⟩ = false

theorem bytesRow_at (s : ByteArray) (cap : Nat) (j : Nat) (c : UInt8) (h : s.data.toList[j]? = some c) : (bytesRow s cap)[j]? = some (.int .u8 (c.toNat : Int)) := by
  have hj : j < s.data.toList.length := (List.getElem?_eq_some_iff.1 h).1
  have hj' : j < s.data.size := by simpa using hj
  unfold bytesRow
  rw [Array.getElem?_append, if_pos (by simpa using hj'), Array.getElem?_map]
  have : s.data[j]? = some c := by simpa using h
  rw [this]; rfl
theorem bytesRow_size (s : ByteArray) (cap : Nat) : s.size ≤ (bytesRow s cap).size := by
  unfold bytesRow; rw [Array.size_append, Array.size_map]; exact Nat.le_add_right _ _

theorem bytesAt_row (w : World) (s : ByteArray) (cap : Nat) (e : TypeId) :
    bytesAt (w.alloc (.cells (bytesRow s cap) e ((bytesRow s cap).size, (bytesRow s cap).size + 1))).drew w.heap.size s.data.toList := by
  constructor
  · intro j c h
    have := World.cell?_alloc_mark w (bytesRow s cap) e ((bytesRow s cap).size, (bytesRow s cap).size + 1) j
    exact this.trans (bytesRow_at s cap j c h)
  · intro j hj
    have h1 : (w.alloc (.cells (bytesRow s cap) e ((bytesRow s cap).size, (bytesRow s cap).size + 1))).drew.heap[w.heap.size]? = some (.cells (bytesRow s cap) e ((bytesRow s cap).size, (bytesRow s cap).size + 1)) := by
      show (w.heap.push _)[w.heap.size]? = _
      simp
    unfold World.frozen?
    rw [h1]
    have := bytesRow_size s cap
    rw [size_list] at hj
    simp
    omega

theorem bytesAt.set {w : World} {g : Nat} {l : List UInt8} (h : bytesAt w g l) (k : Nat) (hk : k < l.length) (c : UInt8) :
    bytesAt (w.setCell ⟨g, k, none⟩ (.int .u8 (c.toNat : Int))) g (l.set k c) := by
  have hc := h.cell k l[k] (List.getElem?_eq_getElem hk)
  constructor
  · intro j d hj
    rw [List.getElem?_set] at hj
    by_cases e : k = j
    · subst e
      rw [if_pos rfl, if_pos hk] at hj
      cases hj
      exact World.cell?_setCell_same _ _ _ hc
    · rw [if_neg e] at hj
      rw [World.cell?_setCell_other _ _ _ _ (by intro x; apply e; injection x)]
      exact h.cell j d hj
  · intro j hj
    rw [World.frozen?_setCell]
    exact h.free j (by simpa using hj)
theorem bytesAt.drew {w : World} {g : Nat} {l : List UInt8} (h : bytesAt w g l) : bytesAt w.drew g l := ⟨h.cell, h.free⟩
theorem bytesAt.alloc {w : World} {g : Nat} {l : List UInt8} (h : bytesAt w g l) (hg : g < w.heap.size) (o : Obj) : bytesAt (w.alloc o) g l :=
  ⟨fun j c hj => (World.cell?_of_block (w := w) (a := ⟨g, j, none⟩) (Below.heap_alloc w o g hg)).trans (h.cell j c hj), fun j hj => (World.frozen?_of_block (w := w) (a := ⟨g, j, none⟩) (Below.heap_alloc w o g hg)).trans (h.free j hj)⟩
theorem bytesAt.below {B : Nat} {w w' : World} {g : Nat} {l : List UInt8} (h : bytesAt w g l) (hb : Below B w w') (hg : g < B) : bytesAt w' g l :=
  ⟨fun j c hj => (hb.cell (p := ⟨g, j, none⟩) hg).trans (h.cell j c hj), fun j hj => (hb.frozen (p := ⟨g, j, none⟩) hg).trans (h.free j hj)⟩
/-- string(b) -/
theorem bytesAt.back {P : Program} {w : World} {g : Nat} {l : List UInt8} (h : bytesAt w g l) (src dst e : TypeId) (n cap : Nat) (hn : n = l.length) (hs : P.underlying src = some (.slice e)) (he : P.underlying e = some (.int .u8)) (hd : P.underlying dst = some .string) :
    (convert src dst (.slice (some ⟨g, 0, none⟩) n cap)).run P w = .ok (.string ⟨l.toArray⟩) w := by
  subst hn
  refine run_convert_bytes_back w src dst e _ cap l hs he hd (fun j hj => ?_)
  have : (⟨g, 0, none⟩ : Addr).add j = ⟨g, j, none⟩ := by unfold Addr.add; split <;> simp_all
  rw [this]
  exact h.cell j _ (List.getElem?_eq_getElem hj)

/-- append(out, x), out nil or the call's own, elements of one cell. -/
theorem wpList_append_one {P : Program} {ops : Array Oper} {rest : List Oper} {o : Oper} {a : Act} {Q : Exit → Act → World → Prop} (w : World) (hgd : o.guard = none) (s x : Operand) (t : TypeId)
    (ho : o.op = .call { callee := .builtin .append, args := #[s, x], argTypes := #[t, t] })
    (B : Nat) (e : TypeId) {z : Value} {bytes : Nat} (ht : P.underlying t = some (.slice e)) (hi : (P.info? e).map (fun i => (i.zero, i.size, i.bytes)) = some (some z, 1, bytes)) (hzs : z.cells.size = 1) (hby : bytes ≤ 4096)
    {v : Value} {n : Nat} {xs : List Value} (hs : a.eval s = v) (hown : w.ownsRow B e 1 v n xs) {u : Value} (hu : u.oneCell' = true)
    (hx : a.eval x = .slice (some ⟨w.heap.size, 0, none⟩) 1 1) (hn : n < 4294967296) (hB : B ≤ w.heap.size)
    (h : ∀ v' w', w'.ownsRow B e 1 v' (n + 1) (xs ++ [u]) → w.grownBy w' v.ownBlock → Below B w w' → wpList P ops Q rest (a.put o.dst v') w') :
    wpList P ops Q (o :: rest) a (w.alloc (.cells #[u] e)) := by
  obtain ⟨i0, h1, h2, h3, h4⟩ := info_parts hi
  refine wpList_append_own _ hgd s x t ho B e i0 z 1 bytes ht h1 h2 h3 h4 hzs (by decide) v n xs hs (hown.alloc _) ⟨w.heap.size, 0, none⟩ 1 1 [u] hx rfl ?_ ?_ ?_ ?_ ?_ ?_
  · intro j y hj
    match j, hj with
    | 0, hj =>
      simp at hj
      subst hj
      have e0 : (⟨w.heap.size, 0, none⟩ : Addr).add 0 = ⟨w.heap.size, 0, none⟩ := rfl
      rw [e0, World.cell?_alloc_at _ _ _ _ rfl]; rfl
  · intro y hy; simp at hy; subst hy; exact hu
  · unfold maxLen; omega
  · calc (n + 1) * bytes ≤ 4294967296 * 4096 := Nat.mul_le_mul (by omega) hby
      _ ≤ 140737488355328 := by decide
  · simp; omega
  · intro v' w' ho' hg _
    have hg' : w.grownBy w' v.ownBlock := ⟨hg.os, hg.tape, hg.output, Nat.le_trans (by simp) hg.size, fun k hk hne => (hg.block k (by simp; omega) hne).trans (Below.heap_alloc _ _ _ hk)⟩
    refine h v' w' ho' hg' ?_
    exact (Below.refl B w).grown hg' hB (fun k hk => (hown.lt k hk).1)

theorem wbounds (c : UInt8) : (c.toNat : Int) < 256 := by have := c.toNat_lt; omega
/-- a list of bytes, as a string's value -/
abbrev strV (l : List UInt8) : Value := .string ⟨l.toArray⟩
/-- a byte, as a value -/
abbrev byteV (c : UInt8) : Value := .int .u8 (c.toNat : Int)

/-- string(b) of an owned row of bytes -/
theorem ownsRow_string {P : Program} {w : World} {B : Nat} {e : TypeId} {v : Value} {n : Nat} {l : List UInt8} (h : w.ownsRow B e 1 v n (l.map byteV)) (src dst : TypeId) (hs : P.underlying src = some (.slice e)) (he : P.underlying e = some (.int .u8)) (hd : P.underlying dst = some .string) :
    (convert src dst v).run P w = .ok (.string ⟨l.toArray⟩) w := by
  rcases h.2 with ⟨rfl, rfl⟩ | ⟨g, cap, cur, rfl, hb, hg, hnc, hcm, hcs, htake⟩
  · have hl : l = [] := by
      have := h.1
      simpa using this
    subst hl
    exact run_convert_bytes_nil w src e hs he 0 0 dst hd
  · have hl : n = l.length := by have := h.1; simp at this; omega
    subst hl
    refine run_convert_bytes_back w src dst e _ cap l hs he hd (fun j hj => ?_)
    exact h.cells (g := g) rfl j _ (by simp [List.getElem?_eq_getElem hj, byteV])
theorem byte_yes {c : UInt8} (d : UInt8) {z : Int} (h : ((c.toNat : Int) == z) = true) (hd : (d.toNat : Int) = z) : c = d := by
  have := beq_iff_eq.1 h
  exact UInt8.toNat_inj.1 (by omega)
theorem byte_no {c : UInt8} (d : UInt8) {z : Int} (h : ((c.toNat : Int) == z) = false) (hd : (d.toNat : Int) = z) : c ≠ d := by
  intro e
  subst e
  rw [hd] at h
  simp at h
theorem byte_ne_yes {c : UInt8} (d : UInt8) {z : Int} (h : ((c.toNat : Int) != z) = true) (hd : (d.toNat : Int) = z) : c ≠ d := by
  intro e
  subst e
  rw [hd] at h
  simp at h
theorem byte_ne_no {c : UInt8} (d : UInt8) {z : Int} (h : ((c.toNat : Int) != z) = false) (hd : (d.toNat : Int) = z) : c = d := by
  have : (c.toNat : Int) = z := by simpa using h
  exact UInt8.toNat_inj.1 (by omega)
end Go.Pantry
namespace Go
open Go.RowKit Go.Pantry
theorem World.ownsRow.below {w w' : World} {B : Nat} {e : TypeId} {size : Nat} {v : Value} {n : Nat} {xs : List Value} (h : w.ownsRow B e size v n xs) (hb : Below w.heap.size w w') : w'.ownsRow B e size v n xs := by
  refine ⟨h.1, ?_⟩
  rcases h.2 with hn | ⟨g, cap, cur, rfl, hbg, hgg, rest⟩
  · exact .inl hn
  · refine .inr ⟨g, cap, cur, rfl, hbg, ?_, rest⟩
    rw [hb.block g (Array.getElem?_eq_some_iff.1 hgg).1]
    exact hgg
end Go
namespace Go.Pantry
open Go.RowKit
/-- The slice value v reads as the elements xs, each of one cell. -/
def Reads (w : World) (v : Value) (xs : List Value) : Prop :=
  ∃ ao cap, v = .slice ao xs.length cap ∧ (∀ (j : Nat) u, xs[j]? = some u → (∃ b off, ao = some ⟨b, off, none⟩ ∧ w.cell? ⟨b, off + j, none⟩ = some u)) ∧ (ao = none → cap = 0)
end Go.Pantry
namespace Go
open Go.RowKit Go.Pantry
theorem World.ownsRow.reads {w : World} {B : Nat} {e : TypeId} {v : Value} {n : Nat} {xs : List Value} (h : w.ownsRow B e 1 v n xs) : Reads w v xs := by
  have hl : xs.length = n := by have := h.1; omega
  subst hl
  rcases h.2 with ⟨rfl, hn⟩ | ⟨g, cap, cur, rfl, hb, hg, hnc, hcm, hcs, htake⟩
  · exact ⟨none, 0, by rw [hn], fun j u hj => by have : j < xs.length := (List.getElem?_eq_some_iff.1 hj).1; omega, fun _ => rfl⟩
  · refine ⟨some ⟨g, 0, none⟩, cap, rfl, fun j u hj => ⟨g, 0, rfl, ?_⟩, fun e => by cases e⟩
    have := h.cells (g := g) rfl j u hj
    have hadd : (⟨g, 0, none⟩ : Addr).add j = ⟨g, 0 + j, none⟩ := by unfold Addr.add; split <;> simp_all
    rw [hadd] at this
    exact this
end Go
namespace Go.Pantry
open Go.RowKit
theorem Reads.below {w w' : World} {v : Value} {xs : List Value} (h : Reads w v xs) (hb : Below w.heap.size w w') : Reads w' v xs := by
  obtain ⟨ao, cap, hv, hc, hz⟩ := h
  refine ⟨ao, cap, hv, fun j u hj => ?_, hz⟩
  obtain ⟨b, off, ha, hcell⟩ := hc j u hj
  refine ⟨b, off, ha, ?_⟩
  have hlt : b < w.heap.size := World.block_lt_of_cell? w _ hcell
  exact (hb.cell (p := ⟨b, off + j, none⟩) hlt).trans hcell
/-- With at least one element: where they lie. -/
theorem Reads.at_some {w : World} {v : Value} {xs : List Value} (h : Reads w v xs) (hx : 0 < xs.length) : ∃ b off cap, v = .slice (some ⟨b, off, none⟩) xs.length cap ∧ ∀ (j : Nat) u, xs[j]? = some u → w.cell? ⟨b, off + j, none⟩ = some u := by
  obtain ⟨ao, cap, hv, hc, -⟩ := h
  obtain ⟨b, off, ha, hcell⟩ := hc 0 xs[0] (List.getElem?_eq_getElem hx)
  subst ha
  refine ⟨b, off, cap, hv, fun j u hj => ?_⟩
  obtain ⟨b', off', ha', hcell'⟩ := hc j u hj
  cases ha'
  exact hcell'

/-- Block g holds the one-cell values xs from its head on, none of them frozen. -/
structure blockAt (w : World) (g : Nat) (xs : List Value) : Prop where
  cell : ∀ (j : Nat) u, xs[j]? = some u → w.cell? ⟨g, j, none⟩ = some u
  free : ∀ (j : Nat), j < xs.length → w.frozen? ⟨g, j, none⟩ = false
theorem blockAt.set {w : World} {g : Nat} {l : List Value} (h : blockAt w g l) (k : Nat) (hk : k < l.length) (c : Value) :
    blockAt (w.setCell ⟨g, k, none⟩ c) g (l.set k c) := by
  have hc := h.cell k l[k] (List.getElem?_eq_getElem hk)
  constructor
  · intro j d hj
    rw [List.getElem?_set] at hj
    by_cases e : k = j
    · subst e
      rw [if_pos rfl, if_pos hk] at hj
      cases hj
      exact World.cell?_setCell_same _ _ _ hc
    · rw [if_neg e] at hj
      rw [World.cell?_setCell_other _ _ _ _ (by intro x; apply e; injection x)]
      exact h.cell j d hj
  · intro j hj
    rw [World.frozen?_setCell]
    exact h.free j (by simpa using hj)
theorem blockAt.below {B : Nat} {w w' : World} {g : Nat} {l : List Value} (h : blockAt w g l) (hb : Below B w w') (hg : g < B) : blockAt w' g l :=
  ⟨fun j c hj => (hb.cell (p := ⟨g, j, none⟩) hg).trans (h.cell j c hj), fun j hj => (hb.frozen (p := ⟨g, j, none⟩) hg).trans (h.free j hj)⟩
theorem blockAt.reads {w : World} {g : Nat} {l : List Value} (h : blockAt w g l) (cap : Nat) : Reads w (.slice (some ⟨g, 0, none⟩) l.length cap) l :=
  ⟨_, _, rfl, fun j u hj => ⟨g, 0, rfl, by rw [Nat.zero_add]; exact h.cell j u hj⟩, fun e => by cases e⟩
end Go.Pantry
namespace Go
open Go.RowKit Go.Pantry
theorem World.ownsRow.row {w : World} {B : Nat} {e : TypeId} {g n cap : Nat} {xs : List Value} (h : w.ownsRow B e 1 (.slice (some ⟨g, 0, none⟩) n cap) n xs) : blockAt w g xs := by
  rcases h.2 with ⟨hv, _⟩ | ⟨g', cap', cur, hv, hb, hg, hnc, hcm, hcs, htake⟩
  · cases hv
  · cases hv
    constructor
    · intro j u hj
      have := h.cells (g := g) rfl j u hj
      have hadd : (⟨g, 0, none⟩ : Addr).add j = ⟨g, j, none⟩ := by unfold Addr.add; split <;> simp_all
      rw [hadd] at this
      exact this
    · intro j hj
      unfold World.frozen?
      rw [hg]
      simp
end Go
namespace Go.Pantry
open Go.RowKit
/-- make([]T, n): n zero elements of one cell. -/
theorem wpList_make_row {P : Program} (w : World) {ops : Array Oper} {rest : List Oper} {o : Oper} {a : Act} {Q : Exit → Act → World → Prop}
    (hg : o.guard = none) (l c : Operand) (t : TypeId) (hop : o.op = Op.makeSlice t l c)
    (e : TypeId) {z : Value} {bytes : Nat} (h1 : P.underlying t = some (.slice e)) (hi : (P.info? e).map (fun i => (i.zero, i.size, i.bytes)) = some (some z, 1, bytes)) (_hzs : z.cells.size = 1) (hby : bytes ≤ 4096)
    (kl kc : IntKind) (L C : Int) (n : Nat) (hl : a.eval l = .int kl L) (hc : a.eval c = .int kc C) (hL : L = (n : Int)) (hC : C = (n : Int)) (hn : n < 4294967296)
    (hK : ∀ w' (xs : List Value), xs.length = n → blockAt w' w.heap.size xs → w.heap.size < w'.heap.size → Below w.heap.size w w' → wpList P ops Q rest (a.put o.dst (.slice (some ⟨w.heap.size, 0, none⟩) n n)) w') :
    wpList P ops Q (o :: rest) a w := by
  obtain ⟨i0, a1, a2, a3, a4⟩ := info_parts hi
  refine wpList_make_full w hg l c t hop w.heap.size e i0 z 1 h1 a1 a2 a3 kl kc L C n hl hc hL hC ?_ (by unfold maxLen; omega) (Nat.le_refl _) (fun w' hown hgr => ?_)
  · rw [a4]
    calc bytes * n ≤ 4096 * 4294967296 := Nat.mul_le_mul hby (by omega)
      _ ≤ 281474976710656 := by decide
  · have hlt := (hown.lt w.heap.size rfl).2
    exact hK w' _ (by have := hown.1; omega) hown.row hlt ((Below.refl _ w).grown hgr (Nat.le_refl _) (fun k hk => by cases hk))
theorem set_mid (A R : List Value) (k : Nat) (v : Value) (hA : A.length = k) (hR : 0 < R.length) : (A ++ R).set k v = A ++ [v] ++ R.tail := by
  subst hA
  cases R with
  | nil => simp at hR
  | cons r R => simp
theorem byte_beq (c d : UInt8) {z : Int} (hd : (d.toNat : Int) = z) : (c == d) = ((c.toNat : Int) == z) := by
  rw [Bool.eq_iff_iff, beq_iff_eq, beq_iff_eq, ← hd]
  exact ⟨fun h => by rw [h], fun h => UInt8.toNat_inj.1 (by omega)⟩
end Go.Pantry
namespace Go
open Go.RowKit Go.Pantry
theorem World.ownsRow.base {w : World} {B B' : Nat} {e : TypeId} {size : Nat} {v : Value} {n : Nat} {xs : List Value} (h : w.ownsRow B e size v n xs) (hB : B' ≤ B) : w.ownsRow B' e size v n xs := by
  refine ⟨h.1, ?_⟩
  rcases h.2 with hn | ⟨g, cap, cur, rfl, hbg, rest⟩
  · exact .inl hn
  · exact .inr ⟨g, cap, cur, rfl, by omega, rest⟩
end Go
namespace Go.Pantry
open Go.RowKit
theorem reads_new (w : World) (xs : List Value) (e : TypeId) (cap : Nat) : Reads (w.alloc (.cells xs.toArray e)) (.slice (some ⟨w.heap.size, 0, none⟩) xs.length cap) xs :=
  ⟨_, _, rfl, fun j u hj => ⟨w.heap.size, 0, rfl, by
    rw [World.cell?_alloc_at _ _ _ _ rfl]
    simpa using hj⟩, fun e => by cases e⟩
theorem below_alloc (w : World) (o : Obj) : Below w.heap.size w (w.alloc o) := (Below.refl _ _).alloc (Nat.le_refl _) o
theorem run_one_byte {P : Program} (src dst e : TypeId) (hs : P.underlying src = some (.slice e)) (he : P.underlying e = some (.int .u8)) (hd : P.underlying dst = some .string) (w : World) (b : Nat) (c : Int)
    (hc : w.cell? ⟨b, 0, none⟩ = some (.int .u8 c)) : (convert src dst (.slice (some ⟨b, 0, none⟩) 1 1)).run P w = .ok (.string ⟨#[UInt8.ofNat c.toNat]⟩) w := by
  have := run_convert_bytes_arg (P := P) w src e hs he b 0 1 1 [c] rfl (fun i hi => by
    have : i = 0 := by omega
    subst this; exact hc) dst hd
  rw [this]; rfl
theorem kept_new {w w' : World} {C : Array Value} {e : TypeId} {v : Value} (hb : Below (w.alloc (.cells C e)).drew.heap.size (w.alloc (.cells C e)).drew w') (h0 : C[0]? = some v) : w'.cell? ⟨w.heap.size, 0, none⟩ = some v := by
  have h1 := hb.cell (p := ⟨w.heap.size, 0, none⟩) (by show w.heap.size < (w.heap.push _).size; simp)
  rw [h1]
  exact (World.cell?_alloc_at (w := w) C e _ 0 rfl).trans h0
theorem below_of_drew {w w' : World} (hb : Below w.drew.heap.size w.drew w') : Below w.heap.size w w' := ⟨hb.os, hb.tape, hb.output, hb.size, hb.block⟩
theorem below_of_new {w w' : World} {o : Obj} (hb : Below (w.alloc o).drew.heap.size (w.alloc o).drew w') : Below w.heap.size w w' :=
  ((below_alloc w o).drew).trans (hb.mono (by show w.heap.size ≤ (w.heap.push o).size; simp))
/-- append(out, more...), out nil or the call's own, whatever slice more is; elements of one cell. -/
theorem wpList_append_all {P : Program} {ops : Array Oper} {rest : List Oper} {o : Oper} {a : Act} {Q : Exit → Act → World → Prop} (w : World) (hgd : o.guard = none) (s x : Operand) (t : TypeId)
    (ho : o.op = .call { callee := .builtin .append, args := #[s, x], argTypes := #[t, t] })
    (B : Nat) (e : TypeId) {z : Value} {bytes : Nat} (ht : P.underlying t = some (.slice e)) (hi : (P.info? e).map (fun i => (i.zero, i.size, i.bytes)) = some (some z, 1, bytes)) (hzs : z.cells.size = 1) (hby : bytes ≤ 4096)
    {v : Value} {n : Nat} {xs : List Value} (hs : a.eval s = v) (hown : w.ownsRow B e 1 v n xs) {vx : Value} {ys : List Value} (hr : Reads w vx ys) (hys : ∀ u ∈ ys, u.oneCell' = true)
    (hx : a.eval x = vx) (hn : n + ys.length < 4294967296) (hB : B ≤ w.heap.size)
    (h : ∀ v' w', w'.ownsRow B e 1 v' (n + ys.length) (xs ++ ys) → w.grownBy w' v.ownBlock → Below B w w' → wpList P ops Q rest (a.put o.dst v') w') :
    wpList P ops Q (o :: rest) a w := by
  obtain ⟨i0, h1, h2, h3, h4⟩ := info_parts hi
  obtain ⟨ao, cap, rfl, hc, hz⟩ := hr
  cases ao with
  | none =>
    have hnil : ys = [] := by
      cases ys with
      | nil => rfl
      | cons y ys => obtain ⟨b, off, he, _⟩ := hc 0 y rfl; cases he
    subst hnil
    rw [hz rfl] at hx
    refine wpList_append_own_none hgd s x t ho B e i0 1 ht h1 v n xs hs hown hx ?_
    have hw := h v w (by simpa using hown) (World.grownBy.refl _ _) (Below.refl _ _)
    exact hw
  | some ad =>
    refine wpList_append_own w hgd s x t ho B e i0 z 1 bytes ht h1 h2 h3 h4 hzs (by decide) v n xs hs hown ad ys.length cap ys hx (by simp) ?_ hys (by unfold maxLen; omega) ?_ hB ?_
    · intro j u hj
      obtain ⟨b, off, he, hcell⟩ := hc j u hj
      cases he
      have e0 : (⟨b, off, none⟩ : Addr).add j = ⟨b, off + j, none⟩ := by unfold Addr.add; split <;> simp_all
      rw [e0]; exact hcell
    · calc (n + ys.length) * bytes ≤ 4294967296 * 4096 := Nat.mul_le_mul (by omega) hby
        _ ≤ 140737488355328 := by decide
    · intro v' w' ho' hg _
      exact h v' w' ho' hg ((Below.refl B w).grown hg hB (fun k hk => (hown.lt k hk).1))
theorem bytes_ext {a b : ByteArray} (h : a.data.toList = b.data.toList) : a = b := by
  rw [← Lib.mk_data a, ← Lib.mk_data b, h]
end Go.Pantry
/-
  Plain mathematics of layer 1 (signs): no program is imported.
-/
namespace Go.Pantry

/-- From all numbers below 256 to all bytes. -/
theorem byte_all {p : UInt8 → Bool} (h : (List.range 256).all (fun n => p n.toUInt8) = true) (c : UInt8) : p c = true := by
  have := List.all_eq_true.1 h c.toNat (by simpa using c.toNat_lt)
  simpa using this

def isUp (c : UInt8) : Bool := 65 ≤ c.toNat && c.toNat ≤ 90
def isLow (c : UInt8) : Bool := 97 ≤ c.toNat && c.toNat ≤ 122
def isDig (c : UInt8) : Bool := 48 ≤ c.toNat && c.toNat ≤ 57
def marks : List UInt8 := [33, 35, 36, 37, 38, 39, 42, 43, 45, 46, 94, 95, 124, 96, 126]
def isTok (c : UInt8) : Bool := isLow c || isUp c || isDig c || marks.contains c
def isBl (c : UInt8) : Bool := c.toNat == 32 || c.toNat == 9
def tokenL (l : List UInt8) : Bool := l.all isTok && !l.isEmpty
def lowC (c : UInt8) : UInt8 := if isUp c then c + 32 else c
def lowerL (l : List UInt8) : List UInt8 := l.map lowC
def trimL (l : List UInt8) : List UInt8 := Lib.trimS l [32, 9]

theorem isUp_int (c : UInt8) : (decide (65 ≤ (c.toNat : Int)) && decide ((c.toNat : Int) ≤ 90)) = isUp c := by
  unfold isUp; congr 1 <;> simp <;> omega
theorem isDig_int (c : UInt8) : (decide (48 ≤ (c.toNat : Int)) && decide ((c.toNat : Int) ≤ 57)) = isDig c := by
  unfold isDig; congr 1 <;> simp <;> omega

theorem isLow_int (c : UInt8) : (decide (97 ≤ (c.toNat : Int)) && decide ((c.toNat : Int) ≤ 122)) = isLow c := by
  unfold isLow; congr 1 <;> simp <;> omega
theorem isBl_int (c : UInt8) : (((c.toNat : Int) == 32) || ((c.toNat : Int) == 9)) = isBl c := by
  unfold isBl; rw [Bool.eq_iff_iff]; simp; omega

theorem marks_int (c : UInt8) : marks.contains c = (c.toNat == 33 || c.toNat == 35 || c.toNat == 36 || c.toNat == 37 || c.toNat == 38 || c.toNat == 39 || c.toNat == 42 || c.toNat == 43 || c.toNat == 45 || c.toNat == 46 || c.toNat == 94 || c.toNat == 95 || c.toNat == 124 || c.toNat == 96 || c.toNat == 126) := by
  have h := byte_all (p := fun c => marks.contains c == (c.toNat == 33 || c.toNat == 35 || c.toNat == 36 || c.toNat == 37 || c.toNat == 38 || c.toNat == 39 || c.toNat == 42 || c.toNat == 43 || c.toNat == 45 || c.toNat == 46 || c.toNat == 94 || c.toNat == 95 || c.toNat == 124 || c.toNat == 96 || c.toNat == 126)) (by decide +kernel) c
  simpa using h

theorem indexByte_nonneg (l : List UInt8) (c : UInt8) : decide (0 ≤ Lib.indexByte l c) = l.contains c := by
  induction l with
  | nil => rfl
  | cons x l ih =>
    have hge := Lib.indexByte_ge l c
    rw [List.contains_cons, ← ih, Lib.indexByte]
    by_cases h : x == c
    · have h' : c == x := by simpa using (beq_iff_eq.1 h).symm
      simp [h, h']
    · have h' : (c == x) = false := by
        rw [Bool.eq_false_iff]; intro e; exact h (by simpa using (beq_iff_eq.1 e).symm)
      rw [if_neg h, h', Bool.false_or]
      by_cases h2 : Lib.indexByte l c == -1
      · have := beq_iff_eq.1 h2
        simp [this]
      · have hne : Lib.indexByte l c ≠ -1 := fun e => h2 (beq_iff_eq.2 e)
        rw [if_neg h2]
        have e1 : (0 ≤ Lib.indexByte l c + 1) = True := by simp; omega
        have e2 : (0 ≤ Lib.indexByte l c) = True := by simp; omega
        simp [e1, e2]

theorem isTok_of (c : UInt8) : isTok c = (isLow c || isUp c || isDig c || marks.contains c) := rfl
theorem all_take_succ {α : Type} (l : List α) (p : α → Bool) (k : Nat) (h : k < l.length) : (l.take (k + 1)).all p = ((l.take k).all p && p l[k]) := by
  rw [List.take_succ_eq_append_getElem h, List.all_append]; simp
theorem isLow_yes {c : UInt8} (h1 : 97 ≤ (c.toNat : Int)) (h2 : (c.toNat : Int) ≤ 122) : isLow c = true := by unfold isLow; simp; omega
theorem isLow_no1 {c : UInt8} (h : (c.toNat : Int) < 97) : isLow c = false := by unfold isLow; simp; omega
theorem isLow_no2 {c : UInt8} (h : 122 < (c.toNat : Int)) : isLow c = false := by unfold isLow; simp; omega
theorem tokenL_no (s : ByteArray) (k : Nat) (h : k < s.size) (hn : isTok s[k] = false) : tokenL s.data.toList = false := by
  have hm : s[k] ∈ s.data.toList := by
    rw [← getElem_list s k h]; exact List.getElem_mem _
  unfold tokenL
  have : s.data.toList.all isTok = false := by
    rw [List.all_eq_false]; exact ⟨s[k], hm, by simp [hn]⟩
  rw [this]; rfl
theorem isBl_contains (c : UInt8) : [32, 9].contains c = isBl c := by
  have h := byte_all (p := fun c => [32, 9].contains c == isBl c) (by decide +kernel) c
  simpa using h
theorem trim_of (l : List UInt8) (a b : Nat) (hab : a ≤ b) (hb : b ≤ l.length) (h1 : ∀ (j : Nat) x, j < a → l[j]? = some x → isBl x = true)
    (h2 : ∀ (j : Nat) x, b ≤ j → l[j]? = some x → isBl x = true) (h3 : a < b → ∀ x, l[a]? = some x → isBl x = false) (h4 : a < b → ∀ x, l[b - 1]? = some x → isBl x = false) :
    trimL l = (l.drop a).take (b - a) := by
  unfold trimL Lib.trimS
  by_cases h : a < b
  · have e1 : Lib.trimRightS l [32, 9] = l.take b :=
      Lib.trimRightS_take l _ b hb (fun j x hj hx => by rw [isBl_contains]; exact h2 j x hj hx) (fun x _ hx => by rw [isBl_contains]; exact h4 h x hx)
    rw [e1, Lib.trimLeftS_drop (l.take b) _ a (by simp; omega) (fun j x hj hx => ?_) (fun x hx => ?_), List.drop_take]
    · rw [isBl_contains]; refine h1 j x hj ?_
      rw [List.getElem?_take] at hx; split at hx <;> first | exact hx | exact absurd hx (by simp)
    · rw [isBl_contains]; refine h3 h x ?_
      rw [List.getElem?_take] at hx; split at hx <;> first | exact hx | exact absurd hx (by simp)
  · have e1 : Lib.trimRightS l [32, 9] = l.take 0 :=
      Lib.trimRightS_take l _ 0 (Nat.zero_le _) (fun j x _ hx => by rw [isBl_contains]; by_cases hj : j < a; exact h1 j x hj hx; exact h2 j x (by omega) hx) (fun x h0 _ => absurd h0 (Nat.lt_irrefl _))
    rw [e1, List.take_zero, Lib.trimLeftS_nil, show b - a = 0 by omega, List.take_zero]
theorem some_list (s : ByteArray) (j : Nat) (x : UInt8) (h : s.data.toList[j]? = some x) : ∃ hj : j < s.size, s[j] = x := by
  obtain ⟨hj, e⟩ := List.getElem?_eq_some_iff.1 h
  exact ⟨by rw [← size_list]; exact hj, e⟩
theorem lower_mid (s : ByteArray) (k : Nat) (h : k < s.size) : (lowerL (s.data.toList.take k) ++ s.data.toList.drop k)[k]? = some s[k] := by
  have hl : (lowerL (s.data.toList.take k)).length = k := by simp [lowerL]; omega
  rw [List.getElem?_append_right (by omega), hl, Nat.sub_self, drop_cons s k h]; rfl
theorem lower_len (s : ByteArray) (k : Nat) (h : k < s.size) : k < (lowerL (s.data.toList.take k) ++ s.data.toList.drop k).length := (List.getElem?_eq_some_iff.1 (lower_mid s k h)).1
theorem lower_step (s : ByteArray) (k : Nat) (h : k < s.size) : (lowerL (s.data.toList.take k) ++ s.data.toList.drop k).set k (lowC s[k]) = lowerL (s.data.toList.take (k + 1)) ++ s.data.toList.drop (k + 1) := by
  have hl : (lowerL (s.data.toList.take k)).length = k := by simp [lowerL]; omega
  rw [List.set_append, if_neg (by omega), hl, Nat.sub_self, drop_cons s k h, take_succ_list s k h]
  simp [lowerL]
theorem lower_same (s : ByteArray) (k : Nat) (h : k < s.size) (hu : isUp s[k] = false) : lowerL (s.data.toList.take k) ++ s.data.toList.drop k = lowerL (s.data.toList.take (k + 1)) ++ s.data.toList.drop (k + 1) := by
  rw [drop_cons s k h, take_succ_list s k h]
  simp [lowerL, lowC, hu]
theorem low_int {c : UInt8} (h : isUp c = true) : ((c.toNat : Int) + 97 - 65) % 256 = ((lowC c).toNat : Int) := by
  have hh : 65 ≤ c.toNat ∧ c.toNat ≤ 90 := by simpa [isUp] using h
  have e : (lowC c).toNat = c.toNat + 32 := by
    unfold lowC; rw [if_pos h, UInt8.toNat_add]; simp; omega
  omega
theorem lower_snoc (l : List UInt8) (c : UInt8) : lowerL (l ++ [c]) = lowerL l ++ [lowC c] := by simp [lowerL]
theorem low_any (c : UInt8) : ((lowC c).toNat : Int) = if 65 ≤ (c.toNat : Int) ∧ (c.toNat : Int) ≤ 90 then (c.toNat : Int) + 32 else (c.toNat : Int) := by
  by_cases h : 65 ≤ (c.toNat : Int) ∧ (c.toNat : Int) ≤ 90
  · have hu : isUp c = true := by simp [isUp]; omega
    rw [if_pos h, ← low_int hu]; omega
  · have hu : isUp c = false := by rw [Bool.eq_false_iff]; intro e; apply h; simp [isUp] at e; omega
    rw [if_neg h]; simp [lowC, hu]
theorem lowC_idem (c : UInt8) : lowC (lowC c) = lowC c := by
  have h := byte_all (p := fun c => lowC (lowC c) == lowC c) (by decide +kernel) c
  simpa using h
theorem lowerL_idem (l : List UInt8) : lowerL (lowerL l) = lowerL l := by simp [lowerL, lowC_idem]
end Go.Pantry
/-
  Plain mathematics of layer 1: lists, quoted texts, numbers.
-/
namespace Go.Pantry

/-- How many bytes up to behind the quotes that end, the first of which is the first inside. -/
def qe : List UInt8 → Nat
  | [] => 0
  | [_] => 1
  | c :: d :: l => if c = 34 then 1 else if c = 92 then qe l + 2 else qe (d :: l) + 1
theorem qe_quote (l : List UInt8) : qe (34 :: l) = 1 := by cases l <;> simp [qe]
theorem qe_back (d : UInt8) (l : List UInt8) : qe (92 :: d :: l) = qe l + 2 := by simp [qe]
theorem qe_other (c : UInt8) (l : List UInt8) (h1 : c ≠ 34) (h2 : c ≠ 92) : qe (c :: l) = qe l + 1 := by cases l <;> simp [qe, h1, h2]

def nextIn (i s : Bool) (c : UInt8) : Bool := if s then i else if i && c == 92 then i else if c == 34 then !i else i
def nextSkip (i s : Bool) (c : UInt8) : Bool := if s then false else i && c == 92
/-- How many bytes up to the first comma outside quotes, or the end. -/
def cut : Bool → Bool → List UInt8 → Nat
  | _, _, [] => 0
  | i, s, c :: l => if c = 44 ∧ i = false then 0 else cut (nextIn i s c) (nextSkip i s c) l + 1

theorem cut_le (l : List UInt8) : ∀ i s, cut i s l ≤ l.length := by
  induction l with
  | nil => intro i s; simp [cut]
  | cons c l ih =>
    intro i s
    rw [cut]
    split
    · simp
    · have := ih (nextIn i s c) (nextSkip i s c)
      simp; omega

theorem qe_le : ∀ (n : Nat) (l : List UInt8), l.length ≤ n → qe l ≤ l.length := by
  intro n
  induction n with
  | zero => intro l h; have : l = [] := List.eq_nil_of_length_eq_zero (by omega); subst this; simp [qe]
  | succ n ih =>
    intro l h
    match l, h with
    | [], _ => simp [qe]
    | [c], _ => simp [qe]
    | c :: d :: l, h =>
      simp only [List.length_cons] at h ⊢
      rw [qe]
      have h1 := ih l (by omega)
      have h2 := ih (d :: l) (by simp; omega)
      simp at h2
      split
      · omega
      · split <;> omega

theorem cut_in : ∀ (n : Nat) (l : List UInt8), l.length ≤ n → cut true false l = qe l + cut false false (l.drop (qe l)) := by
  intro n
  induction n with
  | zero => intro l h; have : l = [] := List.eq_nil_of_length_eq_zero (by omega); subst this; simp [qe, cut]
  | succ n ih =>
    intro l h
    cases l with
    | nil => simp [qe, cut]
    | cons c l =>
      simp only [List.length_cons] at h
      rw [cut]
      by_cases h1 : c = 34
      · subst h1
        simp [nextIn, nextSkip, qe_quote]; omega
      · by_cases h2 : c = 92
        · subst h2
          cases l with
          | nil => simp [cut, qe]
          | cons d l' =>
            have := ih l' (by simp at h; omega)
            have e : ¬ ((92 : UInt8) = 44 ∧ true = false) := by simp
            rw [if_neg e, qe_back]
            simp only [nextIn, nextSkip]
            rw [cut]
            simp [nextIn, nextSkip]
            omega
        · have := ih l (by omega)
          have e : ¬ (c = 44 ∧ true = false) := by simp
          rw [if_neg e, qe_other c l h1 h2]
          have hn : nextIn true false c = true := by simp [nextIn, h1]
          have hs : nextSkip true false c = false := by simp [nextSkip, h2]
          rw [hn, hs, this]
          simp; omega

theorem cut_quote (l : List UInt8) : cut false false (34 :: l) = 1 + qe l + cut false false (l.drop (qe l)) := by
  rw [cut, if_neg (by decide)]
  have hn : nextIn false false 34 = true := by decide
  have hs : nextSkip false false 34 = false := by decide
  rw [hn, hs, cut_in l.length l (Nat.le_refl _)]
  omega
theorem cut_comma (l : List UInt8) : cut false false (44 :: l) = 0 := by rw [cut, if_pos (by decide)]
theorem cut_other (c : UInt8) (l : List UInt8) (h1 : c ≠ 44) (h2 : c ≠ 34) : cut false false (c :: l) = 1 + cut false false l := by
  rw [cut, if_neg (by simp [h1])]
  have hn : nextIn false false c = false := by simp [nextIn, h2]
  have hs : nextSkip false false c = false := by simp [nextSkip]
  rw [hn, hs]; omega

/-- The elements of a list. -/
def listF : Nat → List UInt8 → List (List UInt8)
  | 0, _ => []
  | f + 1, l => if l = [] then [] else
    if trimL (l.take (cut false false l)) = [] then listF f (l.drop (cut false false l + 1)) else trimL (l.take (cut false false l)) :: listF f (l.drop (cut false false l + 1))
def listL (l : List UInt8) : List (List UInt8) := listF l.length l
theorem listF_enough : ∀ (f : Nat) (l : List UInt8), l.length ≤ f → listF f l = listF l.length l := by
  intro f
  induction f using Nat.strongRecOn with
  | ind f ih =>
    intro l h
    cases l with
    | nil => cases f <;> simp [listF]
    | cons c l =>
      cases f with
      | zero => simp at h
      | succ f =>
        simp only [List.length_cons] at h ⊢
        rw [listF, listF]
        have hd : ((c :: l).drop (cut false false (c :: l) + 1)).length ≤ l.length := by simp
        rw [ih f (by omega) _ (by omega), ih l.length (by omega) _ hd]
theorem listL_nil : listL [] = [] := rfl
theorem listL_cons (l : List UInt8) (h : l ≠ []) : listL l =
    if trimL (l.take (cut false false l)) = [] then listL (l.drop (cut false false l + 1)) else trimL (l.take (cut false false l)) :: listL (l.drop (cut false false l + 1)) := by
  cases l with
  | nil => exact absurd rfl h
  | cons c l =>
    have hd : ((c :: l).drop (cut false false (c :: l) + 1)).length ≤ l.length := by simp
    unfold listL
    rw [List.length_cons, listF, if_neg h, listF_enough l.length _ hd]
theorem not_empty {l : List UInt8} (h : (!l.isEmpty) = true) : l ≠ [] := by intro e; subst e; simp at h
theorem is_empty {l : List UInt8} (h : (!l.isEmpty) = false) : l = [] := by cases l <;> simp_all
theorem list_step (s : ByteArray) (k : Nat) (h : k < s.size) : listL (s.data.toList.drop k) =
    if trimL ((s.data.toList.drop k).take (cut false false (s.data.toList.drop k))) = [] then listL (s.data.toList.drop (k + (cut false false (s.data.toList.drop k) + 1)))
    else trimL ((s.data.toList.drop k).take (cut false false (s.data.toList.drop k))) :: listL (s.data.toList.drop (k + (cut false false (s.data.toList.drop k) + 1))) := by
  rw [listL_cons _ (by rw [drop_cons s k h]; simp), List.drop_drop]

/-- What quotes say, from behind the first one on. -/
def unq : List UInt8 → Option (List UInt8)
  | [] => none
  | [c] => if c = 34 then some [] else none
  | c :: d :: l => if c = 34 then none else if c = 92 then (unq l).map (d :: ·) else (unq (d :: l)).map (c :: ·)
def unquoteL (l : List UInt8) : Option (List UInt8) := if tokenL l then some l else if l.head? = some 34 then unq l.tail else none
theorem unq_other (c : UInt8) (l : List UInt8) (h1 : c ≠ 34) (h2 : c ≠ 92) : unq (c :: l) = (unq l).map (c :: ·) := by
  cases l with
  | nil => simp [unq, h1]
  | cons d l => rw [unq, if_neg h1, if_neg h2]
theorem unq_quote (l : List UInt8) : unq (34 :: l) = if l = [] then some [] else none := by
  cases l <;> simp [unq]
theorem unq_back (d : UInt8) (l : List UInt8) : unq (92 :: d :: l) = (unq l).map (d :: ·) := by simp [unq]
theorem unq_back_end : unq [92] = none := by simp [unq]
/-- the number that digits say -/
def valL (l : List UInt8) : Nat := l.foldl (fun n c => 10 * n + (c.toNat - 48)) 0
theorem valL_snoc (l : List UInt8) (c : UInt8) : valL (l ++ [c]) = 10 * valL l + (c.toNat - 48) := by simp [valL]
def numberL (l : List UInt8) : Option Nat := if l.all isDig && !l.isEmpty then some (min (valL l) 2147483648) else none
theorem isDig_bounds {c : UInt8} (h : isDig c = true) : 48 ≤ c.toNat ∧ c.toNat ≤ 57 := by simpa [isDig] using h
theorem numberL_no (s : ByteArray) (k : Nat) (h : k < s.size) (hn : isDig s[k] = false) : numberL s.data.toList = none := by
  have hm : s[k] ∈ s.data.toList := by
    rw [← getElem_list s k h]; exact List.getElem_mem _
  unfold numberL
  have : s.data.toList.all isDig = false := by
    rw [List.all_eq_false]; exact ⟨s[k], hm, by simp [hn]⟩
  rw [this]; rfl
theorem number_step (l : List UInt8) (c : UInt8) (m : Nat) (hc : isDig c = true) (hm : m = min (valL l) 2147483648) :
    min ((m : Int) * 10 + ((c.toNat : Int) - 48) % 256) 2147483648 = ((min (valL (l ++ [c])) 2147483648 : Nat) : Int) := by
  have := isDig_bounds hc
  rw [valL_snoc]
  omega
theorem numberL_yes (l : List UInt8) (m : Nat) (ha : l.all isDig = true) (hm : m = min (valL l) 2147483648) : (numberL l).getD 0 = m ∧ (numberL l).isSome = !l.isEmpty := by
  unfold numberL
  rw [ha]
  cases l with
  | nil => simp at hm ⊢; rw [hm]; rfl
  | cons c l => simp [hm]

/-- What is within quotes, byte by byte, by the machine. -/
def qd : Bool → Bool → List UInt8 → List Bool
  | _, _, [] => []
  | i, s, c :: l => (i || c == 34) :: qd (nextIn i s c) (nextSkip i s c) l
theorem qd_length (l : List UInt8) : ∀ i s, (qd i s l).length = l.length := by
  induction l with
  | nil => intro i s; rfl
  | cons c l ih => intro i s; simp [qd, ih]
/-- Up to the first comma outside quotes each comma stands within; behind it the machine begins anew. -/
theorem qd_cut (l : List UInt8) : ∀ i s, (s = true → i = true) → (∀ j, j < cut i s l → l[j]? = some 44 → (qd i s l)[j]? = some true) ∧
    (cut i s l < l.length → l[cut i s l]? = some 44 ∧ (qd i s l)[cut i s l]? = some false ∧ (qd i s l).drop (cut i s l + 1) = qd false false (l.drop (cut i s l + 1))) := by
  induction l with
  | nil => intro i s _; simp [cut]
  | cons c l ih =>
    intro i s hsi
    rw [cut]
    by_cases h : c = 44 ∧ i = false
    · rw [if_pos h]
      obtain ⟨rfl, rfl⟩ := h
      have hs : s = false := by cases s <;> simp_all
      subst hs
      refine ⟨fun j hj => absurd hj (Nat.not_lt_zero _), fun _ => ⟨by simp, by simp [qd], ?_⟩⟩
      simp [qd, nextIn, nextSkip]
    · rw [if_neg h]
      have hn : nextSkip i s c = true → nextIn i s c = true := by
        unfold nextSkip nextIn
        cases s <;> simp
        intro h1 h2; simp [h1, h2]
      obtain ⟨h1, h2⟩ := ih (nextIn i s c) (nextSkip i s c) hn
      constructor
      · intro j hj hc
        cases j with
        | zero =>
          simp at hc
          subst hc
          have : i = true := by cases i <;> simp_all
          simp [qd, this]
        | succ j =>
          simp only [List.getElem?_cons_succ, qd] at hc ⊢
          exact h1 j (by omega) hc
      · intro hlt
        simp only [List.length_cons] at hlt
        obtain ⟨a, b, d⟩ := h2 (by omega)
        simp only [List.getElem?_cons_succ, qd, List.drop_succ_cons]
        exact ⟨a, b, d⟩
theorem qd_snoc (l : List UInt8) (_c : UInt8) : ∀ i s, ∃ i' s', (∀ r, qd i s (l ++ r) = qd i s l ++ qd i' s' r) := by
  induction l with
  | nil => intro i s; exact ⟨i, s, fun r => rfl⟩
  | cons d l ih =>
    intro i s
    obtain ⟨i', s', h⟩ := ih (nextIn i s d) (nextSkip i s d)
    exact ⟨i', s', fun r => by simp [qd, h]⟩
/-- The machine's state behind a text. -/
def stIn : Bool → Bool → List UInt8 → Bool × Bool
  | i, s, [] => (i, s)
  | i, s, c :: l => stIn (nextIn i s c) (nextSkip i s c) l
theorem stIn_snoc (l : List UInt8) (c : UInt8) : ∀ i s, stIn i s (l ++ [c]) = (nextIn (stIn i s l).1 (stIn i s l).2 c, nextSkip (stIn i s l).1 (stIn i s l).2 c) := by
  induction l with
  | nil => intro i s; rfl
  | cons d l ih => intro i s; simp [stIn, ih]
theorem qd_snoc1 (l : List UInt8) (c : UInt8) : ∀ i s, qd i s (l ++ [c]) = qd i s l ++ [(stIn i s l).1 || c == 34] := by
  induction l with
  | nil => intro i s; rfl
  | cons d l ih => intro i s; simp [stIn, qd, ih]
/-- unquote, from the place between the quotes -/
def unqIn : List UInt8 → Option (List UInt8)
  | [] => some []
  | [c] => if c = 34 ∨ c = 92 then none else some [c]
  | c :: d :: l => if c = 34 then none else if c = 92 then (unqIn l).map (d :: ·) else (unqIn (d :: l)).map (c :: ·)
theorem unqIn_other (c : UInt8) (l : List UInt8) (h1 : c ≠ 34) (h2 : c ≠ 92) : unqIn (c :: l) = (unqIn l).map (c :: ·) := by
  cases l with
  | nil => simp [unqIn, h1, h2]
  | cons d l => rw [unqIn, if_neg h1, if_neg h2]
theorem unqIn_quote (l : List UInt8) : unqIn (34 :: l) = none := by cases l <;> simp [unqIn]
theorem unqIn_back (d : UInt8) (l : List UInt8) : unqIn (92 :: d :: l) = (unqIn l).map (d :: ·) := by simp [unqIn]
theorem unqIn_back_end : unqIn [92] = none := by simp [unqIn]
theorem unq_in : ∀ (n : Nat) (l : List UInt8), l.length ≤ n → unq (l ++ [34]) = unqIn l := by
  intro n
  induction n with
  | zero => intro l h; have : l = [] := List.eq_nil_of_length_eq_zero (by omega); subst this; simp [unq, unqIn]
  | succ n ih =>
    intro l h
    cases l with
    | nil => simp [unq, unqIn]
    | cons c l =>
      simp only [List.length_cons] at h
      by_cases h1 : c = 34
      · subst h1; rw [List.cons_append, unq_quote, unqIn_quote, if_neg (by simp)]
      · by_cases h2 : c = 92
        · subst h2
          cases l with
          | nil => simp [unq, unqIn]
          | cons d l =>
            rw [List.cons_append, List.cons_append, unq_back, unqIn_back, ih l (by simp at h; omega)]
        · rw [List.cons_append, unq_other _ _ h1 h2, unqIn_other _ _ h1 h2, ih l (by omega)]
theorem unq_last : ∀ (n : Nat) (l : List UInt8), l.length ≤ n → l.getLast? ≠ some 34 → unq l = none := by
  intro n
  induction n with
  | zero => intro l h _; have : l = [] := List.eq_nil_of_length_eq_zero (by omega); subst this; rfl
  | succ n ih =>
    intro l h hl
    match l, h, hl with
    | [], _, _ => rfl
    | [c], _, hl => simp at hl; simp [unq, hl]
    | c :: d :: l, h, hl =>
      simp only [List.length_cons] at h
      rw [unq]
      split
      · rfl
      · split
        · rw [ih l (by omega) (by cases l with
            | nil => simp
            | cons e l => simpa using hl)]; rfl
        · rw [ih (d :: l) (by simp; omega) (by simpa using hl)]; rfl
theorem trimL_nil : trimL [] = [] := by decide
theorem list_at (l : List UInt8) (a : Nat) : listL (l.drop a) =
    if trimL ((l.drop a).take (cut false false (l.drop a))) = [] then listL (l.drop (a + (cut false false (l.drop a) + 1)))
    else trimL ((l.drop a).take (cut false false (l.drop a))) :: listL (l.drop (a + (cut false false (l.drop a) + 1))) := by
  by_cases h : l.drop a = []
  · have e : l.drop (a + (cut false false (l.drop a) + 1)) = [] := by
      rw [← List.drop_drop, h]; simp
    rw [e, h, List.take_nil, trimL_nil, if_pos rfl]
  · rw [listL_cons _ h, List.drop_drop]
/-- within an element each comma is quoted -/
theorem qd_within (l : List UInt8) (a k : Nat) (hq : (qd false false l).drop a = qd false false (l.drop a)) (hak : a ≤ k) (hk : k < a + cut false false (l.drop a)) (hc : l[k]? = some 44) : (qd false false l)[k]? = some true := by
  have h := (qd_cut (l.drop a) false false (by simp)).1 (k - a) (by omega) (by rw [List.getElem?_drop]; rw [show a + (k - a) = k by omega]; exact hc)
  rw [← hq, List.getElem?_drop, show a + (k - a) = k by omega] at h
  exact h
/-- and at its end there is a comma that is not, behind which the machine begins anew -/
theorem qd_end (l : List UInt8) (a k : Nat) (hq : (qd false false l).drop a = qd false false (l.drop a)) (hk : k = a + cut false false (l.drop a)) (hl : k < l.length) :
    l[k]? = some 44 ∧ (qd false false l)[k]? = some false ∧ (qd false false l).drop (k + 1) = qd false false (l.drop (k + 1)) := by
  obtain ⟨h1, h2, h3⟩ := (qd_cut (l.drop a) false false (by simp)).2 (by simp; omega)
  rw [← hq, List.getElem?_drop, ← hk] at h2
  rw [List.getElem?_drop, ← hk] at h1
  rw [← hq, List.drop_drop, List.drop_drop, show a + (cut false false (l.drop a) + 1) = k + 1 by omega] at h3
  exact ⟨h1, h2, h3⟩
theorem mid_last (s : ByteArray) (h : 2 ≤ s.size) : s.data.toList.drop 1 = (s.data.toList.drop 1).take (s.size - 1 - 1) ++ [s[s.size - 1]] := by
  have hl : (s.data.toList.drop 1).length = s.size - 1 := by rw [List.length_drop, size_list]
  have h1 : (s.data.toList.drop 1).take (s.size - 1 - 1 + 1) = s.data.toList.drop 1 := List.take_of_length_le (by omega)
  conv => lhs; rw [← h1]
  rw [List.take_succ_eq_append_getElem (by omega)]
  congr 2
  rw [List.getElem_drop, ← getElem_list s (s.size - 1) (by omega)]
  congr 1
  omega
theorem unquote_quoted (s : ByteArray) (ht : tokenL s.data.toList = false) (h : 2 ≤ s.size) (h0 : s[0] = 34) (h1 : s[s.size - 1] = 34) : unquoteL s.data.toList = unqIn ((s.data.toList.drop 1).take (s.size - 1 - 1)) := by
  have hd := drop_cons s 0 (by omega)
  rw [List.drop_zero] at hd
  have ht' : s.data.toList.tail = s.data.toList.drop 1 := by rw [List.drop_one]
  unfold unquoteL
  rw [ht, if_neg (by simp), if_pos (by rw [hd]; simp [h0]), ht', mid_last s h, h1, unq_in _ _ (Nat.le_refl _)]
  congr 1
  rw [List.take_left']
  simp
theorem unquote_open (s : ByteArray) (ht : tokenL s.data.toList = false) (h : 2 ≤ s.size) (h1 : s[s.size - 1] ≠ 34) : unquoteL s.data.toList = none := by
  have ht' : s.data.toList.tail = s.data.toList.drop 1 := by rw [List.drop_one]
  unfold unquoteL
  rw [ht, if_neg (by simp)]
  split
  · rw [ht', mid_last s h, unq_last _ _ (Nat.le_refl _) (by simp [h1])]
  · rfl
theorem unquote_else (s : ByteArray) (ht : tokenL s.data.toList = false) (h : 0 < s.size) (h0 : s[0] ≠ 34) : unquoteL s.data.toList = none := by
  have hd := drop_cons s 0 (by omega)
  rw [List.drop_zero] at hd
  unfold unquoteL
  rw [ht, if_neg (by simp), if_neg (by rw [hd]; simp [h0])]
theorem unquote_short (s : ByteArray) (ht : tokenL s.data.toList = false) (h : s.size < 2) : unquoteL s.data.toList = none := by
  have hl := size_list s
  unfold unquoteL
  rw [ht, if_neg (by simp)]
  split
  · rename_i hh
    match hm : s.data.toList, hl, hh with
    | [], _, hh => rfl
    | [c], _, hh => simp [unq]
    | c :: d :: r, hl, hh => simp at hl; omega
  · rfl
theorem number2_step (l : List UInt8) (c : UInt8) (m : Nat) (hc : isDig c = true) (hm : min m 2147483648 = min (valL l) 2147483648) (hlt : m < 2147483648) :
    min (10 * m + (c.toNat - 48)) 2147483648 = min (valL (l ++ [c])) 2147483648 := by
  have := isDig_bounds hc
  rw [valL_snoc]
  omega
theorem number2_stay (l : List UInt8) (c : UInt8) (m : Nat) (hm : min m 2147483648 = min (valL l) 2147483648) (hlt : 2147483648 ≤ m) :
    min m 2147483648 = min (valL (l ++ [c])) 2147483648 := by
  rw [valL_snoc]
  omega
/-- a number's digits -/
def digF : Nat → Nat → List UInt8
  | 0, _ => []
  | f + 1, n => if n < 10 then [(48 + n).toUInt8] else digF f (n / 10) ++ [(48 + n % 10).toUInt8]
theorem digF_len (f : Nat) : ∀ n, (digF f n).length ≤ f := by
  induction f with
  | zero => intro n; simp [digF]
  | succ f ih =>
    intro n
    rw [digF]
    split
    · simp
    · have := ih (n / 10); simp; omega
theorem digit_byte (n : Nat) : UInt8.ofNat (IntKind.u8.wrap (IntKind.i64.wrap (48 + (n : Int).tmod 10))).toNat = (48 + n % 10).toUInt8 := by
  have h1 : (n : Int).tmod 10 = (n : Int) % 10 := Int.tmod_eq_emod_of_nonneg (by omega)
  have h2 : IntKind.i64.wrap (48 + (n : Int) % 10) = 48 + (n : Int) % 10 := IntWalk.i64_in _ (by omega)
  rw [h1, h2]
  have h3 : IntKind.u8.wrap (48 + (n : Int) % 10) = 48 + (n : Int) % 10 := by
    simp [IntKind.wrap, IntKind.bits, IntKind.signed]; omega
  rw [h3]
  have h4 : (48 + (n : Int) % 10).toNat = 48 + n % 10 := by omega
  rw [h4]
theorem listF_len : ∀ (f : Nat) (l : List UInt8), (listF f l).length ≤ l.length := by
  intro f
  induction f with
  | zero => intro l; simp [listF]
  | succ f ih =>
    intro l
    rw [listF]
    split
    · simp
    · rename_i hne
      have hp : 0 < l.length := by cases l with | nil => exact absurd rfl hne | cons c l => simp
      have := ih (l.drop (cut false false l + 1))
      rw [List.length_drop] at this
      split
      · omega
      · simp; omega
theorem listL_len (l : List UInt8) : (listL l).length ≤ l.length := listF_len _ _
theorem dropWhile_head {α : Type} (p : α → Bool) (l : List α) (c : α) (h : (l.dropWhile p).head? = some c) : p c = false := by
  induction l with
  | nil => simp at h
  | cons d l ih =>
    rw [List.dropWhile_cons] at h
    split at h
    · exact ih h
    · rename_i hd; simp at h; subst h; simpa using hd
theorem dropWhile_last {α : Type} (p : α → Bool) (l : List α) (h : l.dropWhile p ≠ []) : (l.dropWhile p).getLast? = l.getLast? := by
  induction l with
  | nil => simp at h
  | cons d l ih =>
    rw [List.dropWhile_cons] at h ⊢
    split
    · rename_i hd
      rw [if_pos hd] at h
      rw [ih h]
      cases l with
      | nil => simp at h
      | cons e l => simp
    · rfl
theorem trim_head (l : List UInt8) (c : UInt8) (h : (trimL l).head? = some c) : isBl c = false := by
  rw [← isBl_contains]; exact dropWhile_head _ _ c h
theorem trim_last (l : List UInt8) (c : UInt8) (h : (trimL l).getLast? = some c) : isBl c = false := by
  unfold trimL Lib.trimS Lib.trimLeftS at h
  rw [dropWhile_last _ _ (by intro e; rw [e] at h; simp at h)] at h
  unfold Lib.trimRightS at h
  rw [List.getLast?_reverse] at h
  rw [← isBl_contains]; exact dropWhile_head _ _ c h
theorem trim_whole (l : List UInt8) (h1 : ∀ c, l.head? = some c → isBl c = false) (h2 : ∀ c, l.getLast? = some c → isBl c = false) : trimL l = l := by
  rw [trim_of l 0 l.length (Nat.zero_le _) (Nat.le_refl _) (fun j x hj => absurd hj (Nat.not_lt_zero _)) (fun j x hj hx => by
      have := (List.getElem?_eq_some_iff.1 hx).1; omega) (fun _ x hx => h1 x (by rw [List.head?_eq_getElem?]; exact hx)) (fun _ x hx => h2 x (by rw [List.getLast?_eq_getElem?]; exact hx))]
  simp
theorem trimL_idem (l : List UInt8) : trimL (trimL l) = trimL l := trim_whole _ (trim_head l) (trim_last l)
theorem listF_good : ∀ (f : Nat) (l : List UInt8), ∀ e ∈ listF f l, e ≠ [] ∧ trimL e = e := by
  intro f
  induction f with
  | zero => intro l e he; simp [listF] at he
  | succ f ih =>
    intro l e he
    rw [listF] at he
    split at he
    · simp at he
    · split at he
      · exact ih _ e he
      · rename_i h
        rcases List.mem_cons.1 he with rfl | he
        · exact ⟨h, trimL_idem _⟩
        · exact ih _ e he
theorem listL_good (l : List UInt8) : ∀ e ∈ listL l, e ≠ [] ∧ trimL e = e := listF_good _ _
theorem trim_len (l : List UInt8) : (trimL l).length ≤ l.length := by
  unfold trimL Lib.trimS Lib.trimLeftS Lib.trimRightS
  have h1 := (List.dropWhile_sublist (p := fun x => [32, 9].contains x) (l := (l.reverse.dropWhile (fun x => [32, 9].contains x)).reverse)).length_le
  have h2 := (List.dropWhile_sublist (p := fun x => [32, 9].contains x) (l := l.reverse)).length_le
  simp only [List.length_reverse] at h1 h2
  omega
theorem listF_size : ∀ (f : Nat) (l : List UInt8), ∀ e ∈ listF f l, e.length ≤ l.length := by
  intro f
  induction f with
  | zero => intro l e he; simp [listF] at he
  | succ f ih =>
    intro l e he
    rw [listF] at he
    split at he
    · simp at he
    · have h1 : ∀ e ∈ listF f (l.drop (cut false false l + 1)), e.length ≤ l.length := fun e he => by
        have := ih _ e he
        rw [List.length_drop] at this
        omega
      split at he
      · exact h1 e he
      · rcases List.mem_cons.1 he with rfl | he
        · have := trim_len (l.take (cut false false l))
          rw [List.length_take] at this
          omega
        · exact h1 e he
theorem listL_size (l : List UInt8) : ∀ e ∈ listL l, e.length ≤ l.length := listF_size _ _
theorem strs_oneCell (L : List (List UInt8)) : ∀ u ∈ L.map strV, u.oneCell' = true := by
  intro u hu
  obtain ⟨x, _, rfl⟩ := List.mem_map.1 hu
  rfl
end Go.Pantry
/-
  Fields: the plain mathematics. No program is imported.
-/
namespace Go.Pantry
open Go.RowKit

/-- a field: its name, its value -/
abbrev Fld := List UInt8 × List UInt8
def okV (c : UInt8) : Bool := !((decide (c.toNat < 32) && c.toNat != 9) || c.toNat == 127)
def rightF (f : Fld) : Bool := tokenL f.1 && decide (f.1.length ≤ 64) && decide (f.2.length ≤ 1024) && trimL f.2 == f.2 && f.2.all okV
def rightFs (l : List Fld) : Bool := decide (l.length ≤ 64) && l.all rightF
/-- has a field the name n? -/
def isF (n : List UInt8) (f : Fld) : Bool := lowerL f.1 == lowerL n
def allF (l : List Fld) (n : List UInt8) : List (List UInt8) := (l.filter (isF n)).map (·.2)
/-- joined by a comma and a blank -/
def joinC : List (List UInt8) → List UInt8
  | [] => []
  | [a] => a
  | a :: b :: r => a ++ 44 :: 32 :: joinC (b :: r)
def getF (l : List Fld) (n : List UInt8) : List UInt8 := joinC (allF l n)
def elementsF (l : List Fld) (n : List UInt8) : List (List UInt8) := listL (getF l n)
def hasF (l : List Fld) (n w : List UInt8) : Bool := (elementsF l n).any fun e => lowerL e == lowerL w
def outF (l : List Fld) (n : List UInt8) : List Fld := l.filter fun f => !isF n f
/-- one step of setting f: what stands so far, and whether f stands -/
def stepW (f : Fld) (s : List Fld × Bool) (g : Fld) : List Fld × Bool := if isF f.1 g then (if s.2 then s else (s.1 ++ [f], true)) else (s.1 ++ [g], s.2)
def runW (f : Fld) (l : List Fld) : List Fld × Bool := l.foldl (stepW f) ([], false)
def withF (l : List Fld) (f : Fld) : List Fld := if (runW f l).2 then (runW f l).1 else (runW f l).1 ++ [f]
theorem runW_snoc (f : Fld) (l : List Fld) (g : Fld) : runW f (l ++ [g]) = stepW f (runW f l) g := by simp [runW]

theorem joinC_snoc (l : List (List UInt8)) (a : List UInt8) : joinC (l ++ [a]) = if l = [] then a else joinC l ++ 44 :: 32 :: a := by
  induction l with
  | nil => rfl
  | cons b r ih =>
    cases r with
    | nil => rfl
    | cons c r =>
      rw [if_neg (by simp)]
      rw [if_neg (by simp)] at ih
      show b ++ 44 :: 32 :: joinC ((c :: r) ++ [a]) = _
      rw [ih]
      simp [joinC]
theorem joinC_append (a b : List (List UInt8)) : joinC (a ++ b) = if a = [] then joinC b else if b = [] then joinC a else joinC a ++ 44 :: 32 :: joinC b := by
  induction a with
  | nil => simp
  | cons x r ih =>
    rw [if_neg (by simp)]
    cases r with
    | nil =>
      cases b with
      | nil => simp
      | cons y b => simp [joinC]
    | cons z r =>
      rw [if_neg (by simp)] at ih
      show x ++ 44 :: 32 :: joinC ((z :: r) ++ b) = _
      rw [ih]
      by_cases hb : b = []
      · subst hb; simp [joinC]
      · rw [if_neg hb, if_neg hb]; simp [joinC]
theorem allF_snoc (l : List Fld) (n : List UInt8) (f : Fld) : allF (l ++ [f]) n = allF l n ++ if isF n f then [f.2] else [] := by
  simp only [allF, List.filter_append, List.map_append, List.filter_cons, List.filter_nil]
  split <;> simp
theorem allF_append (a b : List Fld) (n : List UInt8) : allF (a ++ b) n = allF a n ++ allF b n := by simp [allF]
theorem outF_snoc (l : List Fld) (n : List UInt8) (f : Fld) : outF (l ++ [f]) n = outF l n ++ if isF n f then [] else [f] := by
  simp only [outF, List.filter_append, List.filter_cons, List.filter_nil]
  cases isF n f <;> simp
theorem outF_allF (l : List Fld) (n : List UInt8) : allF (outF l n) n = [] := by
  induction l with
  | nil => rfl
  | cons f r ih =>
    simp only [allF, outF, List.filter_cons] at ih ⊢
    cases h : isF n f
    · simp only [Bool.not_false, if_true, List.filter_cons, h, Bool.false_eq_true, if_false]
      exact ih
    · simp only [Bool.not_true, Bool.false_eq_true, if_false]
      exact ih
theorem outF_idem (l : List Fld) (n : List UInt8) : outF (outF l n) n = outF l n := by simp [outF]
theorem outF_len (l : List Fld) (n : List UInt8) : (outF l n).length + (allF l n).length = l.length := by
  induction l with
  | nil => rfl
  | cons f r ih =>
    simp only [allF, outF, List.filter_cons] at ih ⊢
    cases h : isF n f <;> simp at ih ⊢ <;> omega
theorem isF_low (n : List UInt8) (f : Fld) : isF (lowerL n) f = isF n f := by simp only [isF, lowerL_idem]
theorem isF_same {n m : List UInt8} (h : lowerL n = lowerL m) (f : Fld) : isF n f = isF m f := by simp only [isF, h]
theorem isF_self (f : Fld) : isF f.1 f = true := by simp [isF]
theorem isF_chain {f g h : Fld} (h1 : isF f.1 g = true) : isF g.1 h = isF f.1 h := by
  have : lowerL g.1 = lowerL f.1 := by simpa [isF] using h1
  simp only [isF, this]

/-- what stands so far when f is set: the names that are not f's are as they were; f stands at most once -/
theorem runW_out (f : Fld) (l : List Fld) : outF (runW f l).1 f.1 = outF l f.1 ∧ (runW f l).2 = l.any (isF f.1) ∧ allF (runW f l).1 f.1 = if l.any (isF f.1) then [f.2] else [] := by
  have key : ∀ (r : List Fld), outF (runW f r).1 f.1 = outF r f.1 ∧ (runW f r).2 = r.any (isF f.1) ∧ allF (runW f r).1 f.1 = if r.any (isF f.1) then [f.2] else [] := by
    intro r
    induction hn : r.length generalizing r with
    | zero => have : r = [] := List.eq_nil_of_length_eq_zero hn
              subst this; simp [runW, outF, allF]
    | succ n ih =>
      rcases List.eq_nil_or_concat r with rfl | ⟨r', g, rfl⟩
      · simp at hn
      · rw [List.concat_eq_append] at hn ⊢
        obtain ⟨i1, i2, i3⟩ := ih r' (by simpa using hn)
        rw [runW_snoc, outF_snoc, List.any_append]
        unfold stepW
        cases hg : isF f.1 g
        · simp only [Bool.false_eq_true, if_false, outF_snoc, allF_snoc, hg, i1, i2, i3, List.any_cons, List.any_nil, Bool.or_false, List.append_nil]
          exact ⟨trivial, trivial, trivial⟩
        · cases hs : (runW f r').2
          · have hs' := i2.symm.trans hs
            simp only [if_true, Bool.false_eq_true, if_false, outF_snoc, allF_snoc, isF_self, i1, i3, hs', hg, List.any_cons, List.any_nil, Bool.or_false, Bool.or_true, List.append_nil, List.nil_append]
            exact ⟨trivial, trivial, trivial⟩
          · have hs' := i2.symm.trans hs
            simp only [if_true, i1, i3, hs', hs, hg, List.any_cons, List.any_nil, Bool.or_false, Bool.or_true, List.append_nil]
            exact ⟨trivial, trivial, trivial⟩
  exact key l
theorem withF_out (l : List Fld) (f : Fld) : outF (withF l f) f.1 = outF l f.1 := by
  obtain ⟨a, -, -⟩ := runW_out f l
  unfold withF
  split
  · exact a
  · rw [outF_snoc, a]; simp [isF_self]
theorem withF_all (l : List Fld) (f : Fld) : allF (withF l f) f.1 = [f.2] := by
  obtain ⟨-, b, c⟩ := runW_out f l
  unfold withF
  split
  · rename_i h; rw [c, ← b, h]; rfl
  · rename_i h
    have h' : (runW f l).2 = false := by simpa using h
    rw [allF_snoc, c, ← b, h']; simp [isF_self]
end Go.Pantry
/-
  Slices whose elements are two texts (fields): no program is imported.
-/
namespace Go.Pantry
open Go.RowKit

/-- a field, as a value; fields, as cells -/
abbrev fldV (p : Fld) : Value := .agg #[strV p.1, strV p.2]
def fldCells (L : List Fld) : List Value := L.flatMap fun p => [strV p.1, strV p.2]
theorem fldCells_len (L : List Fld) : (fldCells L).length = L.length * 2 := by
  induction L with
  | nil => rfl
  | cons p r ih => simp only [fldCells, List.flatMap_cons, List.length_append, List.length_cons, List.length_nil] at ih ⊢; omega
theorem fldCells_at (L : List Fld) : ∀ (j : Nat) (p : Fld), L[j]? = some p → (fldCells L)[j * 2]? = some (strV p.1) ∧ (fldCells L)[j * 2 + 1]? = some (strV p.2) := by
  induction L with
  | nil => intro j p h; simp at h
  | cons q r ih =>
    intro j p h
    cases j with
    | zero => simp at h; subst h; exact ⟨rfl, rfl⟩
    | succ j =>
      have h' : r[j]? = some p := by simpa using h
      obtain ⟨a, b⟩ := ih j p h'
      have e1 : (j + 1) * 2 = j * 2 + 2 := by omega
      rw [e1]
      exact ⟨a, b⟩
theorem fldCells_append (A B : List Fld) : fldCells (A ++ B) = fldCells A ++ fldCells B := by simp [fldCells]
theorem fldCells_one (L : List Fld) : ∀ u ∈ fldCells L, u.oneCell' = true := by
  intro u hu
  obtain ⟨p, _, hp⟩ := List.mem_flatMap.1 hu
  rcases List.mem_cons.1 hp with rfl | hp
  · rfl
  · rcases List.mem_cons.1 hp with rfl | hp
    · rfl
    · cases hp
/-- The slice value v reads as the fields L. -/
def Reads2 (w : World) (v : Value) (L : List Fld) : Prop :=
  ∃ ao cap, v = .slice ao L.length cap ∧ (∀ (j : Nat) p, L[j]? = some p → (∃ b off, ao = some ⟨b, off, none⟩ ∧ w.cell? ⟨b, off + j * 2, none⟩ = some (strV p.1) ∧ w.cell? ⟨b, off + j * 2 + 1, none⟩ = some (strV p.2))) ∧ (ao = none → cap = 0) ∧ L.length ≤ cap
theorem Reads2.below {w w' : World} {v : Value} {L : List Fld} (h : Reads2 w v L) (hb : Below w.heap.size w w') : Reads2 w' v L := by
  obtain ⟨ao, cap, hv, hc, hz⟩ := h
  refine ⟨ao, cap, hv, fun j p hj => ?_, hz⟩
  obtain ⟨b, off, ha, h1, h2⟩ := hc j p hj
  have hlt : b < w.heap.size := World.block_lt_of_cell? w _ h1
  exact ⟨b, off, ha, (hb.cell (p := ⟨b, off + j * 2, none⟩) hlt).trans h1, (hb.cell (p := ⟨b, off + j * 2 + 1, none⟩) hlt).trans h2⟩
/-- One element: where it lies. -/
theorem Reads2.fld {w : World} {ao : Option Addr} {n cap : Nat} {L : List Fld} (h : Reads2 w (.slice ao n cap) L) {j : Nat} {p : Fld} (hj : L[j]? = some p) :
    ∃ b off, ao = some ⟨b, off, none⟩ ∧ w.cell? ⟨b, off + j * 2, none⟩ = some (strV p.1) ∧ w.cell? ⟨b, off + j * 2 + 1, none⟩ = some (strV p.2) := by
  obtain ⟨ao', cap', hv, hc, -⟩ := h
  cases hv
  exact hc j p hj
theorem Reads2.cap {w : World} {n c : Nat} {a : Addr} {L : List Fld} (h : Reads2 w (.slice (some a) n c) L) (d : Nat) (hd : L.length ≤ d) : Reads2 w (.slice (some a) n d) L := by
  obtain ⟨ao', cap', hv, hc, -⟩ := h
  cases hv
  exact ⟨_, d, rfl, hc, (fun e => by cases e), hd⟩
theorem Reads2.form {w : World} {v : Value} {L : List Fld} (h : Reads2 w v L) : ∃ ao cap, v = .slice ao L.length cap := let ⟨ao, cap, hv, _⟩ := h; ⟨ao, cap, hv⟩
theorem take_fld {L : List Fld} {k : Nat} {f : Fld} (h : L[k]? = some f) : L.take (k + 1) = L.take k ++ [f] := by
  obtain ⟨hk', rfl⟩ := List.getElem?_eq_some_iff.1 h
  exact List.take_succ_eq_append_getElem hk'
theorem fld_of_take {L : List Fld} {k : Nat} {f : Fld} (hk : k < L.length) (h : L.take (k + 1) = L.take k ++ [f]) : L[k]? = some f := by
  rw [List.take_succ_eq_append_getElem hk] at h
  have := List.append_cancel_left h
  simp at this
  rw [List.getElem?_eq_getElem hk, this]
end Go.Pantry
namespace Go
open Go.RowKit Go.Pantry
theorem World.ownsRow.reads2 {w : World} {B : Nat} {e : TypeId} {v : Value} {n : Nat} {L : List Fld} (h : w.ownsRow B e 2 v n (fldCells L)) : n = L.length ∧ Reads2 w v L := by
  have hl : n = L.length := by have := h.1; rw [fldCells_len] at this; omega
  subst hl
  refine ⟨rfl, ?_⟩
  rcases h.2 with ⟨rfl, hn⟩ | ⟨g, cap, cur, rfl, hb, hg, hnc, hcm, hcs, htake⟩
  · exact ⟨none, 0, by rw [hn], fun j p hj => by have : j < L.length := (List.getElem?_eq_some_iff.1 hj).1; omega, fun _ => rfl, by omega⟩
  · refine ⟨some ⟨g, 0, none⟩, cap, rfl, fun j p hj => ⟨g, 0, rfl, ?_⟩, (fun e => by cases e), hnc⟩
    obtain ⟨a, b⟩ := fldCells_at L j p hj
    have hadd : ∀ i : Nat, (⟨g, 0, none⟩ : Addr).add i = ⟨g, 0 + i, none⟩ := fun i => by unfold Addr.add; split <;> simp_all
    have h1 := h.cells (g := g) rfl _ _ a
    have h2 := h.cells (g := g) rfl _ _ b
    rw [hadd] at h1 h2
    exact ⟨h1, by rw [Nat.add_assoc]; exact h2⟩
end Go
namespace Go.Pantry
open Go.RowKit
/-- A slice of fields that the call made: the fields L. (Behind a word of its own: a walk's end takes an open 'there is' apart.) -/
def MadeFlds (t : TypeId) (B : Nat) (L : List Fld) (e : Ending) (w' : World) : Prop := ∃ v' k, e = .returned v' ∧ w'.ownsRow B t 2 v' k (fldCells L)
theorem drewN_below2 (w : World) (n : Nat) : Below w.heap.size w (w.drewN n) := ⟨rfl, rfl, rfl, Nat.le_refl _, fun _ _ => rfl⟩
/-- A slice of texts that the call made. -/
def MadeStrs (t : TypeId) (B : Nat) (l : List (List UInt8)) (e : Ending) (w' : World) : Prop := ∃ v, e = .returned v ∧ w'.ownsRow B t 1 v l.length (l.map strV)
/-- append(out, f), out nil or the call's own, f a field. -/
theorem wpList_append_fld {P : Program} {ops : Array Oper} {rest : List Oper} {o : Oper} {a : Act} {Q : Exit → Act → World → Prop} (w : World) (hgd : o.guard = none) (s x : Operand) (t : TypeId)
    (ho : o.op = .call { callee := .builtin .append, args := #[s, x], argTypes := #[t, t] })
    (B : Nat) (e : TypeId) {z : Value} {bytes : Nat} (ht : P.underlying t = some (.slice e)) (hi : (P.info? e).map (fun i => (i.zero, i.size, i.bytes)) = some (some z, 2, bytes)) (hzs : z.cells.size = 2) (hby : bytes ≤ 4096)
    {v : Value} {n : Nat} {L : List Fld} (hs : a.eval s = v) (hown : w.ownsRow B e 2 v n (fldCells L)) (p : Fld)
    {g : Nat} (hx : a.eval x = .slice (some ⟨g, 0, none⟩) 1 1) (hgs : g = w.heap.size) (hn : n < 4294967296) (hB : B ≤ w.heap.size)
    (h : ∀ v' w', w'.ownsRow B e 2 v' (n + 1) (fldCells (L ++ [p])) → Below B w w' → wpList P ops Q rest (a.put o.dst v') w') :
    wpList P ops Q (o :: rest) a (w.alloc (.cells #[strV p.1, strV p.2] e)) := by
  subst hgs
  obtain ⟨i0, h1, h2, h3, h4⟩ := info_parts hi
  refine wpList_append_own _ hgd s x t ho B e i0 z 2 bytes ht h1 h2 h3 h4 hzs (by decide) v n _ hs (hown.alloc _) ⟨w.heap.size, 0, none⟩ 1 1 [strV p.1, strV p.2] hx rfl ?_ ?_ ?_ ?_ ?_ ?_
  · intro j y hj
    have e0 : (⟨w.heap.size, 0, none⟩ : Addr).add j = ⟨w.heap.size, j, none⟩ := by unfold Addr.add; split <;> simp_all
    rw [e0, World.cell?_alloc_at _ _ _ _ rfl]
    simpa using hj
  · intro y hy
    rcases List.mem_cons.1 hy with rfl | hy
    · rfl
    · rcases List.mem_cons.1 hy with rfl | hy
      · rfl
      · cases hy
  · unfold maxLen; omega
  · calc (n + 1) * bytes ≤ 4294967296 * 4096 := Nat.mul_le_mul (by omega) hby
      _ ≤ 140737488355328 := by decide
  · simp; omega
  · intro v' w' ho' hg _
    have hg' : w.grownBy w' v.ownBlock := ⟨hg.os, hg.tape, hg.output, Nat.le_trans (by simp) hg.size, fun k hk hne => (hg.block k (by simp; omega) hne).trans (Below.heap_alloc _ _ _ hk)⟩
    refine h v' w' ?_ ((Below.refl B w).grown hg' hB (fun k hk => (hown.lt k hk).1))
    rw [fldCells_append]
    exact ho'
/-- append(out, more...), out nil or the call's own, whatever slice of fields more is: under the platform's bound. -/
theorem wpList_append_fldsz {P : Program} {ops : Array Oper} {rest : List Oper} {o : Oper} {a : Act} {Q : Exit → Act → World → Prop} (w : World) (hgd : o.guard = none) (s x : Operand) (t : TypeId)
    (ho : o.op = .call { callee := .builtin .append, args := #[s, x], argTypes := #[t, t] })
    (B : Nat) (e : TypeId) {z : Value} {bytes : Nat} (ht : P.underlying t = some (.slice e)) (hi : (P.info? e).map (fun i => (i.zero, i.size, i.bytes)) = some (some z, 2, bytes)) (hzs : z.cells.size = 2)     {v : Value} {n : Nat} {L : List Fld} (hs : a.eval s = v) (hown : w.ownsRow B e 2 v n (fldCells L)) {vx : Value} {M : List Fld} (hr : Reads2 w vx M)
    (hx : a.eval x = vx) (hn : n + M.length ≤ maxLen) (hbz : (n + M.length) * bytes ≤ 140737488355328) (hB : B ≤ w.heap.size)
    (h : ∀ v' w', w'.ownsRow B e 2 v' (n + M.length) (fldCells (L ++ M)) → Below B w w' → wpList P ops Q rest (a.put o.dst v') w') :
    wpList P ops Q (o :: rest) a w := by
  obtain ⟨i0, h1, h2, h3, h4⟩ := info_parts hi
  obtain ⟨ao, cap, rfl, hc, hz⟩ := hr
  cases ao with
  | none =>
    have hnil : M = [] := by
      cases M with
      | nil => rfl
      | cons y ys => obtain ⟨b, off, he, _⟩ := hc 0 y rfl; cases he
    subst hnil
    rw [hz.1 rfl] at hx
    refine wpList_append_own_none hgd s x t ho B e i0 2 ht h1 v n (fldCells L) hs hown hx ?_
    exact h v w (by simpa using hown) (Below.refl _ _)
  | some ad =>
    have hspot : ∀ (j : Nat) (u : Value), (fldCells M)[j]? = some u → w.cell? (ad.add j) = some u := by
      intro j u hj
      have hjl : j < M.length * 2 := by have := (List.getElem?_eq_some_iff.1 hj).1; rwa [fldCells_len] at this
      have hq : j / 2 < M.length := by omega
      obtain ⟨p, hp⟩ : ∃ p, M[j / 2]? = some p := ⟨_, List.getElem?_eq_getElem hq⟩
      obtain ⟨b, off, he, g1, g2⟩ := hc (j / 2) p hp
      obtain ⟨f1, f2⟩ := fldCells_at M (j / 2) p hp
      cases he
      have e0 : (⟨b, off, none⟩ : Addr).add j = ⟨b, off + j, none⟩ := by unfold Addr.add; split <;> simp_all
      rw [e0]
      rcases Nat.mod_two_eq_zero_or_one j with h0 | h0
      · have ej : j / 2 * 2 = j := by omega
        rw [ej] at f1 g1
        rw [hj] at f1
        cases f1
        exact g1
      · have ej : j / 2 * 2 + 1 = j := by omega
        rw [ej] at f2
        rw [Nat.add_assoc, ej] at g2
        rw [hj] at f2
        cases f2
        exact g2
    refine wpList_append_own w hgd s x t ho B e i0 z 2 bytes ht h1 h2 h3 h4 hzs (by decide) v n (fldCells L) hs hown ad M.length cap (fldCells M) hx (fldCells_len M) hspot (fldCells_one M) hn hbz hB ?_
    · intro v' w' ho' hg _
      refine h v' w' ?_ ((Below.refl B w).grown hg hB (fun k hk => (hown.lt k hk).1))
      rw [fldCells_append]
      exact ho'
/-- append(out, more...), out nil or the call's own, whatever slice of fields more is. -/
theorem wpList_append_flds {P : Program} {ops : Array Oper} {rest : List Oper} {o : Oper} {a : Act} {Q : Exit → Act → World → Prop} (w : World) (hgd : o.guard = none) (s x : Operand) (t : TypeId)
    (ho : o.op = .call { callee := .builtin .append, args := #[s, x], argTypes := #[t, t] })
    (B : Nat) (e : TypeId) {z : Value} {bytes : Nat} (ht : P.underlying t = some (.slice e)) (hi : (P.info? e).map (fun i => (i.zero, i.size, i.bytes)) = some (some z, 2, bytes)) (hzs : z.cells.size = 2) (hby : bytes ≤ 4096)
    {v : Value} {n : Nat} {L : List Fld} (hs : a.eval s = v) (hown : w.ownsRow B e 2 v n (fldCells L)) {vx : Value} {M : List Fld} (hr : Reads2 w vx M)
    (hx : a.eval x = vx) (hn : n + M.length < 4294967296) (hB : B ≤ w.heap.size)
    (h : ∀ v' w', w'.ownsRow B e 2 v' (n + M.length) (fldCells (L ++ M)) → Below B w w' → wpList P ops Q rest (a.put o.dst v') w') :
    wpList P ops Q (o :: rest) a w :=
  wpList_append_fldsz w hgd s x t ho B e ht hi hzs hs hown hr hx (by unfold maxLen; omega)
    (calc (n + M.length) * bytes ≤ 4294967296 * 4096 := Nat.mul_le_mul (by omega) hby
      _ ≤ 140737488355328 := by decide) hB h
theorem chain2 {b : Nat} {w w1 w2 : World} (h : Below b w w1) (hs : b ≤ w1.heap.size) (h2 : Below w1.heap.size w1 w2) : Below b w w2 := h.trans (h2.mono hs)
theorem szL (l : List UInt8) : (⟨l.toArray⟩ : ByteArray).size = l.length := by simp [ByteArray.size]
theorem dtL (l : List UInt8) : (⟨l.toArray⟩ : ByteArray).data.toList = l := by simp
theorem joinC_len (c : Nat) (l : List (List UInt8)) (h : ∀ x ∈ l, x.length ≤ c) : (joinC l).length ≤ (c + 2) * l.length := by
  induction l with
  | nil => simp [joinC]
  | cons a r ih =>
    have h1 := h a (List.mem_cons_self ..)
    cases r with
    | nil => simp [joinC]; omega
    | cons b r =>
      have h2 := ih (fun x hx => h x (List.mem_cons_of_mem _ hx))
      simp only [joinC, List.length_append, List.length_cons] at h2 ⊢
      rw [Nat.mul_add (c + 2) (r.length + 1) 1, Nat.mul_one]
      omega
theorem allF_mem {L : List Fld} {n : List UInt8} {x : List UInt8} (h : x ∈ allF L n) : ∃ f ∈ L, f.2 = x := by
  simp only [allF, List.mem_map, List.mem_filter] at h
  obtain ⟨f, ⟨h1, _⟩, h2⟩ := h
  exact ⟨f, h1, h2⟩
theorem allF_len (L : List Fld) (n : List UInt8) : (allF L n).length ≤ L.length := by
  simp only [allF, List.length_map]; exact List.length_filter_le _ _
theorem getF_len {L : List Fld} {n : List UInt8} (h : ∀ f ∈ L, f.2.length ≤ 100000) (hn : L.length ≤ 1000) : (getF L n).length ≤ 100002000 := by
  have h1 := joinC_len 100000 (allF L n) (fun x hx => by obtain ⟨f, hf, rfl⟩ := allF_mem hx; exact h f hf)
  have h2 := allF_len L n
  have h3 : (100000 + 2) * (allF L n).length ≤ (100000 + 2) * 1000 := Nat.mul_le_mul_left _ (by omega)
  unfold getF; omega
theorem getF_snoc (l : List Fld) (n : List UInt8) (f : Fld) : getF (l ++ [f]) n = if isF n f then (if allF l n = [] then f.2 else getF l n ++ 44 :: 32 :: f.2) else getF l n := by
  unfold getF
  rw [allF_snoc]
  cases isF n f
  · simp
  · simp only [if_true]
    rw [joinC_snoc]
theorem sum_lists {P : Program} (a b : List UInt8) (ha : a.length ≤ 1000000000) (hb : b.length ≤ 1000000000) :
    ∃ c : List UInt8, c = a ++ b ∧ c.length = a.length + b.length ∧ ∀ W : World, (Op.stringOp .add ⟨a.toArray⟩ ⟨b.toArray⟩).run P W = .ok (strV c) W :=
  ⟨a ++ b, rfl, List.length_append, fun W => by rw [run_string_add_sum W _ _ (by rw [szL, szL]; omega), ByteArray.mk_append_mk]⟩
theorem elementsF_size {L : List Fld} {n : List UInt8} (h : ∀ f ∈ L, f.2.length ≤ 100000) (hn : L.length ≤ 1000) : (elementsF L n).length ≤ 100002000 ∧ ∀ e ∈ elementsF L n, e.length ≤ 100002000 := by
  have hl := getF_len (L := L) (n := n) h hn
  exact ⟨Nat.le_trans (listL_len _) hl, fun e he => Nat.le_trans (listL_size _ e he) hl⟩
theorem okV_int (c : UInt8) : okV c = !((decide ((c.toNat : Int) < 32) && ((c.toNat : Int) != 9)) || ((c.toNat : Int) == 127)) := by
  unfold okV
  congr 2
  · congr 1
    · simp only [decide_eq_decide]; omega
    · rw [Bool.eq_iff_iff]; simp; omega
  · rw [Bool.eq_iff_iff]; simp; omega
theorem Reads.str {w : World} {ao : Option Addr} {n cap : Nat} {A : List (List UInt8)} (h : Reads w (.slice ao n cap) (A.map strV)) {j : Nat} {x : List UInt8} (hj : A[j]? = some x) :
    ∃ b off, ao = some ⟨b, off, none⟩ ∧ w.cell? ⟨b, off + j, none⟩ = some (strV x) := by
  obtain ⟨ao', cap', hv, hc, -⟩ := h
  cases hv
  exact hc j (strV x) (by simp [hj])
theorem Reads.strs {w : World} {v : Value} {A : List (List UInt8)} (h : Reads w v (A.map strV)) : ∃ ao cap, v = .slice ao A.length cap := by
  obtain ⟨ao, cap, hv, -⟩ := h
  exact ⟨ao, cap, by rw [hv, List.length_map]⟩
theorem take_str {A : List (List UInt8)} {k : Nat} {x : List UInt8} (h : A[k]? = some x) : A.take (k + 1) = A.take k ++ [x] := by
  obtain ⟨hk', rfl⟩ := List.getElem?_eq_some_iff.1 h
  exact List.take_succ_eq_append_getElem hk'
/-- a field in a box of its own -/
theorem box2 (w : World) (f : Fld) (e : TypeId) : ∃ W, W = w.alloc (.cells #[strV f.1, strV f.2] e) ∧ Below w.heap.size w W ∧ W.heap.size = w.heap.size + 1 ∧ W.cell? ⟨w.heap.size, 0, none⟩ = some (strV f.1) ∧ W.cell? ⟨w.heap.size, 1, none⟩ = some (strV f.2) :=
  ⟨_, rfl, below_alloc _ _, by simp, by rw [World.cell?_alloc_at _ _ _ _ rfl]; rfl, by rw [World.cell?_alloc_at _ _ _ _ rfl]; rfl⟩
theorem kept {w w' : World} {a : Addr} {v : Value} (hc : w.cell? a = some v) (hb : Below w.heap.size w w') : w'.cell? a = some v := (hb.cell (p := a) (World.block_lt_of_cell? w _ hc)).trans hc
theorem as_list (n : ByteArray) : ∃ N : List UInt8, n = ⟨N.toArray⟩ := ⟨n.data.toList, by apply bytes_ext; simp⟩
theorem reads_one (w : World) (x : List UInt8) (e : TypeId) (cap : Nat) : Reads (w.alloc (.cells #[strV x] e)) (.slice (some ⟨w.heap.size, 0, none⟩) 1 cap) ([x].map strV) := reads_new w ([x].map strV) e cap
theorem any_one (x : List UInt8) (f : Fld) : ([x].any fun n => isF n f) = isF x f := by simp
/-- T{f}: a row of one field, the call's own. -/
theorem ownsRow_one (w : World) (f : Fld) (e : TypeId) : (w.alloc (.cells #[strV f.1, strV f.2] e)).ownsRow w.heap.size e 2 (.slice (some ⟨w.heap.size, 0, none⟩) 1 1) 1 (fldCells [f]) :=
  ⟨rfl, .inr ⟨w.heap.size, 1, #[strV f.1, strV f.2], rfl, Nat.le_refl _, Array.getElem?_push_size, Nat.le_refl _, by decide, rfl, rfl⟩⟩
theorem reads_one_at (w : World) (x : List UInt8) (e : TypeId) (cap g : Nat) (hg : g = w.heap.size) : Reads (w.alloc (.cells #[strV x] e)) (.slice (some ⟨g, 0, none⟩) 1 cap) ([x].map strV) := by subst hg; exact reads_one w x e cap
theorem reads2_new_at (w : World) (f : Fld) (e : TypeId) (cap g : Nat) (hg : g = w.heap.size) (hc : 1 ≤ cap := by decide) : Reads2 (w.alloc (.cells #[strV f.1, strV f.2] e)) (.slice (some ⟨g, 0, none⟩) 1 cap) [f] := by
  subst hg
  exact (ownsRow_one w f e).reads2.2.cap cap hc
theorem Reads2.room {w : World} {ao : Option Addr} {n cap : Nat} {L : List Fld} (h : Reads2 w (.slice ao n cap) L) : n = L.length ∧ L.length ≤ cap := by
  obtain ⟨ao', cap', hv, _, _, hc⟩ := h
  cases hv
  exact ⟨rfl, hc⟩
/-- L[l:] -/
theorem tail_ex (P : Program) (t : TypeId) (ht : P.underlying t = some (.slice (P.elem t))) (h2 : ∀ W, (sizeOf (P.elem t)).run P W = .ok 2 W) (a : Addr) (n cap l : Nat) (hl : l ≤ n) (hn : n ≤ cap) :
    ∃ ao' cap', (∀ W, (Instr.slice t (.slice (some a) n cap) (some (.int .i64 (l : Int))) none none).run P W = .ok (.slice ao' (n - l) cap') W) ∧
      ∀ (W : World) (L : List Fld), Reads2 W (.slice (some a) n cap) L → Reads2 W (.slice ao' (n - l) cap') (L.drop l) := by
  refine ⟨(if cap = l then some a else some (a.add (l * 2))), cap - l, fun W => ?_, fun W L h => ?_⟩
  · rw [run_slice_l W t (some a) n cap ht .i64 (l : Int) (by omega) (by omega), h2]
    simp only [Result.andThen, sliced, Int.toNat_natCast, Option.map_some]
  · obtain ⟨ao', cap', hv, hc, hz, hr⟩ := h
    cases hv
    refine ⟨_, _, by rw [List.length_drop], fun j p hj => ?_, fun e => ?_, by rw [List.length_drop]; omega⟩
    · rw [List.getElem?_drop] at hj
      have hjl := (List.getElem?_eq_some_iff.1 hj).1
      obtain ⟨b, off, ha, g1, g2⟩ := hc (l + j) p hj
      cases ha
      rw [if_neg (by omega)]
      refine ⟨b, off + l * 2, by unfold Addr.add; split <;> simp_all, ?_, ?_⟩
      · rw [show off + l * 2 + j * 2 = off + (l + j) * 2 by omega]; exact g1
      · rw [show off + l * 2 + j * 2 + 1 = off + (l + j) * 2 + 1 by omega]; exact g2
    · split at e <;> cases e
/-- x[lo:] by an equation of what it gives. -/
theorem wpList_slice_low {P : Program} {ops : Array Oper} {rest : List Oper} {o : Oper} {a : Act} {w : World} {Q : Exit → Act → World → Prop} (hg : o.guard = none) (t : TypeId) (x lo : Operand) (ho : o.op = .slice t x (some lo) none none)
    {vx vl vr : Value} (hx : a.eval x = vx) (hl : a.eval lo = vl) (ht : P.underlying t = some (.slice (P.elem t))) (hr : (Instr.slice t vx (some vl) none none).run P w = .ok vr w)
    (h : wpList P ops Q rest (a.put o.dst vr) w) : wpList P ops Q (o :: rest) a w :=
  wpList_plain hg fun _ hK => by
    unfold Oper.wp execOp
    simp only [ho, hx, hl, Option.map_some, Option.map_none, Sem.run_bind, run_sliceAt_slice w t vx (some vl) none none ht, hr, Sem.run_pure, Result.andThen_ok]
    exact hK _ _ h
end Go.Pantry
/-
  Blocks that hold one struct or array: no program is imported.
-/
namespace Go.Pantry
open Go.RowKit

/-- Block g is one row, none of it frozen: the values cs. -/
def rowIs (w : World) (g : Nat) (cs : Array Value) (t : TypeId) : Prop := w.heap[g]? = some (.cells cs t (0, 0))
theorem rowIs_new (w : World) (cs : Array Value) (t : TypeId) : rowIs (w.alloc (.cells cs t)) w.heap.size cs t := Array.getElem?_push_size
theorem rowIs_new_at (w : World) (cs : Array Value) (t : TypeId) (g : Nat) (hg : g = w.heap.size) : rowIs (w.alloc (.cells cs t)) g cs t := by subst hg; exact rowIs_new w cs t
theorem rowIs.lt {w : World} {g : Nat} {cs : Array Value} {t : TypeId} (h : rowIs w g cs t) : g < w.heap.size := (Array.getElem?_eq_some_iff.1 h).1
theorem rowIs.below {w w' : World} {g : Nat} {cs : Array Value} {t : TypeId} (h : rowIs w g cs t) (hb : Below w.heap.size w w') : rowIs w' g cs t := (hb.block g h.lt).trans h
theorem rowIs.cell {w : World} {g : Nat} {cs : Array Value} {t : TypeId} (h : rowIs w g cs t) (j : Nat) : w.cell? ⟨g, j, none⟩ = cs[j]? := cell_of_row w g j cs t (0, 0) h
theorem rowIs.free {w : World} {g : Nat} {cs : Array Value} {t : TypeId} (h : rowIs w g cs t) (j : Nat) : w.frozen? ⟨g, j, none⟩ = false := by
  unfold World.frozen?
  unfold rowIs at h
  rw [h]
  simp
theorem rowIs.setRow {w : World} {g : Nat} {cs : Array Value} {t : TypeId} (h : rowIs w g cs t) (ds : Array Value) : rowIs (w.setRow g ds) g ds t := setRow_heap w g cs ds t (0, 0) h
theorem rowIs.setRow_other {w : World} {g k : Nat} {cs : Array Value} {t : TypeId} (h : rowIs w g cs t) (ds : Array Value) (hk : g ≠ k) : rowIs (w.setRow k ds) g cs t := (_root_.Go.setRow_other w k g ds hk).trans h
theorem rowIs.setCell {w : World} {g : Nat} {cs : Array Value} {t : TypeId} (h : rowIs w g cs t) (i : Nat) (v : Value) : rowIs (w.setCell ⟨g, i, none⟩ v) g (cs.setIfInBounds i v) t := by
  rw [setCell_eq_setRow w g i cs t (0, 0) v h]
  exact h.setRow _
theorem rowIs.setCell_other {w : World} {g k : Nat} {cs ds : Array Value} {t u : TypeId} (h : rowIs w g cs t) (hk : rowIs w k ds u) (hne : g ≠ k) (i : Nat) (v : Value) : rowIs (w.setCell ⟨k, i, none⟩ v) g cs t := by
  rw [setCell_eq_setRow w k i ds u (0, 0) v hk]
  exact h.setRow_other _ hne
theorem rowIs.setCell_block {w : World} {g g' : Nat} {cs : Array Value} {t : TypeId} (h : rowIs w g cs t) (hne : g ≠ g') (i : Nat) (v : Value) : rowIs (w.setCell ⟨g', i, none⟩ v) g cs t := (Below.heap_setCell w ⟨g', i, none⟩ v g hne).trans h
theorem below_setRow {B : Nat} {w w' : World} (h : Below B w w') {g : Nat} (hg : B ≤ g) (cs : Array Value) : Below B w (w'.setRow g cs) :=
  ⟨h.os, h.tape, h.output, by have := h.size; simpa [World.setRow] using this, fun k hk => (_root_.Go.setRow_other w' g k cs (by omega)).trans (h.block k hk)⟩
/-- A function whose result lies in a block of its own. -/
theorem results_row {P : Program} {fn : Func} {a : Tmp} {t e : TypeId} {d : TypeDesc} (h : fn.results = #[.cell a t]) (tmps : Array Value) (w : World) (g : Nat) (cs : Array Value)
    (hp : tmps.getD a undef = .pointer (some ⟨g, 0, none⟩)) (hg : rowIs w g cs e) (hu : P.underlying t = some d) (hd : (match d with | .struct _ | .array _ _ => true | _ => false) = true) (hi : (P.info? t).map (·.size) = some cs.size) :
    (results fn tmps).run P w = .ok (.agg cs) w := by
  have h1 := run_loadVar_row (P := P) w g e t cs (0, 0) d hg hu hd hi
  have hp' : tmps[a]?.getD undef = .pointer (some ⟨g, 0, none⟩) := by simpa using hp
  simp [results, h, hp', asAddr, h1]
/-- An operation that loads a whole row. -/
theorem load_gives {P : Program} {ρ : Operand → Value} {o : Oper} {ty : TypeId} {x : Operand} (ho : o.op = .load ty x) {W : World} (g : Nat) (hx : ρ x = .pointer (some ⟨g, 0, none⟩)) {cs : Array Value} {e : TypeId} {d : TypeDesc} (hg : rowIs W g cs e)
    (hu : P.underlying ty = some d) (hd : (match d with | .struct _ | .array _ _ => true | _ => false) = true) (hi : (P.info? ty).map (·.size) = some cs.size) : (execOp ρ o).run P W = .ok (.value (.agg cs)) W := by
  unfold execOp
  simp only [ho, hx, Instr.loadAt, Instr.sureAddr, Sem.run_bind, Sem.run_pure, Result.andThen_ok, run_loadVar_row W g e ty cs (0, 0) d hg hu hd hi]
end Go.Pantry
/-
  Fields: what the statements of layer 3 ask. No program is imported.
-/
namespace Go.Pantry
open Go.RowKit

/-- induction at a list's end -/
theorem snoc_ind {α : Type} {p : List α → Prop} (h0 : p []) (hs : ∀ l a, p l → p (l ++ [a])) : ∀ l, p l := by
  have key : ∀ (n : Nat) (l : List α), l.length = n → p l := by
    intro n
    induction n with
    | zero => intro l hl; have : l = [] := List.eq_nil_of_length_eq_zero hl
              subst this; exact h0
    | succ n ih =>
      intro l hl
      rcases List.eq_nil_or_concat l with rfl | ⟨r, a, rfl⟩
      · exact h0
      · rw [List.concat_eq_append] at hl ⊢
        exact hs r a (ih r (by simpa using hl))
  exact fun l => key _ l rfl
theorem isF_self' {n : List UInt8} {f g : Fld} (h1 : isF n f = true) (h2 : isF f.1 g = true) : isF n g = true := by
  simp only [isF, beq_iff_eq] at h1 h2 ⊢
  exact h2.trans h1
theorem isF_other {n : List UInt8} {f g : Fld} (h1 : isF n f = false) (h2 : isF f.1 g = true) : isF n g = false := by
  cases h : isF n g
  · rfl
  · exfalso
    have h3 : isF n f = true := by
      simp only [isF, beq_iff_eq] at h h2 ⊢
      exact h2.symm.trans h
    rw [h1] at h3
    cases h3

/-- without any of these names -/
def outsF (l : List Fld) (ns : List (List UInt8)) : List Fld := l.filter fun f => !ns.any fun n => isF n f
theorem outsF_nil (l : List Fld) : outsF l [] = l := by simp [outsF]
theorem outsF_snoc (l : List Fld) (ns : List (List UInt8)) (n : List UInt8) : outsF l (ns ++ [n]) = outF (outsF l ns) n := by
  simp only [outsF, outF, List.filter_filter]
  congr 1
  funext f
  simp only [List.any_append, List.any_cons, List.any_nil, Bool.or_false]
  cases ns.any (fun n => isF n f) <;> cases isF n f <;> rfl
theorem outsF_one (l : List Fld) (n : List UInt8) : outsF l [n] = outF l n := by simp [outsF, outF]
theorem outsF_all (l : List Fld) (ns : List (List UInt8)) (n : List UInt8) (h : n ∈ ns) : allF (outsF l ns) n = [] := by
  simp only [allF, outsF, List.filter_filter, List.map_eq_nil_iff, List.filter_eq_nil_iff]
  intro f _ hf
  simp only [Bool.and_eq_true, Bool.not_eq_true', List.any_eq_false] at hf
  exact hf.2 n h (by rw [hf.1])
theorem outF_other (l : List Fld) (n m : List UInt8) (h : ∀ f : Fld, isF m f = true → isF n f = false) : allF (outF l n) m = allF l m := by
  simp only [allF, outF, List.filter_filter]
  congr 1
  apply List.filter_congr
  intro f _
  cases hm : isF m f
  · rfl
  · rw [h f hm]; rfl

/-- setting f leaves the values of other names -/
theorem runW_other (f : Fld) (n : List UInt8) (hn : isF n f = false) : ∀ l, allF (runW f l).1 n = allF l n := by
  refine snoc_ind rfl (fun l g ih => ?_)
  rw [runW_snoc, allF_snoc]
  unfold stepW
  cases hg : isF f.1 g
  · simp only [Bool.false_eq_true, if_false, allF_snoc, ih]
  · have hng := isF_other hn hg
    cases hs : (runW f l).2
    · simp only [if_true, Bool.false_eq_true, if_false, allF_snoc, ih, hn, hng]
    · simp only [if_true, ih, hng, Bool.false_eq_true, if_false, List.append_nil]
theorem withF_other (l : List Fld) (f : Fld) (n : List UInt8) (hn : isF n f = false) : allF (withF l f) n = allF l n := by
  unfold withF
  split
  · exact runW_other f n hn l
  · rw [allF_snoc, runW_other f n hn l, hn]; simp
theorem withF_same (l : List Fld) (f : Fld) (n : List UInt8) (hn : isF n f = true) : allF (withF l f) n = [f.2] := by
  have h := withF_all l f
  have e : ∀ g, isF n g = isF f.1 g := by
    intro g
    have : lowerL f.1 = lowerL n := by simpa [isF] using hn
    simp only [isF, this]
  simp only [allF] at h ⊢
  rw [← h]
  congr 1
  exact List.filter_congr (fun g _ => e g)
/-- several fields set, one behind the other -/
def withsF (l : List Fld) (more : List Fld) : List Fld := more.foldl withF l
theorem withsF_snoc (l more : List Fld) (f : Fld) : withsF l (more ++ [f]) = withF (withsF l more) f := by simp [withsF]
theorem withsF_nil (l : List Fld) : withsF l [] = l := rfl
/-- the last one of a name stays -/
theorem withsF_last (l : List Fld) (a : List Fld) (f : Fld) : ∀ b : List Fld, (∀ g ∈ b, isF f.1 g = false) → allF (withsF l (a ++ f :: b)) f.1 = [f.2] := by
  refine snoc_ind ?_ (fun b g ih hb => ?_)
  · intro _
    rw [withsF_snoc]
    exact withF_all _ _
  · have e : a ++ f :: (b ++ [g]) = (a ++ f :: b) ++ [g] := by simp
    rw [e, withsF_snoc, withF_other _ _ _ (hb g (by simp))]
    exact ih (fun x hx => hb x (by simp [hx]))

/-- where f's name stands once, as f, setting f changes nothing -/
theorem runW_mem (f : Fld) : ∀ l, ∀ g ∈ (runW f l).1, isF f.1 g = true → g = f := by
  refine snoc_ind (by simp [runW]) (fun l h ih => ?_)
  rw [runW_snoc]
  unfold stepW
  intro g hg hf
  cases hh : isF f.1 h
  · rw [hh] at hg
    simp only [Bool.false_eq_true, if_false, List.mem_append, List.mem_singleton] at hg
    rcases hg with hg | rfl
    · exact ih g hg hf
    · rw [hh] at hf; cases hf
  · rw [hh] at hg
    cases hs : (runW f l).2
    · rw [hs] at hg
      simp only [if_true, Bool.false_eq_true, if_false, List.mem_append, List.mem_singleton] at hg
      rcases hg with hg | rfl
      · exact ih g hg hf
      · rfl
    · rw [hs] at hg
      simp only [if_true] at hg
      exact ih g hg hf
theorem withF_mem (l : List Fld) (f : Fld) : ∀ g ∈ withF l f, isF f.1 g = true → g = f := by
  intro g hg hf
  unfold withF at hg
  split at hg
  · exact runW_mem f l g hg hf
  · rcases List.mem_append.1 hg with hg | hg
    · exact runW_mem f l g hg hf
    · exact List.mem_singleton.1 hg
theorem runW_still (f : Fld) : ∀ l : List Fld, (∀ g ∈ l, isF f.1 g = true → g = f) → (allF l f.1).length ≤ 1 → runW f l = (l, l.any (isF f.1)) := by
  refine snoc_ind (by intro _ _; rfl) (fun l g ih => ?_)
  intro hm hl
  rw [allF_snoc, List.length_append] at hl
  have ih' := ih (fun x hx => hm x (by simp [hx])) (by omega)
  rw [runW_snoc, ih']
  unfold stepW
  cases hg : isF f.1 g
  · simp [hg, List.any_append]
  · have hgf : g = f := hm g (by simp) hg
    subst hgf
    rw [hg] at hl
    simp only [if_true, List.length_singleton] at hl
    have h0 : allF l g.1 = [] := List.eq_nil_of_length_eq_zero (by omega)
    have hn : l.any (isF g.1) = false := by
      simp only [allF, List.map_eq_nil_iff, List.filter_eq_nil_iff] at h0
      exact List.any_eq_false.2 h0
    simp [hn, hg, List.any_append]
theorem withF_idem (l : List Fld) (f : Fld) : withF (withF l f) f = withF l f := by
  have h1 := withF_all l f
  have h2 := runW_still f (withF l f) (withF_mem l f) (by rw [h1]; simp)
  have h3 : (withF l f).any (isF f.1) = true := by
    cases h : (withF l f).any (isF f.1)
    · exfalso
      have h4 := List.any_eq_false.1 h
      have h5 : allF (withF l f) f.1 = [] := by
        simp only [allF, List.map_eq_nil_iff, List.filter_eq_nil_iff]
        exact h4
      rw [h1] at h5
      cases h5
    · rfl
  generalize withF l f = M at h2 h3
  unfold withF
  rw [h2, h3]
  rfl
theorem getF_low (l : List Fld) (n : List UInt8) : getF l (lowerL n) = getF l n ∧ allF l (lowerL n) = allF l n ∧ outF l (lowerL n) = outF l n := by
  have e : isF (lowerL n) = isF n := by funext f; exact isF_low n f
  refine ⟨?_, ?_, ?_⟩
  · simp only [getF, allF, e]
  · simp only [allF, e]
  · simp only [outF, e]
theorem hasF_low (l : List Fld) (n w : List UInt8) : hasF l (lowerL n) (lowerL w) = hasF l n w := by
  simp only [hasF, elementsF, (getF_low l n).1, lowerL_idem]
theorem getF_append (a b : List Fld) (n : List UInt8) : getF (a ++ b) n = if allF a n = [] then getF b n else if allF b n = [] then getF a n else getF a n ++ 44 :: 32 :: getF b n := by
  simp only [getF, allF_append, joinC_append]
theorem runW_len (f : Fld) (L : List Fld) : (runW f L).1.length ≤ L.length := by
  have key : ∀ (n : Nat) (r : List Fld), r.length = n → (runW f r).1.length ≤ n := by
    intro n
    induction n with
    | zero => intro r hr; have : r = [] := List.eq_nil_of_length_eq_zero hr
              subst this; simp [runW]
    | succ n ih =>
      intro r hr
      rcases List.eq_nil_or_concat r with rfl | ⟨r', g, rfl⟩
      · simp at hr
      · rw [List.concat_eq_append] at hr ⊢
        have := ih r' (by simpa using hr)
        rw [runW_snoc]
        unfold stepW
        split
        · split <;> simp <;> omega
        · simp; omega
  exact key _ L rfl
theorem withF_len (L : List Fld) (f : Fld) : (withF L f).length ≤ L.length + 1 := by
  have h := runW_len f L
  unfold withF
  split <;> simp <;> omega
theorem runW_of (f : Fld) : ∀ l, ∀ g ∈ (runW f l).1, g ∈ l ∨ g = f := by
  refine snoc_ind (by simp [runW]) (fun l h ih => ?_)
  rw [runW_snoc]
  unfold stepW
  intro g hg
  cases hh : isF f.1 h
  · rw [hh] at hg
    simp only [Bool.false_eq_true, if_false, List.mem_append, List.mem_singleton] at hg
    rcases hg with hg | rfl
    · rcases ih g hg with h1 | h1
      · exact .inl (by simp [h1])
      · exact .inr h1
    · exact .inl (by simp)
  · rw [hh] at hg
    cases hs : (runW f l).2
    · rw [hs] at hg
      simp only [if_true, Bool.false_eq_true, if_false, List.mem_append, List.mem_singleton] at hg
      rcases hg with hg | rfl
      · rcases ih g hg with h1 | h1
        · exact .inl (by simp [h1])
        · exact .inr h1
      · exact .inr rfl
    · rw [hs] at hg
      simp only [if_true] at hg
      rcases ih g hg with h1 | h1
      · exact .inl (by simp [h1])
      · exact .inr h1
theorem withF_of (L : List Fld) (f : Fld) : ∀ g ∈ withF L f, g ∈ L ∨ g = f := by
  intro g hg
  unfold withF at hg
  split at hg
  · exact runW_of f L g hg
  · rcases List.mem_append.1 hg with hg | hg
    · exact runW_of f L g hg
    · exact .inr (List.mem_singleton.1 hg)
theorem withsF_of (L : List Fld) : ∀ M : List Fld, ∀ g ∈ withsF L M, g ∈ L ∨ g ∈ M := by
  refine snoc_ind (fun g hg => .inl hg) (fun M f ih => ?_)
  intro g hg
  rw [withsF_snoc] at hg
  rcases withF_of _ _ g hg with h | h
  · rcases ih g h with h1 | h1
    · exact .inl h1
    · exact .inr (by simp [h1])
  · exact .inr (by simp [h])
theorem withsF_len (L : List Fld) : ∀ M : List Fld, (withsF L M).length ≤ L.length + M.length := by
  refine snoc_ind (by simp [withsF]) (fun M f ih => ?_)
  rw [withsF_snoc]
  have h := withF_len (withsF L M) f
  simp; omega
theorem outsF_mem {L : List Fld} {ns : List (List UInt8)} {f : Fld} (h : f ∈ outsF L ns) : f ∈ L := (List.mem_filter.1 h).1
theorem outsF_len (L : List Fld) (ns : List (List UInt8)) : (outsF L ns).length ≤ L.length := List.length_filter_le _ _
end Go.Pantry
/-
  Plain mathematics of layer 1: lists one behind the other.
-/
namespace Go.Pantry
theorem listL_step (l : List UInt8) : listL l =
    if trimL (l.take (cut false false l)) = [] then listL (l.drop (cut false false l + 1)) else trimL (l.take (cut false false l)) :: listL (l.drop (cut false false l + 1)) := by
  have h := list_at l 0
  simp only [List.drop_zero, Nat.zero_add] at h
  exact h
theorem cut_join (b : List UInt8) (a : List UInt8) (h : (34 : UInt8) ∉ a) : cut false false (a ++ 44 :: b) = cut false false a := by
  induction a with
  | nil => rw [List.nil_append, cut_comma, cut]
  | cons c a ih =>
    have hc : c ≠ 34 := fun e => h (by rw [e]; exact List.mem_cons_self ..)
    have ha : (34 : UInt8) ∉ a := fun e => h (List.mem_cons_of_mem _ e)
    by_cases h4 : c = 44
    · subst h4; rw [List.cons_append, cut_comma, cut_comma]
    · rw [List.cons_append, cut_other c _ h4 hc, cut_other c _ h4 hc, ih ha]
/-- Of two texts, the first without quotes, joined by a comma: the elements of both. -/
theorem listL_two (b : List UInt8) : ∀ (n : Nat) (a : List UInt8), a.length ≤ n → (34 : UInt8) ∉ a → listL (a ++ 44 :: b) = listL a ++ listL b := by
  intro n
  induction n with
  | zero =>
    intro a h hq
    have : a = [] := List.eq_nil_of_length_eq_zero (by omega)
    subst this
    rw [List.nil_append, listL_step, cut_comma, List.take_zero, trimL_nil, if_pos rfl, listL_nil]; rfl
  | succ n ih =>
    intro a h hq
    have hle := cut_le a false false
    have hcj := cut_join b a hq
    rw [listL_step (a ++ 44 :: b), hcj, List.take_append_of_le_length hle]
    by_cases hlt : cut false false a < a.length
    · have hd : (a ++ 44 :: b).drop (cut false false a + 1) = a.drop (cut false false a + 1) ++ 44 :: b := List.drop_append_of_le_length (by omega)
      have hi := ih (a.drop (cut false false a + 1)) (by rw [List.length_drop]; omega) (fun e => hq (List.mem_of_mem_drop e))
      rw [hd, hi, listL_step a]
      split <;> simp
    · have he : cut false false a = a.length := by omega
      have hd : (a ++ 44 :: b).drop (cut false false a + 1) = b := by
        rw [he]
        have e : a ++ 44 :: b = (a ++ [44]) ++ b := by simp
        rw [e, List.drop_left' (by simp)]
      rw [hd, listL_step a]
      have hn : a.drop (cut false false a + 1) = [] := List.drop_eq_nil_of_le (by omega)
      rw [hn, listL_nil]
      split <;> simp
/-- A blank ahead is none of a text. -/
theorem trim_blank (c : UInt8) (l : List UInt8) (h : isBl c = true) : trimL (c :: l) = trimL l := by
  have hp : [32, 9].contains c = true := by rw [isBl_contains]; exact h
  unfold trimL Lib.trimS Lib.trimLeftS Lib.trimRightS
  rw [List.reverse_cons, List.dropWhile_append]
  split
  · rename_i he
    have he' : l.reverse.dropWhile (fun x => [32, 9].contains x) = [] := by simpa using he
    rw [he', List.dropWhile_cons, if_pos hp]; rfl
  · rw [List.reverse_append, List.reverse_cons, List.reverse_nil, List.nil_append, List.cons_append, List.nil_append, List.dropWhile_cons, if_pos hp]
theorem cut_plain (l : List UInt8) (h : ∀ c ∈ l, c ≠ 44 ∧ c ≠ 34) : cut false false l = l.length := by
  induction l with
  | nil => rfl
  | cons c l ih =>
    have hc := h c (List.mem_cons_self ..)
    rw [cut_other c l hc.1 hc.2, ih (fun d hd => h d (List.mem_cons_of_mem _ hd)), List.length_cons]; omega
/-- A text without commas and quotes is one element, or none. -/
theorem listL_one (l : List UInt8) (h : ∀ c ∈ l, c ≠ 44 ∧ c ≠ 34) : listL l = if trimL l = [] then [] else [trimL l] := by
  rw [listL_step, cut_plain l h, List.take_of_length_le (Nat.le_refl _), List.drop_eq_nil_of_le (by omega), listL_nil]
end Go.Pantry
/-
  Plain mathematics of layer 1: a text within quotes.
-/
namespace Go.Pantry
/-- a text, with a backslash ahead of each quote and backslash -/
def escC (c : UInt8) : List UInt8 := if c = 34 ∨ c = 92 then [92, c] else [c]
def esc (l : List UInt8) : List UInt8 := l.flatMap escC
theorem esc_snoc (l : List UInt8) (c : UInt8) : esc (l ++ [c]) = esc l ++ escC c := by simp [esc]
theorem esc_len (l : List UInt8) : (esc l).length ≤ 2 * l.length := by
  induction l with
  | nil => simp [esc]
  | cons c l ih =>
    have e : esc (c :: l) = escC c ++ esc l := by simp [esc]
    have : (escC c).length ≤ 2 := by unfold escC; split <;> simp
    rw [e, List.length_append, List.length_cons]; omega
theorem unq_esc (l : List UInt8) : unq (esc l ++ [34]) = some l := by
  induction l with
  | nil => simp [esc, unq]
  | cons c l ih =>
    have e : esc (c :: l) = escC c ++ esc l := by simp [esc]
    rw [e]
    unfold escC
    split
    · show unq (92 :: c :: (esc l ++ [34])) = _
      rw [unq_back, ih]; rfl
    · rename_i h
      show unq (c :: (esc l ++ [34])) = _
      rw [unq_other _ _ (fun e => h (.inl e)) (fun e => h (.inr e)), ih]; rfl
theorem unquote_esc (l : List UInt8) : unquoteL (34 :: (esc l ++ [34])) = some l := by
  have ht : tokenL (34 :: (esc l ++ [34])) = false := by
    unfold tokenL
    have : isTok 34 = false := by decide
    simp [this]
  unfold unquoteL
  rw [ht, if_neg (by simp), if_pos (by simp), List.tail_cons, unq_esc]
end Go.Pantry
/-
  Plain mathematics of layer 1: a number's digits.
-/
namespace Go.Pantry
theorem digC (n : Nat) (h : n < 10) : isDig (48 + n).toUInt8 = true ∧ ((48 + n).toUInt8).toNat - 48 = n := by
  have e : ((48 + n).toUInt8).toNat = 48 + n := by
    rw [Nat.toUInt8_eq, UInt8.toNat_ofNat']; omega
  constructor
  · unfold isDig; rw [e]; simp; omega
  · omega
theorem digF_all (f : Nat) : ∀ n, (digF f n).all isDig = true := by
  induction f with
  | zero => intro n; rfl
  | succ f ih =>
    intro n
    rw [digF]
    split
    · rename_i h; rw [List.all_cons, (digC n h).1]; rfl
    · rw [List.all_append, ih, List.all_cons, (digC (n % 10) (by omega)).1]; rfl
theorem digF_ne (f n : Nat) : digF (f + 1) n ≠ [] := by
  rw [digF]; split <;> simp
theorem digF_val (f : Nat) : ∀ n, n < 10 ^ (f + 1) → valL (digF (f + 1) n) = n := by
  induction f with
  | zero =>
    intro n h
    simp at h
    rw [digF, if_pos h]
    have := (digC n h).2
    simp [valL]; simpa using this
  | succ f ih =>
    intro n h
    rw [digF]
    split
    · rename_i h
      have := (digC n h).2
      simp [valL]; simpa using this
    · rw [valL_snoc, ih (n / 10) (by rw [Nat.pow_succ] at h; omega), (digC (n % 10) (by omega)).2]; omega
theorem valL_zero (l : List UInt8) : valL (48 :: l) = valL l := by simp [valL]
theorem valL_zeros (k : Nat) (l : List UInt8) : valL (List.replicate k 48 ++ l) = valL l := by
  induction k with
  | zero => rfl
  | succ k ih => rw [List.replicate_succ, List.cons_append, valL_zero, ih]
theorem number_zeros (k n : Nat) (h : n < 10 ^ 13) : numberL (List.replicate k 48 ++ digF 13 n) = some (min n 2147483648) := by
  unfold numberL
  have h1 : (List.replicate k (48 : UInt8) ++ digF 13 n).all isDig = true := by
    rw [List.all_append, digF_all, Bool.and_true, List.all_eq_true]
    intro x hx
    rw [(List.mem_replicate.1 hx).2]; decide
  have h2 : (!(List.replicate k (48 : UInt8) ++ digF 13 n).isEmpty) = true := by
    simp [digF_ne 12 n]
  rw [h1, h2, valL_zeros, digF_val 12 n h]; rfl
theorem number_more (k n d : Nat) (h : n < 10 ^ 13) (hd : d < 10) : numberL (List.replicate k 48 ++ digF 13 n ++ [(48 + d).toUInt8]) = some (min (10 * n + d) 2147483648) := by
  unfold numberL
  have h1 : (List.replicate k (48 : UInt8) ++ digF 13 n ++ [(48 + d).toUInt8]).all isDig = true := by
    have hz : (List.replicate k (48 : UInt8)).all isDig = true := by
      rw [List.all_eq_true]
      intro x hx
      rw [(List.mem_replicate.1 hx).2]; decide
    rw [List.all_append, List.all_append, digF_all, List.all_cons, (digC d hd).1, hz]; rfl
  have h2 : (!(List.replicate k (48 : UInt8) ++ digF 13 n ++ [(48 + d).toUInt8]).isEmpty) = true := by simp
  rw [h1, h2, valL_snoc, valL_zeros, digF_val 12 n h, (digC d hd).2]; rfl
end Go.Pantry
/-
  Directives: the plain mathematics of layer 4. No program is imported.
-/
namespace Go.Pantry
open Go.RowKit

/-- a directive: what stands ahead of the first equals sign; behind it; is there one? -/
def nameE (e : List UInt8) : List UInt8 := e.takeWhile (· != 61)
def argE (e : List UInt8) : List UInt8 := (e.dropWhile (· != 61)).tail
def hasE (e : List UInt8) : Bool := e.any (· == 61)
theorem take_all_of {p : UInt8 → Bool} : ∀ {l : List UInt8}, (∀ c ∈ l, p c = true) → l.takeWhile p = l ∧ l.dropWhile p = []
  | [], _ => ⟨rfl, rfl⟩
  | c :: l, h => by
    have hc := h c (List.mem_cons_self ..)
    have ih := take_all_of (l := l) (fun d hd => h d (List.mem_cons_of_mem _ hd))
    rw [List.takeWhile_cons, List.dropWhile_cons, if_pos hc, if_pos hc, ih.1, ih.2]
    exact ⟨rfl, rfl⟩
theorem nameE_none {e : List UInt8} (h : (61 : UInt8) ∉ e) : nameE e = e ∧ argE e = [] ∧ hasE e = false := by
  have h1 : ∀ c ∈ e, (c != 61) = true := fun c hc => by
    have : c ≠ 61 := fun x => h (x ▸ hc)
    simpa using this
  refine ⟨(take_all_of h1).1, ?_, ?_⟩
  · unfold argE
    rw [(take_all_of h1).2]; rfl
  · unfold hasE
    rw [List.any_eq_false]
    intro c hc
    have := h1 c hc
    simpa using this
theorem nameE_at {a b : List UInt8} (h : (61 : UInt8) ∉ a) : nameE (a ++ 61 :: b) = a ∧ argE (a ++ 61 :: b) = b ∧ hasE (a ++ 61 :: b) = true := by
  have h1 : ∀ c ∈ a, (c != 61) = true := fun c hc => by
    have : c ≠ 61 := fun x => h (x ▸ hc)
    simpa using this
  refine ⟨?_, ?_, ?_⟩
  · unfold nameE
    rw [List.takeWhile_append_of_pos h1, List.takeWhile_cons, if_neg (by decide), List.append_nil]
  · unfold argE
    rw [List.dropWhile_append_of_pos h1, List.dropWhile_cons, if_neg (by decide)]; rfl
  · simp [hasE]
/-- the seconds of an argument; other, if it says none -/
def secE (arg : List UInt8) (other : Nat) : Nat := match unquoteL arg with | none => other | some s => (numberL s).getD other
/-- what one directive says of a name -/
def dirE (name : List UInt8) (other bare : Nat) (e : List UInt8) : Option Nat := if lowerL (nameE e) == name then some (if hasE e then secE (argE e) other else bare) else none
/-- the less, or the greater, of what is said -/
def comb (most : Bool) : Option Nat → Option Nat → Option Nat
  | none, b => b
  | a, none => a
  | some a, some b => some (if most then max a b else min a b)
theorem comb_none (m : Bool) (a : Option Nat) : comb m a none = a := by cases a <;> rfl
theorem comb_comm (m : Bool) (a b : Option Nat) : comb m a b = comb m b a := by
  cases a <;> cases b <;> cases m <;> simp [comb, Nat.max_comm, Nat.min_comm]
theorem comb_assoc (m : Bool) (a b c : Option Nat) : comb m (comb m a b) c = comb m a (comb m b c) := by
  cases a <;> cases b <;> cases c <;> cases m <;> simp [comb, Nat.max_assoc, Nat.min_assoc]
/-- what all directives of a name say -/
def toldE (name : List UInt8) (other bare : Nat) (most : Bool) (E : List (List UInt8)) : Option Nat := E.foldl (fun o e => comb most o (dirE name other bare e)) none
theorem toldE_snoc (name : List UInt8) (other bare : Nat) (most : Bool) (E : List (List UInt8)) (e : List UInt8) : toldE name other bare most (E ++ [e]) = comb most (toldE name other bare most E) (dirE name other bare e) := by simp [toldE]
theorem toldE_append (name : List UInt8) (other bare : Nat) (most : Bool) (A : List (List UInt8)) : ∀ B, toldE name other bare most (A ++ B) = comb most (toldE name other bare most A) (toldE name other bare most B) := by
  refine snoc_ind ?_ (fun B e ih => ?_)
  · rw [List.append_nil]; exact (comb_none _ _).symm
  · rw [← List.append_assoc, toldE_snoc, ih, toldE_snoc, comb_assoc]
/-- is there a directive of a name? -/
def saidE (name : List UInt8) (E : List (List UInt8)) : Bool := E.any fun e => lowerL (nameE e) == name
theorem saidE_append (name : List UInt8) (A B : List (List UInt8)) : saidE name (A ++ B) = (saidE name A || saidE name B) := by simp [saidE]

/-- the directives' names -/
def nNoStore : List UInt8 := [110, 111, 45, 115, 116, 111, 114, 101]
def nNoCache : List UInt8 := [110, 111, 45, 99, 97, 99, 104, 101]
def nPrivate : List UInt8 := [112, 114, 105, 118, 97, 116, 101]
def nPublic : List UInt8 := [112, 117, 98, 108, 105, 99]
def nOnly : List UInt8 := [111, 110, 108, 121, 45, 105, 102, 45, 99, 97, 99, 104, 101, 100]
def nMust : List UInt8 := [109, 117, 115, 116, 45, 114, 101, 118, 97, 108, 105, 100, 97, 116, 101]
def nProxy : List UInt8 := [112, 114, 111, 120, 121, 45, 114, 101, 118, 97, 108, 105, 100, 97, 116, 101]
def nMaxAge : List UInt8 := [109, 97, 120, 45, 97, 103, 101]
def nShared : List UInt8 := [115, 45, 109, 97, 120, 97, 103, 101]
def nMinFresh : List UInt8 := [109, 105, 110, 45, 102, 114, 101, 115, 104]
def nMaxStale : List UInt8 := [109, 97, 120, 45, 115, 116, 97, 108, 101]
def nCC : List UInt8 := [99, 97, 99, 104, 101, 45, 99, 111, 110, 116, 114, 111, 108]
def nPragma : List UInt8 := [112, 114, 97, 103, 109, 97]
abbrev farN : Nat := 2147483648

/-- what fields say -/
structure Ctl where
  noStore : Bool
  noCache : Bool
  priv : Bool
  pub : Bool
  must : Bool
  only : Bool
  maxAge : Option Nat
  shared : Option Nat
  minFresh : Option Nat
  maxStale : Option Nat
deriving DecidableEq
def ctlE (E : List (List UInt8)) (prag : Bool) : Ctl :=
  { noStore := saidE nNoStore E, noCache := saidE nNoCache E || prag, priv := saidE nPrivate E, pub := saidE nPublic E, must := saidE nMust E || saidE nProxy E, only := saidE nOnly E
    maxAge := toldE nMaxAge 0 0 false E, shared := toldE nShared 0 0 false E, minFresh := toldE nMinFresh farN farN true E, maxStale := toldE nMaxStale 0 farN false E }
def ctlF (L : List Fld) : Ctl := ctlE (elementsF L nCC) ((allF L nCC).isEmpty && hasF L nPragma nNoCache)
def ctl0 : Ctl := ctlE [] false
theorem ctlE_comm (A B : List (List UInt8)) (p : Bool) : ctlE (A ++ B) p = ctlE (B ++ A) p := by
  unfold ctlE
  simp only [saidE_append, toldE_append, Bool.or_comm (saidE _ A), comb_comm _ (toldE _ _ _ _ A)]


/-! texts and their elements -/
theorem listL_blank (l : List UInt8) : listL (32 :: l) = listL l := by
  have hc : cut false false (32 :: l) = cut false false l + 1 := by rw [cut_other 32 l (by decide) (by decide)]; omega
  rw [listL_step (32 :: l), listL_step l, hc, List.take_succ_cons, List.drop_succ_cons, trim_blank 32 _ (by decide)]
/-- of values without quotes, joined by a comma and a blank -/
theorem listL_joinC : ∀ (l : List (List UInt8)), (∀ a ∈ l, (34 : UInt8) ∉ a) → listL (joinC l) = l.flatMap listL
  | [], _ => rfl
  | [a], _ => by simp [joinC]
  | a :: b :: r, h => by
    have h1 := listL_joinC (b :: r) (fun x hx => h x (List.mem_cons_of_mem _ hx))
    show listL (a ++ 44 :: 32 :: joinC (b :: r)) = _
    rw [listL_two _ a.length a (Nat.le_refl _) (h a (List.mem_cons_self ..)), listL_blank, h1]
    rfl
/-- the same with a last one that may have quotes -/
theorem listL_joinC_snoc : ∀ (l : List (List UInt8)) (s : List UInt8), (∀ a ∈ l, (34 : UInt8) ∉ a) → listL (joinC (l ++ [s])) = l.flatMap listL ++ listL s
  | [], _, _ => by simp [joinC]
  | [a], s, h => by
    show listL (a ++ 44 :: 32 :: s) = _
    rw [listL_two _ a.length a (Nat.le_refl _) (h a (List.mem_cons_self ..)), listL_blank]
    simp
  | a :: b :: r, s, h => by
    have h1 := listL_joinC_snoc (b :: r) s (fun x hx => h x (List.mem_cons_of_mem _ hx))
    show listL (a ++ 44 :: 32 :: joinC ((b :: r) ++ [s])) = _
    rw [listL_two _ a.length a (Nat.le_refl _) (h a (List.mem_cons_self ..)), listL_blank, h1]
    simp
/-- each behind it a comma -/
def commaL (l : List (List UInt8)) : List UInt8 := l.flatMap fun a => a ++ [44]
theorem listL_commaL : ∀ (l : List (List UInt8)), (∀ a ∈ l, (34 : UInt8) ∉ a) → listL (commaL l) = l.flatMap listL
  | [], _ => rfl
  | a :: r, h => by
    have h1 := listL_commaL r (fun x hx => h x (List.mem_cons_of_mem _ hx))
    have e : commaL (a :: r) = a ++ 44 :: commaL r := by simp [commaL]
    rw [e, listL_two _ a.length a (Nat.le_refl _) (h a (List.mem_cons_self ..)), h1]
    rfl
theorem cut_nocomma (l : List UInt8) (h : (44 : UInt8) ∉ l) : ∀ i s, cut i s l = l.length := by
  induction l with
  | nil => intro i s; rfl
  | cons c l ih =>
    intro i s
    have hc : c ≠ 44 := fun e => h (by rw [e]; exact List.mem_cons_self ..)
    rw [cut, if_neg (fun e => hc e.1), ih (fun e => h (List.mem_cons_of_mem _ e)), List.length_cons]
/-- a text without commas is one element, or none -/
theorem listL_single (l : List UInt8) (h : (44 : UInt8) ∉ l) : listL l = if trimL l = [] then [] else [trimL l] := by
  rw [listL_step, cut_nocomma l h, List.take_of_length_le (Nat.le_refl _), List.drop_eq_nil_of_le (by omega), listL_nil]

/-! fields -/
theorem elementsF_of (L : List Fld) (n : List UInt8) : elementsF L n = listL (joinC (allF L n)) := rfl
theorem ctlF_one (n s : List UInt8) (h : lowerL n = nCC) : ctlF [(n, s)] = ctlE (listL s) false := by
  have h1 : allF [(n, s)] nCC = [s] := by
    have : isF nCC (n, s) = true := by unfold isF; rw [h]; decide
    simp [allF, this]
  unfold ctlF
  rw [elementsF_of, h1]
  rfl
/-- fields that say nothing -/
theorem ctlF_nothing (L : List Fld) (h1 : allF L nCC = []) (h2 : allF L nPragma = []) : ctlF L = ctl0 := by
  unfold ctlF hasF
  rw [elementsF_of, elementsF_of, h1, h2]
  rfl
/-- fields with some Cache-Control -/
theorem ctlF_some (L : List Fld) (h : allF L nCC ≠ []) : ctlF L = ctlE (elementsF L nCC) false := by
  unfold ctlF
  cases ha : allF L nCC with
  | nil => exact absurd ha h
  | cons a r => rfl

/-! what a directive more does -/
def lessO (x y : Option Nat) : Prop := ∀ a, x = some a → ∃ b, y = some b ∧ b ≤ a
theorem comb_less (a b : Option Nat) : lessO a (comb false a b) := by
  intro x hx
  subst hx
  cases b with
  | none => exact ⟨x, rfl, Nat.le_refl _⟩
  | some y => exact ⟨min x y, rfl, Nat.min_le_left _ _⟩
theorem comb_more (a b : Option Nat) : ∀ x, a = some x → ∃ y, comb true a b = some y ∧ x ≤ y := by
  intro x hx
  subst hx
  cases b with
  | none => exact ⟨x, rfl, Nat.le_refl _⟩
  | some y => exact ⟨max x y, rfl, Nat.le_max_left _ _⟩
end Go.Pantry
/-
  Directives: what the statements of layer 4 ask. No program is imported.
-/
namespace Go.Pantry
open Go.RowKit

theorem trim_pre (p q : List UInt8) (c d : UInt8) (hc : p.head? = some c) (hcb : isBl c = false) (hd : p.getLast? = some d) (hdb : isBl d = false) : ∃ q', trimL (p ++ q) = p ++ q' := by
  have bl : ∀ x, [32, 9].contains x = isBl x := fun x => isBl_contains x
  obtain ⟨p1, rfl⟩ : ∃ p1, p = p1 ++ [d] := by
    rcases List.eq_nil_or_concat p with rfl | ⟨p1, a, rfl⟩
    · simp at hd
    · rw [List.concat_eq_append] at hd ⊢
      simp at hd
      subst hd
      exact ⟨p1, rfl⟩
  unfold trimL Lib.trimS Lib.trimRightS
  have hr : ((p1 ++ [d] ++ q).reverse.dropWhile (fun x => [32, 9].contains x)).reverse = (p1 ++ [d]) ++ (q.reverse.dropWhile (fun x => [32, 9].contains x)).reverse := by
    rw [List.reverse_append, List.dropWhile_append]
    split
    · rename_i he
      have he' : q.reverse.dropWhile (fun x => [32, 9].contains x) = [] := by simpa using he
      rw [he', List.reverse_append, List.reverse_cons, List.reverse_nil, List.nil_append, List.cons_append, List.nil_append, List.dropWhile_cons, if_neg (by rw [bl, hdb]; simp)]
      simp
    · simp
  rw [hr]
  unfold Lib.trimLeftS
  have hne : ∃ r, p1 ++ [d] = c :: r := by
    cases h : p1 ++ [d] with
    | nil => simp at h
    | cons x r => rw [h] at hc; simp at hc; exact ⟨r, by rw [hc]⟩
  obtain ⟨r, hr2⟩ := hne
  rw [hr2, List.cons_append, List.dropWhile_cons, if_neg (by rw [bl, hcb]; simp)]
  exact ⟨_, rfl⟩
/-- seconds as a number: -1 where none is said -/
def intO : Option Nat → Int
  | none => -1
  | some n => (n : Int)
/-- one directive that is no seconds' -/
theorem ctlE_flag (e m : List UInt8) (h : lowerL (nameE e) = m) (h1 : (m == nMaxAge) = false) (h2 : (m == nShared) = false) (h3 : (m == nMinFresh) = false) (h4 : (m == nMaxStale) = false) :
    ctlE [e] false = { noStore := m == nNoStore, noCache := m == nNoCache, priv := m == nPrivate, pub := m == nPublic, must := m == nMust || m == nProxy, only := m == nOnly, maxAge := none, shared := none, minFresh := none, maxStale := none } := by
  simp only [ctlE, saidE, toldE, List.foldl_cons, List.foldl_nil, List.any_cons, List.any_nil, dirE, h, h1, h2, h3, h4, comb, Bool.or_false, Bool.false_eq_true, if_false]
theorem listL_name (n : List UInt8) (h : (44 : UInt8) ∉ n) (ht : trimL n = n) (hn : n ≠ []) : listL n = [n] := by
  rw [listL_single n h, ht, if_neg hn]
theorem listL_named (n arg : List UInt8) (c : UInt8) (hc : n.head? = some c) (hcb : isBl c = false) (h : (44 : UInt8) ∉ n) (h61 : (61 : UInt8) ∉ n) (ha : (44 : UInt8) ∉ arg) : ∃ e, listL (n ++ 61 :: arg) = [e] ∧ nameE e = n := by
  obtain ⟨q, hq⟩ := trim_pre (n ++ [61]) arg c 61 (by cases n <;> simp_all) hcb (by simp) (by decide)
  have e : n ++ [61] ++ arg = n ++ 61 :: arg := by simp
  have e2 : n ++ [61] ++ q = n ++ 61 :: q := by simp
  rw [e, e2] at hq
  refine ⟨n ++ 61 :: q, ?_, (nameE_at h61).1⟩
  rw [listL_single _ (by
    intro hm
    rcases List.mem_append.1 hm with hm | hm
    · exact h hm
    · rcases List.mem_cons.1 hm with hm | hm
      · cases hm
      · exact ha hm), hq, if_neg (by cases n <;> simp)]

/-! seconds -/
theorem digit_plain (c : UInt8) (h : isDig c = true) : c ≠ 34 ∧ c ≠ 92 ∧ c ≠ 44 ∧ isTok c = true ∧ isBl c = false := by
  unfold isDig at h
  simp only [Bool.and_eq_true, decide_eq_true_eq] at h
  have hn : ∀ k : UInt8, (k.toNat < 48 ∨ 57 < k.toNat) → c ≠ k := fun k hk e => by rw [e] at h; omega
  refine ⟨hn 34 (by decide), hn 92 (by decide), hn 44 (by decide), ?_, ?_⟩
  · unfold isTok isDig
    simp [h]
  · unfold isBl
    have h1 : (c.toNat == 32) = false := by simp; omega
    have h2 : (c.toNat == 9) = false := by simp; omega
    rw [h1, h2]; rfl
theorem digF_mem {f n : Nat} {c : UInt8} (h : c ∈ digF f n) : isDig c = true := List.all_eq_true.1 (digF_all f n) c h
theorem esc_digits (l : List UInt8) (h : ∀ c ∈ l, isDig c = true) : esc l = l := by
  induction l with
  | nil => rfl
  | cons c l ih =>
    have hc := digit_plain c (h c (List.mem_cons_self ..))
    show escC c ++ esc l = _
    rw [ih (fun d hd => h d (List.mem_cons_of_mem _ hd))]
    unfold escC
    rw [if_neg (by intro e; rcases e with e | e; exact hc.1 e; exact hc.2.1 e)]
    rfl
theorem secE_plain (n other : Nat) (h : n < 10 ^ 13) : secE (48 :: 48 :: digF 13 n) other = min n farN := by
  have hz : (48 : UInt8) :: 48 :: digF 13 n = List.replicate 2 48 ++ digF 13 n := rfl
  have ht : tokenL (48 :: 48 :: digF 13 n) = true := by
    unfold tokenL
    rw [Bool.and_eq_true]
    refine ⟨List.all_eq_true.2 fun c hc => ?_, rfl⟩
    rcases List.mem_cons.1 hc with rfl | hc
    · decide
    · rcases List.mem_cons.1 hc with rfl | hc
      · decide
      · exact (digit_plain c (digF_mem hc)).2.2.2.1
  unfold secE unquoteL
  rw [if_pos ht, hz]
  show (numberL (List.replicate 2 48 ++ digF 13 n)).getD other = _
  rw [number_zeros 2 n h]; rfl
theorem secE_quoted (n other : Nat) (h : n < 10 ^ 13) : secE (34 :: (digF 13 n ++ [34])) other = min n farN := by
  have h1 := unquote_esc (digF 13 n)
  rw [esc_digits _ (fun c hc => digF_mem hc)] at h1
  unfold secE
  rw [h1]
  show (numberL (digF 13 n)).getD other = _
  have h2 := number_zeros 0 n h
  rw [List.replicate_zero, List.nil_append] at h2
  rw [h2]; rfl
/-- the text of the statement on seconds -/
def secText (n : List UInt8) (a b : Nat) : List UInt8 := n ++ [61, 48, 48] ++ digF 13 a ++ [44, 32, 120, 61, 49, 44, 32] ++ n ++ [61, 34] ++ digF 13 b ++ [34]
theorem secText_elems (n : List UInt8) (a b : Nat) (c : UInt8) (hc : n.head? = some c) (hcb : isBl c = false) (h44 : (44 : UInt8) ∉ n) (h34 : (34 : UInt8) ∉ n) :
    listL (secText n a b) = [n ++ 61 :: 48 :: 48 :: digF 13 a, [120, 61, 49], n ++ 61 :: 34 :: (digF 13 b ++ [34])] := by
  have e : secText n a b = (n ++ 61 :: 48 :: 48 :: digF 13 a) ++ 44 :: 32 :: ([120, 61, 49] ++ 44 :: 32 :: (n ++ 61 :: 34 :: (digF 13 b ++ [34]))) := by simp [secText]
  have q1 : (34 : UInt8) ∉ n ++ 61 :: 48 :: 48 :: digF 13 a := by
    intro hm
    rcases List.mem_append.1 hm with hm | hm
    · exact h34 hm
    · simp only [List.mem_cons] at hm
      rcases hm with hm | hm | hm | hm
      · cases hm
      · cases hm
      · cases hm
      · exact (digit_plain 34 (digF_mem hm)).1 rfl
  have k1 : (44 : UInt8) ∉ n ++ 61 :: 48 :: 48 :: digF 13 a := by
    intro hm
    rcases List.mem_append.1 hm with hm | hm
    · exact h44 hm
    · simp only [List.mem_cons] at hm
      rcases hm with hm | hm | hm | hm
      · cases hm
      · cases hm
      · cases hm
      · exact (digit_plain 44 (digF_mem hm)).2.2.1 rfl
  have k2 : (44 : UInt8) ∉ n ++ 61 :: 34 :: (digF 13 b ++ [34]) := by
    intro hm
    rcases List.mem_append.1 hm with hm | hm
    · exact h44 hm
    · simp only [List.mem_cons, List.mem_append, List.not_mem_nil, or_false] at hm
      rcases hm with hm | hm | hm | hm
      · cases hm
      · cases hm
      · exact (digit_plain 44 (digF_mem hm)).2.2.1 rfl
      · cases hm
  have hne : ∀ r : List UInt8, n ++ 61 :: r ≠ [] := fun r => by cases n <;> simp
  have hh : ∀ (r : List UInt8) d, (n ++ 61 :: r).head? = some d → isBl d = false := fun r d hd => by
    cases n with
    | nil => simp at hc
    | cons x n => simp at hc hd; rw [← hd, hc]; exact hcb
  have t1 : trimL (n ++ 61 :: 48 :: 48 :: digF 13 a) = n ++ 61 :: 48 :: 48 :: digF 13 a := trim_whole _ (hh _) (fun d hd => by
    have hd2 : (n ++ 61 :: 48 :: 48 :: digF 13 a).getLast? = (digF 13 a).getLast? := by
      have e2 : n ++ 61 :: 48 :: 48 :: digF 13 a = (n ++ [61, 48, 48]) ++ digF 13 a := by simp
      rw [e2, List.getLast?_append]
      cases h : (digF 13 a).getLast? with
      | none => exact absurd (List.getLast?_eq_none_iff.1 h) (digF_ne 12 a)
      | some x => rfl
    rw [hd2] at hd
    exact (digit_plain d (digF_mem (List.mem_of_getLast? hd))).2.2.2.2)
  have t2 : trimL (n ++ 61 :: 34 :: (digF 13 b ++ [34])) = n ++ 61 :: 34 :: (digF 13 b ++ [34]) := trim_whole _ (hh _) (fun d hd => by
    have e2 : n ++ 61 :: 34 :: (digF 13 b ++ [34]) = (n ++ 61 :: 34 :: digF 13 b) ++ [34] := by simp
    rw [e2, List.getLast?_append] at hd
    simp at hd
    rw [← hd]; decide)
  rw [e, listL_two _ _ _ (Nat.le_refl _) q1, listL_blank, listL_two _ _ _ (Nat.le_refl _) (by decide), listL_blank, listL_single _ k1, t1, if_neg (hne _), listL_single _ k2, t2, if_neg (hne _)]
  rfl
theorem secText_ctl (n m : List UInt8) (a b : Nat) (c : UInt8) (hc : n.head? = some c) (hcb : isBl c = false) (h44 : (44 : UInt8) ∉ n) (h34 : (34 : UInt8) ∉ n) (h61 : (61 : UInt8) ∉ n) (hm : lowerL n = m) (ha : a ≤ farN) (hb : b ≤ farN)
    (hf : (m == nNoStore) = false ∧ (m == nNoCache) = false ∧ (m == nPrivate) = false ∧ (m == nPublic) = false ∧ (m == nMust) = false ∧ (m == nProxy) = false ∧ (m == nOnly) = false) :
    ctlE (listL (secText n a b)) false = { noStore := false, noCache := false, priv := false, pub := false, must := false, only := false, maxAge := (if m == nMaxAge then some (min a b) else none), shared := (if m == nShared then some (min a b) else none), minFresh := (if m == nMinFresh then some (max a b) else none), maxStale := (if m == nMaxStale then some (min a b) else none) } := by
  rw [secText_elems n a b c hc hcb h44 h34]
  obtain ⟨n1, a1, x1⟩ := nameE_at (b := 48 :: 48 :: digF 13 a) h61
  obtain ⟨n2, a2, x2⟩ := nameE_at (b := 34 :: (digF 13 b ++ [34])) h61
  have s1 := fun o => secE_plain a o (by unfold farN at ha; omega)
  have s2 := fun o => secE_quoted b o (by unfold farN at hb; omega)
  have e1 : min a farN = a := Nat.min_eq_left ha
  have e2 : min b farN = b := Nat.min_eq_left hb
  have nx : nameE [120, 61, 49] = [120] := by decide
  have lx : lowerL [120] = [120] := by decide
  obtain ⟨f1, f2, f3, f4, f5, f6, f7⟩ := hf
  have g : ∀ (k : List UInt8), ([120] == k) = false → ∀ o bare most, toldE k o bare most [n ++ 61 :: 48 :: 48 :: digF 13 a, [120, 61, 49], n ++ 61 :: 34 :: (digF 13 b ++ [34])] = if m == k then some (if most then max a b else min a b) else none := by
    intro k hk o bare most
    simp only [toldE, List.foldl_cons, List.foldl_nil, dirE, n1, a1, x1, n2, a2, x2, nx, lx, hk, hm, s1, s2, e1, e2, if_true, Bool.false_eq_true, if_false]
    cases (m == k) <;> simp [comb]
  have gs : ∀ (k : List UInt8), ([120] == k) = false → (m == k) = false → saidE k [n ++ 61 :: 48 :: 48 :: digF 13 a, [120, 61, 49], n ++ 61 :: 34 :: (digF 13 b ++ [34])] = false := by
    intro k hk hmk
    simp only [saidE, List.any_cons, List.any_nil, n1, n2, nx, lx, hk, hm, hmk, Bool.or_false]
  unfold ctlE
  rw [gs _ (by decide) f1, gs _ (by decide) f2, gs _ (by decide) f3, gs _ (by decide) f4, gs _ (by decide) f5, gs _ (by decide) f6, gs _ (by decide) f7, g _ (by decide), g _ (by decide), g _ (by decide), g _ (by decide)]
  rfl

/-! order -/
def rotL (l : List (List UInt8)) (r : Nat) : List (List UInt8) := l.drop r ++ l.take r
theorem rotL_at (l : List (List UInt8)) (r i : Nat) (hr : r < l.length) (hi : i < l.length) : (rotL l r)[i]? = l[(i + r) % l.length]? := by
  unfold rotL
  by_cases h : i < l.length - r
  · rw [List.getElem?_append_left (by rw [List.length_drop]; exact h), List.getElem?_drop, Nat.mod_eq_of_lt (by omega), Nat.add_comm]
  · have e : (i + r) % l.length = i + r - l.length := by
      rw [Nat.mod_eq_sub_mod (by omega), Nat.mod_eq_of_lt (by omega)]
    rw [List.getElem?_append_right (by rw [List.length_drop]; omega), List.length_drop, e, List.getElem?_take_of_lt (by omega)]
    congr 1; omega
theorem order_turn (l : List (List UInt8)) (r : Nat) (h : ∀ a ∈ l, (34 : UInt8) ∉ a) (p : Bool) : ctlE (listL (commaL (rotL l r))) p = ctlE (listL (commaL l)) p := by
  rw [listL_commaL _ (fun a ha => h a (by
    unfold rotL at ha
    rcases List.mem_append.1 ha with ha | ha
    · exact List.mem_of_mem_drop ha
    · exact List.mem_of_mem_take ha)), listL_commaL l h]
  unfold rotL
  rw [List.flatMap_append, ctlE_comm, ← List.flatMap_append, List.take_append_drop]
theorem order_apart (L : List Fld) (l : List (List UInt8)) (hl : allF L nCC = l) (hne : l ≠ []) (h : ∀ a ∈ l, (34 : UInt8) ∉ a) : ctlF L = ctlE (listL (commaL l)) false := by
  rw [ctlF_some L (by rw [hl]; exact hne), elementsF_of, hl, listL_joinC l h, listL_commaL l h]

/-! a directive more -/
theorem more_b (L : List Fld) (n s : List UInt8) (hn : lowerL n = nCC) (h : ∀ a ∈ allF L nCC, (34 : UInt8) ∉ a) : ctlF (L ++ [(n, s)]) = ctlE ((allF L nCC).flatMap listL ++ listL s) false := by
  have h1 : allF (L ++ [(n, s)]) nCC = allF L nCC ++ [s] := by
    have : isF nCC (n, s) = true := by unfold isF; rw [hn]; decide
    rw [allF_snoc, this]; rfl
  rw [ctlF_some _ (by rw [h1]; simp), elementsF_of, h1, listL_joinC_snoc _ s h]
theorem more_a (L : List Fld) (h : ∀ a ∈ allF L nCC, (34 : UInt8) ∉ a) : (if (allF L nCC).isEmpty = true then ({ ctlF L with noCache := false } : Ctl) else ctlF L) = ctlE ((allF L nCC).flatMap listL) false := by
  cases ha : allF L nCC with
  | nil =>
    unfold ctlF
    rw [elementsF_of, ha]
    rfl
  | cons a r =>
    rw [← ha, ctlF_some L (by rw [ha]; simp), elementsF_of, listL_joinC _ h, if_neg (by rw [ha]; simp)]
theorem said_mono (k : List UInt8) (A B : List (List UInt8)) : ((!saidE k A) || saidE k (A ++ B)) = true := by
  rw [saidE_append]; cases saidE k A <;> rfl
theorem told_less (k : List UInt8) (o b : Nat) (A B : List (List UInt8)) : intO (toldE k o b false A) < 0 ∨ (0 ≤ intO (toldE k o b false (A ++ B)) ∧ intO (toldE k o b false (A ++ B)) ≤ intO (toldE k o b false A)) := by
  rw [toldE_append]
  cases ha : toldE k o b false A with
  | none => left; decide
  | some x =>
    right
    obtain ⟨y, hy, hle⟩ := comb_less (some x) (toldE k o b false B) x rfl
    rw [hy]
    simp only [intO]
    omega
theorem told_more (k : List UInt8) (o b : Nat) (A B : List (List UInt8)) : intO (toldE k o b true A) ≤ intO (toldE k o b true (A ++ B)) := by
  rw [toldE_append]
  cases ha : toldE k o b true A with
  | none =>
    cases toldE k o b true B with
    | none => exact Int.le_refl _
    | some y => simp only [comb, intO]; omega
  | some x =>
    obtain ⟨y, hy, hle⟩ := comb_more (some x) (toldE k o b true B) x rfl
    rw [hy]
    simp only [intO]
    omega
theorem unq_len : ∀ (n : Nat) (l t : List UInt8), l.length ≤ n → unq l = some t → t.length ≤ l.length := by
  intro n
  induction n with
  | zero =>
    intro l t h hu
    have : l = [] := List.eq_nil_of_length_eq_zero (by omega)
    subst this
    simp [unq] at hu
  | succ n ih =>
    intro l t h hu
    match l, h, hu with
    | [], _, hu => simp [unq] at hu
    | [c], _, hu =>
      rw [unq] at hu
      split at hu
      · cases hu; simp
      · cases hu
    | c :: d :: r, h, hu =>
      simp only [List.length_cons] at h ⊢
      rw [unq] at hu
      split at hu
      · cases hu
      · split at hu
        · obtain ⟨x, hx, rfl⟩ := Option.map_eq_some_iff.1 hu
          have := ih r x (by omega) hx
          simp; omega
        · obtain ⟨x, hx, rfl⟩ := Option.map_eq_some_iff.1 hu
          have := ih (d :: r) x (by simp; omega) hx
          simp at this ⊢; omega
theorem unquoteL_len {l t : List UInt8} (h : unquoteL l = some t) : t.length ≤ l.length := by
  unfold unquoteL at h
  split at h
  · cases h; exact Nat.le_refl _
  · split at h
    · have := unq_len l.tail.length l.tail t (Nat.le_refl _) h
      rw [List.length_tail] at this; omega
    · cases h
theorem nameE_len (e : List UInt8) : (nameE e).length ≤ e.length := by
  unfold nameE
  induction e with
  | nil => simp
  | cons c e ih => rw [List.takeWhile_cons]; split <;> simp; omega
theorem argE_len (e : List UInt8) : (argE e).length ≤ e.length := by
  unfold argE
  have : (e.dropWhile (· != 61)).length ≤ e.length := by
    induction e with
    | nil => simp
    | cons c e ih => rw [List.dropWhile_cons]; split <;> simp; omega
  rw [List.length_tail]; omega
theorem secE_far (arg : List UInt8) (other : Nat) (h : other ≤ farN) : secE arg other ≤ farN := by
  unfold secE
  cases unquoteL arg with
  | none => exact h
  | some s =>
    show (numberL s).getD other ≤ farN
    unfold numberL
    split
    · exact Nat.min_le_right _ _
    · exact h
end Go.Pantry
/-
  Directives, one by one. No program is imported.
-/
namespace Go.Pantry
open Go.RowKit

/-- what is said when one directive is added -/
def takeC (c : Ctl) (e : List UInt8) : Ctl :=
  { noStore := c.noStore || lowerL (nameE e) == nNoStore, noCache := c.noCache || lowerL (nameE e) == nNoCache, priv := c.priv || lowerL (nameE e) == nPrivate, pub := c.pub || lowerL (nameE e) == nPublic
    must := c.must || (lowerL (nameE e) == nMust || lowerL (nameE e) == nProxy), only := c.only || lowerL (nameE e) == nOnly
    maxAge := comb false c.maxAge (dirE nMaxAge 0 0 e), shared := comb false c.shared (dirE nShared 0 0 e), minFresh := comb true c.minFresh (dirE nMinFresh farN farN e), maxStale := comb false c.maxStale (dirE nMaxStale 0 farN e) }
theorem ctlE_snoc (E : List (List UInt8)) (e : List UInt8) : ctlE (E ++ [e]) false = takeC (ctlE E false) e := by
  have h : ∀ k, saidE k (E ++ [e]) = (saidE k E || lowerL (nameE e) == k) := fun k => by rw [saidE_append]; simp [saidE]
  unfold ctlE takeC
  simp only [toldE_snoc, h, Bool.or_false]
  congr 1
  cases saidE nMust E <;> cases saidE nProxy E <;> cases (lowerL (nameE e) == nMust) <;> cases (lowerL (nameE e) == nProxy) <;> rfl
/-- which directive is it? -/
theorem name_cases (ln : List UInt8) : ln = nNoStore ∨ ln = nNoCache ∨ ln = nPrivate ∨ ln = nPublic ∨ ln = nMust ∨ ln = nProxy ∨ ln = nOnly ∨ ln = nMaxAge ∨ ln = nShared ∨ ln = nMinFresh ∨ ln = nMaxStale ∨
    ((ln == nNoStore) = false ∧ (ln == nNoCache) = false ∧ (ln == nPrivate) = false ∧ (ln == nPublic) = false ∧ (ln == nMust) = false ∧ (ln == nProxy) = false ∧ (ln == nOnly) = false ∧ (ln == nMaxAge) = false ∧ (ln == nShared) = false ∧ (ln == nMinFresh) = false ∧ (ln == nMaxStale) = false) := by
  by_cases h1 : ln = nNoStore
  · exact .inl h1
  refine .inr ?_
  by_cases h2 : ln = nNoCache
  · exact .inl h2
  refine .inr ?_
  by_cases h3 : ln = nPrivate
  · exact .inl h3
  refine .inr ?_
  by_cases h4 : ln = nPublic
  · exact .inl h4
  refine .inr ?_
  by_cases h5 : ln = nMust
  · exact .inl h5
  refine .inr ?_
  by_cases h6 : ln = nProxy
  · exact .inl h6
  refine .inr ?_
  by_cases h7 : ln = nOnly
  · exact .inl h7
  refine .inr ?_
  by_cases h8 : ln = nMaxAge
  · exact .inl h8
  refine .inr ?_
  by_cases h9 : ln = nShared
  · exact .inl h9
  refine .inr ?_
  by_cases h10 : ln = nMinFresh
  · exact .inl h10
  refine .inr ?_
  by_cases h11 : ln = nMaxStale
  · exact .inl h11
  refine .inr ?_
  have hb : ∀ k : List UInt8, ln ≠ k → (ln == k) = false := fun k h => by simpa using h
  exact ⟨hb _ h1, hb _ h2, hb _ h3, hb _ h4, hb _ h5, hb _ h6, hb _ h7, hb _ h8, hb _ h9, hb _ h10, hb _ h11⟩
/-- an argument that is not given -/
theorem sec_bare (e : List UInt8) (other : Nat) : (if hasE e then secE (argE e) other else other) = secE (argE e) other := by
  by_cases h : (61 : UInt8) ∈ e
  · have : hasE e = true := by simpa [hasE] using h
    rw [this]; rfl
  · obtain ⟨_, h2, h3⟩ := nameE_none h
    rw [h2, h3]; rfl
theorem intO_max (o : Option Nat) (t : Nat) : intO (comb true o (some t)) = max (intO o) (t : Int) := by
  cases o with
  | none => simp only [comb, intO]; omega
  | some y =>
    show ((max y t : Nat) : Int) = _
    simp only [intO]
    omega

/-- what a directive more leaves -/
theorem more_all (A B : List (List UInt8)) :
    (!(ctlE A false).noStore || (ctlE (A ++ B) false).noStore) = true ∧ (!(ctlE A false).noCache || (ctlE (A ++ B) false).noCache) = true ∧ (!(ctlE A false).priv || (ctlE (A ++ B) false).priv) = true ∧ (!(ctlE A false).pub || (ctlE (A ++ B) false).pub) = true
    ∧ (!(ctlE A false).must || (ctlE (A ++ B) false).must) = true ∧ (!(ctlE A false).only || (ctlE (A ++ B) false).only) = true
    ∧ (intO (ctlE A false).maxAge < 0 ∨ (0 ≤ intO (ctlE (A ++ B) false).maxAge ∧ intO (ctlE (A ++ B) false).maxAge ≤ intO (ctlE A false).maxAge))
    ∧ (intO (ctlE A false).shared < 0 ∨ (0 ≤ intO (ctlE (A ++ B) false).shared ∧ intO (ctlE (A ++ B) false).shared ≤ intO (ctlE A false).shared))
    ∧ (intO (ctlE A false).maxStale < 0 ∨ (0 ≤ intO (ctlE (A ++ B) false).maxStale ∧ intO (ctlE (A ++ B) false).maxStale ≤ intO (ctlE A false).maxStale))
    ∧ intO (ctlE A false).minFresh ≤ intO (ctlE (A ++ B) false).minFresh := by
  refine ⟨said_mono _ _ _, ?_, said_mono _ _ _, said_mono _ _ _, ?_, said_mono _ _ _, told_less _ _ _ _ _, told_less _ _ _ _ _, told_less _ _ _ _ _, told_more _ _ _ _ _⟩
  · show (!(saidE nNoCache A || false) || (saidE nNoCache (A ++ B) || false)) = true
    rw [Bool.or_false, Bool.or_false]
    exact said_mono _ _ _
  · show (!(saidE nMust A || saidE nProxy A) || (saidE nMust (A ++ B) || saidE nProxy (A ++ B))) = true
    rw [saidE_append, saidE_append]
    cases saidE nMust A <;> cases saidE nProxy A <;> simp

/-! worlds that differ at one block alone, and behind -/
theorem below_grown {w w' : World} (g : Nat) (h : Below w.heap.size w w') : w.grownBy w' (some g) := ⟨h.os, h.tape, h.output, h.size, fun k hk _ => h.block k hk⟩
theorem grown_refl (w : World) (g : Nat) : w.grownBy w (some g) := ⟨rfl, rfl, rfl, Nat.le_refl _, fun _ _ _ => rfl⟩
theorem grown_drew {w w' : World} {g : Nat} (h : w.grownBy w' (some g)) : w.grownBy w'.drew (some g) := ⟨h.os, h.tape, h.output, h.size, h.block⟩
theorem grown_trans {w w1 w2 : World} {g : Nat} (h : w.grownBy w1 (some g)) (h2 : w1.grownBy w2 (some g)) : w.grownBy w2 (some g) :=
  ⟨h2.os.trans h.os, h2.tape.trans h.tape, h2.output.trans h.output, Nat.le_trans h.size h2.size, fun k hk hne => (h2.block k (Nat.lt_of_lt_of_le hk h.size) hne).trans (h.block k hk hne)⟩
theorem grown_set {w w1 : World} {g : Nat} (h : w.grownBy w1 (some g)) (i : Nat) (v : Value) : w.grownBy (w1.setCell ⟨g, i, none⟩ v) (some g) :=
  ⟨h.os, h.tape, h.output, by have := h.size; simpa [World.setCell] using this, fun k hk hne => (Below.heap_setCell w1 ⟨g, i, none⟩ v k (fun e => hne (by rw [e]))).trans (h.block k hk hne)⟩
theorem grown_below {B : Nat} {w w' : World} {g : Nat} (h : w.grownBy w' (some g)) (hg : B ≤ g) (hB : B ≤ w.heap.size) : Below B w w' :=
  (Below.refl B w).grown h hB (fun k hk => by cases hk; exact hg)
theorem ownsRow_grown {w w' : World} {B g : Nat} {e : TypeId} {size : Nat} {v : Value} {n : Nat} {xs : List Value} (h : w.ownsRow B e size v n xs) (hg : w.grownBy w' (some g)) (hB : g < B) : w'.ownsRow B e size v n xs := by
  refine ⟨h.1, ?_⟩
  rcases h.2 with hn | ⟨g', cap, cur, rfl, hbg, hgg, rest⟩
  · exact .inl hn
  · refine .inr ⟨g', cap, cur, rfl, hbg, ?_, rest⟩
    rw [hg.block g' (Array.getElem?_eq_some_iff.1 hgg).1 (fun e => by injection e; omega)]
    exact hgg
theorem rowIs_grown {w w' : World} {g k : Nat} {cs : Array Value} {t : TypeId} (h : rowIs w k cs t) (hg : w.grownBy w' (some g)) (hk : k ≠ g) : rowIs w' k cs t :=
  (hg.block k h.lt (fun e => hk (by injection e))).trans h
end Go.Pantry
/-
  append of a whole slice of fields, told by what it changes; an append that is guarded. No program is imported.
-/
namespace Go.Pantry
open Go.RowKit
theorem ownsRow_grown2 {w w' : World} {B : Nat} {r : Option Nat} {e : TypeId} {size : Nat} {v : Value} {n : Nat} {xs : List Value} (h : w.ownsRow B e size v n xs) (hg : w.grownBy w' r) (hB : ∀ k, r = some k → k < B) : w'.ownsRow B e size v n xs := by
  refine ⟨h.1, ?_⟩
  rcases h.2 with hn | ⟨g', cap, cur, rfl, hbg, hgg, rest⟩
  · exact .inl hn
  · refine .inr ⟨g', cap, cur, rfl, hbg, ?_, rest⟩
    rw [hg.block g' (Array.getElem?_eq_some_iff.1 hgg).1 (fun e => by have := hB g' e.symm; omega)]
    exact hgg
/-- the same operation, its guard struck -/
theorem wpList_unguard {P : Program} {ops : Array Oper} {rest : List Oper} {o : Oper} {a : Act} {w : World} {Q : Exit → Act → World → Prop} (hw : Region.wanted o (yielded ops a.tmps) = true)
    (h : wpList P ops Q ({ o with guard := none } :: rest) a w) : wpList P ops Q (o :: rest) a w := by
  have h2 : Region.wanted { o with guard := none } (yielded ops a.tmps) = true := rfl
  simp only [wpList, h2, if_true] at h
  simp only [wpList, hw, if_true]
  exact h
/-- append(out, more...), out nil or the call's own, whatever slice of fields more is: what it changes is its own block. -/
theorem wpList_append_fldsg {P : Program} {ops : Array Oper} {rest : List Oper} {o : Oper} {a : Act} {Q : Exit → Act → World → Prop} (w : World) (hgd : o.guard = none) (s x : Operand) (t : TypeId)
    (ho : o.op = .call { callee := .builtin .append, args := #[s, x], argTypes := #[t, t] })
    (B : Nat) (e : TypeId) {z : Value} {bytes : Nat} (ht : P.underlying t = some (.slice e)) (hi : (P.info? e).map (fun i => (i.zero, i.size, i.bytes)) = some (some z, 2, bytes)) (hzs : z.cells.size = 2)     {v : Value} {n : Nat} {L : List Fld} (hs : a.eval s = v) (hown : w.ownsRow B e 2 v n (fldCells L)) {vx : Value} {M : List Fld} (hr : Reads2 w vx M)
    (hx : a.eval x = vx) (hn : n + M.length ≤ maxLen) (hbz : (n + M.length) * bytes ≤ 140737488355328) (hB : B ≤ w.heap.size)
    (h : ∀ v' w', w'.ownsRow B e 2 v' (n + M.length) (fldCells (L ++ M)) → w.grownBy w' v.ownBlock → wpList P ops Q rest (a.put o.dst v') w') :
    wpList P ops Q (o :: rest) a w := by
  obtain ⟨i0, h1, h2, h3, h4⟩ := info_parts hi
  obtain ⟨ao, cap, rfl, hc, hz⟩ := hr
  cases ao with
  | none =>
    have hnil : M = [] := by
      cases M with
      | nil => rfl
      | cons y ys => obtain ⟨b, off, he, _⟩ := hc 0 y rfl; cases he
    subst hnil
    rw [hz.1 rfl] at hx
    refine wpList_append_own_none hgd s x t ho B e i0 2 ht h1 v n (fldCells L) hs hown hx ?_
    exact h v w (by simpa using hown) ⟨rfl, rfl, rfl, Nat.le_refl _, fun _ _ _ => rfl⟩
  | some ad =>
    have hspot : ∀ (j : Nat) (u : Value), (fldCells M)[j]? = some u → w.cell? (ad.add j) = some u := by
      intro j u hj
      have hjl : j < M.length * 2 := by have := (List.getElem?_eq_some_iff.1 hj).1; rwa [fldCells_len] at this
      have hq : j / 2 < M.length := by omega
      obtain ⟨p, hp⟩ : ∃ p, M[j / 2]? = some p := ⟨_, List.getElem?_eq_getElem hq⟩
      obtain ⟨b, off, he, g1, g2⟩ := hc (j / 2) p hp
      obtain ⟨f1, f2⟩ := fldCells_at M (j / 2) p hp
      cases he
      have e0 : (⟨b, off, none⟩ : Addr).add j = ⟨b, off + j, none⟩ := by unfold Addr.add; split <;> simp_all
      rw [e0]
      rcases Nat.mod_two_eq_zero_or_one j with h0 | h0
      · have ej : j / 2 * 2 = j := by omega
        rw [ej] at f1 g1
        rw [hj] at f1
        cases f1
        exact g1
      · have ej : j / 2 * 2 + 1 = j := by omega
        rw [ej] at f2
        rw [Nat.add_assoc, ej] at g2
        rw [hj] at f2
        cases f2
        exact g2
    refine wpList_append_own w hgd s x t ho B e i0 z 2 bytes ht h1 h2 h3 h4 hzs (by decide) v n (fldCells L) hs hown ad M.length cap (fldCells M) hx (fldCells_len M) hspot (fldCells_one M) hn hbz hB ?_
    · intro v' w' ho' hg _
      refine h v' w' ?_ hg
      rw [fldCells_append]
      exact ho'
end Go.Pantry
