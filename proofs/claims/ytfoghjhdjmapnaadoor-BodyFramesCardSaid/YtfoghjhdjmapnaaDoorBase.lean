/-
  Common helpers: no program is imported.
-/
import Derived.WalkKit
import Derived.Lib.Bytealg
import Derived.Lib.SlTrimSet
import Derived.Lib.IndexLaws
import Derived.WalkSpells
import Derived.WalkLawsBesides
import Derived.Laws.AppendOwnNone
namespace Go.Pantry
open Go.RowKit
theorem hid {p : Prop} (h : p) : Hid p := h
theorem ret_bool {a b : Bool} (h : a = b) : Ending.returned (.bool a) = .returned (.bool b) := by rw [h]
theorem ret_int {k : IntKind} {a b : Int} (h : a = b) : Ending.returned (.int k a) = .returned (.int k b) := by rw [h]
theorem ret_str {a b : ByteArray} (h : a = b) : Ending.returned (.string a) = .returned (.string b) := by rw [h]
theorem size_list (s : ByteArray) : s.data.toList.length = s.size := (Lib.size_eq s).symm
theorem getElem_list (s : ByteArray) (k : Nat) (h : k < s.size) : s.data.toList[k]'(by rw [size_list]; exact h) = s[k] := rfl
theorem take_succ_list (s : ByteArray) (k : Nat) (h : k < s.size) : s.data.toList.take (k + 1) = s.data.toList.take k ++ [s[k]] := by
  rw [List.take_succ_eq_append_getElem (by rw [size_list]; exact h)]; rfl
theorem take_all (s : ByteArray) (k : Nat) (h : ¬ k < s.size) : s.data.toList.take k = s.data.toList := List.take_of_length_le (by rw [size_list]; omega)
theorem not_isEmpty_int (s : ByteArray) : (!s.data.toList.isEmpty) = decide (0 < (s.size : Int)) := by
  rw [← size_list]; cases s.data.toList <;> simp
theorem drop_cons (s : ByteArray) (k : Nat) (h : k < s.size) : s.data.toList.drop k = s[k] :: s.data.toList.drop (k + 1) := by
  rw [List.drop_eq_getElem_cons (by rw [size_list]; exact h)]; rfl
theorem drop_nil (s : ByteArray) (k : Nat) (h : ¬ k < s.size) : s.data.toList.drop k = [] := List.drop_eq_nil_of_le (by rw [size_list]; omega)

/-- Block g holds the bytes l from its head on, none of them frozen. -/
structure bytesAt (w : World) (g : Nat) (l : List UInt8) : Prop where
  cell : ∀ (j : Nat) (c : UInt8), l[j]? = some c → w.cell? ⟨g, j, none⟩ = some (.int .u8 (c.toNat : Int))
  free : ∀ (j : Nat), j < l.length → w.frozen? ⟨g, j, none⟩ = false

theorem bytesRow_at (s : ByteArray) (cap : Nat) (j : Nat) (c : UInt8) (h : s.data.toList[j]? = some c) : (bytesRow s cap)[j]? = some (.int .u8 (c.toNat : Int)) := by
  have hj : j < s.data.toList.length := (List.getElem?_eq_some_iff.1 h).1
  have hj' : j < s.data.size := by simpa using hj
  unfold bytesRow
  rw [Array.getElem?_append, if_pos (by simpa using hj'), Array.getElem?_map]
  have : s.data[j]? = some c := by simpa using h
  rw [this]; rfl
theorem bytesRow_size (s : ByteArray) (cap : Nat) : s.size ≤ (bytesRow s cap).size := by
  unfold bytesRow; rw [Array.size_append, Array.size_map]; exact Nat.le_add_right _ _

theorem bytesAt_row (w : World) (s : ByteArray) (cap : Nat) (e : TypeId) :
    bytesAt (w.alloc (.cells (bytesRow s cap) e ((bytesRow s cap).size, (bytesRow s cap).size + 1))).drew w.heap.size s.data.toList := by
  constructor
  · intro j c h
    have := World.cell?_alloc_mark w (bytesRow s cap) e ((bytesRow s cap).size, (bytesRow s cap).size + 1) j
    exact this.trans (bytesRow_at s cap j c h)
  · intro j hj
    have h1 : (w.alloc (.cells (bytesRow s cap) e ((bytesRow s cap).size, (bytesRow s cap).size + 1))).drew.heap[w.heap.size]? = some (.cells (bytesRow s cap) e ((bytesRow s cap).size, (bytesRow s cap).size + 1)) := by
      show (w.heap.push _)[w.heap.size]? = _
      simp
    unfold World.frozen?
    rw [h1]
    have := bytesRow_size s cap
    rw [size_list] at hj
    simp
    omega

theorem bytesAt.set {w : World} {g : Nat} {l : List UInt8} (h : bytesAt w g l) (k : Nat) (hk : k < l.length) (c : UInt8) :
    bytesAt (w.setCell ⟨g, k, none⟩ (.int .u8 (c.toNat : Int))) g (l.set k c) := by
  have hc := h.cell k l[k] (List.getElem?_eq_getElem hk)
  constructor
  · intro j d hj
    rw [List.getElem?_set] at hj
    by_cases e : k = j
    · subst e
      rw [if_pos rfl, if_pos hk] at hj
      cases hj
      exact World.cell?_setCell_same _ _ _ hc
    · rw [if_neg e] at hj
      rw [World.cell?_setCell_other _ _ _ _ (by intro x; apply e; injection x)]
      exact h.cell j d hj
  · intro j hj
    rw [World.frozen?_setCell]
    exact h.free j (by simpa using hj)
theorem bytesAt.drew {w : World} {g : Nat} {l : List UInt8} (h : bytesAt w g l) : bytesAt w.drew g l := ⟨h.cell, h.free⟩
theorem bytesAt.alloc {w : World} {g : Nat} {l : List UInt8} (h : bytesAt w g l) (hg : g < w.heap.size) (o : Obj) : bytesAt (w.alloc o) g l :=
  ⟨fun j c hj => (World.cell?_of_block (w := w) (a := ⟨g, j, none⟩) (Below.heap_alloc w o g hg)).trans (h.cell j c hj), fun j hj => (World.frozen?_of_block (w := w) (a := ⟨g, j, none⟩) (Below.heap_alloc w o g hg)).trans (h.free j hj)⟩
theorem bytesAt.below {B : Nat} {w w' : World} {g : Nat} {l : List UInt8} (h : bytesAt w g l) (hb : Below B w w') (hg : g < B) : bytesAt w' g l :=
  ⟨fun j c hj => (hb.cell (p := ⟨g, j, none⟩) hg).trans (h.cell j c hj), fun j hj => (hb.frozen (p := ⟨g, j, none⟩) hg).trans (h.free j hj)⟩
/-- string(b) -/
theorem bytesAt.back {P : Program} {w : World} {g : Nat} {l : List UInt8} (h : bytesAt w g l) (src dst e : TypeId) (n cap : Nat) (hn : n = l.length) (hs : P.underlying src = some (.slice e)) (he : P.underlying e = some (.int .u8)) (hd : P.underlying dst = some .string) :
    (convert src dst (.slice (some ⟨g, 0, none⟩) n cap)).run P w = .ok (.string ⟨l.toArray⟩) w := by
  subst hn
  refine run_convert_bytes_back w src dst e _ cap l hs he hd (fun j hj => ?_)
  have : (⟨g, 0, none⟩ : Addr).add j = ⟨g, j, none⟩ := by unfold Addr.add; split <;> simp_all
  rw [this]
  exact h.cell j _ (List.getElem?_eq_getElem hj)

/-- append(out, x), out nil or the call's own, elements of one cell. -/
theorem wpList_append_one {P : Program} {ops : Array Oper} {rest : List Oper} {o : Oper} {a : Act} {Q : Exit → Act → World → Prop} (w : World) (hgd : o.guard = none) (s x : Operand) (t : TypeId)
    (ho : o.op = .call { callee := .builtin .append, args := #[s, x], argTypes := #[t, t] })
    (B : Nat) (e : TypeId) {z : Value} {bytes : Nat} (ht : P.underlying t = some (.slice e)) (hi : (P.info? e).map (fun i => (i.zero, i.size, i.bytes)) = some (some z, 1, bytes)) (hzs : z.cells.size = 1) (hby : bytes ≤ 4096)
    {v : Value} {n : Nat} {xs : List Value} (hs : a.eval s = v) (hown : w.ownsRow B e 1 v n xs) {u : Value} (hu : u.oneCell' = true)
    (hx : a.eval x = .slice (some ⟨w.heap.size, 0, none⟩) 1 1) (hn : n < 4294967296) (hB : B ≤ w.heap.size)
    (h : ∀ v' w', w'.ownsRow B e 1 v' (n + 1) (xs ++ [u]) → w.grownBy w' v.ownBlock → Below B w w' → wpList P ops Q rest (a.put o.dst v') w') :
    wpList P ops Q (o :: rest) a (w.alloc (.cells #[u] e)) := by
  obtain ⟨i0, h1, h2, h3, h4⟩ := info_parts hi
  refine wpList_append_own _ hgd s x t ho B e i0 z 1 bytes ht h1 h2 h3 h4 hzs (by decide) v n xs hs (hown.alloc _) ⟨w.heap.size, 0, none⟩ 1 1 [u] hx rfl ?_ ?_ ?_ ?_ ?_ ?_
  · intro j y hj
    match j, hj with
    | 0, hj =>
      simp at hj
      subst hj
      have e0 : (⟨w.heap.size, 0, none⟩ : Addr).add 0 = ⟨w.heap.size, 0, none⟩ := rfl
      rw [e0, World.cell?_alloc_at _ _ _ _ rfl]; rfl
  · intro y hy; simp at hy; subst hy; exact hu
  · unfold maxLen; omega
  · calc (n + 1) * bytes ≤ 4294967296 * 4096 := Nat.mul_le_mul (by omega) hby
      _ ≤ 140737488355328 := by decide
  · simp; omega
  · intro v' w' ho' hg _
    have hg' : w.grownBy w' v.ownBlock := ⟨hg.os, hg.tape, hg.output, Nat.le_trans (by simp) hg.size, fun k hk hne => (hg.block k (by simp; omega) hne).trans (Below.heap_alloc _ _ _ hk)⟩
    refine h v' w' ho' hg' ?_
    exact (Below.refl B w).grown hg' hB (fun k hk => (hown.lt k hk).1)

theorem wbounds (c : UInt8) : (c.toNat : Int) < 256 := by have := c.toNat_lt; omega
/-- a list of bytes, as a string's value -/
abbrev strV (l : List UInt8) : Value := .string ⟨l.toArray⟩
/-- a byte, as a value -/
abbrev byteV (c : UInt8) : Value := .int .u8 (c.toNat : Int)

/-- string(b) of an owned row of bytes -/
theorem ownsRow_string {P : Program} {w : World} {B : Nat} {e : TypeId} {v : Value} {n : Nat} {l : List UInt8} (h : w.ownsRow B e 1 v n (l.map byteV)) (src dst : TypeId) (hs : P.underlying src = some (.slice e)) (he : P.underlying e = some (.int .u8)) (hd : P.underlying dst = some .string) :
    (convert src dst v).run P w = .ok (.string ⟨l.toArray⟩) w := by
  rcases h.2 with ⟨rfl, rfl⟩ | ⟨g, cap, cur, rfl, hb, hg, hnc, hcm, hcs, htake⟩
  · have hl : l = [] := by
      have := h.1
      simpa using this
    subst hl
    exact run_convert_bytes_nil w src e hs he 0 0 dst hd
  · have hl : n = l.length := by have := h.1; simp at this; omega
    subst hl
    refine run_convert_bytes_back w src dst e _ cap l hs he hd (fun j hj => ?_)
    exact h.cells (g := g) rfl j _ (by simp [List.getElem?_eq_getElem hj, byteV])
theorem byte_yes {c : UInt8} (d : UInt8) {z : Int} (h : ((c.toNat : Int) == z) = true) (hd : (d.toNat : Int) = z) : c = d := by
  have := beq_iff_eq.1 h
  exact UInt8.toNat_inj.1 (by omega)
theorem byte_no {c : UInt8} (d : UInt8) {z : Int} (h : ((c.toNat : Int) == z) = false) (hd : (d.toNat : Int) = z) : c ≠ d := by
  intro e
  subst e
  rw [hd] at h
  simp at h
theorem byte_ne_yes {c : UInt8} (d : UInt8) {z : Int} (h : ((c.toNat : Int) != z) = true) (hd : (d.toNat : Int) = z) : c ≠ d := by
  intro e
  subst e
  rw [hd] at h
  simp at h
theorem byte_ne_no {c : UInt8} (d : UInt8) {z : Int} (h : ((c.toNat : Int) != z) = false) (hd : (d.toNat : Int) = z) : c = d := by
  have : (c.toNat : Int) = z := by simpa using h
  exact UInt8.toNat_inj.1 (by omega)
end Go.Pantry
namespace Go
open Go.RowKit Go.Pantry
theorem World.ownsRow.below {w w' : World} {B : Nat} {e : TypeId} {size : Nat} {v : Value} {n : Nat} {xs : List Value} (h : w.ownsRow B e size v n xs) (hb : Below w.heap.size w w') : w'.ownsRow B e size v n xs := by
  refine ⟨h.1, ?_⟩
  rcases h.2 with hn | ⟨g, cap, cur, rfl, hbg, hgg, rest⟩
  · exact .inl hn
  · refine .inr ⟨g, cap, cur, rfl, hbg, ?_, rest⟩
    rw [hb.block g (Array.getElem?_eq_some_iff.1 hgg).1]
    exact hgg
end Go
namespace Go.Pantry
open Go.RowKit
/-- The slice value v reads as the elements xs, each of one cell. -/
def Reads (w : World) (v : Value) (xs : List Value) : Prop :=
  ∃ ao cap, v = .slice ao xs.length cap ∧ (∀ (j : Nat) u, xs[j]? = some u → (∃ b off, ao = some ⟨b, off, none⟩ ∧ w.cell? ⟨b, off + j, none⟩ = some u)) ∧ (ao = none → cap = 0)
end Go.Pantry
namespace Go
open Go.RowKit Go.Pantry
theorem World.ownsRow.reads {w : World} {B : Nat} {e : TypeId} {v : Value} {n : Nat} {xs : List Value} (h : w.ownsRow B e 1 v n xs) : Reads w v xs := by
  have hl : xs.length = n := by have := h.1; omega
  subst hl
  rcases h.2 with ⟨rfl, hn⟩ | ⟨g, cap, cur, rfl, hb, hg, hnc, hcm, hcs, htake⟩
  · exact ⟨none, 0, by rw [hn], fun j u hj => by have : j < xs.length := (List.getElem?_eq_some_iff.1 hj).1; omega, fun _ => rfl⟩
  · refine ⟨some ⟨g, 0, none⟩, cap, rfl, fun j u hj => ⟨g, 0, rfl, ?_⟩, fun e => by cases e⟩
    have := h.cells (g := g) rfl j u hj
    have hadd : (⟨g, 0, none⟩ : Addr).add j = ⟨g, 0 + j, none⟩ := by unfold Addr.add; split <;> simp_all
    rw [hadd] at this
    exact this
end Go
namespace Go.Pantry
open Go.RowKit
theorem Reads.below {w w' : World} {v : Value} {xs : List Value} (h : Reads w v xs) (hb : Below w.heap.size w w') : Reads w' v xs := by
  obtain ⟨ao, cap, hv, hc, hz⟩ := h
  refine ⟨ao, cap, hv, fun j u hj => ?_, hz⟩
  obtain ⟨b, off, ha, hcell⟩ := hc j u hj
  refine ⟨b, off, ha, ?_⟩
  have hlt : b < w.heap.size := World.block_lt_of_cell? w _ hcell
  exact (hb.cell (p := ⟨b, off + j, none⟩) hlt).trans hcell
/-- With at least one element: where they lie. -/
theorem Reads.at_some {w : World} {v : Value} {xs : List Value} (h : Reads w v xs) (hx : 0 < xs.length) : ∃ b off cap, v = .slice (some ⟨b, off, none⟩) xs.length cap ∧ ∀ (j : Nat) u, xs[j]? = some u → w.cell? ⟨b, off + j, none⟩ = some u := by
  obtain ⟨ao, cap, hv, hc, -⟩ := h
  obtain ⟨b, off, ha, hcell⟩ := hc 0 xs[0] (List.getElem?_eq_getElem hx)
  subst ha
  refine ⟨b, off, cap, hv, fun j u hj => ?_⟩
  obtain ⟨b', off', ha', hcell'⟩ := hc j u hj
  cases ha'
  exact hcell'

/-- Block g holds the one-cell values xs from its head on, none of them frozen. -/
structure blockAt (w : World) (g : Nat) (xs : List Value) : Prop where
  cell : ∀ (j : Nat) u, xs[j]? = some u → w.cell? ⟨g, j, none⟩ = some u
  free : ∀ (j : Nat), j < xs.length → w.frozen? ⟨g, j, none⟩ = false
theorem blockAt.set {w : World} {g : Nat} {l : List Value} (h : blockAt w g l) (k : Nat) (hk : k < l.length) (c : Value) :
    blockAt (w.setCell ⟨g, k, none⟩ c) g (l.set k c) := by
  have hc := h.cell k l[k] (List.getElem?_eq_getElem hk)
  constructor
  · intro j d hj
    rw [List.getElem?_set] at hj
    by_cases e : k = j
    · subst e
      rw [if_pos rfl, if_pos hk] at hj
      cases hj
      exact World.cell?_setCell_same _ _ _ hc
    · rw [if_neg e] at hj
      rw [World.cell?_setCell_other _ _ _ _ (by intro x; apply e; injection x)]
      exact h.cell j d hj
  · intro j hj
    rw [World.frozen?_setCell]
    exact h.free j (by simpa using hj)
theorem blockAt.below {B : Nat} {w w' : World} {g : Nat} {l : List Value} (h : blockAt w g l) (hb : Below B w w') (hg : g < B) : blockAt w' g l :=
  ⟨fun j c hj => (hb.cell (p := ⟨g, j, none⟩) hg).trans (h.cell j c hj), fun j hj => (hb.frozen (p := ⟨g, j, none⟩) hg).trans (h.free j hj)⟩
theorem blockAt.reads {w : World} {g : Nat} {l : List Value} (h : blockAt w g l) (cap : Nat) : Reads w (.slice (some ⟨g, 0, none⟩) l.length cap) l :=
  ⟨_, _, rfl, fun j u hj => ⟨g, 0, rfl, by rw [Nat.zero_add]; exact h.cell j u hj⟩, fun e => by cases e⟩
end Go.Pantry
namespace Go
open Go.RowKit Go.Pantry
theorem World.ownsRow.row {w : World} {B : Nat} {e : TypeId} {g n cap : Nat} {xs : List Value} (h : w.ownsRow B e 1 (.slice (some ⟨g, 0, none⟩) n cap) n xs) : blockAt w g xs := by
  rcases h.2 with ⟨hv, _⟩ | ⟨g', cap', cur, hv, hb, hg, hnc, hcm, hcs, htake⟩
  · cases hv
  · cases hv
    constructor
    · intro j u hj
      have := h.cells (g := g) rfl j u hj
      have hadd : (⟨g, 0, none⟩ : Addr).add j = ⟨g, j, none⟩ := by unfold Addr.add; split <;> simp_all
      rw [hadd] at this
      exact this
    · intro j hj
      unfold World.frozen?
      rw [hg]
      simp
end Go
namespace Go.Pantry
open Go.RowKit
/-- make([]T, n): n zero elements of one cell. -/
theorem wpList_make_row {P : Program} (w : World) {ops : Array Oper} {rest : List Oper} {o : Oper} {a : Act} {Q : Exit → Act → World → Prop}
    (hg : o.guard = none) (l c : Operand) (t : TypeId) (hop : o.op = Op.makeSlice t l c)
    (e : TypeId) {z : Value} {bytes : Nat} (h1 : P.underlying t = some (.slice e)) (hi : (P.info? e).map (fun i => (i.zero, i.size, i.bytes)) = some (some z, 1, bytes)) (_hzs : z.cells.size = 1) (hby : bytes ≤ 4096)
    (kl kc : IntKind) (L C : Int) (n : Nat) (hl : a.eval l = .int kl L) (hc : a.eval c = .int kc C) (hL : L = (n : Int)) (hC : C = (n : Int)) (hn : n < 4294967296)
    (hK : ∀ w' (xs : List Value), xs.length = n → blockAt w' w.heap.size xs → w.heap.size < w'.heap.size → Below w.heap.size w w' → wpList P ops Q rest (a.put o.dst (.slice (some ⟨w.heap.size, 0, none⟩) n n)) w') :
    wpList P ops Q (o :: rest) a w := by
  obtain ⟨i0, a1, a2, a3, a4⟩ := info_parts hi
  refine wpList_make_full w hg l c t hop w.heap.size e i0 z 1 h1 a1 a2 a3 kl kc L C n hl hc hL hC ?_ (by unfold maxLen; omega) (Nat.le_refl _) (fun w' hown hgr => ?_)
  · rw [a4]
    calc bytes * n ≤ 4096 * 4294967296 := Nat.mul_le_mul hby (by omega)
      _ ≤ 281474976710656 := by decide
  · have hlt := (hown.lt w.heap.size rfl).2
    exact hK w' _ (by have := hown.1; omega) hown.row hlt ((Below.refl _ w).grown hgr (Nat.le_refl _) (fun k hk => by cases hk))
theorem set_mid (A R : List Value) (k : Nat) (v : Value) (hA : A.length = k) (hR : 0 < R.length) : (A ++ R).set k v = A ++ [v] ++ R.tail := by
  subst hA
  cases R with
  | nil => simp at hR
  | cons r R => simp
theorem byte_beq (c d : UInt8) {z : Int} (hd : (d.toNat : Int) = z) : (c == d) = ((c.toNat : Int) == z) := by
  rw [Bool.eq_iff_iff, beq_iff_eq, beq_iff_eq, ← hd]
  exact ⟨fun h => by rw [h], fun h => UInt8.toNat_inj.1 (by omega)⟩
end Go.Pantry
namespace Go
open Go.RowKit Go.Pantry
theorem World.ownsRow.base {w : World} {B B' : Nat} {e : TypeId} {size : Nat} {v : Value} {n : Nat} {xs : List Value} (h : w.ownsRow B e size v n xs) (hB : B' ≤ B) : w.ownsRow B' e size v n xs := by
  refine ⟨h.1, ?_⟩
  rcases h.2 with hn | ⟨g, cap, cur, rfl, hbg, rest⟩
  · exact .inl hn
  · exact .inr ⟨g, cap, cur, rfl, by omega, rest⟩
end Go
namespace Go.Pantry
open Go.RowKit
theorem reads_new (w : World) (xs : List Value) (e : TypeId) (cap : Nat) : Reads (w.alloc (.cells xs.toArray e)) (.slice (some ⟨w.heap.size, 0, none⟩) xs.length cap) xs :=
  ⟨_, _, rfl, fun j u hj => ⟨w.heap.size, 0, rfl, by
    rw [World.cell?_alloc_at _ _ _ _ rfl]
    simpa using hj⟩, fun e => by cases e⟩
theorem below_alloc (w : World) (o : Obj) : Below w.heap.size w (w.alloc o) := (Below.refl _ _).alloc (Nat.le_refl _) o
theorem run_one_byte {P : Program} (src dst e : TypeId) (hs : P.underlying src = some (.slice e)) (he : P.underlying e = some (.int .u8)) (hd : P.underlying dst = some .string) (w : World) (b : Nat) (c : Int)
    (hc : w.cell? ⟨b, 0, none⟩ = some (.int .u8 c)) : (convert src dst (.slice (some ⟨b, 0, none⟩) 1 1)).run P w = .ok (.string ⟨#[UInt8.ofNat c.toNat]⟩) w := by
  have := run_convert_bytes_arg (P := P) w src e hs he b 0 1 1 [c] rfl (fun i hi => by
    have : i = 0 := by omega
    subst this; exact hc) dst hd
  rw [this]; rfl
theorem kept_new {w w' : World} {C : Array Value} {e : TypeId} {v : Value} (hb : Below (w.alloc (.cells C e)).drew.heap.size (w.alloc (.cells C e)).drew w') (h0 : C[0]? = some v) : w'.cell? ⟨w.heap.size, 0, none⟩ = some v := by
  have h1 := hb.cell (p := ⟨w.heap.size, 0, none⟩) (by show w.heap.size < (w.heap.push _).size; simp)
  rw [h1]
  exact (World.cell?_alloc_at (w := w) C e _ 0 rfl).trans h0
theorem below_of_drew {w w' : World} (hb : Below w.drew.heap.size w.drew w') : Below w.heap.size w w' := ⟨hb.os, hb.tape, hb.output, hb.size, hb.block⟩
theorem below_of_new {w w' : World} {o : Obj} (hb : Below (w.alloc o).drew.heap.size (w.alloc o).drew w') : Below w.heap.size w w' :=
  ((below_alloc w o).drew).trans (hb.mono (by show w.heap.size ≤ (w.heap.push o).size; simp))
/-- append(out, more...), out nil or the call's own, whatever slice more is; elements of one cell. -/
theorem wpList_append_all {P : Program} {ops : Array Oper} {rest : List Oper} {o : Oper} {a : Act} {Q : Exit → Act → World → Prop} (w : World) (hgd : o.guard = none) (s x : Operand) (t : TypeId)
    (ho : o.op = .call { callee := .builtin .append, args := #[s, x], argTypes := #[t, t] })
    (B : Nat) (e : TypeId) {z : Value} {bytes : Nat} (ht : P.underlying t = some (.slice e)) (hi : (P.info? e).map (fun i => (i.zero, i.size, i.bytes)) = some (some z, 1, bytes)) (hzs : z.cells.size = 1) (hby : bytes ≤ 4096)
    {v : Value} {n : Nat} {xs : List Value} (hs : a.eval s = v) (hown : w.ownsRow B e 1 v n xs) {vx : Value} {ys : List Value} (hr : Reads w vx ys) (hys : ∀ u ∈ ys, u.oneCell' = true)
    (hx : a.eval x = vx) (hn : n + ys.length < 4294967296) (hB : B ≤ w.heap.size)
    (h : ∀ v' w', w'.ownsRow B e 1 v' (n + ys.length) (xs ++ ys) → w.grownBy w' v.ownBlock → Below B w w' → wpList P ops Q rest (a.put o.dst v') w') :
    wpList P ops Q (o :: rest) a w := by
  obtain ⟨i0, h1, h2, h3, h4⟩ := info_parts hi
  obtain ⟨ao, cap, rfl, hc, hz⟩ := hr
  cases ao with
  | none =>
    have hnil : ys = [] := by
      cases ys with
      | nil => rfl
      | cons y ys => obtain ⟨b, off, he, _⟩ := hc 0 y rfl; cases he
    subst hnil
    rw [hz rfl] at hx
    refine wpList_append_own_none hgd s x t ho B e i0 1 ht h1 v n xs hs hown hx ?_
    have hw := h v w (by simpa using hown) (World.grownBy.refl _ _) (Below.refl _ _)
    exact hw
  | some ad =>
    refine wpList_append_own w hgd s x t ho B e i0 z 1 bytes ht h1 h2 h3 h4 hzs (by decide) v n xs hs hown ad ys.length cap ys hx (by simp) ?_ hys (by unfold maxLen; omega) ?_ hB ?_
    · intro j u hj
      obtain ⟨b, off, he, hcell⟩ := hc j u hj
      cases he
      have e0 : (⟨b, off, none⟩ : Addr).add j = ⟨b, off + j, none⟩ := by unfold Addr.add; split <;> simp_all
      rw [e0]; exact hcell
    · calc (n + ys.length) * bytes ≤ 4294967296 * 4096 := Nat.mul_le_mul (by omega) hby
        _ ≤ 140737488355328 := by decide
    · intro v' w' ho' hg _
      exact h v' w' ho' hg ((Below.refl B w).grown hg hB (fun k hk => (hown.lt k hk).1))
theorem bytes_ext {a b : ByteArray} (h : a.data.toList = b.data.toList) : a = b := by
  rw [← Lib.mk_data a, ← Lib.mk_data b, h]
end Go.Pantry
