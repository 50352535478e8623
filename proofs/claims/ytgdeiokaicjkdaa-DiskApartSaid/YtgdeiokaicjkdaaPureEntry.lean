/-
  Entries: what is right, records of three versions, sums, reading back. No program is imported.
-/
import Derived.Test.YtgdeiokaicjkdaaPureAll1
set_option linter.unusedVariables false
set_option linter.unusedSimpArgs false
namespace Go.Pantry
open Go.RowKit

structure EntP where
  key : List UInt8
  second : List UInt8
  names : List (List UInt8)
  asked : Int
  came : Int
  status : Int
  fields : List Fld
  body : List UInt8
  gen : Int
deriving DecidableEq
def zeroE : EntP := ⟨[], [], [], 0, 0, 0, [], [], 0⟩
/-! numbers, highest byte first -/
def numB (n : Nat) : Nat → List UInt8
  | 0 => []
  | k + 1 => numB (n / 256) k ++ [UInt8.ofNat (n % 256)]
def numN (l : List UInt8) : Nat := l.foldl (fun n c => 256 * n + c.toNat) 0
theorem numB_len : ∀ (k n : Nat), (numB n k).length = k
  | 0, _ => rfl
  | k + 1, n => by rw [numB, List.length_append, numB_len k]; rfl
theorem numN_snoc (l : List UInt8) (c : UInt8) : numN (l ++ [c]) = 256 * numN l + c.toNat := by unfold numN; rw [List.foldl_append]; rfl
theorem ofNat_mod (n : Nat) : (UInt8.ofNat (n % 256)).toNat = n % 256 := by
  rw [UInt8.toNat_ofNat']; omega
theorem numN_numB : ∀ (k n : Nat), n < 256 ^ k → numN (numB n k) = n
  | 0, n, h => by simp at h; subst h; rfl
  | k + 1, n, h => by
    have h1 : n / 256 < 256 ^ k := by rw [Nat.pow_succ] at h; omega
    rw [numB, numN_snoc, numN_numB k _ h1, ofNat_mod]
    omega
theorem snoc_ex {α : Type} (l : List α) (k : Nat) (h : l.length = k + 1) : ∃ m a, l = m ++ [a] ∧ m.length = k := by
  rcases List.eq_nil_or_concat l with rfl | ⟨m, a, rfl⟩
  · simp at h
  · exact ⟨m, a, by simp, by simpa using h⟩
theorem numB_numN : ∀ (k : Nat) (l : List UInt8), l.length = k → numB (numN l) k = l ∧ numN l < 256 ^ k
  | 0, l, h => by have := List.length_eq_zero_iff.1 h; subst this; exact ⟨rfl, by decide⟩
  | k + 1, l, h => by
    obtain ⟨m, a, rfl, hm⟩ := snoc_ex l k h
    obtain ⟨h1, h2⟩ := numB_numN k m hm
    have ha := a.toNat_lt
    rw [numN_snoc, numB]
    have e1 : (256 * numN m + a.toNat) / 256 = numN m := by omega
    have e2 : (256 * numN m + a.toNat) % 256 = a.toNat := by omega
    rw [e1, e2, h1]
    refine ⟨?_, by rw [Nat.pow_succ]; omega⟩
    rw [UInt8.ofNat_toNat]
/-! what is read -/
def numD (k : Nat) (l : List UInt8) : Option (Nat × List UInt8) := if l.length < k then none else some (numN (l.take k), l.drop k)
theorem numD_numB {k n : Nat} (h : n < 256 ^ k) (r : List UInt8) : numD k (numB n k ++ r) = some (n, r) := by
  unfold numD
  rw [if_neg (by rw [List.length_append, numB_len]; omega)]
  rw [List.take_left' (numB_len k n), List.drop_left' (numB_len k n), numN_numB k n h]
theorem numD_some {k n : Nat} {l r : List UInt8} (h : numD k l = some (n, r)) : l = numB n k ++ r ∧ n < 256 ^ k := by
  unfold numD at h
  split at h
  · cases h
  · simp only [Option.some.injEq, Prod.mk.injEq] at h
    obtain ⟨h1, h2⟩ := h
    obtain ⟨g1, g2⟩ := numB_numN k (l.take k) (by rw [List.length_take]; omega)
    rw [h1] at g1 g2
    exact ⟨by rw [g1, ← h2, List.take_append_drop], g2⟩
def textB (s : List UInt8) : List UInt8 := numB s.length 2 ++ s
def textD (l : List UInt8) : Option (List UInt8 × List UInt8) :=
  match numD 2 l with
  | none => none
  | some (n, r) => if r.length < n then none else some (r.take n, r.drop n)
theorem textD_textB {s : List UInt8} (h : s.length < 65536) (r : List UInt8) : textD (textB s ++ r) = some (s, r) := by
  unfold textD textB
  rw [List.append_assoc, numD_numB (by omega : s.length < 256 ^ 2)]
  simp only
  rw [if_neg (by rw [List.length_append]; omega), List.take_left, List.drop_left]
theorem textD_some {l s r : List UInt8} (h : textD l = some (s, r)) : l = textB s ++ r ∧ s.length < 65536 := by
  unfold textD at h
  cases hn : numD 2 l with
  | none => rw [hn] at h; cases h
  | some p =>
    obtain ⟨n, q⟩ := p
    rw [hn] at h
    simp only at h
    obtain ⟨g1, g2⟩ := numD_some hn
    split at h
    · cases h
    · simp only [Option.some.injEq, Prod.mk.injEq] at h
      obtain ⟨rfl, rfl⟩ := h
      have hl : (q.take n).length = n := by rw [List.length_take]; omega
      refine ⟨?_, by rw [hl]; omega⟩
      unfold textB
      rw [hl, List.append_assoc, List.take_append_drop]
      exact g1
def textsD : Nat → List UInt8 → Option (List (List UInt8) × List UInt8)
  | 0, l => some ([], l)
  | n + 1, l => (textD l).bind fun p => (textsD n p.2).bind fun q => some (p.1 :: q.1, q.2)
def textsB (ss : List (List UInt8)) : List UInt8 := ss.flatMap textB
theorem textsD_textsB : ∀ (ss : List (List UInt8)), (∀ s ∈ ss, s.length < 65536) → ∀ r, textsD ss.length (textsB ss ++ r) = some (ss, r)
  | [], _, r => rfl
  | s :: ss, h, r => by
    show textsD (ss.length + 1) ((textB s ++ textsB ss) ++ r) = _
    rw [textsD, List.append_assoc, textD_textB (h s (by simp))]
    simp only [Option.bind_some]
    rw [textsD_textsB ss (fun x hx => h x (by simp [hx]))]
    rfl
theorem textsD_some : ∀ (n : Nat) {l : List UInt8} {ss : List (List UInt8)} {r : List UInt8}, textsD n l = some (ss, r) → l = textsB ss ++ r ∧ ss.length = n
  | 0, l, ss, r, h => by
    simp only [textsD, Option.some.injEq, Prod.mk.injEq] at h
    obtain ⟨rfl, rfl⟩ := h
    exact ⟨rfl, rfl⟩
  | n + 1, l, ss, r, h => by
    rw [textsD] at h
    obtain ⟨⟨s, q⟩, h1, h2⟩ := Option.bind_eq_some_iff.1 h
    obtain ⟨⟨tt, u⟩, h3, h4⟩ := Option.bind_eq_some_iff.1 h2
    simp only [Option.some.injEq, Prod.mk.injEq] at h4
    obtain ⟨rfl, rfl⟩ := h4
    obtain ⟨g1, -⟩ := textD_some h1
    obtain ⟨g2, g3⟩ := textsD_some n h3
    simp only at g2
    refine ⟨?_, by rw [List.length_cons, g3]⟩
    rw [g1, g2]
    show _ = (textB s ++ textsB tt) ++ u
    rw [List.append_assoc]
def fldD (l : List UInt8) : Option (Fld × List UInt8) := (textD l).bind fun p => (textD p.2).bind fun q => some ((p.1, q.1), q.2)
def fldB (f : Fld) : List UInt8 := textB f.1 ++ textB f.2
theorem fldD_fldB {f : Fld} (h1 : f.1.length < 65536) (h2 : f.2.length < 65536) (r : List UInt8) : fldD (fldB f ++ r) = some (f, r) := by
  unfold fldD fldB
  rw [List.append_assoc, textD_textB h1]
  simp only [Option.bind_some]
  rw [textD_textB h2]
  rfl
theorem fldD_some {l : List UInt8} {f : Fld} {r : List UInt8} (h : fldD l = some (f, r)) : l = fldB f ++ r := by
  unfold fldD at h
  obtain ⟨⟨a, q⟩, h1, h2⟩ := Option.bind_eq_some_iff.1 h
  obtain ⟨⟨b, u⟩, h3, h4⟩ := Option.bind_eq_some_iff.1 h2
  simp only [Option.some.injEq, Prod.mk.injEq] at h4
  obtain ⟨rfl, rfl⟩ := h4
  rw [(textD_some h1).1]
  have := (textD_some h3).1
  simp only at this
  rw [this]
  unfold fldB
  rw [List.append_assoc]
def fldsD : Nat → List UInt8 → Option (List Fld × List UInt8)
  | 0, l => some ([], l)
  | n + 1, l => (fldD l).bind fun p => (fldsD n p.2).bind fun q => some (p.1 :: q.1, q.2)
def fldsB (L : List Fld) : List UInt8 := L.flatMap fldB
theorem fldsD_fldsB : ∀ (L : List Fld), (∀ f ∈ L, f.1.length < 65536 ∧ f.2.length < 65536) → ∀ r, fldsD L.length (fldsB L ++ r) = some (L, r)
  | [], _, r => rfl
  | f :: L, h, r => by
    show fldsD (L.length + 1) ((fldB f ++ fldsB L) ++ r) = _
    rw [fldsD, List.append_assoc, fldD_fldB (h f (by simp)).1 (h f (by simp)).2]
    simp only [Option.bind_some]
    rw [fldsD_fldsB L (fun x hx => h x (by simp [hx]))]
    rfl
theorem fldsD_some : ∀ (n : Nat) {l : List UInt8} {L : List Fld} {r : List UInt8}, fldsD n l = some (L, r) → l = fldsB L ++ r ∧ L.length = n
  | 0, l, L, r, h => by
    simp only [fldsD, Option.some.injEq, Prod.mk.injEq] at h
    obtain ⟨rfl, rfl⟩ := h
    exact ⟨rfl, rfl⟩
  | n + 1, l, L, r, h => by
    rw [fldsD] at h
    obtain ⟨⟨f, q⟩, h1, h2⟩ := Option.bind_eq_some_iff.1 h
    obtain ⟨⟨M, u⟩, h3, h4⟩ := Option.bind_eq_some_iff.1 h2
    simp only [Option.some.injEq, Prod.mk.injEq] at h4
    obtain ⟨rfl, rfl⟩ := h4
    have g1 := fldD_some h1
    obtain ⟨g2, g3⟩ := fldsD_some n h3
    simp only at g2
    refine ⟨?_, by rw [List.length_cons, g3]⟩
    rw [g1, g2]
    show _ = (fldB f ++ fldsB M) ++ u
    rw [List.append_assoc]
/-! the rest -/
def headB (v : Nat) (e : EntP) : List UInt8 := (if v = 3 then textB e.second ++ (numB e.names.length 2 ++ textsB e.names) else []) ++ (if 2 ≤ v then numB e.gen.toNat 6 else [])
def tailB (e : EntP) : List UInt8 := textB e.key ++ (numB e.asked.toNat 6 ++ (numB e.came.toNat 6 ++ (numB e.status.toNat 6 ++ (numB e.fields.length 2 ++ (fldsB e.fields ++ textB e.body)))))
def restB (v : Nat) (e : EntP) : List UInt8 := headB v e ++ tailB e
/-- second key and names -/
def twoD (v : Nat) (l : List UInt8) : Option ((List UInt8 × List (List UInt8)) × List UInt8) :=
  if v = 3 then (textD l).bind fun p => (numD 2 p.2).bind fun q => (textsD q.1 q.2).bind fun t => some ((p.1, t.1), t.2) else some (([], []), l)
def genD (v : Nat) (l : List UInt8) : Option (Nat × List UInt8) := if 2 ≤ v then numD 6 l else some (1, l)
def tailD (s : List UInt8) (ns : List (List UInt8)) (g : Nat) (l : List UInt8) : Option (EntP × List UInt8) :=
  (textD l).bind fun k => (numD 6 k.2).bind fun a => (numD 6 a.2).bind fun c => (numD 6 c.2).bind fun st => (numD 2 st.2).bind fun n => (fldsD n.1 n.2).bind fun L => (textD L.2).bind fun b =>
    some (⟨k.1, s, ns, (a.1 : Int), (c.1 : Int), (st.1 : Int), L.1, b.1, (g : Int)⟩, b.2)
def entD (v : Nat) (l : List UInt8) : Option (EntP × List UInt8) := (twoD v l).bind fun h => (genD v h.2).bind fun g => tailD h.1.1 h.1.2 g.1 g.2
/-! right, and fitting -/
def nameAt (l : List (List UInt8)) (i : Nat) : Bool := tokenL (l.getD i []) && (lowerL (l.getD i []) == l.getD i [] && (decide ((l.getD i []).length ≤ 64) && (i == 0 || decide (l.getD (i - 1) [] < l.getD i []))))
def namesOk (l : List (List UInt8)) : Bool := decide (l.length ≤ 8) && (List.range l.length).all (nameAt l)
def rightE (e : EntP) : Bool :=
  (decide (1 ≤ e.key.length) && (decide (e.key.length ≤ 1200) && (decide (e.second.length ≤ 600) && (namesOk e.names && decide (e.body.length ≤ 2048))))) &&
  ((decide (0 ≤ e.asked) && decide (e.asked ≤ 253402300799)) && ((decide (0 ≤ e.came) && decide (e.came ≤ 253402300799)) && ((decide (200 ≤ e.status) && decide (e.status ≤ 599)) &&
  (rightFs e.fields && (decide (1 ≤ e.gen) && decide (e.gen ≤ 253402300799))))))
def fitsE (v : Int) (e : EntP) : Bool := rightE e && ((decide (1 ≤ v) && decide (v ≤ 3)) && ((v == 3 || (e.second.isEmpty && e.names.isEmpty)) && (decide (1 < v) || e.gen == 1)))
/-- what a right entry's parts are -/
structure RightE (e : EntP) : Prop where
  key : e.key.length ≤ 1200
  second : e.second.length ≤ 600
  names : e.names.length ≤ 8
  each : ∀ n ∈ e.names, n.length ≤ 64
  body : e.body.length ≤ 2048
  asked : 0 ≤ e.asked ∧ e.asked ≤ 253402300799
  came : 0 ≤ e.came ∧ e.came ≤ 253402300799
  status : 200 ≤ e.status ∧ e.status ≤ 599
  flds : e.fields.length ≤ 64
  fld : ∀ f ∈ e.fields, f.1.length ≤ 64 ∧ f.2.length ≤ 1024
  gen : 1 ≤ e.gen ∧ e.gen ≤ 253402300799
theorem rightE_parts {e : EntP} (h : rightE e = true) : RightE e := by
  unfold rightE namesOk rightFs at h
  simp only [Bool.and_eq_true, decide_eq_true_eq, List.all_eq_true, List.mem_range] at h
  obtain ⟨⟨h1, h2, h3, ⟨h4, h5⟩, h6⟩, h7, h8, h9, ⟨h10, h11⟩, h12⟩ := h
  refine ⟨h2, h3, h4, fun n hn => ?_, h6, h7, h8, h9, h10, fun f hf => ?_, h12⟩
  · obtain ⟨i, hi, rfl⟩ := List.getElem_of_mem hn
    have := h5 i hi
    unfold nameAt at this
    simp only [Bool.and_eq_true, decide_eq_true_eq] at this
    have g := this.2.2.1
    rw [List.getD_eq_getElem?_getD, List.getElem?_eq_getElem hi] at g
    exact g
  · have := h11 f hf
    unfold rightF at this
    simp only [Bool.and_eq_true, decide_eq_true_eq] at this
    exact ⟨this.1.1.1.2, this.1.1.2⟩
theorem fits_parts {v : Int} {e : EntP} (h : fitsE v e = true) : rightE e = true ∧ (1 ≤ v ∧ v ≤ 3) ∧ (v = 3 ∨ (e.second = [] ∧ e.names = [])) ∧ (1 < v ∨ e.gen = 1) := by
  unfold fitsE at h
  simp only [Bool.and_eq_true, Bool.or_eq_true, decide_eq_true_eq, beq_iff_eq, List.isEmpty_iff] at h
  exact h
theorem twoD_headB {v : Nat} {e : EntP} (h : RightE e) (hf : v = 3 ∨ (e.second = [] ∧ e.names = [])) (r : List UInt8) :
    twoD v ((if v = 3 then textB e.second ++ (numB e.names.length 2 ++ textsB e.names) else []) ++ r) = some ((e.second, e.names), r) := by
  unfold twoD
  by_cases hv : v = 3
  · rw [if_pos hv, if_pos hv, List.append_assoc, List.append_assoc, textD_textB (by have := h.second; omega)]
    simp only [Option.bind_some]
    rw [numD_numB (by have := h.names; omega : e.names.length < 256 ^ 2)]
    simp only [Option.bind_some]
    rw [textsD_textsB _ (fun n hn => by have := h.each n hn; omega)]
    rfl
  · rw [if_neg hv, if_neg hv]
    obtain ⟨h1, h2⟩ := hf.resolve_left hv
    rw [h1, h2]; rfl
theorem genD_headB {v : Nat} {e : EntP} (h : RightE e) (hf : 2 ≤ v ∨ e.gen = 1) (r : List UInt8) : genD v ((if 2 ≤ v then numB e.gen.toNat 6 else []) ++ r) = some (e.gen.toNat, r) := by
  unfold genD
  by_cases hv : 2 ≤ v
  · rw [if_pos hv, if_pos hv, numD_numB (by have := h.gen; omega : e.gen.toNat < 256 ^ 6)]
  · rw [if_neg hv, if_neg hv]
    rw [hf.resolve_left hv]; rfl
theorem tailD_tailB {e : EntP} (h : RightE e) (r : List UInt8) : tailD e.second e.names e.gen.toNat (tailB e ++ r) = some (e, r) := by
  have ha := h.asked
  have hc := h.came
  have hs := h.status
  have hg := h.gen
  unfold tailD tailB
  simp only [List.append_assoc]
  rw [textD_textB (by have := h.key; omega)]
  simp only [Option.bind_some]
  rw [numD_numB (by omega : e.asked.toNat < 256 ^ 6)]
  simp only [Option.bind_some]
  rw [numD_numB (by omega : e.came.toNat < 256 ^ 6)]
  simp only [Option.bind_some]
  rw [numD_numB (by omega : e.status.toNat < 256 ^ 6)]
  simp only [Option.bind_some]
  rw [numD_numB (by have := h.flds; omega : e.fields.length < 256 ^ 2)]
  simp only [Option.bind_some]
  rw [fldsD_fldsB _ (fun f hf => by have := h.fld f hf; omega)]
  simp only [Option.bind_some]
  rw [textD_textB (by have := h.body; omega)]
  simp only [Option.bind_some]
  rw [show ((e.asked.toNat : Nat) : Int) = e.asked by omega, show ((e.came.toNat : Nat) : Int) = e.came by omega, show ((e.status.toNat : Nat) : Int) = e.status by omega, show ((e.gen.toNat : Nat) : Int) = e.gen by omega]
theorem entD_restB {v : Nat} {e : EntP} (hf : fitsE (v : Int) e = true) (r : List UInt8) : entD v (restB v e ++ r) = some (e, r) := by
  obtain ⟨h0, hv, h1, h2⟩ := fits_parts hf
  have h := rightE_parts h0
  unfold entD restB headB
  rw [List.append_assoc, List.append_assoc, twoD_headB h (h1.imp (fun g => by omega) id)]
  simp only [Option.bind_some]
  rw [genD_headB h (h2.imp (fun g => by omega) id)]
  simp only [Option.bind_some]
  exact tailD_tailB h r
theorem twoD_some {v : Nat} {l s r : List UInt8} {ns : List (List UInt8)} (h : twoD v l = some ((s, ns), r)) :
    l = (if v = 3 then textB s ++ (numB ns.length 2 ++ textsB ns) else []) ++ r ∧ (v = 3 ∨ (s = [] ∧ ns = [])) := by
  unfold twoD at h
  by_cases hv : v = 3
  · rw [if_pos hv] at h ⊢
    obtain ⟨⟨a, q⟩, h1, h2⟩ := Option.bind_eq_some_iff.1 h
    obtain ⟨⟨n, u⟩, h3, h4⟩ := Option.bind_eq_some_iff.1 h2
    obtain ⟨⟨tt, z⟩, h5, h6⟩ := Option.bind_eq_some_iff.1 h4
    simp only [Option.some.injEq, Prod.mk.injEq] at h6
    obtain ⟨⟨rfl, rfl⟩, rfl⟩ := h6
    have g1 := (textD_some h1).1
    have g2 := (numD_some h3).1
    obtain ⟨g3, g4⟩ := textsD_some _ h5
    simp only at g2 g3 g4
    rw [g1, g2, g3, g4]
    exact ⟨by simp only [List.append_assoc], .inl hv⟩
  · rw [if_neg hv] at h ⊢
    simp only [Option.some.injEq, Prod.mk.injEq] at h
    obtain ⟨⟨rfl, rfl⟩, rfl⟩ := h
    exact ⟨rfl, .inr ⟨rfl, rfl⟩⟩
theorem genD_some {v g : Nat} {l r : List UInt8} (h : genD v l = some (g, r)) : l = (if 2 ≤ v then numB g 6 else []) ++ r ∧ (2 ≤ v ∨ g = 1) := by
  unfold genD at h
  by_cases hv : 2 ≤ v
  · rw [if_pos hv] at h ⊢
    exact ⟨(numD_some h).1, .inl hv⟩
  · rw [if_neg hv] at h ⊢
    simp only [Option.some.injEq, Prod.mk.injEq] at h
    obtain ⟨rfl, rfl⟩ := h
    exact ⟨rfl, .inr rfl⟩
theorem tailD_some {s l r : List UInt8} {ns : List (List UInt8)} {g : Nat} {e : EntP} (h : tailD s ns g l = some (e, r)) : l = tailB e ++ r ∧ e.second = s ∧ e.names = ns ∧ e.gen = (g : Int) := by
  unfold tailD at h
  obtain ⟨⟨k, l1⟩, h1, h⟩ := Option.bind_eq_some_iff.1 h
  obtain ⟨⟨a, l2⟩, h2, h⟩ := Option.bind_eq_some_iff.1 h
  obtain ⟨⟨c, l3⟩, h3, h⟩ := Option.bind_eq_some_iff.1 h
  obtain ⟨⟨st, l4⟩, h4, h⟩ := Option.bind_eq_some_iff.1 h
  obtain ⟨⟨n, l5⟩, h5, h⟩ := Option.bind_eq_some_iff.1 h
  obtain ⟨⟨L, l6⟩, h6, h⟩ := Option.bind_eq_some_iff.1 h
  obtain ⟨⟨b, l7⟩, h7, h⟩ := Option.bind_eq_some_iff.1 h
  simp only [Option.some.injEq, Prod.mk.injEq] at h
  obtain ⟨rfl, rfl⟩ := h
  have g1 := (textD_some h1).1
  have g2 := (numD_some h2).1
  have g3 := (numD_some h3).1
  have g4 := (numD_some h4).1
  have g5 := (numD_some h5).1
  obtain ⟨g6, g6'⟩ := fldsD_some _ h6
  have g7 := (textD_some h7).1
  simp only at g2 g3 g4 g5 g6 g6' g7
  refine ⟨?_, rfl, rfl, rfl⟩
  unfold tailB
  simp only [List.append_assoc, Int.toNat_natCast]
  rw [g6', ← g7, ← g6, ← g5, ← g4, ← g3, ← g2, ← g1]
theorem entD_some {v : Nat} {l r : List UInt8} {e : EntP} (h : entD v l = some (e, r)) : l = restB v e ++ r ∧ (v = 3 ∨ (e.second = [] ∧ e.names = [])) ∧ (2 ≤ v ∨ e.gen = 1) := by
  unfold entD at h
  obtain ⟨⟨⟨s, ns⟩, l1⟩, h1, h⟩ := Option.bind_eq_some_iff.1 h
  obtain ⟨⟨g, l2⟩, h2, h⟩ := Option.bind_eq_some_iff.1 h
  obtain ⟨g1, f1⟩ := twoD_some h1
  obtain ⟨g2, f2⟩ := genD_some h2
  obtain ⟨g3, rfl, rfl, e3⟩ := tailD_some h
  simp only at g2 g3
  refine ⟨?_, f1, f2.imp id (fun hg => by rw [e3, hg]; rfl)⟩
  unfold restB headB
  rw [e3, List.append_assoc, List.append_assoc, Int.toNat_natCast, ← g3, ← g2, ← g1]
/-! sums -/
def sumC (n : Nat) (c : UInt8) : Nat := (n ^^^ c.toNat) * 16777619 % 4294967296
def sumF (n : Nat) (l : List UInt8) : Nat := l.foldl sumC n
def sumL (l : List UInt8) : Nat := sumF 2166136261 l
theorem sumC_lt (n : Nat) (c : UInt8) : sumC n c < 4294967296 := Nat.mod_lt _ (by decide)
theorem sumF_lt : ∀ (l : List UInt8) (n : Nat), n < 4294967296 → sumF n l < 4294967296
  | [], n, h => h
  | c :: l, n, h => sumF_lt l _ (sumC_lt n c)
theorem sumL_lt (l : List UInt8) : sumL l < 4294967296 := sumF_lt l _ (by decide)
theorem xor_lt {n : Nat} (h : n < 4294967296) (c : UInt8) : n ^^^ c.toNat < 4294967296 := by
  have hc := c.toNat_lt
  exact Nat.xor_lt_two_pow (n := 32) h (by omega)
theorem mul_back {x y : Nat} (hx : x < 4294967296) (hy : y < 4294967296) (h : x * 16777619 % 4294967296 = y * 16777619 % 4294967296) : x = y := by
  have e : ∀ z : Nat, z < 4294967296 → (z * 16777619 % 4294967296) * 899433627 % 4294967296 = z := by
    intro z hz
    rw [Nat.mod_mul_mod, Nat.mul_assoc, Nat.mul_mod z, show (16777619 * 899433627) % 4294967296 = 1 by decide, Nat.mul_one, Nat.mod_mod, Nat.mod_eq_of_lt hz]
  have h1 := e x hx
  rw [h, e y hy] at h1
  exact h1.symm
theorem xor_cancel {a b c : Nat} (h : a ^^^ c = b ^^^ c) : a = b := by
  have := congrArg (· ^^^ c) h
  simpa [Nat.xor_assoc] using this
theorem sumC_back {n m : Nat} (hn : n < 4294967296) (hm : m < 4294967296) {c : UInt8} (h : sumC n c = sumC m c) : n = m :=
  xor_cancel (mul_back (xor_lt hn c) (xor_lt hm c) h)
theorem sumF_back : ∀ (l : List UInt8) {n m : Nat}, n < 4294967296 → m < 4294967296 → sumF n l = sumF m l → n = m
  | [], _, _, _, _, h => h
  | c :: l, n, m, hn, hm, h => sumC_back hn hm (sumF_back l (sumC_lt n c) (sumC_lt m c) h)
theorem sumC_byte {n : Nat} (hn : n < 4294967296) {c d : UInt8} (h : sumC n c = sumC n d) : c = d := by
  have := mul_back (xor_lt hn c) (xor_lt hn d) h
  rw [Nat.xor_comm n, Nat.xor_comm n] at this
  exact UInt8.toNat_inj.1 (xor_cancel this)
/-- a byte that is another one makes another sum -/
theorem sum_turned (a r : List UInt8) {c d : UInt8} (h : c ≠ d) : sumL (a ++ c :: r) ≠ sumL (a ++ d :: r) := by
  intro e
  unfold sumL sumF at e
  rw [List.foldl_append, List.foldl_append, List.foldl_cons, List.foldl_cons] at e
  have hn : a.foldl sumC 2166136261 < 4294967296 := sumF_lt a _ (by decide)
  exact h (sumC_byte hn (sumF_back r (sumC_lt _ _) (sumC_lt _ _) e))
/-! records -/
def recB (v : Nat) (e : EntP) : List UInt8 := 69 :: UInt8.ofNat v :: (numB (restB v e).length 2 ++ (numB (sumL (restB v e)) 4 ++ restB v e))
theorem recB_len (v : Nat) (e : EntP) : (recB v e).length = (restB v e).length + 8 := by
  unfold recB
  simp only [List.length_cons, List.length_append, numB_len]
  omega
/-- the rest of a record that is read, or the first error -/
def decD (b : List UInt8) : Int × EntP × Nat :=
  if b.length < 8 ∨ 4000 < b.length ∨ b.getD 0 0 ≠ 69 then (10, zeroE, 0)
  else if (b.getD 1 0).toNat < 1 ∨ 3 < (b.getD 1 0).toNat then (50, zeroE, 0)
  else if (b.getD 2 0).toNat * 256 + (b.getD 3 0).toNat ≠ b.length - 8 then (10, zeroE, 0)
  else if numN ((b.drop 4).take 4) ≠ sumL (b.drop 8) then (44, zeroE, 0)
  else match entD (b.getD 1 0).toNat (b.drop 8) with
    | none => (10, zeroE, 0)
    | some (e, r) => if r = [] ∧ rightE e = true then (0, e, (b.getD 1 0).toNat) else (10, zeroE, 0)
/-- the error of writing -/
def encC (v : Int) (e : EntP) : Int :=
  if v < 1 ∨ 3 < v then 50 else if rightE e = false then 10 else if fitsE v e = false then 51 else if 4000 < (recB v.toNat e).length then 23 else 0
theorem enc_ok {v : Int} {e : EntP} (h : encC v e = 0) : (1 ≤ v ∧ v ≤ 3) ∧ fitsE v e = true ∧ (recB v.toNat e).length ≤ 4000 := by
  unfold encC at h
  split at h
  · cases h
  · split at h
    · cases h
    · split at h
      · cases h
      · rename_i h1 h2 h3
        split at h
        · cases h
        · exact ⟨by omega, by simpa using h3, by omega⟩
theorem enc_of {v : Nat} {e : EntP} (hf : fitsE (v : Int) e = true) (hl : (recB v e).length ≤ 4000) : encC (v : Int) e = 0 := by
  obtain ⟨h0, hv, -, -⟩ := fits_parts hf
  unfold encC
  rw [if_neg (by omega), if_neg (by rw [h0]; decide), if_neg (by rw [hf]; decide), if_neg (by rw [Int.toNat_natCast]; omega)]
theorem ver_byte {v : Nat} (h : v ≤ 3) : (UInt8.ofNat v).toNat = v := by rw [UInt8.toNat_ofNat']; omega
/-- the record's parts -/
theorem recB_parts (v : Nat) (e : EntP) : (recB v e).getD 0 0 = 69 ∧ (recB v e).getD 1 0 = UInt8.ofNat v ∧ (recB v e).drop 8 = restB v e ∧ ((recB v e).drop 4).take 4 = numB (sumL (restB v e)) 4 ∧ ((recB v e).drop 2).take 2 = numB (restB v e).length 2 := by
  have l2 := numB_len 2 (restB v e).length
  have l4 := numB_len 4 (sumL (restB v e))
  unfold recB
  generalize numB (restB v e).length 2 = x at l2 ⊢
  generalize numB (sumL (restB v e)) 4 = y at l4 ⊢
  generalize restB v e = r
  obtain ⟨x0, x1, rfl⟩ : ∃ a b, x = [a, b] := by
    match x, l2 with
    | [a, b], _ => exact ⟨a, b, rfl⟩
  obtain ⟨y0, y1, y2, y3, rfl⟩ : ∃ a b c d, y = [a, b, c, d] := by
    match y, l4 with
    | [a, b, c, d], _ => exact ⟨a, b, c, d, rfl⟩
  exact ⟨rfl, rfl, rfl, rfl, rfl⟩
theorem two_bytes (b : List UInt8) (h : 4 ≤ b.length) : (b.getD 2 0).toNat * 256 + (b.getD 3 0).toNat = numN ((b.drop 2).take 2) := by
  obtain ⟨a0, a1, a2, a3, r, rfl⟩ : ∃ a0 a1 a2 a3 r, b = a0 :: a1 :: a2 :: a3 :: r := by
    match b, h with
    | a0 :: a1 :: a2 :: a3 :: r, _ => exact ⟨a0, a1, a2, a3, r, rfl⟩
  show a2.toNat * 256 + a3.toNat = 256 * (256 * 0 + a2.toNat) + a3.toNat
  omega
theorem dec_enc {v : Nat} {e : EntP} (hf : fitsE (v : Int) e = true) (hl : (recB v e).length ≤ 4000) : decD (recB v e) = (0, e, v) := by
  obtain ⟨h0, hv, -, -⟩ := fits_parts hf
  obtain ⟨p0, p1, p2, p3, p4⟩ := recB_parts v e
  have hlen := recB_len v e
  have hvb : (UInt8.ofNat v).toNat = v := ver_byte (by omega)
  unfold decD
  rw [p0, p1, hvb, if_neg (fun h => by rcases h with h | h | h <;> first | omega | exact h rfl), if_neg (by omega), two_bytes _ (by omega), p4, p3, p2]
  rw [numN_numB 2 _ (by omega), numN_numB 4 _ (by have := sumL_lt (restB v e); omega)]
  rw [if_neg (fun hh => hh (by omega)), if_neg (by simp)]
  have := entD_restB hf []
  rw [List.append_nil] at this
  rw [this]
  simp [h0]
set_option maxRecDepth 8000 in
theorem enc_dec {b : List UInt8} {e : EntP} {v : Nat} (h : decD b = (0, e, v)) : recB v e = b ∧ fitsE (v : Int) e = true ∧ b.length ≤ 4000 := by
  unfold decD at h
  split at h
  · simp at h
  rename_i c1
  split at h
  · simp at h
  rename_i c2
  split at h
  · simp at h
  rename_i c3
  split at h
  · simp at h
  rename_i c4
  split at h
  · simp at h
  rename_i e' r he
  split at h
  · rename_i c5
    obtain ⟨c5, c6⟩ := c5
    subst c5
    simp only [Prod.mk.injEq, true_and] at h
    obtain ⟨rfl, rfl⟩ := h
    obtain ⟨g1, g2, g3⟩ := entD_some he
    rw [List.append_nil] at g1
    have c3' := Classical.not_not.1 c3
    have c4' := Classical.not_not.1 c4
    rw [two_bytes b (by omega)] at c3'
    obtain ⟨a0, a1, a2, a3, a4, a5, a6, a7, r, rfl⟩ : ∃ a0 a1 a2 a3 a4 a5 a6 a7 r, b = a0 :: a1 :: a2 :: a3 :: a4 :: a5 :: a6 :: a7 :: r := by
      match b, (show 8 ≤ b.length by omega) with
      | a0 :: a1 :: a2 :: a3 :: a4 :: a5 :: a6 :: a7 :: r, _ => exact ⟨a0, a1, a2, a3, a4, a5, a6, a7, r, rfl⟩
    have d0 : a0 = 69 := by
      have : ¬ (a0 ≠ 69) := fun hh => c1 (.inr (.inr hh))
      exact Classical.not_not.1 this
    change r = restB a1.toNat e' at g1
    change numN [a2, a3] = r.length + 8 - 8 at c3'
    change numN [a4, a5, a6, a7] = sumL r at c4'
    have e2 := (numB_numN 2 [a2, a3] rfl).1
    have e4 := (numB_numN 4 [a4, a5, a6, a7] rfl).1
    rw [c3', Nat.add_sub_cancel] at e2
    rw [c4'] at e4
    refine ⟨?_, ?_, by have := c1; omega⟩
    · show recB a1.toNat e' = _
      unfold recB
      rw [← g1, e2, e4, d0, UInt8.ofNat_toNat]
      rfl
    · show fitsE (a1.toNat : Int) e' = true
      unfold fitsE
      have hv : ¬ (a1.toNat < 1 ∨ 3 < a1.toNat) := c2
      simp only [Bool.and_eq_true, Bool.or_eq_true, decide_eq_true_eq, beq_iff_eq, List.isEmpty_iff]
      exact ⟨c6, ⟨by omega, by omega⟩, g2.imp (fun h => by rw [show a1.toNat = 3 from h]; rfl) id, g3.imp (fun h => by have h' : 2 ≤ a1.toNat := h; omega) id⟩
  · simp at h
theorem dec_bad {b : List UInt8} (h : (decD b).1 ≠ 0) : (decD b).2 = (zeroE, 0) := by
  unfold decD at h ⊢
  by_cases c1 : b.length < 8 ∨ 4000 < b.length ∨ b.getD 0 0 ≠ 69
  · rw [if_pos c1]
  rw [if_neg c1] at h ⊢
  by_cases c2 : (b.getD 1 0).toNat < 1 ∨ 3 < (b.getD 1 0).toNat
  · rw [if_pos c2]
  rw [if_neg c2] at h ⊢
  by_cases c3 : (b.getD 2 0).toNat * 256 + (b.getD 3 0).toNat ≠ b.length - 8
  · rw [if_pos c3]
  rw [if_neg c3] at h ⊢
  by_cases c4 : numN ((b.drop 4).take 4) ≠ sumL (b.drop 8)
  · rw [if_pos c4]
  rw [if_neg c4] at h ⊢
  cases he : entD (b.getD 1 0).toNat (b.drop 8) with
  | none => rfl
  | some p =>
    obtain ⟨e, r⟩ := p
    rw [he] at h
    simp only at h ⊢
    by_cases c5 : r = [] ∧ rightE e = true
    · rw [if_pos c5] at h; exact absurd rfl h
    · rw [if_neg c5]
end Go.Pantry
