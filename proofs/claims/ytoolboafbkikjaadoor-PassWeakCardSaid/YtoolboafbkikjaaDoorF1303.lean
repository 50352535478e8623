/-
  Several texts in one: PurePass3, PurePass4.
-/
import Derived.Test.YtoolboafbkikjaaDoorF1301
set_option linter.unusedVariables false
set_option linter.unusedSimpArgs false
/-
  Bounds of what passes. No program is imported.
-/
namespace Go.Pantry
open Go.RowKit

structure WideF (l : List Fld) : Prop where
  len : l.length ≤ 1000
  name : ∀ f ∈ l, f.1.length ≤ 100000
  val : ∀ f ∈ l, f.2.length ≤ 100000
theorem WideF.sub {l m : List Fld} (h : WideF l) (hs : ∀ f ∈ m, f ∈ l) (hl : m.length ≤ l.length) : WideF m :=
  ⟨Nat.le_trans hl h.len, fun f hf => h.name f (hs f hf), fun f hf => h.val f (hs f hf)⟩
theorem WideF.outs {l : List Fld} (h : WideF l) (ns : List (List UInt8)) : WideF (outsF l ns) := h.sub outsF_sub (outsF_len l ns)
theorem WideF.out {l : List Fld} (h : WideF l) (n : List UInt8) : WideF (outF l n) := h.sub (fun _ hf => (List.mem_filter.1 hf).1) (List.length_filter_le _ _)
theorem WideF.strip {l : List Fld} (h : WideF l) : WideF (stripF l) := (h.outs _).outs _
theorem WideF.get {l : List Fld} (h : WideF l) (n : List UInt8) : (getF l n).length ≤ 100002000 := Nat.le_trans (getF_len h.val h.len) (by decide)
theorem WideF.elements {l : List Fld} (h : WideF l) (n : List UInt8) : (elementsF l n).length ≤ 100002000 ∧ ∀ e ∈ elementsF l n, e.length ≤ 100002000 :=
  ⟨Nat.le_trans (listL_len _) (h.get n), fun e he => Nat.le_trans (listL_size _ e he) (h.get n)⟩
theorem WideF.snoc {l : List Fld} (h : WideF l) (h1 : l.length ≤ 900) {f : Fld} (h2 : f.1.length ≤ 100000) (h3 : f.2.length ≤ 100000) : WideF (l ++ [f]) :=
  ⟨by rw [List.length_append]; simp; omega, fun g hg => by
    rcases List.mem_append.1 hg with h0 | h0
    · exact h.name g h0
    · rw [List.mem_singleton.1 h0]; exact h2, fun g hg => by
    rcases List.mem_append.1 hg with h0 | h0
    · exact h.val g h0
    · rw [List.mem_singleton.1 h0]; exact h3⟩
/-- the names of the first k fields, in small letters, each once -/
def namesP (l : List Fld) : Nat → List (List UInt8)
  | 0 => []
  | k + 1 => match l[k]? with
    | none => namesP l k
    | some f => if (namesP l k).any (· == lowerL f.1) then namesP l k else namesP l k ++ [lowerL f.1]
theorem namesP_succ {l : List Fld} {k : Nat} {f : Fld} (h : l[k]? = some f) : namesP l (k + 1) = if (namesP l k).any (· == lowerL f.1) then namesP l k else namesP l k ++ [lowerL f.1] := by
  rw [namesP, h]
theorem namesP_bd (l : List Fld) : ∀ k, (namesP l k).length ≤ k ∧ ∀ n ∈ namesP l k, ∃ f ∈ l, n = lowerL f.1
  | 0 => by simp [namesP]
  | k + 1 => by
    have ih := namesP_bd l k
    cases h : l[k]? with
    | none => rw [namesP, h]; exact ⟨Nat.le_succ_of_le ih.1, ih.2⟩
    | some f =>
      rw [namesP_succ h]
      split
      · exact ⟨Nat.le_succ_of_le ih.1, ih.2⟩
      · refine ⟨by rw [List.length_append]; simp; omega, fun n hn => ?_⟩
        rcases List.mem_append.1 hn with h1 | h1
        · exact ih.2 n h1
        · exact ⟨f, List.mem_of_getElem? h, List.mem_singleton.1 h1⟩
end Go.Pantry
/-
  An answer's fields, one of each name, as they are taken off one by one. No program is imported.
-/
namespace Go.Pantry
open Go.RowKit

def fixedS : List (List UInt8) := [[67, 111, 110, 110, 101, 99, 116, 105, 111, 110], [75, 101, 101, 112, 45, 65, 108, 105, 118, 101], [80, 114, 111, 120, 121, 45, 65, 117, 116, 104, 101, 110, 116, 105, 99, 97, 116, 101], [80, 114, 111, 120, 121, 45, 65, 117, 116, 104, 111, 114, 105, 122, 97, 116, 105, 111, 110], [80, 114, 111, 120, 121, 45, 67, 111, 110, 110, 101, 99, 116, 105, 111, 110], [84, 69], [84, 114, 97, 105, 108, 101, 114], [84, 114, 97, 110, 115, 102, 101, 114, 45, 69, 110, 99, 111, 100, 105, 110, 103], [85, 112, 103, 114, 97, 100, 101], [67, 111, 110, 116, 101, 110, 116, 45, 76, 101, 110, 103, 116, 104]]
def askS : List (List UInt8) := [sINM, sIMS, [73, 102, 45, 77, 97, 116, 99, 104], [73, 102, 45, 85, 110, 109, 111, 100, 105, 102, 105, 101, 100, 45, 83, 105, 110, 99, 101], [73, 102, 45, 82, 97, 110, 103, 101], [82, 97, 110, 103, 101]]
def contS : List (List UInt8) := [sViaP, [67, 111, 110, 116, 101, 110, 116, 45, 69, 110, 99, 111, 100, 105, 110, 103], [67, 111, 110, 116, 101, 110, 116, 45, 84, 121, 112, 101], [67, 111, 110, 116, 101, 110, 116, 45, 82, 97, 110, 103, 101]]
def sConn : List UInt8 := [67, 111, 110, 110, 101, 99, 116, 105, 111, 110]
def sETag : List UInt8 := [69, 84, 97, 103]
def sLastM : List UInt8 := [76, 97, 115, 116, 45, 77, 111, 100, 105, 102, 105, 101, 100]
theorem outsF_cons (l : List Fld) (n : List UInt8) (ns : List (List UInt8)) : outsF l (n :: ns) = outsF (outF l n) ns := by
  simp only [outsF, outF, List.filter_filter, List.any_cons]
  congr 1
  funext f
  cases isF n f <;> simp
theorem outsF_names (l : List Fld) (a b : List (List UInt8)) : outsF l (a ++ b) = outsF (outsF l a) b := by
  simp only [outsF, List.filter_filter, List.any_append]
  congr 1
  funext f
  cases (a.any fun n => isF n f) <;> simp
theorem outF_eq {n m : List UInt8} (h : lowerL n = lowerL m) (l : List Fld) : outF l n = outF l m := by simp only [outF, isF_eq h]
theorem outsF_low (l : List Fld) (ns ms : List (List UInt8)) (h : ns.map lowerL = ms.map lowerL) : outsF l ns = outsF l ms := by
  have e : ∀ f, (ns.any fun n => isF n f) = (ms.any fun n => isF n f) := fun f => by
    have k : ∀ xs : List (List UInt8), (xs.any fun n => isF n f) = (xs.map lowerL).any fun y => lowerL f.1 == y := fun xs => by
      rw [List.any_map]; rfl
    rw [k, k, h]
  simp only [outsF, e]
theorem strip_code (l : List Fld) : outsF l (elementsF l nConn ++ fixedS) = stripF l := by
  rw [outsF_names]
  exact outsF_low _ _ _ (by decide)
theorem ask_code (l : List Fld) : outsF l askS = outsF l askN := outsF_low _ _ _ (by decide)
theorem cont_code (l : List Fld) : outsF l contS = outsF l contN := outsF_low _ _ _ (by decide)
theorem elements_eq {n m : List UInt8} (h : lowerL n = lowerL m) (l : List Fld) : elementsF l n = elementsF l m := by
  unfold elementsF getF; rw [allF_eq h]
theorem isF_symm (f g : Fld) : isF f.1 g = isF g.1 f := by
  unfold isF
  exact BEq.comm
theorem isF_cong {f g : Fld} (h : isF f.1 g = true) (n : List UInt8) : isF n f = isF n g := by
  unfold isF at h ⊢
  rw [show lowerL g.1 = lowerL f.1 by simpa using h]
/-- fields without those whose name stands ahead -/
def firstsR : List Fld → List Fld
  | [] => []
  | f :: r => f :: (firstsR r).filter fun g => !isF f.1 g
theorem firstsR_snoc (f : Fld) : ∀ l : List Fld, firstsR (l ++ [f]) = if l.any (isF f.1) then firstsR l else firstsR l ++ [f]
  | [] => rfl
  | g :: r => by
    have ih := firstsR_snoc f r
    show g :: (firstsR (r ++ [f])).filter (fun x => !isF g.1 x) = _
    rw [ih, List.any_cons, isF_symm f g]
    cases h : r.any (isF f.1) with
    | true => simp [firstsR]
    | false =>
      simp only [Bool.or_false, Bool.false_eq_true, if_false, List.filter_append]
      cases hg : isF g.1 f <;> simp [firstsR, hg]
theorem onceF_firsts (l : List Fld) : ∀ k, k ≤ l.length → onceF l k = (firstsR (l.take k)).map fun f => (f.1, getF l f.1)
  | 0, _ => by simp [onceF, firstsR]
  | k + 1, h => by
    have ih := onceF_firsts l k (by omega)
    obtain ⟨f, hf⟩ : ∃ f, l[k]? = some f := ⟨_, List.getElem?_eq_getElem (by omega)⟩
    have e : l.take (k + 1) = l.take k ++ [f] := by rw [List.take_add_one, hf]; rfl
    rw [onceF, hf, e, firstsR_snoc]
    show (if (l.take k).any (isF f.1) then onceF l k else onceF l k ++ [(f.1, getF l f.1)]) = _
    rw [ih]
    generalize (l.take k).any (isF f.1) = b
    cases b <;> simp
theorem once_firsts (l : List Fld) : onceF l l.length = (firstsR l).map fun f => (f.1, getF l f.1) := by
  rw [onceF_firsts l _ (Nat.le_refl _), List.take_length]
theorem firstsR_out (n : List UInt8) : ∀ l : List Fld, firstsR (outF l n) = (firstsR l).filter fun g => !isF n g
  | [] => rfl
  | f :: r => by
    have ih := firstsR_out n r
    unfold outF at ih ⊢
    show firstsR (List.filter _ (f :: r)) = List.filter _ (f :: (firstsR r).filter fun g => !isF f.1 g)
    rw [List.filter_cons, List.filter_cons]
    cases h : isF n f with
    | false =>
      simp only [Bool.not_false, if_true, firstsR]
      rw [ih, List.filter_filter, List.filter_filter]
      congr 2
      funext g
      exact Bool.and_comm _ _
    | true =>
      simp only [Bool.not_true, Bool.false_eq_true, if_false]
      rw [ih, List.filter_filter]
      congr 1
      funext g
      cases hg : isF f.1 g with
      | false => simp
      | true => rw [← isF_cong hg n, h]; simp
theorem firstsR_sub : ∀ (l : List Fld), ∀ f ∈ firstsR l, f ∈ l
  | [], _, h => by cases h
  | g :: r, f, h => by
    rcases List.mem_cons.1 h with rfl | h
    · simp
    · exact List.mem_cons_of_mem _ (firstsR_sub r f (List.mem_filter.1 h).1)
theorem firstsR_len : ∀ l : List Fld, (firstsR l).length ≤ l.length
  | [] => Nat.le_refl _
  | g :: r => by
    show ((firstsR r).filter _).length + 1 ≤ r.length + 1
    exact Nat.succ_le_succ (Nat.le_trans (List.length_filter_le _ _) (firstsR_len r))
theorem once_wide {l : List Fld} (hl : WideF l) (hg : ∀ n, (getF l n).length ≤ 100000) : WideF (onceF l l.length) := by
  rw [once_firsts]
  refine ⟨by rw [List.length_map]; exact Nat.le_trans (firstsR_len l) hl.len, fun f hf => ?_, fun f hf => ?_⟩
  · obtain ⟨g, h1, rfl⟩ := List.mem_map.1 hf; exact hl.name g (firstsR_sub l g h1)
  · obtain ⟨g, h1, rfl⟩ := List.mem_map.1 hf; exact hg g.1
/-- how far the taking off has come: what is made, what is left -/
structure Offs (L D R : List Fld) : Prop where
  made : D ++ (firstsR R).map (fun f => (f.1, getF L f.1)) = onceF L L.length
  get : ∀ g ∈ R, getF R g.1 = getF L g.1
  sub : ∀ g ∈ R, g ∈ L
  len : D.length + R.length ≤ L.length
theorem Offs.start (L : List Fld) : Offs L [] L := ⟨by rw [once_firsts]; rfl, fun _ _ => rfl, fun _ h => h, by simp⟩
theorem Offs.done {L D : List Fld} (h : Offs L D []) : D = onceF L L.length := by have := h.made; simpa [firstsR] using this
theorem Offs.step {L D : List Fld} {f : Fld} {r : List Fld} (h : Offs L D (f :: r)) : Offs L (D ++ [(f.1, getF (f :: r) f.1)]) (outF (f :: r) f.1) := by
  have hself : isF f.1 f = true := by simp [isF]
  have ho : outF (f :: r) f.1 = outF r f.1 := by simp [outF, hself]
  refine ⟨?_, fun g hg => ?_, fun g hg => h.sub g (List.mem_filter.1 hg).1, ?_⟩
  · rw [← h.made, h.get f (by simp), ho, firstsR_out]
    simp [firstsR]
  · have hm := List.mem_filter.1 hg
    rw [← h.get g hm.1]
    unfold getF
    rw [outF_other _ _ _ (fun x hx => ?_)]
    have h1 : isF f.1 g = false := by simpa using hm.2
    rw [← isF_cong (f := g) (g := x) hx]; exact h1
  · have := h.len
    rw [ho, List.length_append]
    have h2 : (outF r f.1).length ≤ r.length := List.length_filter_le _ _
    simp at this ⊢
    omega
theorem outF_head_len (f : Fld) (r : List Fld) : (outF (f :: r) f.1).length ≤ r.length := by
  have hself : isF f.1 f = true := by simp [isF]
  have ho : outF (f :: r) f.1 = outF r f.1 := by simp [outF, hself]
  rw [ho]; exact List.length_filter_le _ _
theorem Offs.bd {L D R : List Fld} (h : Offs L D R) (hL : WideF L) : WideF R := ⟨by have := h.len; have := hL.len; omega, fun g hg => hL.name g (h.sub g hg), fun g hg => hL.val g (h.sub g hg)⟩
end Go.Pantry
