/-
  Keys: marks, the key, the second key, the names that vary. No program is imported.
-/
import Derived.Test.YtbjgbkbhalibdaaDoorPurePlan
namespace Go.Pantry
open Go.RowKit

/-- the mark of a text -/
def markT (x : List UInt8) : List UInt8 := decL x.length ++ 58 :: x
/-- the mark of a field of a name -/
def markF (l : List Fld) (n : List UInt8) : List UInt8 := if allF l n = [] then [45] else 61 :: markT (getF l n)
def secondL (l : List Fld) (ns : List (List UInt8)) : List UInt8 := ns.flatMap (markF l)
def queryK (q : Bool) (p : PlaceR) : List UInt8 := if q then (if p.has then 63 :: markT p.query else [33]) else []
def firstL (q : Bool) (heads : List (List UInt8)) (p : PlaceR) (l : List Fld) : List UInt8 := markT p.host ++ (markT p.path ++ (queryK q p ++ secondL l heads))
theorem decL_dig (n : Nat) : (decL n).all isDig = true := by
  rw [decL_digF n n (Nat.lt_of_lt_of_le (Nat.lt_pow_self (by decide)) (Nat.pow_le_pow_right (by decide) (Nat.le_succ n)))]
  exact digF_all _ _
theorem decL_val (n : Nat) : valL (decL n) = n := by
  have h : n < 10 ^ (n + 1) := Nat.lt_of_lt_of_le (Nat.lt_pow_self (by decide)) (Nat.pow_le_pow_right (by decide) (Nat.le_succ n))
  rw [decL_digF n n h]; exact digF_val n n h
theorem decL_cancel {m n : Nat} {r s : List UInt8} (h : decL m ++ 58 :: r = decL n ++ 58 :: s) : m = n ∧ r = s := by
  have key : ∀ (a : List UInt8) (r : List UInt8), a.all isDig = true → (a ++ 58 :: r).takeWhile isDig = a := by
    intro a r ha
    rw [List.takeWhile_append_of_pos (fun c hc => List.all_eq_true.1 ha c hc)]
    simp [List.takeWhile_cons, isDig]
  have h1 : decL m = decL n := by rw [← key (decL m) r (decL_dig m), h, key _ _ (decL_dig n)]
  have h2 : m = n := by rw [← decL_val m, h1, decL_val]
  subst h2
  have h3 := List.append_cancel_left h
  exact ⟨rfl, List.tail_eq_of_cons_eq h3⟩
theorem markT_cancel {a b r s : List UInt8} : markT a ++ r = markT b ++ s ↔ a = b ∧ r = s := by
  constructor
  · intro h
    simp only [markT, List.append_assoc, List.cons_append] at h
    obtain ⟨h1, h2⟩ := decL_cancel h
    exact List.append_inj h2 h1
  · rintro ⟨rfl, rfl⟩; rfl
/-- is a name's field the same in both? -/
def sameN (a b : List Fld) (n : List UInt8) : Bool := ((decide (0 < (allF a n).length) == decide (0 < (allF b n).length)) && getF a n == getF b n)
theorem getF_none {a : List Fld} {n : List UInt8} (h : allF a n = []) : getF a n = [] := by unfold getF; rw [h]; rfl
theorem markF_cancel {a b : List Fld} {n r s : List UInt8} : markF a n ++ r = markF b n ++ s ↔ sameN a b n = true ∧ r = s := by
  have p : ∀ l : List Fld, decide (0 < (allF l n).length) = !decide (allF l n = []) := fun l => by
    cases allF l n <;> simp
  unfold markF sameN
  rw [p, p]
  by_cases ha : allF a n = []
  · by_cases hb : allF b n = []
    · rw [if_pos ha, if_pos hb, getF_none ha, getF_none hb]; simp [ha, hb]
    · rw [if_pos ha, if_neg hb]; simp [ha, hb]
  · by_cases hb : allF b n = []
    · rw [if_neg ha, if_pos hb]; simp [ha, hb]
    · rw [if_neg ha, if_neg hb]
      simp only [List.cons_append, List.cons.injEq, true_and, markT_cancel, ha, hb, decide_false, Bool.not_false, beq_self_eq_true, Bool.true_and, beq_iff_eq]
theorem secondL_cancel {a b : List Fld} : ∀ {ns : List (List UInt8)} {r s : List UInt8}, secondL a ns ++ r = secondL b ns ++ s ↔ ns.all (sameN a b) = true ∧ r = s
  | [], r, s => by simp [secondL]
  | n :: ns, r, s => by
    have e : ∀ l : List Fld, secondL l (n :: ns) = markF l n ++ secondL l ns := fun l => rfl
    rw [e, e, List.append_assoc, List.append_assoc, markF_cancel, secondL_cancel, List.all_cons, Bool.and_eq_true, and_assoc]
theorem secondL_same (a b : List Fld) (ns : List (List UInt8)) : (secondL a ns == secondL b ns) = ns.all (sameN a b) := by
  rw [Bool.eq_iff_iff, beq_iff_eq]
  have := @secondL_cancel a b ns [] []
  simpa using this
theorem queryK_cancel {q : Bool} {a b : PlaceR} {r s : List UInt8} : queryK q a ++ r = queryK q b ++ s ↔ (q = false ∨ (a.has = b.has ∧ (a.has = true → a.query = b.query))) ∧ r = s := by
  unfold queryK
  cases q with
  | false => simp
  | true =>
    cases ha : a.has <;> cases hb : b.has <;> simp [markT_cancel]
/-- is all the same that a site asks for? -/
def sameK (q : Bool) (heads : List (List UInt8)) (a b : PlaceR) (x y : List Fld) : Bool :=
  (a.host == b.host && (a.path == b.path && (!q || (a.has == b.has && (!a.has || a.query == b.query))))) && heads.all (sameN x y)
theorem firstL_same (q : Bool) (heads : List (List UInt8)) (a b : PlaceR) (x y : List Fld) : (firstL q heads a x == firstL q heads b y) = sameK q heads a b x y := by
  rw [Bool.eq_iff_iff, beq_iff_eq]
  unfold firstL sameK
  have h := @secondL_cancel x y heads [] []
  simp only [List.append_nil] at h
  rw [markT_cancel, markT_cancel, queryK_cancel, h]
  cases q <;> cases ha : a.has <;> cases hb : b.has <;> simp [and_assoc]
/-- how each key of a place begins -/
theorem firstL_bare (p : PlaceR) : firstL false [] p [] = markT p.host ++ markT p.path := by simp [firstL, queryK, secondL]
theorem firstL_begins (q : Bool) (heads : List (List UInt8)) (p r : PlaceR) (l : List Fld) :
    (decide ((firstL false [] p []).length ≤ (firstL q heads r l).length) && (firstL q heads r l).take (firstL false [] p []).length == firstL false [] p []) = (p.host == r.host && p.path == r.path) := by
  rw [firstL_bare, Bool.eq_iff_iff]
  simp only [Bool.and_eq_true, decide_eq_true_eq, beq_iff_eq]
  constructor
  · rintro ⟨_, h⟩
    have h2 : firstL q heads r l = (markT p.host ++ markT p.path) ++ (firstL q heads r l).drop (markT p.host ++ markT p.path).length := by
      conv => lhs; rw [← List.take_append_drop (markT p.host ++ markT p.path).length (firstL q heads r l), h]
    unfold firstL at h2
    rw [List.append_assoc, markT_cancel, markT_cancel] at h2
    exact ⟨h2.1.symm, h2.2.1.symm⟩
  · rintro ⟨h1, h2⟩
    have e : firstL q heads r l = (markT p.host ++ markT p.path) ++ (queryK q r ++ secondL l heads) := by unfold firstL; rw [h1, h2]; simp
    rw [e]
    exact ⟨by simp, by rw [List.take_left]⟩
theorem markT_len {x : List UInt8} {f : Nat} (h : x.length < 10 ^ (f + 1)) : (markT x).length ≤ x.length + f + 2 := by
  have := decL_len f _ h
  simp [markT]; omega
/-- fields that none of the names has, behind -/
theorem markF_more {l r : List Fld} {n : List UInt8} (h : allF r n = []) : markF (l ++ r) n = markF l n := by
  unfold markF getF; rw [allF_append, h, List.append_nil]
theorem secondL_more {l r : List Fld} {ns : List (List UInt8)} (h : ∀ n ∈ ns, allF r n = []) : secondL (l ++ r) ns = secondL l ns := by
  unfold secondL
  induction ns with
  | nil => rfl
  | cons n ns ih =>
    rw [List.flatMap_cons, List.flatMap_cons, markF_more (h n (List.mem_cons_self ..)), ih (fun m hm => h m (List.mem_cons_of_mem _ hm))]
/-- fields without some names -/
def outN (l : List Fld) (ns : List (List UInt8)) : List Fld := l.filter fun f => !(ns.any fun n => isF n f)
theorem outN_none (l : List Fld) (ns : List (List UInt8)) : ∀ n ∈ ns, allF (outN l ns) n = [] := by
  intro n hn
  unfold allF outN
  rw [List.filter_filter, List.map_eq_nil_iff, List.filter_eq_nil_iff]
  intro f _ hf
  simp only [Bool.and_eq_true, Bool.not_eq_true', List.any_eq_false] at hf
  exact hf.2 n hn hf.1
/-- great letters -/
def upC (c : UInt8) : UInt8 := if isLow c then c - 32 else c
def upL (l : List UInt8) : List UInt8 := l.map upC
theorem lowC_up (c : UInt8) : lowC (upC c) = lowC c := by
  have h := byte_all (p := fun c => lowC (upC c) == lowC c) (by decide +kernel) c
  simpa using h
theorem lowerL_up (l : List UInt8) : lowerL (upL l) = lowerL l := by simp [lowerL, upL, Function.comp_def, lowC_up]
theorem markF_up (l : List Fld) (n : List UInt8) : markF l (upL n) = markF l n := by
  have e : isF (upL n) = isF n := funext fun f => isF_same (lowerL_up n) f
  unfold markF getF allF; rw [e]
theorem secondL_up (l : List Fld) (ns : List (List UInt8)) : secondL l (ns.map upL) = secondL l ns := by
  unfold secondL
  rw [List.flatMap_map]
  congr 1; funext n; exact markF_up l n
/-- the names that vary, of elements -/
def varyE (es : List (List UInt8)) : List (List UInt8) := ((es.filter fun e => !(e == [42])).map lowerL).foldl riseL []
def starE (es : List (List UInt8)) : Bool := es.any (· == [42])
def varyN : List UInt8 := [118, 97, 114, 121]
theorem varyE_mem (es : List (List UInt8)) (x : List UInt8) : x ∈ varyE es ↔ ∃ e ∈ es, e ≠ [42] ∧ lowerL e = x := by
  unfold varyE
  rw [foldPut_mem]
  simp [and_assoc]
theorem varyE_sorted (es : List (List UInt8)) : (varyE es).Pairwise (· < ·) := foldPut_sorted _ _ List.Pairwise.nil
theorem varyE_ext {es fs : List (List UInt8)} (h : ∀ x, x ∈ es ↔ x ∈ fs) : varyE es = varyE fs ∧ starE es = starE fs := by
  constructor
  · exact sorted_ext (varyE_sorted _) (varyE_sorted _) fun x => by
      rw [varyE_mem, varyE_mem]
      exact ⟨fun ⟨e, h1, h2⟩ => ⟨e, (h e).1 h1, h2⟩, fun ⟨e, h1, h2⟩ => ⟨e, (h e).2 h1, h2⟩⟩
  · rw [Bool.eq_iff_iff]
    simp only [starE, List.any_eq_true, beq_iff_eq]
    exact ⟨fun ⟨e, h1, h2⟩ => ⟨e, (h e).1 h1, h2⟩, fun ⟨e, h1, h2⟩ => ⟨e, (h e).2 h1, h2⟩⟩
theorem varyE_snoc (es : List (List UInt8)) (e : List UInt8) : varyE (es ++ [e]) = if e == [42] then varyE es else riseL (varyE es) (lowerL e) := by
  unfold varyE
  by_cases h : e == [42]
  · simp [h]
  · simp [h]
theorem starE_snoc (es : List (List UInt8)) (e : List UInt8) : starE (es ++ [e]) = (starE es || e == [42]) := by simp [starE]
theorem varyE_len (es : List (List UInt8)) : (varyE es).length ≤ es.length := by
  have h0 : ∀ (l : List (List UInt8)) (h : List UInt8), (riseL l h).length ≤ l.length + 1 := by
    intro l h
    induction l with
    | nil => simp [riseL]
    | cons x l ih =>
      unfold riseL
      split
      · simp; omega
      · split <;> simp
  have h1 : ∀ hs l : List (List UInt8), (hs.foldl riseL l).length ≤ l.length + hs.length := by
    intro hs
    induction hs with
    | nil => intro l; simp
    | cons h hs ih => intro l; rw [List.foldl_cons]; have := ih (riseL l h); have := h0 l h; simp only [List.length_cons]; omega
  have h2 := h1 ((es.filter fun e => !(e == [42])).map lowerL) []
  have h3 := List.length_filter_le (fun e : List UInt8 => !(e == [42])) es
  unfold varyE
  simp only [List.length_map, List.length_nil] at h2
  omega
theorem trim_blank_end (l : List UInt8) : trimL (l ++ [32]) = trimL l := by
  have hp : [32, 9].contains (32 : UInt8) = true := by decide
  unfold trimL Lib.trimS Lib.trimLeftS Lib.trimRightS
  rw [List.reverse_append, List.reverse_cons, List.reverse_nil, List.nil_append, List.singleton_append, List.dropWhile_cons, if_pos hp]
theorem listL_blank_end (b : List UInt8) (h : ∀ c ∈ b, c ≠ 44 ∧ c ≠ 34) : listL (b ++ [32]) = listL b := by
  have hb : ∀ c ∈ b ++ [32], c ≠ 44 ∧ c ≠ (34 : UInt8) := fun c hc => by
    rcases List.mem_append.1 hc with hc | hc
    · exact h c hc
    · rw [List.mem_singleton] at hc; subst hc; decide
  have e : trimL (b ++ [32]) = trimL b := trim_blank_end b
  rw [listL_one _ hb, listL_one _ h, e]
/-- one field that holds all: each between commas -/
theorem listL_commas : ∀ (bs : List (List UInt8)), (∀ b ∈ bs, ∀ c ∈ b, c ≠ 44 ∧ c ≠ 34) → listL (bs.flatMap fun b => 44 :: (b ++ [32, 44])) = bs.flatMap listL
  | [], _ => rfl
  | b :: bs, h => by
    have hb := h b (List.mem_cons_self ..)
    have q1 : (34 : UInt8) ∉ ([] : List UInt8) := by simp
    have q2 : (34 : UInt8) ∉ b ++ [32] := by
      intro hc
      rcases List.mem_append.1 hc with hc | hc
      · exact (hb _ hc).2 rfl
      · simp at hc
    rw [List.flatMap_cons, List.flatMap_cons]
    have e : (44 :: (b ++ [32, 44])) ++ (bs.flatMap fun b => 44 :: (b ++ [32, 44])) = [] ++ 44 :: ((b ++ [32]) ++ 44 :: (bs.flatMap fun b => 44 :: (b ++ [32, 44]))) := by simp
    rw [e, listL_two _ 0 [] (Nat.le_refl _) q1, listL_two _ _ _ (Nat.le_refl _) q2, listL_nil, List.nil_append, listL_blank_end b hb, listL_commas bs (fun x hx => h x (List.mem_cons_of_mem _ hx))]
/-- a row turned by some places -/
def turnL (l : List (List UInt8)) (t : Nat) : List (List UInt8) := (List.range l.length).map fun i => l.getD ((i + t) % l.length) []
theorem getD_at (l : List (List UInt8)) {k : Nat} (h : k < l.length) : l.getD k [] = l[k] := by simp [h]
theorem turnL_mem (l : List (List UInt8)) (t : Nat) (ht : t < l.length) (x : List UInt8) : x ∈ turnL l t ↔ x ∈ l := by
  unfold turnL
  simp only [List.mem_map, List.mem_range]
  constructor
  · rintro ⟨i, _, rfl⟩
    have hk : (i + t) % l.length < l.length := Nat.mod_lt _ (by omega)
    rw [getD_at _ hk]
    exact List.getElem_mem hk
  · intro hx
    obtain ⟨j, hj, rfl⟩ := List.getElem_of_mem hx
    refine ⟨(j + (l.length - t)) % l.length, Nat.mod_lt _ (by omega), ?_⟩
    have e : ((j + (l.length - t)) % l.length + t) % l.length = j := by
      rw [Nat.mod_add_mod, show j + (l.length - t) + t = j + l.length by omega, Nat.add_mod_right, Nat.mod_eq_of_lt hj]
    rw [e, getD_at _ hj]
theorem turnL_take (l : List (List UInt8)) (t k : Nat) (hk : k < l.length) : ((turnL l t).take k) ++ [l.getD ((k + t) % l.length) []] = (turnL l t).take (k + 1) := by
  have hl : k < (turnL l t).length := by simp [turnL, hk]
  have e : (turnL l t)[k]'hl = l.getD ((k + t) % l.length) [] := by simp [turnL]
  rw [← e]
  exact (List.take_succ_eq_append_getElem hl).symm
/-- all in one field -/
def oneV (bs : List (List UInt8)) : List UInt8 := bs.flatMap fun b => 44 :: (b ++ [32, 44])
/-- each in two fields, another one between them -/
def apartV (l : List (List UInt8)) : List Fld := l.flatMap fun a => [([86, 65, 82, 89], a), ([120], [121]), ([118, 97, 114, 121], a)]
theorem oneV_snoc (bs : List (List UInt8)) (b : List UInt8) : oneV (bs ++ [b]) = oneV bs ++ 44 :: (b ++ [32, 44]) := by simp [oneV]
theorem apartV_snoc (l : List (List UInt8)) (a : List UInt8) : apartV (l ++ [a]) = apartV l ++ [([86, 65, 82, 89], a), ([120], [121]), ([118, 97, 114, 121], a)] := by simp [apartV]
theorem apartV_len (l : List (List UInt8)) : (apartV l).length = 3 * l.length := by
  induction l with
  | nil => rfl
  | cons a l ih => have e : apartV (a :: l) = [([86, 65, 82, 89], a), ([120], [121]), ([118, 97, 114, 121], a)] ++ apartV l := rfl; rw [e, List.length_append, ih]; simp; omega
theorem isF_of {n a v : List UInt8} {b : Bool} (h : (lowerL a == lowerL n) = b) : isF n (a, v) = b := h
theorem allF_apartV (l : List (List UInt8)) : allF (apartV l) varyN = l.flatMap fun a => [a, a] := by
  induction l with
  | nil => rfl
  | cons a l ih =>
    have e : apartV (a :: l) = [([86, 65, 82, 89], a), ([120], [121]), ([118, 97, 114, 121], a)] ++ apartV l := rfl
    have h1 : isF varyN (([86, 65, 82, 89] : List UInt8), a) = true := isF_of (by decide)
    have h2 : isF varyN (([120] : List UInt8), ([121] : List UInt8)) = false := isF_of (by decide)
    have h3 : isF varyN (([118, 97, 114, 121] : List UInt8), a) = true := isF_of (by decide)
    rw [e, allF_append, ih]
    simp [allF, h1, h2, h3]
/-- the names that vary are the same -/
theorem vary_same (l : List (List UInt8)) (t : Nat) (ht : t < l.length) (h : ∀ b ∈ l, ∀ c ∈ b, c ≠ 44 ∧ c ≠ 34) :
    varyE (elementsF [([86, 97, 114, 121], oneV (turnL l t))] varyN) = varyE (elementsF (apartV l) varyN) ∧
    starE (elementsF [([86, 97, 114, 121], oneV (turnL l t))] varyN) = starE (elementsF (apartV l) varyN) := by
  have h1 : allF [(([86, 97, 114, 121] : List UInt8), oneV (turnL l t))] varyN = [oneV (turnL l t)] := by
    have g : isF varyN (([86, 97, 114, 121] : List UInt8), oneV (turnL l t)) = true := isF_of (by decide)
    simp [allF, g]
  have h2 : elementsF [([86, 97, 114, 121], oneV (turnL l t))] varyN = (turnL l t).flatMap listL := by
    rw [elementsF_of, h1]
    exact listL_commas _ fun b hb => h b ((turnL_mem l t ht b).1 hb)
  have h3 : elementsF (apartV l) varyN = (l.flatMap fun a => [a, a]).flatMap listL := by
    rw [elementsF_of, allF_apartV]
    refine listL_joinC _ fun a ha hc => ?_
    rw [List.mem_flatMap] at ha
    obtain ⟨b, hb, hab⟩ := ha
    simp only [List.mem_cons, List.not_mem_nil, or_false, or_self] at hab
    subst hab
    exact (h _ hb _ hc).2 rfl
  rw [h2, h3]
  refine varyE_ext fun x => ?_
  simp only [List.mem_flatMap, turnL_mem l t ht]
  constructor
  · rintro ⟨a, ha, hx⟩; exact ⟨a, ⟨a, ha, by simp⟩, hx⟩
  · rintro ⟨a, ⟨b, hb, hab⟩, hx⟩
    simp only [List.mem_cons, List.not_mem_nil, or_false, or_self] at hab
    subst hab
    exact ⟨_, hb, hx⟩
theorem vary_none : varyE (elementsF [([86, 97, 114, 121], [])] varyN) = varyE (elementsF [] varyN) ∧ starE (elementsF [([86, 97, 114, 121], [])] varyN) = starE (elementsF [] varyN) := by decide
end Go.Pantry
